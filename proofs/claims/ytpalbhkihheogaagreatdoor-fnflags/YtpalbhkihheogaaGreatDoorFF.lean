/-
  What rounding flags tell: the numbers.
-/
import Derived.Test.YtpalbhkihheogaaGreatDoorM47
import Derived.Test.YtpalbhkihheogaaGreatDoorM20
namespace Go.Proofs.YtpalbhkihheogaaGreatDoor
set_option linter.unusedVariables false
set_option linter.unusedSimpArgs false
open Go.RowKit Go.Deep
namespace Fd
theorem flb_low {P u : Nat} (hP : 1 ≤ P) (h : u ≤ 2 ^ (P - 1)) : Nm.flb P u ≤ 2 ^ (P - 1) := by
  have h2 : 2 ^ P = 2 * 2 ^ (P - 1) := by
    obtain ⟨k, rfl⟩ : ∃ k, P = k + 1 := ⟨P - 1, by omega⟩
    rw [Nat.add_sub_cancel, Nat.pow_succ, Nat.mul_comm]
  have hp := Nat.two_pow_pos (P - 1)
  have hb : bitLen u ≤ P := (Nm.bl_le_iff u P).2 (by omega)
  have e : bitLen u - P = 0 := by omega
  unfold Nm.flb
  rw [e, Nat.pow_zero, Nat.div_one, Nat.zero_mul, Nat.add_zero]
  split <;> exact h
theorem rU_low {P : Nat} {q : Int} {a : Nat} {e : Int} (hP : 1 ≤ P) (ha : a ≠ 0) (hr : Nm.rr P q a e ≠ 0) (h : (bitLen a : Int) + e ≤ (P : Int) - 1 + q) (up : Bool) : Nm.rU P q a e up ≤ 2 ^ (P - 1) := by
  have hn : 0 < Nm.rn P q a e := by
    rcases Int.lt_or_le 0 (Nm.rn P q a e) with h0 | h0
    · exact h0
    · exfalso; apply hr
      unfold Nm.rr
      rw [show (Nm.rn P q a e).toNat = 0 by omega, Nat.pow_zero, Nat.mod_one]
  have hq : Nm.rn P q a e = q - e := by unfold Nm.rn; omega
  have e1 : (Nm.rn P q a e + e - q).toNat = 0 := by omega
  have hm : Nm.rm P q a e < 2 ^ (P - 1) := by
    unfold Nm.rm Nm.sh
    rw [if_pos (by omega), show (- -Nm.rn P q a e).toNat = (Nm.rn P q a e).toNat by omega]
    rw [Nat.div_lt_iff_lt_mul (Nat.two_pow_pos _), ← Nat.pow_add]
    refine Nat.lt_of_lt_of_le (bitLen_spec a).1 (Nat.pow_le_pow_right (by decide) ?_)
    omega
  unfold Nm.rU
  rw [e1, Nat.pow_zero, Nat.mul_one]
  unfold Nm.r1
  split <;> omega
theorem rdU_same {P : Nat} {q : Int} {a : Nat} {e : Int} (hr : Nm.rr P q a e = 0) (mode : Int) (ng : Bool) (m2 : Int) (n2 : Bool) : rdU P q mode ng a e = rdU P q m2 n2 a e := by
  unfold rdU Nm.rU Nm.r1
  simp [hr]
theorem rd_cases {P I : Nat} {q S mode : Int} {ng : Bool} {a : Nat} {e : Int} (hP : 1 ≤ P) (ha : a ≠ 0) :
    (rdF P q I mode ng a e = 0 ∧ rdF P q I 1 ng a e = 0 ∧ rdB P q I S 1 ng a e = rdB P q I S mode ng a e) ∨
    (rdF P q I mode ng a e = 1 ∧ rdF P q I 1 ng a e ≠ 0) ∨
    (rdF P q I mode ng a e = 3 ∧ rdF P q I 1 ng a e ≠ 0 ∧ ∃ v : Nat, v ≤ 2 ^ (P - 1) ∧ rdB P q I S mode ng a e = sgn S (v : Int) ng) ∨
    (rdF P q I mode ng a e = 5 ∧ rdF P q I 1 ng a e ≠ 0 ∧ (rdB P q I S mode ng a e = sgn S ((I : Int) - 1) ng ∨ rdB P q I S mode ng a e = sgn S I ng)) := by
  by_cases hr : Nm.rr P q a e = 0
  · have hu := rdU_same hr mode ng 1 ng
    unfold rdF rdB
    rw [hu]
    by_cases hf : Nm.flo P I (rdU P q 1 ng a e) = true
    · left
      rw [if_pos hf, if_pos hf, if_pos hf, if_pos hr]
      exact ⟨rfl, rfl, rfl⟩
    · right; right; right
      rw [if_neg hf, if_neg hf]
      refine ⟨rfl, by decide, ?_⟩
      split
      · exact Or.inl rfl
      · exact Or.inr rfl
  · have h1 : rdF P q I 1 ng a e ≠ 0 := by
      unfold rdF
      by_cases hf : Nm.flo P I (rdU P q 1 ng a e) = true
      · rw [if_pos hf, if_neg hr]; split <;> decide
      · rw [if_neg hf]; decide
    right
    have hF : rdF P q I mode ng a e = (if Nm.flo P I (rdU P q mode ng a e) = true then (if Nm.rr P q a e = 0 then 0 else if (bitLen a : Int) + e ≤ (P : Int) - 1 + q then 3 else 1) else 5) := rfl
    rw [hF]
    unfold rdB
    by_cases hf : Nm.flo P I (rdU P q mode ng a e) = true
    · rw [if_pos hf, if_neg hr, if_pos hf]
      by_cases hl : (bitLen a : Int) + e ≤ (P : Int) - 1 + q
      · right; left
        rw [if_pos hl]
        exact ⟨rfl, h1, _, flb_low hP (rU_low hP ha hr hl _), rfl⟩
      · left
        rw [if_neg hl]
        exact ⟨rfl, h1⟩
    · right; right
      rw [if_neg hf, if_neg hf]
      refine ⟨rfl, h1, ?_⟩
      split
      · exact Or.inl rfl
      · exact Or.inr rfl
theorem rdb_bd {P I : Nat} {q S mode : Int} {ng : Bool} {a : Nat} {e : Int} (h0 : 0 < I) (h1 : (I : Int) < S) : ∃ v : Int, 0 ≤ v ∧ v ≤ I ∧ v < S ∧ rdB P q I S mode ng a e = sgn S v ng := by
  unfold rdB
  by_cases hf : Nm.flo P I (rdU P q mode ng a e) = true
  · rw [if_pos hf]
    have : Nm.flb P (rdU P q mode ng a e) < I := by
      unfold Nm.flo at hf
      simp only [Bool.and_eq_true, decide_eq_true_eq] at hf
      exact hf.2
    exact ⟨_, by omega, by omega, by omega, rfl⟩
  · rw [if_neg hf]
    split
    · exact ⟨_, by omega, by omega, by omega, rfl⟩
    · exact ⟨_, by omega, by omega, by omega, rfl⟩
theorem Rd_any32 (mode : Int) (ng : Bool) (zs : List Int) (e : Int) (ho : RdO 32 mode ng zs e = true) (hz : ¬ zs.length = 0) :
    RdB 32 mode ng zs e = rdB 24 (-149) 2139095040 2147483648 mode ng (Nm.val zs).toNat e ∧ RdF 32 mode ng zs e = rdF 24 (-149) 2139095040 mode ng (Nm.val zs).toNat e := by
  unfold RdB RdF
  rw [ho, if_pos rfl, if_pos rfl, if_neg hz, if_neg hz, if_pos rfl, if_pos rfl]
  exact ⟨rfl, rfl⟩
theorem sgn_abs32 {v : Int} (h0 : 0 ≤ v) (h1 : v < 2147483648) (ng : Bool) : 0 ≤ sgn 2147483648 v ng ∧ sgn 2147483648 v ng < 4294967296 ∧ absF 32 (sgn 2147483648 v ng) = v := by
  have hb : 0 ≤ sgn 2147483648 v ng ∧ sgn 2147483648 v ng < 4294967296 := by unfold sgn; split <;> omega
  refine ⟨hb.1, hb.2, ?_⟩
  rw [ab32 hb.1 hb.2]
  unfold sgn
  cases ng
  · simp only [Bool.false_eq_true, if_false]; rw [if_pos h1]
  · simp only [if_true]; rw [if_neg (by omega)]; omega
theorem flags32 (mode : Int) (ng : Bool) (zs : List Int) (e : Int) (hO : RdO 32 0 ng zs e = true) (hm : modeB mode = true) (hd : Nm.Dg zs) (x f : Int) (hx : x = RdB 32 mode ng zs e) (hf : f = RdF 32 mode ng zs e) :
    0 ≤ x ∧ x < 4294967296 ∧
    ((f = 0 ∧ EfO 32 ng zs e = true ∧ EfB 32 ng zs e = x) ∨ (f = 1 ∧ EfO 32 ng zs e = false) ∨ (f = 3 ∧ EfO 32 ng zs e = false ∧ ordI 32 (absF 32 x) ≤ 8388608) ∨ (f = 5 ∧ EfO 32 ng zs e = false ∧ (cls 32 x = 3 ∨ absF 32 x = 2139095039))) := by
  have o0 := hO
  unfold RdO at o0
  have hO1 : RdO 32 1 ng zs e = true := by unfold RdO; simp at o0 ⊢; exact ⟨⟨⟨o0.1.1.1, by decide⟩, o0.1.2⟩, o0.2⟩
  have hOm : RdO 32 mode ng zs e = true := by unfold RdO; simp at o0 ⊢; exact ⟨⟨⟨o0.1.1.1, hm⟩, o0.1.2⟩, o0.2⟩
  have hok : okB ng zs = true := by simp at o0; exact o0.1.2
  by_cases hz : zs.length = 0
  · have h1 := Rd_zero (fm := 32) (mode := mode) (ng := ng) (e := e) hz
    have h2 := Rd_zero (fm := 32) (mode := 1) (ng := ng) (e := e) hz
    rw [h1.1] at hx
    rw [h1.2] at hf
    subst hx
    subst hf
    refine ⟨by decide, by decide, Or.inl ⟨rfl, ?_, ?_⟩⟩
    · unfold EfO; rw [hO1, h2.2]; rfl
    · unfold EfB; split
      · exact h2.1
      · rfl
  · obtain ⟨b1, b2⟩ := Rd_any32 mode ng zs e hOm hz
    obtain ⟨c1, c2⟩ := Rd_any32 1 ng zs e hO1 hz
    rw [b1] at hx
    rw [b2] at hf
    have ha : (Nm.val zs).toNat ≠ 0 := by
      intro h0
      obtain ⟨h1, -⟩ := lim_ok hd hok
      rw [h0, Nm.lim_zero] at h1
      exact hz (by rw [h1]; rfl)
    obtain ⟨v, v0, v1, v2, hv⟩ := rdb_bd (P := 24) (I := 2139095040) (q := (-149)) (S := 2147483648) (mode := mode) (ng := ng) (a := (Nm.val zs).toNat) (e := e) (by decide) (by decide)
    obtain ⟨s0, s1, s2⟩ := sgn_abs32 v0 v2 ng
    rw [← hv, ← hx] at s0 s1
    refine ⟨s0, s1, ?_⟩
    have hE : EfO 32 ng zs e = decide (rdF 24 (-149) 2139095040 1 ng (Nm.val zs).toNat e = 0) := by unfold EfO; rw [hO1, c2]; rfl
    rcases rd_cases (P := 24) (I := 2139095040) (q := (-149)) (S := 2147483648) (mode := mode) (ng := ng) (a := (Nm.val zs).toNat) (e := e) (by decide) ha with ⟨h1, h2, h3⟩ | ⟨h1, h2⟩ | ⟨h1, h2, w, hw, h3⟩ | ⟨h1, h2, h3⟩
    · left
      have hEt : EfO 32 ng zs e = true := by rw [hE, decide_eq_true h2]
      refine ⟨by rw [hf, h1], hEt, ?_⟩
      unfold EfB
      rw [hEt, if_pos rfl, c1, h3, hx]
    · right; left
      exact ⟨by rw [hf, h1], by rw [hE, decide_eq_false h2]⟩
    · right; right; left
      have hPL : (2 : Nat) ^ (24 - 1) = 8388608 := by decide
      rw [hPL] at hw
      obtain ⟨t0, t1, t2⟩ := sgn_abs32 (v := (w : Int)) (by omega) (by omega) ng
      refine ⟨by rw [hf, h1], by rw [hE, decide_eq_false h2], ?_⟩
      rw [hx, h3, t2, od32 (by omega) (by omega), if_pos (by omega)]
      omega
    · right; right; right
      refine ⟨by rw [hf, h1], by rw [hE, decide_eq_false h2], ?_⟩
      rcases h3 with h3 | h3
      · right
        obtain ⟨t0, t1, t2⟩ := sgn_abs32 (v := 2139095039) (by decide) (by decide) ng
        have e3 : rdB 24 (-149) 2139095040 2147483648 mode ng (Nm.val zs).toNat e = sgn 2147483648 2139095039 ng := h3
        rw [hx, e3]; exact t2
      · left
        have e3 : rdB 24 (-149) 2139095040 2147483648 mode ng (Nm.val zs).toNat e = sgn 2147483648 2139095040 ng := h3
        rw [hx, e3]
        cases ng <;> decide +kernel
theorem Rd_any64 (mode : Int) (ng : Bool) (zs : List Int) (e : Int) (ho : RdO 64 mode ng zs e = true) (hz : ¬ zs.length = 0) :
    RdB 64 mode ng zs e = rdB 53 (-1074) 9218868437227405312 9223372036854775808 mode ng (Nm.val zs).toNat e ∧ RdF 64 mode ng zs e = rdF 53 (-1074) 9218868437227405312 mode ng (Nm.val zs).toNat e := by
  unfold RdB RdF
  rw [ho, if_pos rfl, if_pos rfl, if_neg hz, if_neg hz, if_neg (show ¬ ((64 : Int) = 32) from by decide), if_neg (show ¬ ((64 : Int) = 32) from by decide)]
  exact ⟨rfl, rfl⟩
theorem sgn_abs64 {v : Int} (h0 : 0 ≤ v) (h1 : v < 9223372036854775808) (ng : Bool) : 0 ≤ sgn 9223372036854775808 v ng ∧ sgn 9223372036854775808 v ng < 18446744073709551616 ∧ absF 64 (sgn 9223372036854775808 v ng) = v := by
  have hb : 0 ≤ sgn 9223372036854775808 v ng ∧ sgn 9223372036854775808 v ng < 18446744073709551616 := by unfold sgn; split <;> omega
  refine ⟨hb.1, hb.2, ?_⟩
  rw [ab64 hb.1 hb.2]
  unfold sgn
  cases ng
  · simp only [Bool.false_eq_true, if_false]; rw [if_pos h1]
  · simp only [if_true]; rw [if_neg (by omega)]; omega
theorem flags64 (mode : Int) (ng : Bool) (zs : List Int) (e : Int) (hO : RdO 64 0 ng zs e = true) (hm : modeB mode = true) (hd : Nm.Dg zs) (x f : Int) (hx : x = RdB 64 mode ng zs e) (hf : f = RdF 64 mode ng zs e) :
    0 ≤ x ∧ x < 18446744073709551616 ∧
    ((f = 0 ∧ EfO 64 ng zs e = true ∧ EfB 64 ng zs e = x) ∨ (f = 1 ∧ EfO 64 ng zs e = false) ∨ (f = 3 ∧ EfO 64 ng zs e = false ∧ ordI 64 (absF 64 x) ≤ 4503599627370496) ∨ (f = 5 ∧ EfO 64 ng zs e = false ∧ (cls 64 x = 3 ∨ absF 64 x = 9218868437227405311))) := by
  have o0 := hO
  unfold RdO at o0
  have hO1 : RdO 64 1 ng zs e = true := by unfold RdO; simp at o0 ⊢; exact ⟨⟨⟨o0.1.1.1, by decide⟩, o0.1.2⟩, o0.2⟩
  have hOm : RdO 64 mode ng zs e = true := by unfold RdO; simp at o0 ⊢; exact ⟨⟨⟨o0.1.1.1, hm⟩, o0.1.2⟩, o0.2⟩
  have hok : okB ng zs = true := by simp at o0; exact o0.1.2
  by_cases hz : zs.length = 0
  · have h1 := Rd_zero (fm := 64) (mode := mode) (ng := ng) (e := e) hz
    have h2 := Rd_zero (fm := 64) (mode := 1) (ng := ng) (e := e) hz
    rw [h1.1] at hx
    rw [h1.2] at hf
    subst hx
    subst hf
    refine ⟨by decide, by decide, Or.inl ⟨rfl, ?_, ?_⟩⟩
    · unfold EfO; rw [hO1, h2.2]; rfl
    · unfold EfB; split
      · exact h2.1
      · rfl
  · obtain ⟨b1, b2⟩ := Rd_any64 mode ng zs e hOm hz
    obtain ⟨c1, c2⟩ := Rd_any64 1 ng zs e hO1 hz
    rw [b1] at hx
    rw [b2] at hf
    have ha : (Nm.val zs).toNat ≠ 0 := by
      intro h0
      obtain ⟨h1, -⟩ := lim_ok hd hok
      rw [h0, Nm.lim_zero] at h1
      exact hz (by rw [h1]; rfl)
    obtain ⟨v, v0, v1, v2, hv⟩ := rdb_bd (P := 53) (I := 9218868437227405312) (q := (-1074)) (S := 9223372036854775808) (mode := mode) (ng := ng) (a := (Nm.val zs).toNat) (e := e) (by decide) (by decide)
    obtain ⟨s0, s1, s2⟩ := sgn_abs64 v0 v2 ng
    rw [← hv, ← hx] at s0 s1
    refine ⟨s0, s1, ?_⟩
    have hE : EfO 64 ng zs e = decide (rdF 53 (-1074) 9218868437227405312 1 ng (Nm.val zs).toNat e = 0) := by unfold EfO; rw [hO1, c2]; rfl
    rcases rd_cases (P := 53) (I := 9218868437227405312) (q := (-1074)) (S := 9223372036854775808) (mode := mode) (ng := ng) (a := (Nm.val zs).toNat) (e := e) (by decide) ha with ⟨h1, h2, h3⟩ | ⟨h1, h2⟩ | ⟨h1, h2, w, hw, h3⟩ | ⟨h1, h2, h3⟩
    · left
      have hEt : EfO 64 ng zs e = true := by rw [hE, decide_eq_true h2]
      refine ⟨by rw [hf, h1], hEt, ?_⟩
      unfold EfB
      rw [hEt, if_pos rfl, c1, h3, hx]
    · right; left
      exact ⟨by rw [hf, h1], by rw [hE, decide_eq_false h2]⟩
    · right; right; left
      have hPL : (2 : Nat) ^ (53 - 1) = 4503599627370496 := by decide
      rw [hPL] at hw
      obtain ⟨t0, t1, t2⟩ := sgn_abs64 (v := (w : Int)) (by omega) (by omega) ng
      refine ⟨by rw [hf, h1], by rw [hE, decide_eq_false h2], ?_⟩
      rw [hx, h3, t2, od64 (by omega) (by omega), if_pos (by omega)]
      omega
    · right; right; right
      refine ⟨by rw [hf, h1], by rw [hE, decide_eq_false h2], ?_⟩
      rcases h3 with h3 | h3
      · right
        obtain ⟨t0, t1, t2⟩ := sgn_abs64 (v := 9218868437227405311) (by decide) (by decide) ng
        have e3 : rdB 53 (-1074) 9218868437227405312 9223372036854775808 mode ng (Nm.val zs).toNat e = sgn 9223372036854775808 9218868437227405311 ng := h3
        rw [hx, e3]; exact t2
      · left
        have e3 : rdB 53 (-1074) 9218868437227405312 9223372036854775808 mode ng (Nm.val zs).toNat e = sgn 9223372036854775808 9218868437227405312 ng := h3
        rw [hx, e3]
        cases ng <;> decide +kernel
end Fd
end Go.Proofs.YtpalbhkihheogaaGreatDoor
