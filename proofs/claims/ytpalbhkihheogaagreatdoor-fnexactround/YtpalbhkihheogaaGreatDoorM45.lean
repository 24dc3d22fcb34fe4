/-
  What is needed of UB.
-/
import Derived.Test.YtpalbhkihheogaaGreatDoorM44
set_option maxHeartbeats 16000000
set_option maxRecDepth 1000000
namespace Go.Proofs.YtpalbhkihheogaaGreatDoor
set_option linter.unusedVariables false
set_option linter.unusedSimpArgs false
open Go.RowKit Go.Deep
namespace Fd
theorem rd_uf (P I : Nat) (hP : 2 ≤ P) (q : Int) (S mode : Int) (ng : Bool) (y : Nat) (h0 : y ≠ 0) (hI : y < I) (ho : I ≤ 2100 * 2 ^ (P - 1)) : rdB P q I S mode ng (uf (2 ^ (P - 1)) y) q = sgn S (y : Int) ng ∧ rdF P q I mode ng (uf (2 ^ (P - 1)) y) q = 0 := by
  have hL : 1 < 2 ^ (P - 1) := by
    have := Nat.pow_le_pow_right (n := 2) (by decide) (show 1 ≤ P - 1 by omega)
    omega
  have hr := uf_rr P (by omega) q y
  have hu : rdU P q mode ng (uf (2 ^ (P - 1)) y) q = uf (2 ^ (P - 1)) y := by
    unfold rdU
    exact rU_q (uf_ne _ y hL h0) hr _
  have hf := uf_flo P I (by omega) y hI ho
  have hb := uf_flb P (by omega) y
  unfold rdB rdF
  rw [hu, hf, hb, hr]
  exact ⟨rfl, rfl⟩
theorem wl_zero_iff (x : Int) : (Nm.wl x).length = 0 ↔ x = 0 := by
  unfold Nm.wl
  rw [Nm.lim_length_zero]
  omega
theorem un_len (fm x : Int) (hf : finB fm x = true) : (Nm.wl (unI fm x)).length ≤ 200 := by
  obtain ⟨G, L, z, E, Q, hz, hE, hQ, z0, z1, e0, e1, q0, q1, d0, d1, hG, hL, hd, hl2, hsh, hok, hl200⟩ := un_parts hf
  exact hl200
theorem fin_lt32 {x : Int} (h0 : 0 ≤ x) (h1 : x < 4294967296) (hf : finB 32 x = true) : x % 2147483648 < 2139095040 := by
  unfold finB at hf
  rw [cls32 h1] at hf
  unfold clsY at hf
  simp only [decide_eq_true_eq] at hf
  repeat' split at hf
  all_goals omega
theorem fin_lt'32 {x : Int} (h0 : 0 ≤ x) (h1 : x < 4294967296) (hf : x % 2147483648 < 2139095040) : finB 32 x = true := by
  unfold finB
  rw [cls32 h1]
  unfold clsY
  simp only [decide_eq_true_eq]
  repeat' split
  all_goals omega
theorem Rd_un32 {x : Int} (h0 : 0 ≤ x) (h1 : x < 4294967296) (hf : finB 32 x = true) (mode : Int) (hm : modeB mode = true) :
    RdO 32 mode (Nm.wn (unI 32 x)) (Nm.wl (unI 32 x)) (-149) = true ∧ RdB 32 mode (Nm.wn (unI 32 x)) (Nm.wl (unI 32 x)) (-149) = (if x % 2147483648 = 0 then 0 else x) ∧ RdF 32 mode (Nm.wn (unI 32 x)) (Nm.wl (unI 32 x)) (-149) = 0 ∧ ((Nm.wl (unI 32 x)).length = 0 ↔ x % 2147483648 = 0) := by
  have hO : RdO 32 mode (Nm.wn (unI 32 x)) (Nm.wl (unI 32 x)) (-149) = true := by
    unfold RdO
    rw [okB_wl (un_len _ _ hf), hm]
    rfl
  have hlt := fin_lt32 h0 h1 hf
  have hu := un_uf32 h0 h1 hf
  have hz : unI 32 x = 0 ↔ x % 2147483648 = 0 := by
    rw [hu]
    constructor
    · intro h
      by_cases hc : x % 2147483648 = 0
      · exact hc
      · exfalso
        split at h
        · have := uf_ne 8388608 x.toNat (by decide) (by omega); omega
        · have := uf_ne 8388608 (x - 2147483648).toNat (by decide) (by omega); omega
    · intro h
      split
      · rw [show x.toNat = 0 by omega, uf_zero _ (by decide)]; rfl
      · rw [show (x - 2147483648).toNat = 0 by omega, uf_zero _ (by decide)]; rfl
  refine ⟨hO, ?_, ?_, (wl_zero_iff _).trans hz⟩
  · unfold RdB
    rw [hO, if_pos rfl]
    by_cases hc : x % 2147483648 = 0
    · rw [if_pos hc, if_pos ((wl_zero_iff _).2 (hz.2 hc))]
    · rw [if_neg hc, if_neg (fun h => hc (hz.1 ((wl_zero_iff _).1 h)))]
      rw [Nm.val_wl]
      have hn : ((((unI 32 x).natAbs : Nat) : Int)).toNat = (unI 32 x).natAbs := Int.toNat_natCast _
      rw [hn]
      simp only [if_pos]
      by_cases hs : x < 2147483648
      · have e1 : (unI 32 x).natAbs = uf 8388608 x.toNat := by rw [hu, if_pos hs]; omega
        have e2 : Nm.wn (unI 32 x) = false := by rw [hu, if_pos hs]; unfold Nm.wn; simp
        rw [e1, e2]
        have := (rd_uf 24 2139095040 (by decide) (-149) 2147483648 mode false x.toNat (by omega) (by omega) (by decide)).1
        rw [show (2 : Nat) ^ (24 - 1) = 8388608 by decide] at this
        rw [this]; unfold sgn; simp; omega
      · have e1 : (unI 32 x).natAbs = uf 8388608 (x - 2147483648).toNat := by rw [hu, if_neg hs]; omega
        have e2 : Nm.wn (unI 32 x) = true := by
          rw [hu, if_neg hs]; unfold Nm.wn
          have := uf_ne 8388608 (x - 2147483648).toNat (by decide) (by omega)
          simp; omega
        rw [e1, e2]
        have := (rd_uf 24 2139095040 (by decide) (-149) 2147483648 mode true (x - 2147483648).toNat (by omega) (by omega) (by decide)).1
        rw [show (2 : Nat) ^ (24 - 1) = 8388608 by decide] at this
        rw [this]; unfold sgn; simp; omega
  · unfold RdF
    rw [hO, if_pos rfl]
    by_cases hc : x % 2147483648 = 0
    · rw [if_pos ((wl_zero_iff _).2 (hz.2 hc))]
    · rw [if_neg (fun h => hc (hz.1 ((wl_zero_iff _).1 h)))]
      rw [Nm.val_wl]
      have hn : ((((unI 32 x).natAbs : Nat) : Int)).toNat = (unI 32 x).natAbs := Int.toNat_natCast _
      rw [hn]
      simp only [if_pos]
      have e1 : ∃ y : Nat, (unI 32 x).natAbs = uf 8388608 y ∧ y ≠ 0 ∧ y < 2139095040 := by
        by_cases hs : x < 2147483648
        · exact ⟨x.toNat, by rw [hu, if_pos hs]; omega, by omega, by omega⟩
        · exact ⟨(x - 2147483648).toNat, by rw [hu, if_neg hs]; omega, by omega, by omega⟩
      obtain ⟨y, e1, y0, y1⟩ := e1
      rw [e1]
      have := (rd_uf 24 2139095040 (by decide) (-149) 2147483648 mode (Nm.wn (unI 32 x)) y y0 y1 (by decide)).2
      rw [show (2 : Nat) ^ (24 - 1) = 8388608 by decide] at this
      exact this
theorem fin_lt64 {x : Int} (h0 : 0 ≤ x) (h1 : x < 18446744073709551616) (hf : finB 64 x = true) : x % 9223372036854775808 < 9218868437227405312 := by
  unfold finB at hf
  rw [cls64 ] at hf
  unfold clsY at hf
  simp only [decide_eq_true_eq] at hf
  repeat' split at hf
  all_goals omega
theorem fin_lt'64 {x : Int} (h0 : 0 ≤ x) (h1 : x < 18446744073709551616) (hf : x % 9223372036854775808 < 9218868437227405312) : finB 64 x = true := by
  unfold finB
  rw [cls64 ]
  unfold clsY
  simp only [decide_eq_true_eq]
  repeat' split
  all_goals omega
theorem Rd_un64 {x : Int} (h0 : 0 ≤ x) (h1 : x < 18446744073709551616) (hf : finB 64 x = true) (mode : Int) (hm : modeB mode = true) :
    RdO 64 mode (Nm.wn (unI 64 x)) (Nm.wl (unI 64 x)) (-1074) = true ∧ RdB 64 mode (Nm.wn (unI 64 x)) (Nm.wl (unI 64 x)) (-1074) = (if x % 9223372036854775808 = 0 then 0 else x) ∧ RdF 64 mode (Nm.wn (unI 64 x)) (Nm.wl (unI 64 x)) (-1074) = 0 ∧ ((Nm.wl (unI 64 x)).length = 0 ↔ x % 9223372036854775808 = 0) := by
  have hO : RdO 64 mode (Nm.wn (unI 64 x)) (Nm.wl (unI 64 x)) (-1074) = true := by
    unfold RdO
    rw [okB_wl (un_len _ _ hf), hm]
    rfl
  have hlt := fin_lt64 h0 h1 hf
  have hu := un_uf64 h0 h1 hf
  have hz : unI 64 x = 0 ↔ x % 9223372036854775808 = 0 := by
    rw [hu]
    constructor
    · intro h
      by_cases hc : x % 9223372036854775808 = 0
      · exact hc
      · exfalso
        split at h
        · have := uf_ne 4503599627370496 x.toNat (by decide) (by omega); omega
        · have := uf_ne 4503599627370496 (x - 9223372036854775808).toNat (by decide) (by omega); omega
    · intro h
      split
      · rw [show x.toNat = 0 by omega, uf_zero _ (by decide)]; rfl
      · rw [show (x - 9223372036854775808).toNat = 0 by omega, uf_zero _ (by decide)]; rfl
  refine ⟨hO, ?_, ?_, (wl_zero_iff _).trans hz⟩
  · unfold RdB
    rw [hO, if_pos rfl]
    by_cases hc : x % 9223372036854775808 = 0
    · rw [if_pos hc, if_pos ((wl_zero_iff _).2 (hz.2 hc))]
    · rw [if_neg hc, if_neg (fun h => hc (hz.1 ((wl_zero_iff _).1 h)))]
      rw [Nm.val_wl]
      have hn : ((((unI 64 x).natAbs : Nat) : Int)).toNat = (unI 64 x).natAbs := Int.toNat_natCast _
      rw [hn]
      simp only [if_neg (show ¬ ((64 : Int) = 32) from by decide)]
      by_cases hs : x < 9223372036854775808
      · have e1 : (unI 64 x).natAbs = uf 4503599627370496 x.toNat := by rw [hu, if_pos hs]; omega
        have e2 : Nm.wn (unI 64 x) = false := by rw [hu, if_pos hs]; unfold Nm.wn; simp
        rw [e1, e2]
        have := (rd_uf 53 9218868437227405312 (by decide) (-1074) 9223372036854775808 mode false x.toNat (by omega) (by omega) (by decide)).1
        rw [show (2 : Nat) ^ (53 - 1) = 4503599627370496 by decide] at this
        rw [this]; unfold sgn; simp; omega
      · have e1 : (unI 64 x).natAbs = uf 4503599627370496 (x - 9223372036854775808).toNat := by rw [hu, if_neg hs]; omega
        have e2 : Nm.wn (unI 64 x) = true := by
          rw [hu, if_neg hs]; unfold Nm.wn
          have := uf_ne 4503599627370496 (x - 9223372036854775808).toNat (by decide) (by omega)
          simp; omega
        rw [e1, e2]
        have := (rd_uf 53 9218868437227405312 (by decide) (-1074) 9223372036854775808 mode true (x - 9223372036854775808).toNat (by omega) (by omega) (by decide)).1
        rw [show (2 : Nat) ^ (53 - 1) = 4503599627370496 by decide] at this
        rw [this]; unfold sgn; simp; omega
  · unfold RdF
    rw [hO, if_pos rfl]
    by_cases hc : x % 9223372036854775808 = 0
    · rw [if_pos ((wl_zero_iff _).2 (hz.2 hc))]
    · rw [if_neg (fun h => hc (hz.1 ((wl_zero_iff _).1 h)))]
      rw [Nm.val_wl]
      have hn : ((((unI 64 x).natAbs : Nat) : Int)).toNat = (unI 64 x).natAbs := Int.toNat_natCast _
      rw [hn]
      simp only [if_neg (show ¬ ((64 : Int) = 32) from by decide)]
      have e1 : ∃ y : Nat, (unI 64 x).natAbs = uf 4503599627370496 y ∧ y ≠ 0 ∧ y < 9218868437227405312 := by
        by_cases hs : x < 9223372036854775808
        · exact ⟨x.toNat, by rw [hu, if_pos hs]; omega, by omega, by omega⟩
        · exact ⟨(x - 9223372036854775808).toNat, by rw [hu, if_neg hs]; omega, by omega, by omega⟩
      obtain ⟨y, e1, y0, y1⟩ := e1
      rw [e1]
      have := (rd_uf 53 9218868437227405312 (by decide) (-1074) 9223372036854775808 mode (Nm.wn (unI 64 x)) y y0 y1 (by decide)).2
      rw [show (2 : Nat) ^ (53 - 1) = 4503599627370496 by decide] at this
      exact this
end Fd
end Go.Proofs.YtpalbhkihheogaaGreatDoor
