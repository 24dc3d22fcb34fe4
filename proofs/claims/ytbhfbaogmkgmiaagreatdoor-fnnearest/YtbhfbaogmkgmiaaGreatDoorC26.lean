/-
  What is needed of Uf, CU, UB, RX.
-/
import Derived.Test.YtbhfbaogmkgmiaaGreatDoorC24
set_option maxHeartbeats 16000000
set_option maxRecDepth 1000000
namespace Go.Proofs.YtbhfbaogmkgmiaaGreatDoor
set_option linter.unusedVariables false
namespace Fd
def uf (L y : Nat) : Nat := if y < L then y else (y % L + L) * 2 ^ (y / L - 1)
theorem flb_uf (P I u : Nat) (hP : 1 ≤ P) (h : Nm.flo P I u = true) : uf (2 ^ (P - 1)) (Nm.flb P u) = u := by
  unfold Nm.flo at h
  simp only [Bool.and_eq_true, decide_eq_true_eq] at h
  obtain ⟨⟨-, h1⟩, -⟩ := h
  have hm := Nm.flm_lt P u
  have h2 : 2 ^ P = 2 * 2 ^ (P - 1) := by
    obtain ⟨k, rfl⟩ : ∃ k, P = k + 1 := ⟨P - 1, by omega⟩
    rw [Nat.add_sub_cancel, Nat.pow_succ, Nat.mul_comm]
  have hp := Nat.two_pow_pos (P - 1)
  unfold Nm.flb
  by_cases hc : 2 ^ (P - 1) ≤ u / 2 ^ (bitLen u - P)
  · rw [if_pos hc]
    generalize u / 2 ^ (bitLen u - P) = M at *
    generalize bitLen u - P = k at *
    generalize 2 ^ (P - 1) = L at *
    unfold uf
    have e : M + k * L = L * (k + 1) + (M - L) := by rw [Nat.mul_add, Nat.mul_comm L k]; omega
    have e1 : (M + k * L) / L = k + 1 := by rw [e, Nat.mul_add_div hp, Nat.div_eq_of_lt (by omega)]
    have e2 : (M + k * L) % L = M - L := by rw [e, Nat.mul_add_mod, Nat.mod_eq_of_lt (by omega)]
    rw [if_neg (by omega), e1, e2, Nat.sub_add_cancel hc, Nat.add_sub_cancel, h1]
  · rw [if_neg hc]
    have hk : bitLen u - P = 0 := by
      by_cases h0 : bitLen u - P = 0
      · exact h0
      · exfalso; apply hc
        have hu : u ≠ 0 := fun h => by subst h; exact h0 (by rw [Nm.bl_zero]; exact Nat.zero_sub _)
        have hg := Nm.bl_ge hu
        rw [Nat.le_div_iff_mul_le (Nat.two_pow_pos _), ← Nat.pow_add]
        rw [show P - 1 + (bitLen u - P) = bitLen u - 1 by omega]
        exact hg
    unfold uf
    rw [if_pos (by omega), hk, Nat.pow_zero, Nat.div_one]
end Fd
set_option linter.unusedSimpArgs false
open Go.RowKit Go.Deep
namespace Fd
theorem uf_par (L q : Nat) (hL : 1 < L) (Q : Int) (y : Int) (y0 : 0 ≤ y) : Nm.sh (parM L y).toNat (parE L Q y - Q) = uf L y.toNat := by
  obtain ⟨n, rfl⟩ := Int.eq_ofNat_of_zero_le y0
  unfold parM parE uf Nm.sh
  rw [show ((n : Int) / (L : Int)) = ((n / L : Nat) : Int) by rfl, show ((n : Int) % (L : Int)) = ((n % L : Nat) : Int) by rfl]
  by_cases h : n < L
  · rw [Nat.div_eq_of_lt h, Nat.mod_eq_of_lt h]
    have e : (((0 : Nat) : Int) = 0) = True := eq_true rfl
    simp only [e, if_true, Int.sub_self, Int.toNat_natCast]
    rw [if_pos h, if_neg (by decide)]
    simp
  · have hq : 1 ≤ n / L := Nat.div_pos (by omega) (by omega)
    have e : ¬ (((n / L : Nat) : Int) = 0) := by omega
    rw [if_neg e, if_neg e, if_neg (by omega), if_neg (by omega)]
    have e1 : (((n % L : Nat) : Int) + (L : Int)).toNat = n % L + L := by omega
    have e2 : (Q + ((n / L : Nat) : Int) - 1 - Q).toNat = n / L - 1 := by omega
    rw [e1, e2, Int.toNat_natCast]
theorem un_uf32 {x : Int} (h0 : 0 ≤ x) (h1 : x < 4294967296) (hf : finB 32 x = true) : unI 32 x = if x < 2147483648 then ((uf 8388608 x.toNat : Nat) : Int) else -((uf 8388608 (x - 2147483648).toNat : Nat) : Int) := by
  have hu := uf_par 8388608 0 (by omega) (-149) (x % 2147483648) (by omega)
  have e1 : pM 32 x = parM 8388608 (x % 2147483648) := by unfold pM; rw [hf]; simp
  have e2 : pE 32 x = parE 8388608 (-149) (x % 2147483648) := by unfold pE; rw [hf]; simp
  have e3 : pS 32 x = sigB 32 x := by unfold pS; rw [hf]; rfl
  have e4 : unQ 32 = -149 := by decide
  have ax := ab32 h0 h1
  unfold unI
  rw [if_pos hf, e1, e2, e3, e4]
  have hu' : Nm.sh (parM 8388608 (x % 2147483648)).toNat (parE 8388608 (-149) (x % 2147483648) - -149) = uf 8388608 (x % 2147483648).toNat := hu
  rw [hu']
  unfold sigB
  rw [ax]
  by_cases h : x < 2147483648
  · rw [if_pos h, if_pos h, show x % 2147483648 = x by omega]
    rw [if_neg (by simp)]
  · rw [if_neg h, if_neg h, show x % 2147483648 = x - 2147483648 by omega]
    have hne : (x != x - 2147483648) = true := by simp; omega
    rw [if_pos hne]
theorem un_uf64 {x : Int} (h0 : 0 ≤ x) (h1 : x < 18446744073709551616) (hf : finB 64 x = true) : unI 64 x = if x < 9223372036854775808 then ((uf 4503599627370496 x.toNat : Nat) : Int) else -((uf 4503599627370496 (x - 9223372036854775808).toNat : Nat) : Int) := by
  have hu := uf_par 4503599627370496 0 (by omega) (-1074) (x % 9223372036854775808) (by omega)
  have e1 : pM 64 x = parM 4503599627370496 (x % 9223372036854775808) := by unfold pM; rw [hf]; simp
  have e2 : pE 64 x = parE 4503599627370496 (-1074) (x % 9223372036854775808) := by unfold pE; rw [hf]; simp
  have e3 : pS 64 x = sigB 64 x := by unfold pS; rw [hf]; rfl
  have e4 : unQ 64 = -1074 := by decide
  have ax := ab64 h0 h1
  unfold unI
  rw [if_pos hf, e1, e2, e3, e4]
  have hu' : Nm.sh (parM 4503599627370496 (x % 9223372036854775808)).toNat (parE 4503599627370496 (-1074) (x % 9223372036854775808) - -1074) = uf 4503599627370496 (x % 9223372036854775808).toNat := hu
  rw [hu']
  unfold sigB
  rw [ax]
  by_cases h : x < 9223372036854775808
  · rw [if_pos h, if_pos h, show x % 9223372036854775808 = x by omega]
    rw [if_neg (by simp)]
  · rw [if_neg h, if_neg h, show x % 9223372036854775808 = x - 9223372036854775808 by omega]
    have hne : (x != x - 9223372036854775808) = true := by simp; omega
    rw [if_pos hne]
theorem fin_lt32 {x : Int} (h0 : 0 ≤ x) (h1 : x < 4294967296) (hf : finB 32 x = true) : x % 2147483648 < 2139095040 := by
  unfold finB at hf
  rw [cls32 h1] at hf
  unfold clsY at hf
  simp only [decide_eq_true_eq] at hf
  repeat' split at hf
  all_goals omega
theorem fin_lt'32 {x : Int} (h0 : 0 ≤ x) (h1 : x < 4294967296) (hf : x % 2147483648 < 2139095040) : finB 32 x = true := by
  unfold finB
  rw [cls32 h1]
  unfold clsY
  simp only [decide_eq_true_eq]
  repeat' split
  all_goals omega
theorem fin_lt64 {x : Int} (h0 : 0 ≤ x) (h1 : x < 18446744073709551616) (hf : finB 64 x = true) : x % 9223372036854775808 < 9218868437227405312 := by
  unfold finB at hf
  rw [cls64 ] at hf
  unfold clsY at hf
  simp only [decide_eq_true_eq] at hf
  repeat' split at hf
  all_goals omega
theorem fin_lt'64 {x : Int} (h0 : 0 ≤ x) (h1 : x < 18446744073709551616) (hf : x % 9223372036854775808 < 9218868437227405312) : finB 64 x = true := by
  unfold finB
  rw [cls64 ]
  unfold clsY
  simp only [decide_eq_true_eq]
  repeat' split
  all_goals omega
theorem unSg32 {v : Nat} (hv : v < 2139095040) (ng : Bool) : 0 ≤ sgn 2147483648 (v : Int) ng ∧ sgn 2147483648 (v : Int) ng < 4294967296 ∧ finB 32 (sgn 2147483648 (v : Int) ng) = true ∧ unI 32 (sgn 2147483648 (v : Int) ng) = (if ng then -((uf 8388608 v : Nat) : Int) else (uf 8388608 v : Nat)) := by
  have hb := sgn_abs32 (v := (v : Int)) (by omega) (by omega) ng
  have hm : sgn 2147483648 (v : Int) ng % 2147483648 = v := by unfold sgn; split <;> omega
  have hf : finB 32 (sgn 2147483648 (v : Int) ng) = true := fin_lt'32 hb.1 hb.2.1 (by omega)
  refine ⟨hb.1, hb.2.1, hf, ?_⟩
  rw [un_uf32 hb.1 hb.2.1 hf]
  cases ng
  · have e : sgn 2147483648 (v : Int) false = v := rfl
    rw [e, if_pos (by omega), Int.toNat_natCast]; rfl
  · have e : sgn 2147483648 (v : Int) true = v + 2147483648 := rfl
    rw [e, if_neg (by omega), show ((v : Int) + 2147483648 - 2147483648).toNat = v by omega]; rfl
theorem unSg64 {v : Nat} (hv : v < 9218868437227405312) (ng : Bool) : 0 ≤ sgn 9223372036854775808 (v : Int) ng ∧ sgn 9223372036854775808 (v : Int) ng < 18446744073709551616 ∧ finB 64 (sgn 9223372036854775808 (v : Int) ng) = true ∧ unI 64 (sgn 9223372036854775808 (v : Int) ng) = (if ng then -((uf 4503599627370496 v : Nat) : Int) else (uf 4503599627370496 v : Nat)) := by
  have hb := sgn_abs64 (v := (v : Int)) (by omega) (by omega) ng
  have hm : sgn 9223372036854775808 (v : Int) ng % 9223372036854775808 = v := by unfold sgn; split <;> omega
  have hf : finB 64 (sgn 9223372036854775808 (v : Int) ng) = true := fin_lt'64 hb.1 hb.2.1 (by omega)
  refine ⟨hb.1, hb.2.1, hf, ?_⟩
  rw [un_uf64 hb.1 hb.2.1 hf]
  cases ng
  · have e : sgn 9223372036854775808 (v : Int) false = v := rfl
    rw [e, if_pos (by omega), Int.toNat_natCast]; rfl
  · have e : sgn 9223372036854775808 (v : Int) true = v + 9223372036854775808 := rfl
    rw [e, if_neg (by omega), show ((v : Int) + 9223372036854775808 - 9223372036854775808).toNat = v by omega]; rfl
end Fd
end Go.Proofs.YtbhfbaogmkgmiaaGreatDoor
