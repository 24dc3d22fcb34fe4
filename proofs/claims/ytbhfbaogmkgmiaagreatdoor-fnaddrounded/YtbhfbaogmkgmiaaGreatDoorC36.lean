/-
  What is needed of NumsG, RS, FC, FA.
-/
import Derived.Test.YtbhfbaogmkgmiaaGreatDoorC23
import Derived.Test.YtbhfbaogmkgmiaaGreatDoorC27
set_option maxHeartbeats 16000000
set_option maxRecDepth 1000000
namespace Go.Proofs.YtbhfbaogmkgmiaaGreatDoor
set_option linter.unusedVariables false
set_option linter.unusedSimpArgs false
namespace Nm
theorem rn_scale {a : Nat} (h : a ≠ 0) (P : Nat) (q e : Int) (d : Nat) : rn P q (a * 2 ^ d) (e - d) = rn P q a e + d := by
  unfold rn; rw [bl_mul h]; omega
theorem sh_scale (a d : Nat) (k : Int) : sh (a * 2 ^ d) (k - d) = sh a k := by
  unfold sh
  by_cases hk : k < 0
  · rw [if_pos (by omega), if_pos hk, show (-(k - (d : Int))).toNat = (-k).toNat + d by omega, Nat.pow_add, Nat.mul_div_mul_right _ _ (pw_pos2 d)]
  · rw [if_neg hk]
    by_cases hd : k - d < 0
    · rw [if_pos hd]
      have e : 2 ^ d = 2 ^ k.toNat * 2 ^ (-(k - (d : Int))).toNat := by rw [← Nat.pow_add]; congr 1; omega
      rw [e, ← Nat.mul_assoc, Nat.mul_div_cancel _ (pw_pos2 _)]
    · rw [if_neg hd, Nat.mul_assoc, ← Nat.pow_add]
      congr 2; omega
theorem rm_scale {a : Nat} (h : a ≠ 0) (P : Nat) (q e : Int) (d : Nat) : rm P q (a * 2 ^ d) (e - d) = rm P q a e := by
  unfold rm; rw [rn_scale h, show -(rn P q a e + d) = -rn P q a e - d by omega, sh_scale]
theorem rr_scale {a : Nat} (h : a ≠ 0) (P : Nat) (q e : Int) (d : Nat) : rr P q (a * 2 ^ d) (e - d) = rr P q a e * 2 ^ d := by
  unfold rr; rw [rn_scale h]
  by_cases hr : 0 ≤ rn P q a e
  · rw [show (rn P q a e + d).toNat = (rn P q a e).toNat + d by omega, Nat.pow_add, Nat.mul_mod_mul_right]
  · rw [show (rn P q a e).toNat = 0 by omega, Nat.pow_zero, Nat.mod_one, Nat.zero_mul]
    exact Nat.mod_eq_zero_of_dvd (Nat.dvd_trans (Nat.pow_dvd_pow 2 (show (rn P q a e + d).toNat ≤ d by omega)) (Nat.dvd_mul_left _ _))
theorem rh_scale {a : Nat} (h : a ≠ 0) (P : Nat) (q e : Int) (d : Nat) (hr : rr P q a e ≠ 0) : rh P q (a * 2 ^ d) (e - d) = rh P q a e := by
  have h1 := rr_pos hr
  unfold rh
  rw [rr_scale h, rn_scale h, show (rn P q a e + d).toNat = (rn P q a e).toNat + d by omega, Nat.pow_add, ← Nat.mul_assoc, cmp2_mul]
theorem rr_scale0 {a : Nat} (h : a ≠ 0) (P : Nat) (q e : Int) (d : Nat) : rr P q (a * 2 ^ d) (e - d) = 0 ↔ rr P q a e = 0 := by
  rw [rr_scale h]
  constructor
  · intro h0
    rcases Nat.mul_eq_zero.1 h0 with h1 | h1
    · exact h1
    · have := pw_pos2 d; omega
  · intro h0; rw [h0, Nat.zero_mul]
theorem rU_scale {a : Nat} (h : a ≠ 0) (P : Nat) (q e : Int) (d : Nat) (up up' : Bool) (hu : rr P q a e ≠ 0 → up = up') : rU P q (a * 2 ^ d) (e - d) up = rU P q a e up' := by
  unfold rU r1
  rw [rn_scale h, rm_scale h, show rn P q a e + (d : Int) + (e - d) - q = rn P q a e + e - q by omega]
  by_cases h0 : rr P q a e = 0
  · rw [if_neg (fun c => c.1 ((rr_scale0 h P q e d).2 h0)), if_neg (fun c => c.1 h0)]
  · rw [hu h0]
    congr 1
    by_cases hup : up' = true
    · rw [if_pos ⟨fun e' => h0 ((rr_scale0 h P q e d).1 e'), hup⟩, if_pos ⟨h0, hup⟩]
    · rw [if_neg (fun c => hup c.2), if_neg (fun c => hup c.2)]
end Nm
open Go.RowKit Go.Deep
theorem rdU_scale {a : Nat} (h : a ≠ 0) (P : Nat) (q : Int) (mode : Int) (ng : Bool) (e : Int) (d : Nat) : rdU P q mode ng (a * 2 ^ d) (e - d) = rdU P q mode ng a e := by
  unfold rdU
  refine Nm.rU_scale h P q e d _ _ (fun hr => ?_)
  rw [Nm.rm_scale h, Nm.rh_scale h P q e d hr]
theorem rdB_scale {a : Nat} (h : a ≠ 0) (P : Nat) (q : Int) (I : Nat) (S mode : Int) (ng : Bool) (e : Int) (d : Nat) : rdB P q I S mode ng (a * 2 ^ d) (e - d) = rdB P q I S mode ng a e := by
  unfold rdB; rw [rdU_scale h]
theorem rdF_scale {a : Nat} (h : a ≠ 0) (P : Nat) (q : Int) (I : Nat) (mode : Int) (ng : Bool) (e : Int) (d : Nat) : rdF P q I mode ng (a * 2 ^ d) (e - d) = rdF P q I mode ng a e := by
  unfold rdF; rw [rdU_scale h, Nm.bl_mul h, show ((bitLen a + d : Nat) : Int) + (e - d) = (bitLen a : Int) + e by omega]
  by_cases hr : Nm.rr P q a e = 0
  · rw [if_pos hr, if_pos ((Nm.rr_scale0 h P q e d).2 hr)]
  · rw [if_neg hr, if_neg (fun c => hr ((Nm.rr_scale0 h P q e d).1 c))]
theorem abs_sig {fm x : Int} (hx : okF fm x = true) (x0 : 0 ≤ x) (x1 : x < 18446744073709551616) : x = sgn (sgOf fm) (absF fm x) (sigB fm x) := by
  rcases okF_cases hx with ⟨rfl, hx'⟩ | rfl
  · have e := abs32 hx'
    unfold sgn sigB sgOf
    rw [e, if_pos (show ((32 : Int) = 32) from rfl)]
    by_cases h : x = x % 2147483648
    · rw [if_neg (by simpa using h)]; exact h
    · rw [if_pos (by simpa using h)]; omega
  · have e := abs64 (x := x)
    unfold sgn sigB sgOf
    rw [e, if_neg (show ¬ ((64 : Int) = 32) by decide)]
    by_cases h : x = x % 9223372036854775808
    · rw [if_neg (by simpa using h)]; exact h
    · rw [if_pos (by simpa using h)]; omega
theorem un_nZ {fm x : Int} (hx : okF fm x = true) (hf : finB fm x = true) : unI fm x = nZ fm x * 2 ^ (nE fm x - unQ fm).toNat := by
  obtain ⟨f1, f2, f3, f4, f5, f6⟩ := fin_facts hx hf
  have hq := pE_q hf
  have hM := pM_bd fm x
  rw [f3, f4]
  unfold unI
  rw [hf, if_pos rfl]
  have e : ((Nm.sh (pM fm x).toNat (pE fm x - unQ fm) : Nat) : Int) = pM fm x * 2 ^ (pE fm x - unQ fm).toNat := by
    unfold Nm.sh; rw [if_neg (by omega), Int.natCast_mul, Int.natCast_pow, Int.toNat_of_nonneg hM.1]; rfl
  rw [e]
  cases pS fm x
  · rfl
  · simp only [if_true, Int.neg_mul]
end Go.Proofs.YtbhfbaogmkgmiaaGreatDoor
