/-
  The highest bin of a float: by the program, by the specification; the law.
-/
import Derived.Test.YtdjfajjlmjkpdaaDoorG21
import Derived.Test.YtdjfajjlmjkpdaaDoorG09
import Derived.Test.YtdjfajjlmjkpdaaDoorG17
namespace Go.Proofs.YtdjfajjlmjkpdaaDoor
set_option linter.unusedVariables false
set_option linter.unusedSimpArgs false
open Go.RowKit Go.Deep
/-- A finite float is zero just where its M is. -/
theorem pM_zero {fm x : Int} (hx : okF fm x = true) (hf : finB fm x = true) : (absF fm x == 0) = decide (pM fm x = 0) := by
  rw [← cls_zero hx, Bool.eq_iff_iff, beq_iff_eq, decide_eq_true_eq]
  constructor
  · intro h
    have ha : (absF fm x == 0) = true := by rw [← cls_zero hx, h]; rfl
    have ha' : absF fm x = 0 := by simpa using ha
    unfold pM; rw [hf, if_pos rfl]
    rcases okF_cases hx with ⟨rfl, hx'⟩ | rfl
    · rw [abs32 hx'] at ha'
      rw [if_pos rfl, ha']; rfl
    · rw [abs64] at ha'
      rw [if_neg (by decide), ha']; rfl
  · intro h
    have hc : 0 ≤ cls fm x ∧ cls fm x ≤ 2 := by simpa [finB] using hf
    by_cases h12 : cls fm x = 1 ∨ cls fm x = 2
    · have := (pM_pos h12).2; omega
    · omega
theorem un_abs {fm x : Int} (hf : finB fm x = true) : (unI fm x).natAbs = Nm.sh (pM fm x).toNat (pE fm x - unQ fm) := by
  unfold unI; rw [hf, if_pos rfl]; cases pS fm x <;> simp
theorem un_zero {fm x : Int} (hx : okF fm x = true) (hf : finB fm x = true) : (absF fm x == 0) = decide (unI fm x = 0) := by
  rw [pM_zero hx hf, Bool.eq_iff_iff, decide_eq_true_eq, decide_eq_true_eq]
  have h1 := pE_q hf
  have hM := pM_bd fm x
  have ha := un_abs hf
  have e : Nm.sh (pM fm x).toNat (pE fm x - unQ fm) = (pM fm x).toNat * 2 ^ (pE fm x - unQ fm).toNat := by unfold Nm.sh; rw [if_neg (by omega)]
  rw [e] at ha
  have hp : 0 < 2 ^ (pE fm x - unQ fm).toNat := Nat.pow_pos (by decide)
  constructor
  · intro h; rw [h] at ha; simp at ha; omega
  · intro h; rw [h] at ha
    have : (pM fm x).toNat = 0 := by
      rcases Nat.mul_eq_zero.1 (show (pM fm x).toNat * 2 ^ (pE fm x - unQ fm).toNat = 0 by simpa using ha.symm) with h' | h'
      · exact h'
      · omega
    omega
/-- The highest bin. -/
def tpV (fm x : Int) : Int := ((bitLen (unI fm x).natAbs : Int) + 15) / 16 - 1
theorem fin_ok {fm x : Int} (hf : finB fm x = true) : okF fm x = true := by
  cases h : okF fm x
  · exfalso
    have : cls fm x = -1 := by unfold cls; rw [h]; rfl
    unfold finB at hf; rw [this] at hf; simp at hf
  · rfl
theorem blw (z : Int) (h : (Nm.wl z).length ≤ 200) : blW (Nm.wn z) (Nm.wl z) = (bitLen z.natAbs : Int) ∧ blL (Nm.wl z) = (bitLen z.natAbs : Int) := by
  have h1 : blL (Nm.wl z) = (bitLen z.natAbs : Int) := blL_lim z.natAbs
  exact ⟨by unfold blW; rw [okB_wl h, if_pos rfl, h1], h1⟩
theorem un_bl (fm x : Int) : bitLen (unI fm x).natAbs ≤ 2200 := by
  cases hf : finB fm x
  · rw [un_no hf]; decide
  · rw [un_abs hf]; exact un_bits hf
theorem bl_pos {z : Int} (h : z ≠ 0) : 1 ≤ bitLen z.natAbs := by
  have : ¬ bitLen z.natAbs ≤ 0 := by
    rw [Nm.bl_le_iff]; simp; omega
  omega
end Go.Proofs.YtdjfajjlmjkpdaaDoor
