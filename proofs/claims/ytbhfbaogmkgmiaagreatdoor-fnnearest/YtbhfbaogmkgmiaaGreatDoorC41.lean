/-
  What is needed of RN, EO.
-/
import Derived.Test.YtbhfbaogmkgmiaaGreatDoorC26
import Derived.Test.YtbhfbaogmkgmiaaGreatDoorC34
set_option maxHeartbeats 16000000
set_option maxRecDepth 1000000
namespace Go.Proofs.YtbhfbaogmkgmiaaGreatDoor
set_option linter.unusedVariables false
set_option linter.unusedSimpArgs false
namespace Nm
theorem pw_dbl {P : Nat} (hP : 1 ≤ P) : 2 ^ P = 2 * 2 ^ (P - 1) := by
  obtain ⟨k, rfl⟩ : ∃ k, P = k + 1 := ⟨P - 1, by omega⟩
  rw [Nat.add_sub_cancel, Nat.pow_succ, Nat.mul_comm]
/-- The bits of m places of 2 to the k. -/
theorem flb_mk {P m k : Nat} (hP : 1 ≤ P) (hm : m < 2 ^ P) (hk : k ≠ 0 → 2 ^ (P - 1) ≤ m) : flb P (m * 2 ^ k) = m + k * 2 ^ (P - 1) ∧ bitLen (m * 2 ^ k) - P = k ∧ m * 2 ^ k / 2 ^ (bitLen (m * 2 ^ k) - P) = m := by
  have hp := Nat.two_pow_pos (P - 1)
  have hd := pw_dbl hP
  by_cases h0 : k = 0
  · subst h0
    have hb : bitLen (m * 2 ^ 0) - P = 0 := by
      have := (bl_le_iff m P).2 hm
      rw [Nat.pow_zero, Nat.mul_one]; omega
    refine ⟨?_, hb, by rw [hb]; simp⟩
    unfold flb
    rw [hb]
    simp
  · have hmk := hk h0
    have hm0 : m ≠ 0 := by omega
    have hb : bitLen (m * 2 ^ k) - P = k := by
      rw [bl_mul hm0]
      have h1 := (bl_le_iff m P).2 hm
      have h2 : ¬ bitLen m ≤ P - 1 := fun h => by have := (bl_le_iff m (P - 1)).1 h; omega
      omega
    have hq : m * 2 ^ k / 2 ^ (bitLen (m * 2 ^ k) - P) = m := by rw [hb]; exact Nat.mul_div_cancel m (Nat.two_pow_pos k)
    refine ⟨?_, hb, hq⟩
    unfold flb
    rw [hq, if_pos hmk, hb]
end Nm
open Go.RowKit Go.Deep
/-- What is lacking behind k of them. -/
def eK (fm b : Int) (xs : List Int) : Nat → Int
  | 0 => -unI fm b
  | k + 1 => eK fm b xs k + unI fm (xs.getD k 0)
end Go.Proofs.YtbhfbaogmkgmiaaGreatDoor
