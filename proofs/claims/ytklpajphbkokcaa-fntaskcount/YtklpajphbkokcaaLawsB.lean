/-
  The laws' own helpers: equal, marked, held.
-/
import Derived.Test.YtklpajphbkokcaaLawsA
namespace Go.Proofs.Ytklpajphbkokcaa
set_option linter.unusedVariables false
set_option linter.unusedSimpArgs false
open Go.RowKit Go.Deep
/-- Whether two wides are one. -/
def eqW (n m : Bool) (xs ys : List Int) : Bool := n == m && eqL xs ys

/-- k, k + 1 and on. -/
def iot (k : Int) (n : Nat) : List Int := (List.range n).map (fun i => k + (i : Nat))
theorem iot_length (k : Int) (n : Nat) : (iot k n).length = n := by simp [iot]
theorem iot_getD (k : Int) (n i : Nat) (h : i < n) : (iot k n).getD i 0 = k + i := by simp [iot, List.getD_eq_getElem?_getD, h]
def mix (k : Int) (zs : List Int) (j : Nat) : List Int := iot k j ++ zs.drop j
theorem mix_length (k : Int) (zs : List Int) (j : Nat) (h : j ≤ zs.length) : (mix k zs j).length = zs.length := by simp [mix, iot]; omega
theorem mix_step (k : Int) (zs : List Int) (j : Nat) (h : j < zs.length) : (mix k zs j).set j (k + j) = mix k zs (j + 1) := by
  apply List.ext_getElem?
  intro i
  rw [List.getElem?_set]
  simp only [mix, List.getElem?_append, iot_length, List.getElem?_drop]
  by_cases e : j = i
  · subst e
    simp [iot]; omega
  · rw [if_neg e]
    by_cases hlt : i < j
    · simp [iot, hlt, show i < j + 1 by omega]
    · simp [hlt, show ¬ i < j + 1 by omega, show j + (i - j) = j + 1 + (i - (j + 1)) by omega]
theorem mix_full (k : Int) (zs : List Int) : mix k zs zs.length = iot k zs.length := by simp [mix]

/-- What is read back of k, k + 1 and on. -/
def heldR (k : Int) (zs : List Int) : Int := if zs = iot k zs.length then k + zs.length else -1

theorem heldR_ge (k : Int) (zs : List Int) (h : ¬ heldR k zs < 0) (h0 : 0 ≤ k) : heldR k zs = k + zs.length := by
  unfold heldR at *; split at h
  · rename_i e; rw [if_pos e]
  · omega
theorem heldR_lt (k : Int) (zs : List Int) (h : heldR k zs < 0) (h0 : 0 ≤ k) : heldR k zs = -1 := by
  unfold heldR at *; split at h
  · omega
  · rename_i e; rw [if_neg e]

end Go.Proofs.Ytklpajphbkokcaa
