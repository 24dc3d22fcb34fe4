/-
  What is needed of FC.
-/
import Derived.Test.YtnliofakkkjpoaaGreatDoorA38
set_option maxHeartbeats 16000000
set_option maxRecDepth 1000000
namespace Go.Proofs.YtnliofakkkjpoaaGreatDoor
set_option linter.unusedVariables false
set_option linter.unusedSimpArgs false
open Go.RowKit Go.Deep
theorem abs_sig {fm x : Int} (hx : okF fm x = true) (x0 : 0 ≤ x) (x1 : x < 18446744073709551616) : x = sgn (sgOf fm) (absF fm x) (sigB fm x) := by
  rcases okF_cases hx with ⟨rfl, hx'⟩ | rfl
  · have e := abs32 hx'
    unfold sgn sigB sgOf
    rw [e, if_pos (show ((32 : Int) = 32) from rfl)]
    by_cases h : x = x % 2147483648
    · rw [if_neg (by simpa using h)]; exact h
    · rw [if_pos (by simpa using h)]; omega
  · have e := abs64 (x := x)
    unfold sgn sigB sgOf
    rw [e, if_neg (show ¬ ((64 : Int) = 32) by decide)]
    by_cases h : x = x % 9223372036854775808
    · rw [if_neg (by simpa using h)]; exact h
    · rw [if_pos (by simpa using h)]; omega
end Go.Proofs.YtnliofakkkjpoaaGreatDoor
