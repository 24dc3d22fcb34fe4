/-
  What is needed of RK.
-/
import Derived.Test.YtbhfbaogmkgmiaaGreatDoorC04
import Derived.Test.YtbhfbaogmkgmiaaGreatDoorC12
import Derived.Test.YtbhfbaogmkgmiaaGreatDoorC24
set_option maxHeartbeats 16000000
set_option maxRecDepth 1000000
namespace Go.Proofs.YtbhfbaogmkgmiaaGreatDoor
set_option linter.unusedVariables false
set_option linter.unusedSimpArgs false
open Go.RowKit Go.Deep
theorem fin_fmt {fm x : Int} (h : finB fm x = true) : fmtB fm = true := by
  have ho : okF fm x = true := by
    cases ho : okF fm x
    · rw [fin_no ho] at h; cases h
    · rfl
  rcases okF_cases ho with ⟨rfl, hx⟩ | rfl <;> rfl
end Go.Proofs.YtbhfbaogmkgmiaaGreatDoor
