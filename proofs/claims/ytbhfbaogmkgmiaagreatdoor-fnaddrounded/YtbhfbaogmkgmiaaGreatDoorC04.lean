/-
  What is needed of Cmp.
-/
import Derived.Test.YtbhfbaogmkgmiaaGreatDoorC00
set_option maxHeartbeats 16000000
set_option maxRecDepth 1000000
namespace Go.Proofs.YtbhfbaogmkgmiaaGreatDoor
set_option linter.unusedVariables false
set_option linter.unusedSimpArgs false
open Go.RowKit
theorem cmpI_rng (x y : Int) : -1 ≤ cmpI x y ∧ cmpI x y ≤ 1 := by unfold cmpI; repeat' split <;> omega

end Go.Proofs.YtbhfbaogmkgmiaaGreatDoor
