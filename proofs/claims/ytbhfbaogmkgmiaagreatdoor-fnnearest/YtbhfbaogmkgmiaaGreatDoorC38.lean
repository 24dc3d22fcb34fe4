/-
  What is needed of PX.
-/
import Derived.Test.YtbhfbaogmkgmiaaGreatDoorC35
set_option maxHeartbeats 16000000
set_option maxRecDepth 1000000
namespace Go.Proofs.YtbhfbaogmkgmiaaGreatDoor
set_option linter.unusedVariables false
set_option linter.unusedSimpArgs false
open Go.RowKit Go.Deep
theorem wl_zero : Nm.wl 0 = [] := Nm.lim_zero
theorem wn_zero : Nm.wn 0 = false := by decide
end Go.Proofs.YtbhfbaogmkgmiaaGreatDoor
