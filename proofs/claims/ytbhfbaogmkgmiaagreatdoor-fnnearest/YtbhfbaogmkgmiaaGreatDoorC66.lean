/-
  What is needed of RY.
-/
import Derived.Test.YtbhfbaogmkgmiaaGreatDoorC62
set_option maxHeartbeats 16000000
set_option maxRecDepth 1000000
namespace Go.Proofs.YtbhfbaogmkgmiaaGreatDoor
set_option linter.unusedVariables false
set_option linter.unusedSimpArgs false
open Go.RowKit Go.Deep
namespace Fd
open Nm (rU rr rn rh rm flo flb)
theorem sgn_inj {S : Int} {a b : Int} {g : Bool} : (sgn S a g == sgn S b g) = (a == b) := by
  unfold sgn; rw [Bool.eq_iff_iff]; simp only [beq_iff_eq]; split <;> omega
end Fd
end Go.Proofs.YtbhfbaogmkgmiaaGreatDoor
