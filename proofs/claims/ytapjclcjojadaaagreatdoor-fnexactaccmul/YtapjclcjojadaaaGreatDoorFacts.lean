/-
  Closed facts on the whole translation, one declaration each (each is reckoned by the kernel alone).
-/
import Derived.Test.YtapjclcjojadaaaGreatDoorRows
import Derived.ProofKit
namespace Go.Proofs.YtapjclcjojadaaaGreatDoor
namespace Fc
theorem own : ownKnob Tryz.prog.godebug = none := by kernel_rfl
theorem laidOut : laidOutB Tryz.prog = true := by kernel_rfl
theorem mapsRowed : Go.mapsRowed Tryz.prog = true := by kernel_rfl
theorem heard : Tryz.prog.stopsHeard = true := by kernel_rfl
theorem enter : Tryz.prog.mayEnter = true := by kernel_rfl
theorem lifts : (Rows.fnExactAccMulRow.lifted == Tryz.prog.liftsFinal) = true := by kernel_rfl
theorem lifts_of (l : _) (h : l = Rows.fnExactAccMulRow.lifted) : (l == Tryz.prog.liftsFinal) = true := by
  rw [h]; exact lifts
end Fc
end Go.Proofs.YtapjclcjojadaaaGreatDoor
