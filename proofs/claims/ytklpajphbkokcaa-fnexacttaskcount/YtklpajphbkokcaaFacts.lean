/-
  Closed facts on the whole translation, one declaration each (each is reckoned by the kernel alone).
-/
import Derived.Test.YtklpajphbkokcaaRows
import Derived.ProofKit
namespace Go.Proofs.Ytklpajphbkokcaa
namespace Fc
theorem own : ownKnob Try.prog.godebug = none := by kernel_rfl
theorem laidOut : laidOutB Try.prog = true := by kernel_rfl
theorem mapsRowed : Go.mapsRowed Try.prog = true := by kernel_rfl
theorem heard : Try.prog.stopsHeard = true := by kernel_rfl
theorem enter : Try.prog.mayEnter = true := by kernel_rfl
theorem lifts : (Rows.fnExactTaskCountRow.lifted == Try.prog.liftsFinal) = true := by kernel_rfl
theorem lifts_of (l : _) (h : l = Rows.fnExactTaskCountRow.lifted) : (l == Try.prog.liftsFinal) = true := by
  rw [h]; exact lifts
end Fc
end Go.Proofs.Ytklpajphbkokcaa
