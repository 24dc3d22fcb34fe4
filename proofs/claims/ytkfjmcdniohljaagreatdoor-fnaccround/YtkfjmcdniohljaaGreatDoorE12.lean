/-
  What is needed of FloatA, Facts.
-/
import Derived.Test.YtkfjmcdniohljaaGreatDoorE09
set_option maxHeartbeats 16000000
set_option maxRecDepth 1000000
namespace Go.Proofs.YtkfjmcdniohljaaGreatDoor
set_option linter.unusedVariables false
set_option linter.unusedSimpArgs false
open Go.RowKit
theorem quiet32 (w : World) :
    Calls Tryz.prog 167 #[.agg #[.int .u64 23, .int .u64 255, .int .i64 (-149)]] w fun e w' => e = .returned (.int .u64 4194304) ∧ Below w.heap.size w w' := by
  go_enter Tryz.func167, Tryz.ntmps167
  go_wp2
  all_goals go_ret
  all_goals exact ⟨rfl, (by repeat (first | exact bz0 _ _ | refine bz1 ?_ | refine bz2 ?_ _ | refine bz3 ?_ _ | refine bz5 ?_ _ | refine bz6 ?_ _))⟩
theorem quiet64 (w : World) :
    Calls Tryz.prog 167 #[.agg #[.int .u64 52, .int .u64 2047, .int .i64 (-1074)]] w fun e w' => e = .returned (.int .u64 2251799813685248) ∧ Below w.heap.size w w' := by
  go_enter Tryz.func167, Tryz.ntmps167
  go_wp2
  all_goals go_ret
  all_goals exact ⟨rfl, (by repeat (first | exact bz0 _ _ | refine bz1 ?_ | refine bz2 ?_ _ | refine bz3 ?_ _ | refine bz5 ?_ _ | refine bz6 ?_ _))⟩
end Go.Proofs.YtkfjmcdniohljaaGreatDoor
namespace Go.Proofs.YtkfjmcdniohljaaGreatDoor
namespace Fc
theorem enter : Tryz.prog.mayEnter = true := by kernel_rfl
end Fc
end Go.Proofs.YtkfjmcdniohljaaGreatDoor
