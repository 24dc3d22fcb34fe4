/-
  What is needed of FloatO.
-/
import Derived.Test.YtkfjmcdniohljaaGreatDoorE12
import Derived.Test.YtkfjmcdniohljaaGreatDoorE17
set_option maxHeartbeats 16000000
set_option maxRecDepth 1000000
namespace Go.Proofs.YtkfjmcdniohljaaGreatDoor
set_option linter.unusedVariables false
set_option linter.unusedSimpArgs false
open Go.RowKit
theorem ret_p4 {s s' : Bool} {a b a' b' : Int} {o o' : Bool} (g : s = s') (h : a = a') (k : b = b') (l : o = o') : Ending.returned (.tuple #[.agg #[.bool s, .int .i64 a, .int .i64 b], .bool o]) = .returned (.tuple #[.agg #[.bool s', .int .i64 a', .int .i64 b'], .bool o']) := by rw [g, h, k, l]
end Go.Proofs.YtkfjmcdniohljaaGreatDoor
