/-
  What is needed of FM.
-/
import Derived.Test.YtnliofakkkjpoaaGreatDoorA25
import Derived.Test.YtnliofakkkjpoaaGreatDoorA38
set_option maxHeartbeats 16000000
set_option maxRecDepth 1000000
namespace Go.Proofs.YtnliofakkkjpoaaGreatDoor
set_option linter.unusedVariables false
set_option linter.unusedSimpArgs false
open Go.RowKit Go.Deep
theorem sl64_1 (w : World) (x : Int) (t : TypeId) : Sl .u64 (w.alloc (.cells #[.int .u64 x] t)) (.slice (some ⟨w.heap.size, 0, none⟩) [x].length 1) [x] :=
  ⟨_, 1, rfl, Nat.le_refl _, by unfold maxLen; omega, .inr ⟨w.heap.size, 0, rfl, fun i hi => by
    have : i = 0 := by simpa using hi
    subst this; simp⟩⟩
theorem d64_1 {x : Int} (x0 : 0 ≤ x) (x1 : x < 18446744073709551616) : D64 [x] := fun z hz => by
  simp only [List.mem_cons, List.not_mem_nil, or_false] at hz; subst hz; exact ⟨x0, x1⟩
end Go.Proofs.YtnliofakkkjpoaaGreatDoor
