/-
  What is needed of FS, FM, FN.
-/
import Derived.Test.YtnliofakkkjpoaaGreatDoorA24
import Derived.Test.YtnliofakkkjpoaaGreatDoorA38
set_option maxHeartbeats 16000000
set_option maxRecDepth 1000000
namespace Go.Proofs.YtnliofakkkjpoaaGreatDoor
set_option linter.unusedVariables false
set_option linter.unusedSimpArgs false
open Go.RowKit Go.Deep
theorem with_s (fm x : Int) (ng : Bool) (w : World) (h : fmtB fm = true) (x0 : 0 ≤ x) (x1 : x < 2147483648 ∨ (fm = 64 ∧ x < 9223372036854775808)) : Calls Tryz.prog 103 #[.int .i64 fm, .int .u64 x, .bool ng] w fun e w' => e = .returned (.int .u64 (sgn (sgOf fm) x ng)) ∧ Below w.heap.size w w' := by
  rcases fmt_cases h with rfl | rfl
  · exact with_32 x ng w (fun _ => ⟨x0, by rcases x1 with h' | ⟨h', _⟩; exact h'; exact absurd h' (by decide)⟩)
  · exact with_64 x ng w (fun _ => ⟨x0, by omega⟩)
theorem sl64_2 (w : World) (x y : Int) (t : TypeId) : Sl .u64 (w.alloc (.cells #[.int .u64 x, .int .u64 y] t)) (.slice (some ⟨w.heap.size, 0, none⟩) [x, y].length 2) [x, y] :=
  ⟨_, 2, rfl, Nat.le_refl _, by unfold maxLen; simp, .inr ⟨w.heap.size, 0, rfl, fun i hi => by
    have h2 : i < 2 := by simpa using hi
    match i, h2 with
    | 0, _ => simp
    | 1, _ => simp⟩⟩
/-- A product, of all floats. -/
def muO (fm mode x y : Int) : Bool := modeB mode && allB fm [x, y]
theorem all2 {fm x y : Int} (h : allB fm [x, y] = true) : okF fm x = true ∧ okF fm y = true := by
  unfold allB at h; simpa using h
theorem all2_fmt {fm mode x y : Int} : (allB fm [x, y] && fmtB fm && modeB mode) = (modeB mode && allB fm [x, y]) := by
  cases h : allB fm [x, y]
  · simp
  · rw [ok_fmt (all2 h).1]; simp
end Go.Proofs.YtnliofakkkjpoaaGreatDoor
