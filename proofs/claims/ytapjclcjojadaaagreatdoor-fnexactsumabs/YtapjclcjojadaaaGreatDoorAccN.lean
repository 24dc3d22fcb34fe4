/-
  Accumulators merged: by the program and by the specification.
-/
import Derived.Test.YtapjclcjojadaaaGreatDoorG22
import Derived.Test.YtapjclcjojadaaaGreatDoorG17
namespace Go.Proofs.YtapjclcjojadaaaGreatDoor
set_option linter.unusedVariables false
set_option linter.unusedSimpArgs false
open Go.RowKit Go.Deep
/-- Why two accumulators are not merged. -/
def mgNo (fm : Int) (x y : Bool) (fmq T Tq c : Int) : Prop := (x = false ∧ c = 1) ∨ (x = true ∧ y = false ∧ c = 1) ∨ (x = true ∧ y = true ∧ fm ≠ fmq ∧ c = 2) ∨ (x = true ∧ y = true ∧ fm = fmq ∧ T + Tq > 1000000 ∧ c = 3)
theorem keep9b {w : World} {B b b' : Nat} {v0 v1 v2 v3 v4 v5 v6 v7 v8 y0 y1 y2 y3 y4 y5 y6 y7 y8 : Value} (h : Q9 w b v0 v1 v2 v3 v4 v5 v6 v7 v8) (h' : Q9 w b' y0 y1 y2 y3 y4 y5 y6 y7 y8) (n : b ≠ B) (n' : b' ≠ B) (u0 u1 u2 u3 u4 u5 u6 u7 u8 : Value) (W : World)
    (hW : W = (((((((((w.setCell ⟨B, 0, none⟩ u0).setCell ⟨B, 1, none⟩ u1).setCell ⟨B, 2, none⟩ u2).setCell ⟨B, 3, none⟩ u3).setCell ⟨B, 4, none⟩ u4).setCell ⟨B, 5, none⟩ u5).setCell ⟨B, 6, none⟩ u6).setCell ⟨B, 7, none⟩ u7).setCell ⟨B, 8, none⟩ u8)) :
    (W.cell? ⟨b, 0, none⟩ = some v0 ∧ W.cell? ⟨b, 1, none⟩ = some v1 ∧ W.cell? ⟨b, 2, none⟩ = some v2 ∧ W.cell? ⟨b, 3, none⟩ = some v3 ∧ W.cell? ⟨b, 4, none⟩ = some v4 ∧ W.cell? ⟨b, 5, none⟩ = some v5 ∧ W.cell? ⟨b, 6, none⟩ = some v6 ∧ W.cell? ⟨b, 7, none⟩ = some v7 ∧ W.cell? ⟨b, 8, none⟩ = some v8) ∧ (W.cell? ⟨b', 0, none⟩ = some y0 ∧ W.cell? ⟨b', 1, none⟩ = some y1 ∧ W.cell? ⟨b', 2, none⟩ = some y2 ∧ W.cell? ⟨b', 3, none⟩ = some y3 ∧ W.cell? ⟨b', 4, none⟩ = some y4 ∧ W.cell? ⟨b', 5, none⟩ = some y5 ∧ W.cell? ⟨b', 6, none⟩ = some y6 ∧ W.cell? ⟨b', 7, none⟩ = some y7 ∧ W.cell? ⟨b', 8, none⟩ = some y8) := by
  subst hW
  exact ⟨(h.of_block (heap9 w B b n u0 u1 u2 u3 u4 u5 u6 u7 u8)).cs, (h'.of_block (heap9 w B b' n' u0 u1 u2 u3 u4 u5 u6 u7 u8)).cs⟩
end Go.Proofs.YtapjclcjojadaaaGreatDoor
