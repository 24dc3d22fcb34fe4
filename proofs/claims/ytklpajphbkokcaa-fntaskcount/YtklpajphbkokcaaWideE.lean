/-
  Limbs made to a wide, by the specification.
-/
import Derived.Test.YtklpajphbkokcaaWideA
import Derived.Laws.AppendOwnNone
namespace Go.Proofs.Ytklpajphbkokcaa
set_option linter.unusedVariables false
set_option linter.unusedSimpArgs false
open Go.RowKit Go.Deep
/-- What is appended to the empty slice of the call's own. -/
theorem own_slice {w : World} {B : Nat} {v : Value} {zs : List Int} {n : Nat} (hn : n = zs.length) (h : w.ownsRow B 156 1 v n (zs.map (Value.int .u32))) : ∃ a c, v = .slice a n c ∧ Own w B a c zs := by
  subst hn
  rcases h.2 with ⟨h1, h2⟩ | ⟨g, cap, cur, h1, _⟩
  · subst h1
    have : zs = [] := List.eq_nil_of_length_eq_zero h2
    subst this
    exact ⟨none, 0, rfl, h⟩
  · subst h1; exact ⟨_, _, rfl, h⟩

/-- The box of a wide result, behind what turns one block alone. -/
theorem box_grown {w W w' : World} {t : TypeId} {v0 v1 : Value} {g : Nat} (hW : W.heap[w.heap.size]? = some (.cells #[v0, v1] t (0, 0))) (hg : W.grownBy w' (some g)) (hne : g ≠ w.heap.size) :
    w'.cell? ⟨w.heap.size, 0, none⟩ = some v0 ∧ w'.cell? ⟨w.heap.size, 1, none⟩ = some v1 ∧ w'.frozen? ⟨w.heap.size, 0, none⟩ = false ∧ w'.frozen? ⟨w.heap.size, 1, none⟩ = false := by
  have hlt : w.heap.size < W.heap.size := (Array.getElem?_eq_some_iff.1 hW).1
  have h := hg.block w.heap.size hlt (by simpa using fun e => hne e.symm)
  rw [hW] at h
  exact ⟨by simp [World.cell?, h], by simp [World.cell?, h], by simp [World.frozen?, h], by simp [World.frozen?, h]⟩
theorem bel_grown {w W w' : World} {g : Nat} (h : Below w.heap.size w W) (hg : W.grownBy w' (some g)) (hge : w.heap.size ≤ g) : Below w.heap.size w w' :=
  h.grown hg h.size (fun k hk => by cases hk; exact hge)

end Go.Proofs.Ytklpajphbkokcaa
