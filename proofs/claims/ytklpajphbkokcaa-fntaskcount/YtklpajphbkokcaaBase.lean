/-
  Small words for all texts: a fact kept from the walk; endings; that nothing old has turned.
-/
import Derived.WalkKit
import Derived.Deep.Draws
namespace Go.Proofs.Ytklpajphbkokcaa
set_option linter.unusedVariables false
set_option linter.unusedSimpArgs false
open Go.RowKit
theorem hid {p : Prop} (h : p) : Hid p := h
theorem ret_int {k : IntKind} {a b : Int} (h : a = b) : Ending.returned (.int k a) = .returned (.int k b) := by rw [h]
theorem ret_bool {a b : Bool} (h : a = b) : Ending.returned (.bool a) = .returned (.bool b) := by rw [h]
theorem bel_go {w w1 w2 : World} (h : Below w.heap.size w w1) (hb : Below w1.heap.size w1 w2) : Below w.heap.size w w2 := h.trans (hb.mono h.size)
theorem bel_al {w w1 : World} (h : Below w.heap.size w w1) (o : Obj) : Below w.heap.size w (w1.alloc o) := h.alloc h.size o
theorem bel_dn {w w1 : World} {B : Nat} (h : Below B w w1) (n : Nat) : Below B w (w1.drewN n) := ⟨h.os, h.tape, h.output, h.size, h.block⟩
theorem bel_st {B : Nat} {w w1 : World} {p : Addr} (h : Below B w w1) (v : Value) (hp : B ≤ p.block := by first | omega | (simp; done) | (simp; omega)) : Below B w (w1.setCell p v) := h.setCell hp v
theorem bel_aw {B : Nat} {w w1 : World} (h : Below B w w1) (o : Obj) (hp : B ≤ w1.heap.size := by first | omega | (simp; done) | (simp; omega)) : Below B w (w1.alloc o) := h.alloc hp o
theorem bel_tr {B C : Nat} {w w1 w2 : World} (h : Below B w w1) (k : Below C w1 w2) (hp : B ≤ C := by first | omega | (simp; done) | (simp; omega)) : Below B w w2 := h.trans (k.mono hp)
end Go.Proofs.Ytklpajphbkokcaa
