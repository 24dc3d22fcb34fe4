/-
  What is needed of Mem.
-/
import Derived.Deep.OwnRows
import Derived.Test.YtmnfidkpnogfmaaK00
set_option maxHeartbeats 16000000
set_option maxRecDepth 1000000
namespace Go.Proofs.Ytmnfidkpnogfmaa
set_option linter.unusedVariables false
set_option linter.unusedSimpArgs false
open Go.RowKit Go.Deep
/-- The slice v reads as the integers zs of kind k. -/
def Sl (k : IntKind) (w : World) (v : Value) (zs : List Int) : Prop :=
  ∃ a cap, v = .slice a zs.length cap ∧ zs.length ≤ cap ∧ cap ≤ maxLen ∧
    (zs = [] ∨ ∃ b off, a = some ⟨b, off, none⟩ ∧ ∀ i, i < zs.length → w.cell? ⟨b, off + i, none⟩ = some (.int k (zs.getD i 0)))

theorem Sl.below {k : IntKind} {w w' : World} {v : Value} {zs : List Int} (h : Sl k w v zs) (hb : Below w.heap.size w w') : Sl k w' v zs := by
  obtain ⟨a, cap, rfl, h1, h2, h3⟩ := h
  refine ⟨a, cap, rfl, h1, h2, ?_⟩
  rcases h3 with h3 | ⟨b, off, rfl, hc⟩
  · exact .inl h3
  · refine .inr ⟨b, off, rfl, fun i hi => ?_⟩
    have := hc i hi
    rw [hb.cell (p := ⟨b, off + i, none⟩) (World.block_lt_of_cell? w _ this)]; exact this

theorem Sl.nil (k : IntKind) (w : World) : Sl k w (.slice none 0 0) [] := ⟨none, 0, rfl, Nat.le_refl _, Nat.zero_le _, .inl rfl⟩

theorem Sl.of_own {k : IntKind} {w : World} {base : Nat} {e : TypeId} {v : Value} {zs : List Int} (h : w.ownsRow base e 1 v zs.length (zs.map (Value.int k))) : Sl k w v zs := by
  obtain ⟨h1, h2⟩ := h
  rcases h2 with ⟨rfl, hn⟩ | ⟨g, cap, cur, rfl, hb, hh, hl, hm, hs, ht⟩
  · have : zs = [] := List.eq_nil_of_length_eq_zero hn
    subst this; exact Sl.nil k w
  · refine ⟨some ⟨g, 0, none⟩, cap, rfl, hl, hm, .inr ⟨g, 0, rfl, fun i hi => ?_⟩⟩
    have e1 : (cur.toList.take (zs.length * 1))[i]? = (zs.map (Value.int k))[i]? := by rw [ht]
    rw [Nat.mul_one, List.getElem?_take_of_lt hi, List.getElem?_map, List.getElem?_eq_getElem hi] at e1
    simp only [World.cell?, hh, Nat.zero_add]
    simp only [Array.getElem?_toList] at e1
    simp [e1, List.getD_eq_getElem?_getD, List.getElem?_eq_getElem hi]

theorem Sl.alloc {k : IntKind} {w : World} {v : Value} {zs : List Int} (h : Sl k w v zs) (o : Obj) : Sl k (w.alloc o) v zs := h.below ((Below.refl _ _).alloc (Nat.le_refl _) _)
theorem Sl.drew {k : IntKind} {w : World} {v : Value} {zs : List Int} (h : Sl k w v zs) : Sl k w.drew v zs := h
/-- All old cells and marks read as before. -/
theorem bcell {W w1 : World} (hb : Below W.heap.size W w1) : (∀ b o, b < W.heap.size → w1.cell? ⟨b, o, none⟩ = W.cell? ⟨b, o, none⟩) ∧ (∀ b o, b < W.heap.size → w1.frozen? ⟨b, o, none⟩ = W.frozen? ⟨b, o, none⟩) :=
  ⟨fun b o h => hb.cell (p := ⟨b, o, none⟩) h, fun b o h => hb.frozen (p := ⟨b, o, none⟩) h⟩

theorem Sl.cells {k : IntKind} {w : World} {a : Option Addr} {n cap : Nat} {zs : List Int} (h : Sl k w (.slice a n cap) zs) : n = zs.length ∧ zs.length ≤ cap ∧ cap ≤ maxLen ∧ (0 < zs.length → ∃ b off, a = some ⟨b, off, none⟩ ∧ ∀ i, i < zs.length → w.cell? ⟨b, off + i, none⟩ = some (.int k (zs.getD i 0))) := by
  obtain ⟨a0, cap0, he, hc1, hc2, hz⟩ := h
  simp at he; obtain ⟨rfl, rfl, rfl⟩ := he
  refine ⟨rfl, hc1, hc2, fun hp => ?_⟩
  rcases hz with rfl | hz
  · simp at hp
  · exact hz


theorem own_base {w : World} {B B' : Nat} {e : TypeId} {size : Nat} {v : Value} {n : Nat} {xs : List Value} (h : w.ownsRow B e size v n xs) (hB : B' ≤ B) : w.ownsRow B' e size v n xs := by
  obtain ⟨h1, h2⟩ := h
  refine ⟨h1, ?_⟩
  rcases h2 with h2 | ⟨g, cap, cur, e1, e2, e3⟩
  · exact .inl h2
  · exact .inr ⟨g, cap, cur, e1, Nat.le_trans hB e2, e3⟩
/-- The limbs zs lie in a block of the call's own, from B on. -/
def Own (w : World) (B : Nat) (a : Option Addr) (cap : Nat) (zs : List Int) : Prop := w.ownsRow B 121 1 (.slice a zs.length cap) zs.length (zs.map (Value.int .u32))
theorem Own.sl {w : World} {B : Nat} {a : Option Addr} {cap : Nat} {zs : List Int} (h : Own w B a cap zs) : Sl .u32 w (.slice a zs.length cap) zs := Sl.of_own h
theorem Own.block {w : World} {B : Nat} {a : Option Addr} {cap : Nat} {zs : List Int} (h : Own w B a cap zs) : (a = none ∧ cap = 0 ∧ zs = []) ∨ ∃ g, a = some ⟨g, 0, none⟩ ∧ B ≤ g ∧ g < w.heap.size := by
  rcases h.2 with ⟨h1, h2⟩ | ⟨g, cap', cur, h1, h2, h3, _⟩
  · simp at h1; exact .inl ⟨h1.1, h1.2.2, h1.2.1⟩
  · simp at h1; exact .inr ⟨g, h1.1, h2, (Array.getElem?_eq_some_iff.1 h3).1⟩
/-- It stays so while blocks that were there are let alone. -/
theorem Own.below {w w' : World} {B : Nat} {a : Option Addr} {cap : Nat} {zs : List Int} (h : Own w B a cap zs) (hb : Below w.heap.size w w') : Own w' B a cap zs := by
  refine ⟨h.1, ?_⟩
  rcases h.2 with h2 | ⟨g, cap', cur, h1, h2, h3, h4⟩
  · exact .inl h2
  · exact .inr ⟨g, cap', cur, h1, h2, by rw [hb.block g (Array.getElem?_eq_some_iff.1 h3).1]; exact h3, h4⟩
/-- .. and while another block is written. -/
theorem Own.kept {w w' : World} {B : Nat} {a : Option Addr} {cap : Nat} {zs : List Int} {row : Option Nat} (h : Own w B a cap zs) (hg : w.grownBy w' row) (hne : ∀ g, a = some ⟨g, 0, none⟩ → row ≠ some g) : Own w' B a cap zs := by
  refine World.ownsRow.kept h hg ?_
  rcases h.block with ⟨rfl, _⟩ | ⟨g, rfl, _⟩
  · exact .inl rfl
  · exact .inr (fun e => hne g rfl (by rw [← e]; rfl))

/-- The two cells of a struct of two. -/
def Box (w : World) (b : Nat) (v0 v1 : Value) : Prop := w.cell? ⟨b, 0, none⟩ = some v0 ∧ w.cell? ⟨b, 1, none⟩ = some v1
theorem Box.below {w w' : World} {b : Nat} {v0 v1 : Value} (h : Box w b v0 v1) (hb : Below w.heap.size w w') : Box w' b v0 v1 := by
  have hlt := World.block_lt_of_cell? w _ h.1
  exact ⟨(hb.cell (p := ⟨b, 0, none⟩) hlt).trans h.1, (hb.cell (p := ⟨b, 1, none⟩) hlt).trans h.2⟩
theorem Box.new (w : World) (v0 v1 : Value) (t : TypeId) : Box (w.alloc (.cells #[v0, v1] t)) w.heap.size v0 v1 := ⟨by simp, by simp⟩
theorem Box.alloc {w : World} {b : Nat} {v0 v1 : Value} (h : Box w b v0 v1) (o : Obj) : Box (w.alloc o) b v0 v1 := h.below ((Below.refl _ _).alloc (Nat.le_refl _) _)
theorem Box.new2 (w : World) (o : Obj) (v0 v1 : Value) (t : TypeId) : Box ((w.alloc o).alloc (.cells #[v0, v1] t)) (w.heap.size + 1) v0 v1 := by simpa using Box.new (w.alloc o) v0 v1 t
/-- A box of two cells that may be written. -/
structure R2 (w : World) (b : Nat) (v0 v1 : Value) : Prop where
  c0 : w.cell? ⟨b, 0, none⟩ = some v0
  c1 : w.cell? ⟨b, 1, none⟩ = some v1
  f0 : w.frozen? ⟨b, 0, none⟩ = false
  f1 : w.frozen? ⟨b, 1, none⟩ = false
theorem R2.below {w w' : World} {b : Nat} {v0 v1 : Value} (h : R2 w b v0 v1) (hb : Below w.heap.size w w') : R2 w' b v0 v1 := by
  have hlt := World.block_lt_of_cell? w _ h.c0
  exact ⟨(hb.cell (p := ⟨b, 0, none⟩) hlt).trans h.c0, (hb.cell (p := ⟨b, 1, none⟩) hlt).trans h.c1, (hb.frozen (p := ⟨b, 0, none⟩) hlt).trans h.f0, (hb.frozen (p := ⟨b, 1, none⟩) hlt).trans h.f1⟩
theorem R2.new (w : World) (v0 v1 : Value) (t : TypeId) : R2 (w.alloc (.cells #[v0, v1] t)) w.heap.size v0 v1 := ⟨by simp, by simp, by simp, by simp⟩
theorem R2.new2 (w : World) (o : Obj) (v0 v1 : Value) (t : TypeId) : R2 ((w.alloc o).alloc (.cells #[v0, v1] t)) (w.heap.size + 1) v0 v1 := ⟨by simp, by simp, by simp, by simp⟩
theorem R2.alloc {w : World} {b : Nat} {v0 v1 : Value} (h : R2 w b v0 v1) (o : Obj) : R2 (w.alloc o) b v0 v1 := h.below ((Below.refl _ _).alloc (Nat.le_refl _) _)
theorem R2.drew {w : World} {b : Nat} {v0 v1 : Value} (h : R2 w b v0 v1) : R2 w.drew b v0 v1 := ⟨h.c0, h.c1, h.f0, h.f1⟩
theorem R2.grown {w w' : World} {b : Nat} {v0 v1 : Value} {g : Nat} (h : R2 w b v0 v1) (hg : w.grownBy w' (some g)) (hne : b ≠ g) : R2 w' b v0 v1 := by
  have hlt := World.block_lt_of_cell? w _ h.c0
  have e := hg.block b hlt (by simpa using hne)
  exact ⟨(World.cell?_of_block (a := ⟨b, 0, none⟩) e).trans h.c0, (World.cell?_of_block (a := ⟨b, 1, none⟩) e).trans h.c1, (World.frozen?_of_block (a := ⟨b, 0, none⟩) e).trans h.f0, (World.frozen?_of_block (a := ⟨b, 1, none⟩) e).trans h.f1⟩
theorem Own.base {w : World} {B B' : Nat} {a : Option Addr} {cap : Nat} {zs : List Int} (h : Own w B a cap zs) (hB : B' ≤ B) : Own w B' a cap zs := own_base h hB
theorem Own.alloc {w : World} {B : Nat} {a : Option Addr} {cap : Nat} {zs : List Int} (h : Own w B a cap zs) (o : Obj) : Own (w.alloc o) B a cap zs := World.ownsRow.alloc h o
theorem Own.drew {w : World} {B : Nat} {a : Option Addr} {cap : Nat} {zs : List Int} (h : Own w B a cap zs) : Own w.drew B a cap zs := h
theorem Own.setBelow {w : World} {B : Nat} {a : Option Addr} {cap : Nat} {zs : List Int} (h : Own w B a cap zs) {p : Addr} (hp : p.block < B) (u : Value) : Own (w.setCell p u) B a cap zs := ownsRow_setCell_below h hp u
theorem Own.setOther {w : World} {B : Nat} {a : Option Addr} {cap : Nat} {zs : List Int} (h : Own w B a cap zs) {p : Addr} (hp : ∀ g, a = some ⟨g, 0, none⟩ → g ≠ p.block) (u : Value) : Own (w.setCell p u) B a cap zs := by
  refine ⟨h.1, ?_⟩
  rcases h.2 with h2 | ⟨g, cap', cur, h1, h2, h3, h4⟩
  · exact .inl h2
  · refine .inr ⟨g, cap', cur, h1, h2, ?_, h4⟩
    rw [Below.heap_setCell w p u g (hp g (by simpa using (Value.slice.inj h1).1))]; exact h3
theorem R2.other {w : World} {b : Nat} {v0 v1 : Value} (h : R2 w b v0 v1) {p : Addr} (hp : b ≠ p.block) (u : Value) : R2 (w.setCell p u) b v0 v1 := by
  have e := Below.heap_setCell w p u b hp
  exact ⟨(World.cell?_of_block (a := ⟨b, 0, none⟩) e).trans h.c0, (World.cell?_of_block (a := ⟨b, 1, none⟩) e).trans h.c1, (World.frozen?_of_block (a := ⟨b, 0, none⟩) e).trans h.f0, (World.frozen?_of_block (a := ⟨b, 1, none⟩) e).trans h.f1⟩
theorem R2.set {w : World} {b : Nat} {v0 v1 : Value} (h : R2 w b v0 v1) (a0 a1 : Value) : R2 ((w.setCell ⟨b, 0, none⟩ a0).setCell ⟨b, 1, none⟩ a1) b a0 a1 := by
  obtain ⟨h0, h1, f0, f1⟩ := h
  exact ⟨by simp [go_sem, h0, h1], by simp [go_sem, h0, h1], by simp [go_sem, f0, f1], by simp [go_sem, f0, f1]⟩
theorem Own.of_row {w : World} {base b : Nat} {zs : List Int} {f : Nat → Value} (h : w.rowIs b 121 zs.length f) (hf : ∀ i, i < zs.length → f i = .int .u32 (zs.getD i 0)) (hb : base ≤ b) (hm : zs.length ≤ maxLen) :
    Own w base (some ⟨b, 0, none⟩) zs.length zs := by
  obtain ⟨c, h1, h2, h3⟩ := h
  refine ⟨by simp, .inr ⟨b, zs.length, c, rfl, hb, h1, Nat.le_refl _, hm, by simpa using h2, ?_⟩⟩
  apply List.ext_getElem?
  intro i
  by_cases hi : i < zs.length
  · have := h3 i hi
    rw [hf i hi] at this
    simp [hi, this, List.getD_eq_getElem?_getD]
  · simp [hi]; omega

end Go.Proofs.Ytmnfidkpnogfmaa
