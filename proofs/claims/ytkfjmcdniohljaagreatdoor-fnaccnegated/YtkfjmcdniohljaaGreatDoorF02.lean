/-
  What is needed of Mem, LawsA, WideA.
-/
import Derived.Deep.OwnRows
import Derived.Test.YtkfjmcdniohljaaGreatDoorF00
set_option maxHeartbeats 16000000
set_option maxRecDepth 1000000
namespace Go.Proofs.YtkfjmcdniohljaaGreatDoor
set_option linter.unusedVariables false
set_option linter.unusedSimpArgs false
open Go.RowKit Go.Deep
def Sl (k : IntKind) (w : World) (v : Value) (zs : List Int) : Prop :=
 ∃ a cap, v = .slice a zs.length cap ∧ zs.length ≤ cap ∧ cap ≤ maxLen ∧
  (zs = [] ∨ ∃ b off, a = some ⟨b, off, none⟩ ∧ ∀ i, i < zs.length → w.cell? ⟨b, off + i, none⟩ = some (.int k (zs.getD i 0)))

theorem Sl.below {k : IntKind} {w w' : World} {v : Value} {zs : List Int} (h : Sl k w v zs) (hb : Below w.heap.size w w') : Sl k w' v zs := by
 obtain ⟨a, cap, rfl, h1, h2, h3⟩ := h
 refine ⟨a, cap, rfl, h1, h2, ?_⟩
 rcases h3 with h3 | ⟨b, off, rfl, hc⟩
 ·exact .inl h3
 ·refine .inr ⟨b, off, rfl, fun i hi => ?_⟩
  have := hc i hi
  rw [hb.cell (p := ⟨b, off + i, none⟩) (World.block_lt_of_cell? w _ this)]; exact this

theorem Sl.nil (k : IntKind) (w : World) : Sl k w (.slice none 0 0) [] := ⟨none, 0, rfl, Nat.le_refl _, Nat.zero_le _, .inl rfl⟩

theorem Sl.of_own {k : IntKind} {w : World} {base : Nat} {e : TypeId} {v : Value} {zs : List Int} (h : w.ownsRow base e 1 v zs.length (zs.map (Value.int k))) : Sl k w v zs := by
 obtain ⟨h1, h2⟩ := h
 rcases h2 with ⟨rfl, hn⟩ | ⟨g, cap, cur, rfl, hb, hh, hl, hm, hs, ht⟩
 ·have : zs = [] := List.eq_nil_of_length_eq_zero hn
  subst this; exact Sl.nil k w
 ·refine ⟨some ⟨g, 0, none⟩, cap, rfl, hl, hm, .inr ⟨g, 0, rfl, fun i hi => ?_⟩⟩
  have e1 : (cur.toList.take (zs.length * 1))[i]? = (zs.map (Value.int k))[i]? := by rw [ht]
  rw [Nat.mul_one, List.getElem?_take_of_lt hi, List.getElem?_map, List.getElem?_eq_getElem hi] at e1
  simp only [World.cell?, hh, Nat.zero_add]
  simp only [Array.getElem?_toList] at e1
  simp [e1, List.getD_eq_getElem?_getD, List.getElem?_eq_getElem hi]

theorem Sl.alloc {k : IntKind} {w : World} {v : Value} {zs : List Int} (h : Sl k w v zs) (o : Obj) : Sl k (w.alloc o) v zs := h.below ((Below.refl _ _).alloc (Nat.le_refl _) _)
theorem Sl.drew {k : IntKind} {w : World} {v : Value} {zs : List Int} (h : Sl k w v zs) : Sl k w.drew v zs := h
theorem Sl.of_cells {k : IntKind} {w : World} {x : Addr} {l c : Nat} {zs : List Int} (hl : l ≤ c) (hm : c ≤ maxLen) (hz : zs.length = c) (hcell : ∀ i, i < zs.length → w.cell? (x.add i) = some (.int k (zs.getD i 0))) :
  Sl k w (.slice (some x) l c) (zs.take l) := by
 have hlen : (zs.take l).length = l := by simp; omega
 refine ⟨some x, c, by rw [hlen], by rw [hlen]; exact hl, hm, ?_⟩
 by_cases h0 : l = 0
 ·left; simp [h0]
 ·right
  obtain ⟨b, off, spot⟩ := x
  have hc := hcell 0 (by omega)
  have hspot : spot = none := by simpa [Addr.add] using World.cell?_spot hc
  subst hspot
  refine ⟨b, off, rfl, fun i hi => ?_⟩
  rw [hlen] at hi
  have := hcell i (by omega)
  simp only [Addr.add] at this
  rw [List.getD_eq_getElem?_getD, List.getElem?_take_of_lt hi, ← List.getD_eq_getElem?_getD]
  by_cases e : i = 0
  ·subst e; simpa using this
  ·rw [if_neg e] at this; exact this

theorem bcell {W w1 : World} (hb : Below W.heap.size W w1) : (∀ b o, b < W.heap.size → w1.cell? ⟨b, o, none⟩ = W.cell? ⟨b, o, none⟩) ∧ (∀ b o, b < W.heap.size → w1.frozen? ⟨b, o, none⟩ = W.frozen? ⟨b, o, none⟩) :=
 ⟨fun b o h => hb.cell (p := ⟨b, o, none⟩) h, fun b o h => hb.frozen (p := ⟨b, o, none⟩) h⟩

theorem Sl.cells {k : IntKind} {w : World} {a : Option Addr} {n cap : Nat} {zs : List Int} (h : Sl k w (.slice a n cap) zs) : n = zs.length ∧ zs.length ≤ cap ∧ cap ≤ maxLen ∧ (0 < zs.length → ∃ b off, a = some ⟨b, off, none⟩ ∧ ∀ i, i < zs.length → w.cell? ⟨b, off + i, none⟩ = some (.int k (zs.getD i 0))) := by
 obtain ⟨a0, cap0, he, hc1, hc2, hz⟩ := h
 simp at he; obtain ⟨rfl, rfl, rfl⟩ := he
 refine ⟨rfl, hc1, hc2, fun hp => ?_⟩
 rcases hz with rfl | hz
 ·simp at hp
 ·exact hz


theorem own_base {w : World} {B B' : Nat} {e : TypeId} {size : Nat} {v : Value} {n : Nat} {xs : List Value} (h : w.ownsRow B e size v n xs) (hB : B' ≤ B) : w.ownsRow B' e size v n xs := by
 obtain ⟨h1, h2⟩ := h
 refine ⟨h1, ?_⟩
 rcases h2 with h2 | ⟨g, cap, cur, e1, e2, e3⟩
 ·exact .inl h2
 ·exact .inr ⟨g, cap, cur, e1, Nat.le_trans hB e2, e3⟩
def Own (w : World) (B : Nat) (a : Option Addr) (cap : Nat) (zs : List Int) : Prop := w.ownsRow B 128 1 (.slice a zs.length cap) zs.length (zs.map (Value.int .u32))
theorem Own.sl {w : World} {B : Nat} {a : Option Addr} {cap : Nat} {zs : List Int} (h : Own w B a cap zs) : Sl .u32 w (.slice a zs.length cap) zs := Sl.of_own h
theorem Own.block {w : World} {B : Nat} {a : Option Addr} {cap : Nat} {zs : List Int} (h : Own w B a cap zs) : (a = none ∧ cap = 0 ∧ zs = []) ∨ ∃ g, a = some ⟨g, 0, none⟩ ∧ B ≤ g ∧ g < w.heap.size := by
 rcases h.2 with ⟨h1, h2⟩ | ⟨g, cap', cur, h1, h2, h3, _⟩
 ·simp at h1; exact .inl ⟨h1.1, h1.2.2, h1.2.1⟩
 ·simp at h1; exact .inr ⟨g, h1.1, h2, (Array.getElem?_eq_some_iff.1 h3).1⟩
theorem Own.below {w w' : World} {B : Nat} {a : Option Addr} {cap : Nat} {zs : List Int} (h : Own w B a cap zs) (hb : Below w.heap.size w w') : Own w' B a cap zs := by
 refine ⟨h.1, ?_⟩
 rcases h.2 with h2 | ⟨g, cap', cur, h1, h2, h3, h4⟩
 ·exact .inl h2
 ·exact .inr ⟨g, cap', cur, h1, h2, by rw [hb.block g (Array.getElem?_eq_some_iff.1 h3).1]; exact h3, h4⟩
theorem Own.kept {w w' : World} {B : Nat} {a : Option Addr} {cap : Nat} {zs : List Int} {row : Option Nat} (h : Own w B a cap zs) (hg : w.grownBy w' row) (hne : ∀ g, a = some ⟨g, 0, none⟩ → row ≠ some g) : Own w' B a cap zs := by
 refine World.ownsRow.kept h hg ?_
 rcases h.block with ⟨rfl, _⟩ | ⟨g, rfl, _⟩
 ·exact .inl rfl
 ·exact .inr (fun e => hne g rfl (by rw [← e]; rfl))

def Box (w : World) (b : Nat) (v0 v1 : Value) : Prop := w.cell? ⟨b, 0, none⟩ = some v0 ∧ w.cell? ⟨b, 1, none⟩ = some v1
theorem Box.below {w w' : World} {b : Nat} {v0 v1 : Value} (h : Box w b v0 v1) (hb : Below w.heap.size w w') : Box w' b v0 v1 := by
 have hlt := World.block_lt_of_cell? w _ h.1
 exact ⟨(hb.cell (p := ⟨b, 0, none⟩) hlt).trans h.1, (hb.cell (p := ⟨b, 1, none⟩) hlt).trans h.2⟩
theorem Box.new (w : World) (v0 v1 : Value) (t : TypeId) : Box (w.alloc (.cells #[v0, v1] t)) w.heap.size v0 v1 := ⟨by simp, by simp⟩
theorem Box.alloc {w : World} {b : Nat} {v0 v1 : Value} (h : Box w b v0 v1) (o : Obj) : Box (w.alloc o) b v0 v1 := h.below ((Below.refl _ _).alloc (Nat.le_refl _) _)
theorem Box.new2 (w : World) (o : Obj) (v0 v1 : Value) (t : TypeId) : Box ((w.alloc o).alloc (.cells #[v0, v1] t)) (w.heap.size + 1) v0 v1 := by simpa using Box.new (w.alloc o) v0 v1 t
structure R2 (w : World) (b : Nat) (v0 v1 : Value) : Prop where
 c0 : w.cell? ⟨b, 0, none⟩ = some v0
 c1 : w.cell? ⟨b, 1, none⟩ = some v1
 f0 : w.frozen? ⟨b, 0, none⟩ = false
 f1 : w.frozen? ⟨b, 1, none⟩ = false
theorem R2.below {w w' : World} {b : Nat} {v0 v1 : Value} (h : R2 w b v0 v1) (hb : Below w.heap.size w w') : R2 w' b v0 v1 := by
 have hlt := World.block_lt_of_cell? w _ h.c0
 exact ⟨(hb.cell (p := ⟨b, 0, none⟩) hlt).trans h.c0, (hb.cell (p := ⟨b, 1, none⟩) hlt).trans h.c1, (hb.frozen (p := ⟨b, 0, none⟩) hlt).trans h.f0, (hb.frozen (p := ⟨b, 1, none⟩) hlt).trans h.f1⟩
theorem R2.new (w : World) (v0 v1 : Value) (t : TypeId) : R2 (w.alloc (.cells #[v0, v1] t)) w.heap.size v0 v1 := ⟨by simp, by simp, by simp, by simp⟩
theorem R2.new2 (w : World) (o : Obj) (v0 v1 : Value) (t : TypeId) : R2 ((w.alloc o).alloc (.cells #[v0, v1] t)) (w.heap.size + 1) v0 v1 := ⟨by simp, by simp, by simp, by simp⟩
theorem R2.alloc {w : World} {b : Nat} {v0 v1 : Value} (h : R2 w b v0 v1) (o : Obj) : R2 (w.alloc o) b v0 v1 := h.below ((Below.refl _ _).alloc (Nat.le_refl _) _)
theorem R2.drew {w : World} {b : Nat} {v0 v1 : Value} (h : R2 w b v0 v1) : R2 w.drew b v0 v1 := ⟨h.c0, h.c1, h.f0, h.f1⟩
theorem R2.grown {w w' : World} {b : Nat} {v0 v1 : Value} {g : Nat} (h : R2 w b v0 v1) (hg : w.grownBy w' (some g)) (hne : b ≠ g) : R2 w' b v0 v1 := by
 have hlt := World.block_lt_of_cell? w _ h.c0
 have e := hg.block b hlt (by simpa using hne)
 exact ⟨(World.cell?_of_block (a := ⟨b, 0, none⟩) e).trans h.c0, (World.cell?_of_block (a := ⟨b, 1, none⟩) e).trans h.c1, (World.frozen?_of_block (a := ⟨b, 0, none⟩) e).trans h.f0, (World.frozen?_of_block (a := ⟨b, 1, none⟩) e).trans h.f1⟩
theorem Own.base {w : World} {B B' : Nat} {a : Option Addr} {cap : Nat} {zs : List Int} (h : Own w B a cap zs) (hB : B' ≤ B) : Own w B' a cap zs := own_base h hB
theorem Own.alloc {w : World} {B : Nat} {a : Option Addr} {cap : Nat} {zs : List Int} (h : Own w B a cap zs) (o : Obj) : Own (w.alloc o) B a cap zs := World.ownsRow.alloc h o
theorem Own.drew {w : World} {B : Nat} {a : Option Addr} {cap : Nat} {zs : List Int} (h : Own w B a cap zs) : Own w.drew B a cap zs := h
theorem Own.setBelow {w : World} {B : Nat} {a : Option Addr} {cap : Nat} {zs : List Int} (h : Own w B a cap zs) {p : Addr} (hp : p.block < B) (u : Value) : Own (w.setCell p u) B a cap zs := ownsRow_setCell_below h hp u
theorem Own.setOther {w : World} {B : Nat} {a : Option Addr} {cap : Nat} {zs : List Int} (h : Own w B a cap zs) {p : Addr} (hp : ∀ g, a = some ⟨g, 0, none⟩ → g ≠ p.block) (u : Value) : Own (w.setCell p u) B a cap zs := by
 refine ⟨h.1, ?_⟩
 rcases h.2 with h2 | ⟨g, cap', cur, h1, h2, h3, h4⟩
 ·exact .inl h2
 ·refine .inr ⟨g, cap', cur, h1, h2, ?_, h4⟩
  rw [Below.heap_setCell w p u g (hp g (by simpa using (Value.slice.inj h1).1))]; exact h3
theorem R2.other {w : World} {b : Nat} {v0 v1 : Value} (h : R2 w b v0 v1) {p : Addr} (hp : b ≠ p.block) (u : Value) : R2 (w.setCell p u) b v0 v1 := by
 have e := Below.heap_setCell w p u b hp
 exact ⟨(World.cell?_of_block (a := ⟨b, 0, none⟩) e).trans h.c0, (World.cell?_of_block (a := ⟨b, 1, none⟩) e).trans h.c1, (World.frozen?_of_block (a := ⟨b, 0, none⟩) e).trans h.f0, (World.frozen?_of_block (a := ⟨b, 1, none⟩) e).trans h.f1⟩
theorem R2.set {w : World} {b : Nat} {v0 v1 : Value} (h : R2 w b v0 v1) (a0 a1 : Value) : R2 ((w.setCell ⟨b, 0, none⟩ a0).setCell ⟨b, 1, none⟩ a1) b a0 a1 := by
 obtain ⟨h0, h1, f0, f1⟩ := h
 exact ⟨by simp [go_sem, h0, h1], by simp [go_sem, h0, h1], by simp [go_sem, f0, f1], by simp [go_sem, f0, f1]⟩
theorem Own.of_row {w : World} {base b : Nat} {zs : List Int} {f : Nat → Value} (h : w.rowIs b 128 zs.length f) (hf : ∀ i, i < zs.length → f i = .int .u32 (zs.getD i 0)) (hb : base ≤ b) (hm : zs.length ≤ maxLen) :
  Own w base (some ⟨b, 0, none⟩) zs.length zs := by
 obtain ⟨c, h1, h2, h3⟩ := h
 refine ⟨by simp, .inr ⟨b, zs.length, c, rfl, hb, h1, Nat.le_refl _, hm, by simpa using h2, ?_⟩⟩
 apply List.ext_getElem?
 intro i
 by_cases hi : i < zs.length
 ·have := h3 i hi
  rw [hf i hi] at this
  simp [hi, this, List.getD_eq_getElem?_getD]
 ·simp [hi]; omega

theorem info32 : (Tryz.prog.info? 128).map (fun i => (i.zero, i.size, i.bytes)) = some (some (.int .u32 0), 1, 4) := by kernel_rfl

def okB (ng : Bool) (zs : List Int) : Bool := if zs.length = 0 then !ng else decide (zs.length ≤ 200) && !decide (zs.getD (zs.length - 1) 0 = 0)

theorem ok_impl (ng : Bool) (a : Option Addr) (cap : Nat) (zs : List Int) (w : World) (hs : Sl .u32 w (.slice a zs.length cap) zs) (hl : zs.length ≤ 140737488355328) :
  Calls Tryz.prog 104 #[.agg #[.bool ng, .slice a zs.length cap]] w fun e w' => e = .returned (.bool (okB ng zs)) ∧ Below w.heap.size w w' := by
 obtain ⟨a0, cap0, he, hc1, hc2, hz⟩ := hs
 simp at he; obtain ⟨rfl, rfl⟩ := he
 by_cases h0 : zs.length = 0
 ·have H : Hid (okB ng zs = !ng) := hid (by unfold okB; rw [if_pos h0])
  have hb0 : ((zs.length : Int) == 0) = true := by rw [beq_iff_eq]; omega
  go_enter Tryz.func104, Tryz.ntmps104
  go_wp2
  go_ret
  exact ⟨ret_bool H.out.symm, (by repeat (first | exact bz0 _ _ | refine bz1 ?_ | refine bz2 ?_ _ | refine bz3 ?_ _ | refine bz5 ?_ _ | refine bz6 ?_ _))⟩
 ·obtain ⟨b, off, rfl, hcell⟩ : ∃ b off, a = some ⟨b, off, none⟩ ∧ ∀ i, i < zs.length → w.cell? ⟨b, off + i, none⟩ = some (.int .u32 (zs.getD i 0)) := by
   rcases hz with rfl | hz
   ·simp at h0
   ·exact hz
  clear hz
  have hb0 : ((zs.length : Int) == 0) = false := by rw [beq_eq_false_iff_ne]; omega
  have hc0 := hcell (zs.length - 1) (by omega)
  have hlt := World.block_lt_of_cell? w _ hc0
  generalize hz : zs.getD (zs.length - 1) 0 = z at hc0
  by_cases h2 : zs.length ≤ 200
  ·by_cases h3 : z = 0
   ·have H : Hid (okB ng zs = false) := hid (by unfold okB; rw [if_neg h0, hz]; simp [h3])
    clear hcell hz
    have h3' : (z != 0) = false := by simp [h3]
    go_enter Tryz.func104, Tryz.ntmps104
    go_wp2
    go_ret
    exact ⟨ret_bool H.out.symm, (by repeat (first | exact bz0 _ _ | refine bz1 ?_ | refine bz2 ?_ _ | refine bz3 ?_ _ | refine bz5 ?_ _ | refine bz6 ?_ _))⟩
   ·have H : Hid (okB ng zs = true) := hid (by unfold okB; rw [if_neg h0, hz]; simp [h3, h2])
    clear hcell hz
    have h3' : (z != 0) = true := by simp [h3]
    go_enter Tryz.func104, Tryz.ntmps104
    go_wp2
    go_ret
    exact ⟨ret_bool H.out.symm, (by repeat (first | exact bz0 _ _ | refine bz1 ?_ | refine bz2 ?_ _ | refine bz3 ?_ _ | refine bz5 ?_ _ | refine bz6 ?_ _))⟩
  ·have H : Hid (okB ng zs = false) := hid (by unfold okB; rw [if_neg h0]; simp [h2])
   clear hcell hz
   go_enter Tryz.func104, Tryz.ntmps104
   go_wp2
   go_ret
   exact ⟨ret_bool H.out.symm, (by repeat (first | exact bz0 _ _ | refine bz1 ?_ | refine bz2 ?_ _ | refine bz3 ?_ _ | refine bz5 ?_ _ | refine bz6 ?_ _))⟩
theorem ok_spec (ng : Bool) (a : Option Addr) (cap : Nat) (zs : List Int) (w : World) (hs : Sl .u32 w (.slice a zs.length cap) zs) (hl : zs.length ≤ 140737488355328) :
  Calls Tryz.prog 141 #[.agg #[.bool ng, .slice a zs.length cap]] w fun e w' => e = .returned (.bool (okB ng zs)) ∧ Below w.heap.size w w' := by
 obtain ⟨a0, cap0, he, hc1, hc2, hz⟩ := hs
 simp at he; obtain ⟨rfl, rfl⟩ := he
 by_cases h0 : zs.length = 0
 ·have H : Hid (okB ng zs = !ng) := hid (by unfold okB; rw [if_pos h0])
  have hb0 : ((zs.length : Int) == 0) = true := by rw [beq_iff_eq]; omega
  go_enter Tryz.func141, Tryz.ntmps141
  go_wp2
  go_ret
  exact ⟨ret_bool H.out.symm, (by repeat (first | exact bz0 _ _ | refine bz1 ?_ | refine bz2 ?_ _ | refine bz3 ?_ _ | refine bz5 ?_ _ | refine bz6 ?_ _))⟩
 ·obtain ⟨b, off, rfl, hcell⟩ : ∃ b off, a = some ⟨b, off, none⟩ ∧ ∀ i, i < zs.length → w.cell? ⟨b, off + i, none⟩ = some (.int .u32 (zs.getD i 0)) := by
   rcases hz with rfl | hz
   ·simp at h0
   ·exact hz
  clear hz
  have hb0 : ((zs.length : Int) == 0) = false := by rw [beq_eq_false_iff_ne]; omega
  have hc0 := hcell (zs.length - 1) (by omega)
  have hlt := World.block_lt_of_cell? w _ hc0
  generalize hz : zs.getD (zs.length - 1) 0 = z at hc0
  by_cases h2 : zs.length ≤ 200
  ·by_cases h3 : z = 0
   ·have H : Hid (okB ng zs = false) := hid (by unfold okB; rw [if_neg h0, hz]; simp [h3])
    clear hcell hz
    have h3' : (z != 0) = false := by simp [h3]
    go_enter Tryz.func141, Tryz.ntmps141
    go_wp2
    go_ret
    exact ⟨ret_bool H.out.symm, (by repeat (first | exact bz0 _ _ | refine bz1 ?_ | refine bz2 ?_ _ | refine bz3 ?_ _ | refine bz5 ?_ _ | refine bz6 ?_ _))⟩
   ·have H : Hid (okB ng zs = true) := hid (by unfold okB; rw [if_neg h0, hz]; simp [h3, h2])
    clear hcell hz
    have h3' : (z != 0) = true := by simp [h3]
    go_enter Tryz.func141, Tryz.ntmps141
    go_wp2
    go_ret
    exact ⟨ret_bool H.out.symm, (by repeat (first | exact bz0 _ _ | refine bz1 ?_ | refine bz2 ?_ _ | refine bz3 ?_ _ | refine bz5 ?_ _ | refine bz6 ?_ _))⟩
  ·have H : Hid (okB ng zs = false) := hid (by unfold okB; rw [if_neg h0]; simp [h2])
   clear hcell hz
   go_enter Tryz.func141, Tryz.ntmps141
   go_wp2
   go_ret
   exact ⟨ret_bool H.out.symm, (by repeat (first | exact bz0 _ _ | refine bz1 ?_ | refine bz2 ?_ _ | refine bz3 ?_ _ | refine bz5 ?_ _ | refine bz6 ?_ _))⟩

def fitL (zs : List Int) : List Int := if (Nm.trim zs).length ≤ 200 then Nm.trim zs else []
def fitN (ng : Bool) (zs : List Int) : Bool := if (Nm.trim zs).length ≤ 200 then ng && !decide ((Nm.trim zs).length = 0) else false
def fitO (zs : List Int) : Bool := decide ((Nm.trim zs).length ≤ 200)

theorem Own.nil (w : World) (B : Nat) : Own w B none 0 [] := World.ownsRow_nil w B 128 1
theorem Own.take {w : World} {B : Nat} {a : Option Addr} {cap : Nat} {zs : List Int} (h : Own w B a cap zs) (n : Nat) (hn : n ≤ zs.length) : Own w B a cap (zs.take n) := by
 have hlen : (zs.take n).length = n := by simp; omega
 rcases h.2 with ⟨h1, h2⟩ | ⟨g, cap', cur, h1, h2, h3, h4, h5, h6, h7⟩
 ·simp at h1
  obtain ⟨rfl, hz, rfl⟩ := h1
  subst hz
  simp
  exact Own.nil w B
 ·simp only [Value.slice.injEq, true_and] at h1
  obtain ⟨rfl, rfl⟩ := h1
  refine ⟨by simp, .inr ⟨g, cap, cur, by rw [hlen], h2, h3, by rw [hlen]; omega, h5, h6, ?_⟩⟩
  rw [hlen, List.map_take, ← h7, List.take_take, Nat.mul_one, Nat.mul_one, Nat.min_eq_left hn]

theorem fit_cases (ng : Bool) (zs : List Int) {n : Nat} (h : Nm.trim zs = zs.take n) (hn : n ≤ zs.length) :
  (n = 0 → fitL zs = [] ∧ fitN ng zs = false ∧ fitO zs = true) ∧ (200 < n → fitL zs = [] ∧ fitN ng zs = false ∧ fitO zs = false) ∧ (0 < n → n ≤ 200 → fitL zs = zs.take n ∧ fitN ng zs = ng ∧ fitO zs = true) := by
 have hlen : (zs.take n).length = n := by simp; omega
 unfold fitL fitN fitO
 rw [h, hlen]
 refine ⟨fun e => ?_, fun e => ?_, fun e1 e2 => ?_⟩
 ·subst e; simp
 ·rw [if_neg (by omega), if_neg (by omega)]; simp; omega
 ·rw [if_pos e2, if_pos e2]; simp [show n ≠ 0 by omega, e2]

theorem fitted_at (ng : Bool) (a : Option Addr) (cap : Nat) (zs : List Int) (B : Nat) (w : World) (ho : Own w B a cap zs) (hz : Nm.Dg zs) (hl : zs.length ≤ 1048576) :
  Calls Tryz.prog 105 #[.bool ng, .slice a zs.length cap] w fun e w' => ∃ a' c', e = .returned (.tuple #[.agg #[.bool (fitN ng zs), .slice a' (fitL zs).length c'], .bool (fitO zs)]) ∧ Own w' B a' c' (fitL zs) ∧ Below w.heap.size w w' ∧ (a' = none ∨ a' = a) := by
 obtain ⟨-, hc1, hc2, hc3⟩ := ho.sl.cells
 go_enter Tryz.func105, Tryz.ntmps105
 go_wp2_with fail
 go_loop [6] (fun i => ∃ n : Nat, n ≤ zs.length ∧ i = .int .i64 n ∧ (∀ i, n ≤ i → i < zs.length → zs.getD i 0 = 0)) (fun i => (intOf i).toNat)
 case atStart => exact ⟨zs.length, Nat.le_refl _, rfl, fun i h1 h2 => absurd h2 (by omega)⟩
 case round =>
  obtain ⟨n, hn, rfl, hpre⟩ := hrel
  have PRE := hid hpre
  clear hpre
  by_cases h0 : n = 0
  ·subst h0
   have hT := Nm.trim_take hz (Nat.zero_le _) PRE.out (.inl rfl)
   obtain ⟨e1, e2, e3⟩ := (fit_cases ng zs hT (Nat.zero_le _)).1 rfl
   have HF := hid (And.intro e1 (And.intro e2 e3))
   clear hT e1 e2 e3 hc3
   go_wp2
   refine bodyPost_ret (v := .tuple #[.agg #[.bool false, .slice none 0 0], .bool true]) (by simp [results, Tryz.results105, go_sem]) rfl ⟨none, 0, ?_, ?_, (by repeat (first | exact bz0 _ _ | refine bz1 ?_ | refine bz2 ?_ _ | refine bz3 ?_ _ | refine bz5 ?_ _ | refine bz6 ?_ _)), .inl rfl⟩
   ·rw [HF.out.1, HF.out.2.1, HF.out.2.2]; rfl
   ·rw [HF.out.1]; exact Own.nil _ _
  ·obtain ⟨b, off, rfl, hcell⟩ := hc3 (by omega)
   have hcx := hcell (n - 1) (by omega)
   have hlt := World.block_lt_of_cell? w _ hcx
   obtain ⟨z, hzk⟩ : ∃ z, z = zs.getD (n - 1) 0 := ⟨_, rfl⟩
   rw [← hzk] at hcx
   have HZ := hid hzk
   clear hzk hcell hc3
   have hn1 : 1 ≤ n := by omega
   by_cases hz0 : z = 0
   ·have t0 : (z == 0) = true := by simpa using hz0
    have HZ0 := hid hz0
    clear hz0
    go_wp2
    go_round
    case rel => exact ⟨n - 1, by omega, by go_num, fun i h1 h2 => by
     by_cases e : i = n - 1
     ·subst e; rw [← HZ.out]; exact HZ0.out
     ·exact PRE.out i (by omega) h2⟩
    case measure => simp [intOf]; omega
   ·have t0 : (z == 0) = false := by simpa using hz0
    have hT := Nm.trim_take hz hn PRE.out (.inr (by rw [← HZ.out]; exact hz0))
    have hfc := fit_cases ng zs hT hn
    have HF := hid hfc
    have tn : ((n : Int) == 0) = false := by rw [beq_eq_false_iff_ne]; omega
    clear hfc hT hz0
    by_cases h200 : n ≤ 200
    ·go_wp2
     refine bodyPost_ret (v := .tuple #[.agg #[.bool ng, .slice (some ⟨b, off, none⟩) n cap], .bool true]) (by simp [results, Tryz.results105, go_sem]) rfl ⟨some ⟨b, off, none⟩, cap, ?_, ?_, (by repeat (first | exact bz0 _ _ | refine bz1 ?_ | refine bz2 ?_ _ | refine bz3 ?_ _ | refine bz5 ?_ _ | refine bz6 ?_ _)), .inr rfl⟩
     ·obtain ⟨e1, e2, e3⟩ := HF.out.2.2 hn1 h200
      rw [e1, e2, e3, List.length_take, Nat.min_eq_left hn]
     ·obtain ⟨e1, e2, e3⟩ := HF.out.2.2 hn1 h200
      rw [e1]
      exact (ho.take n hn).below (by repeat (first | exact bz0 _ _ | refine bz1 ?_ | refine bz2 ?_ _ | refine bz3 ?_ _ | refine bz5 ?_ _ | refine bz6 ?_ _))
    ·go_wp2
     refine bodyPost_ret (v := .tuple #[.agg #[.bool false, .slice none 0 0], .bool false]) (by simp [results, Tryz.results105, go_sem]) rfl ⟨none, 0, ?_, ?_, (by repeat (first | exact bz0 _ _ | refine bz1 ?_ | refine bz2 ?_ _ | refine bz3 ?_ _ | refine bz5 ?_ _ | refine bz6 ?_ _)), .inl rfl⟩
     ·obtain ⟨e1, e2, e3⟩ := HF.out.2.1 (by omega)
      rw [e1, e2, e3]; rfl
     ·obtain ⟨e1, e2, e3⟩ := HF.out.2.1 (by omega)
      rw [e1]; exact Own.nil _ _
theorem fitted_any (ng : Bool) (a : Option Addr) (cap : Nat) (zs : List Int) (B : Nat) (w : World) (ho : Own w B a cap zs) (hz : Nm.Dg zs) (hl : zs.length ≤ 1048576) :
  Calls Tryz.prog 105 #[.bool ng, .slice a zs.length cap] w fun e w' => ∃ a' c', e = .returned (.tuple #[.agg #[.bool (fitN ng zs), .slice a' (fitL zs).length c'], .bool (fitO zs)]) ∧ Own w' B a' c' (fitL zs) ∧ Below w.heap.size w w' :=
 (fitted_at ng a cap zs B w ho hz hl).mono fun e w' ⟨a', c', h1, h2, h3, _⟩ => ⟨a', c', h1, h2, h3⟩
end Go.Proofs.YtkfjmcdniohljaaGreatDoor
