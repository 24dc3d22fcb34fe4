/-
  What is needed of NewA, FJ, VO, VT, NA, EF, NB, NO, NC, NT.
-/
import Derived.Lib.SliceRun
import Derived.Shelf.RegionOpenPlain
import Derived.Test.YtkfjmcdniohljaaGreatDoorF12
import Derived.Test.YtkfjmcdniohljaaGreatDoorF18
import Derived.Test.YtkfjmcdniohljaaGreatDoorF29
import Derived.Test.YtkfjmcdniohljaaGreatDoorF31
set_option maxHeartbeats 16000000
set_option maxRecDepth 1000000
namespace Go.Proofs.YtkfjmcdniohljaaGreatDoor
set_option linter.unusedVariables false
set_option linter.unusedSimpArgs false
open Go.RowKit Go.Deep
def nwF (fm : Int) : Int := if fm = 32 ∨ fm = 64 then fm else 0
theorem nform_spec (fm : Int) (w : World) :
  Calls Tryz.prog 96 #[.int .i64 fm] w fun e w' => e = .returned (.bool (!(nwF fm == 0))) ∧ Below w.heap.size w w' := by
 by_cases h1 : fm = 32
 ·subst h1
  go_enter Tryz.func96, Tryz.ntmps96
  go_wp2
  go_ret
  exact ⟨rfl, Below.refl _ _⟩
 ·by_cases h2 : fm = 64
  ·subst h2
   go_enter Tryz.func96, Tryz.ntmps96
   go_wp2
   go_ret
   exact ⟨rfl, Below.refl _ _⟩
  ·have e1 : (fm == 32) = false := by simpa using h1
   have e2 : (fm == 64) = false := by simpa using h2
   have H : Hid (nwF fm = 0) := hid (by unfold nwF; rw [if_neg (by omega)])
   clear h1 h2
   go_enter Tryz.func96, Tryz.ntmps96
   go_wp2
   go_ret
   exact ⟨ret_bool (by rw [H.out]; rfl), Below.refl _ _⟩
theorem nw_yes {fm : Int} (h : (nwF fm == 0) = false) : nwF fm = fm := by
 unfold nwF at *
 by_cases h1 : fm = 32 ∨ fm = 64
 ·rw [if_pos h1]
 ·rw [if_neg h1] at h; simp at h
theorem new_spec (fm : Int) (w : World) (f : Int) (hf : f = nwF fm) :
  Calls Tryz.prog 40 #[.int .i64 fm] w fun e w' => e = .returned (.agg #[.int .i64 f, .bool false, .slice none 0 0, .int .i64 0, .bool false, .bool false, .bool false, .bool false, .bool false]) ∧ Below w.heap.size w w' := by
 have C := hid (fun w' => nform_spec fm w')
 rw [← hf] at C
 have Q := Q9.new w (.int .i64 0) (.bool false) (.slice none 0 0) (.int .i64 0) (.bool false) (.bool false) (.bool false) (.bool false) (.bool false) 50
 cases h0 : (f == 0) with
 | true =>
  rw [h0] at C
  have hf0 : f = 0 := by simpa using h0
  subst hf0
  clear h0 hf
  go_enter Tryz.func40, Tryz.ntmps40
  go_wp2_with fail
  refine (C.out _).mono ?_
  first | (rintro e w1 ⟨n, rfl, hn, hb1⟩) | (rintro e w1 ⟨rfl, hb1⟩)
  obtain ⟨r0, r1, r2, r3, r4, r5, r6, r7, r8, f0, f1, f2, f3, f4, f5, f6, f7, f8⟩ := Q.below hb1
  clear Q
  go_wp2
  refine bodyPost_ret (v := .agg #[.int .i64 0, .bool false, .slice none 0 0, .int .i64 0, .bool false, .bool false, .bool false, .bool false, .bool false]) (by simp [results, Tryz.results40, go_sem, r0, r1, r2, r3, r4, r5, r6, r7, r8]) rfl ⟨rfl, ?_⟩
  exact (by (repeat with_reducible first | refine Below.setCell ?_ ?_ _ | exact bz0 _ _ | refine bz1 ?_ | refine bz2 ?_ _ | refine bz3 ?_ _ | refine bz4 ?_ hb1 | refine Below.alloc ?_ ?_ _ | refine Below.trans ?_ (Below.mono hb1 ?_)) <;> first | omega | (simp; done) | (simp; omega))
 | false =>
  rw [h0] at C
  have hff : f = fm := by rw [hf]; exact nw_yes (by rw [← hf]; exact h0)
  subst hff
  clear h0 hf
  go_enter Tryz.func40, Tryz.ntmps40
  go_wp2_with fail
  refine (C.out _).mono ?_
  first | (rintro e w1 ⟨n, rfl, hn, hb1⟩) | (rintro e w1 ⟨rfl, hb1⟩)
  obtain ⟨r0, r1, r2, r3, r4, r5, r6, r7, r8, f0, f1, f2, f3, f4, f5, f6, f7, f8⟩ := Q.below hb1
  clear Q
  go_wp2
  refine bodyPost_ret (v := .agg #[.int .i64 f, .bool false, .slice none 0 0, .int .i64 0, .bool false, .bool false, .bool false, .bool false, .bool false]) (by simp [results, Tryz.results40, go_sem, r0, r1, r2, r3, r4, r5, r6, r7, r8]) rfl ⟨rfl, ?_⟩
  exact (by (repeat with_reducible first | refine Below.setCell ?_ ?_ _ | exact bz0 _ _ | refine bz1 ?_ | refine bz2 ?_ _ | refine bz3 ?_ _ | refine bz4 ?_ hb1 | refine Below.alloc ?_ ?_ _ | refine Below.trans ?_ (Below.mono hb1 ?_)) <;> first | omega | (simp; done) | (simp; omega))
namespace Fd
theorem ab32 {x : Int} (h0 : 0 ≤ x) (h1 : x < 4294967296) : absF 32 x = if x < 2147483648 then x else x - 2147483648 := by
 rw [abs32 h1]; split <;> omega
theorem ab64 {x : Int} (h0 : 0 ≤ x) (h1 : x < 18446744073709551616) : absF 64 x = if x < 9223372036854775808 then x else x - 9223372036854775808 := by
 rw [abs64]; split <;> omega
end Fd
def O8 (w : World) (B : Nat) (a : Option Addr) (cap : Nat) (zs : List Int) : Prop := w.ownsRow B 22 1 (.slice a zs.length cap) zs.length (zs.map (Value.int .u64))
theorem O8.sl {w : World} {B : Nat} {a : Option Addr} {cap : Nat} {zs : List Int} (h : O8 w B a cap zs) : Sl .u64 w (.slice a zs.length cap) zs := Sl.of_own h
theorem O8.block {w : World} {B : Nat} {a : Option Addr} {cap : Nat} {zs : List Int} (h : O8 w B a cap zs) : (a = none ∧ cap = 0 ∧ zs = []) ∨ ∃ g, a = some ⟨g, 0, none⟩ ∧ B ≤ g ∧ g < w.heap.size := by
 rcases h.2 with ⟨h1, h2⟩ | ⟨g, cap', cur, h1, h2, h3, _⟩
 ·simp at h1; exact .inl ⟨h1.1, h1.2.2, h1.2.1⟩
 ·simp at h1; exact .inr ⟨g, h1.1, h2, (Array.getElem?_eq_some_iff.1 h3).1⟩
theorem O8.below {w w' : World} {B : Nat} {a : Option Addr} {cap : Nat} {zs : List Int} (h : O8 w B a cap zs) (hb : Below w.heap.size w w') : O8 w' B a cap zs := by
 refine ⟨h.1, ?_⟩
 rcases h.2 with h2 | ⟨g, cap', cur, h1, h2, h3, h4⟩
 ·exact .inl h2
 ·exact .inr ⟨g, cap', cur, h1, h2, by rw [hb.block g (Array.getElem?_eq_some_iff.1 h3).1]; exact h3, h4⟩
theorem O8.kept {w w' : World} {B : Nat} {a : Option Addr} {cap : Nat} {zs : List Int} {row : Option Nat} (h : O8 w B a cap zs) (hg : w.grownBy w' row) (hne : ∀ g, a = some ⟨g, 0, none⟩ → row ≠ some g) : O8 w' B a cap zs := by
 refine World.ownsRow.kept h hg ?_
 rcases h.block with ⟨rfl, _⟩ | ⟨g, rfl, _⟩
 ·exact .inl rfl
 ·exact .inr (fun e => hne g rfl (by rw [← e]; rfl))

theorem O8.base {w : World} {B B' : Nat} {a : Option Addr} {cap : Nat} {zs : List Int} (h : O8 w B a cap zs) (hB : B' ≤ B) : O8 w B' a cap zs := own_base h hB
theorem O8.alloc {w : World} {B : Nat} {a : Option Addr} {cap : Nat} {zs : List Int} (h : O8 w B a cap zs) (o : Obj) : O8 (w.alloc o) B a cap zs := World.ownsRow.alloc h o
theorem O8.drew {w : World} {B : Nat} {a : Option Addr} {cap : Nat} {zs : List Int} (h : O8 w B a cap zs) : O8 w.drew B a cap zs := h
theorem O8.setBelow {w : World} {B : Nat} {a : Option Addr} {cap : Nat} {zs : List Int} (h : O8 w B a cap zs) {p : Addr} (hp : p.block < B) (u : Value) : O8 (w.setCell p u) B a cap zs := ownsRow_setCell_below h hp u
theorem O8.setOther {w : World} {B : Nat} {a : Option Addr} {cap : Nat} {zs : List Int} (h : O8 w B a cap zs) {p : Addr} (hp : ∀ g, a = some ⟨g, 0, none⟩ → g ≠ p.block) (u : Value) : O8 (w.setCell p u) B a cap zs := by
 refine ⟨h.1, ?_⟩
 rcases h.2 with h2 | ⟨g, cap', cur, h1, h2, h3, h4⟩
 ·exact .inl h2
 ·refine .inr ⟨g, cap', cur, h1, h2, ?_, h4⟩
  rw [Below.heap_setCell w p u g (hp g (by simpa using (Value.slice.inj h1).1))]; exact h3
theorem O8.of_row {w : World} {base b : Nat} {zs : List Int} {f : Nat → Value} (h : w.rowIs b 22 zs.length f) (hf : ∀ i, i < zs.length → f i = .int .u64 (zs.getD i 0)) (hb : base ≤ b) (hm : zs.length ≤ maxLen) :
  O8 w base (some ⟨b, 0, none⟩) zs.length zs := by
 obtain ⟨c, h1, h2, h3⟩ := h
 refine ⟨by simp, .inr ⟨b, zs.length, c, rfl, hb, h1, Nat.le_refl _, hm, by simpa using h2, ?_⟩⟩
 apply List.ext_getElem?
 intro i
 by_cases hi : i < zs.length
 ·have := h3 i hi
  rw [hf i hi] at this
  simp [hi, this, List.getD_eq_getElem?_getD]
 ·simp [hi]; omega

theorem o8_buf {w : World} : O8 (w.alloc (.cells #[] 22)) w.heap.size (some ⟨w.heap.size, 0, none⟩) 0 [] := by
 have := World.ownsRow_made (base := w.heap.size) (e := 22) (size := 1) w #[] 0 (by simp) (by decide) rfl
 simpa [O8] using this
theorem o8_more {w : World} {B g cap : Nat} {os : List Int} {d : Int} (h : w.ownsRow B 22 1 (.slice (some ⟨g, 0, none⟩) (os.length + 1) cap) (os.length + 1) (os.map (Value.int .u64) ++ [.int .u64 d])) : O8 w B (some ⟨g, 0, none⟩) cap (os ++ [d]) := by
 unfold O8; simpa using h
theorem newsV (w : World) (d : Int) : ∀ j u, ([Value.int .u64 d] : List Value)[j]? = some u → (w.alloc (.cells #[.int .u64 d] 22)).cell? ((⟨w.heap.size, 0, none⟩ : Addr).add j) = some u := by
 intro j u hj
 cases j with
 | zero => simp at hj; subst hj; simp [Addr.add]
 | succ j => simp at hj
theorem oneV (d : Int) : ∀ u ∈ ([Value.int .u64 d] : List Value), u.oneCell' = true := by
 intro u hu; simp at hu; subst hu; rfl
structure Q5 (w : World) (b : Nat) (v0 v1 v2 v3 v4 : Value) : Prop where
 c0 : w.cell? ⟨b, 0, none⟩ = some v0
 c1 : w.cell? ⟨b, 1, none⟩ = some v1
 c2 : w.cell? ⟨b, 2, none⟩ = some v2
 c3 : w.cell? ⟨b, 3, none⟩ = some v3
 c4 : w.cell? ⟨b, 4, none⟩ = some v4
 f0 : w.frozen? ⟨b, 0, none⟩ = false
 f1 : w.frozen? ⟨b, 1, none⟩ = false
 f2 : w.frozen? ⟨b, 2, none⟩ = false
 f3 : w.frozen? ⟨b, 3, none⟩ = false
 f4 : w.frozen? ⟨b, 4, none⟩ = false
theorem Q5.lt {w : World} {b : Nat} {v0 v1 v2 v3 v4 : Value} (h : Q5 w b v0 v1 v2 v3 v4) : b < w.heap.size := World.block_lt_of_cell? w _ h.c0
theorem Q5.of_block {w w' : World} {b : Nat} {v0 v1 v2 v3 v4 : Value} (h : Q5 w b v0 v1 v2 v3 v4) (e : w'.heap[b]? = w.heap[b]?) : Q5 w' b v0 v1 v2 v3 v4 :=
 ⟨(World.cell?_of_block (a := ⟨b, 0, none⟩) e).trans h.c0, (World.cell?_of_block (a := ⟨b, 1, none⟩) e).trans h.c1, (World.cell?_of_block (a := ⟨b, 2, none⟩) e).trans h.c2, (World.cell?_of_block (a := ⟨b, 3, none⟩) e).trans h.c3, (World.cell?_of_block (a := ⟨b, 4, none⟩) e).trans h.c4, (World.frozen?_of_block (a := ⟨b, 0, none⟩) e).trans h.f0, (World.frozen?_of_block (a := ⟨b, 1, none⟩) e).trans h.f1, (World.frozen?_of_block (a := ⟨b, 2, none⟩) e).trans h.f2, (World.frozen?_of_block (a := ⟨b, 3, none⟩) e).trans h.f3, (World.frozen?_of_block (a := ⟨b, 4, none⟩) e).trans h.f4⟩
theorem Q5.below {w w' : World} {b : Nat} {v0 v1 v2 v3 v4 : Value} (h : Q5 w b v0 v1 v2 v3 v4) (hb : Below w.heap.size w w') : Q5 w' b v0 v1 v2 v3 v4 := h.of_block (hb.block b h.lt)
theorem Q5.new (w : World) (v0 v1 v2 v3 v4 : Value) (t : TypeId) : Q5 (w.alloc (.cells #[v0, v1, v2, v3, v4] t)) w.heap.size v0 v1 v2 v3 v4 := ⟨by simp, by simp, by simp, by simp, by simp, by simp, by simp, by simp, by simp, by simp⟩
theorem Q5.alloc {w : World} {b : Nat} {v0 v1 v2 v3 v4 : Value} (h : Q5 w b v0 v1 v2 v3 v4) (o : Obj) : Q5 (w.alloc o) b v0 v1 v2 v3 v4 := h.below ((Below.refl _ _).alloc (Nat.le_refl _) _)
theorem Q5.drew {w : World} {b : Nat} {v0 v1 v2 v3 v4 : Value} (h : Q5 w b v0 v1 v2 v3 v4) : Q5 w.drew b v0 v1 v2 v3 v4 := ⟨h.c0, h.c1, h.c2, h.c3, h.c4, h.f0, h.f1, h.f2, h.f3, h.f4⟩
theorem Q5.cs {w : World} {b : Nat} {v0 v1 v2 v3 v4 : Value} (h : Q5 w b v0 v1 v2 v3 v4) : w.cell? ⟨b, 0, none⟩ = some v0 ∧ w.cell? ⟨b, 1, none⟩ = some v1 ∧ w.cell? ⟨b, 2, none⟩ = some v2 ∧ w.cell? ⟨b, 3, none⟩ = some v3 ∧ w.cell? ⟨b, 4, none⟩ = some v4 := ⟨h.c0, h.c1, h.c2, h.c3, h.c4⟩
abbrev ErrQ (w : World) (u : Value) : Prop := w.cell? ⟨0, 0, none⟩ = some (.iface 246 u)
structure EE (u : Value) (w : World) : Prop where
 t : Tab w
 g : EA.ErrT w
 q : ErrQ w u
def EX (w : World) : Prop := ∃ u, EE u w
theorem EE.below {u : Value} {w w' : World} (h : EE u w) (hb : Below w.heap.size w w') : EE u w' := ⟨h.t.below hb, EA.five h.g hb, (hb.cell (p := ⟨0, 0, none⟩) (World.block_lt_of_cell? w _ h.q)).trans h.q⟩
theorem EX.below {w w' : World} (h : EX w) (hb : Below w.heap.size w w') : EX w' := by obtain ⟨u, h⟩ := h; exact ⟨u, h.below hb⟩
theorem cls_sixE {fm x : Int} (h : okF fm x = true) : finB fm x = true ∨ cls fm x = 3 ∨ cls fm x = 4 ∨ cls fm x = 5 := by
 have h1 := cls_rng fm x
 by_cases hf : 0 ≤ cls fm x ∧ cls fm x ≤ 2
 ·exact .inl (by unfold finB; exact decide_eq_true hf)
 ·have : cls fm x ≠ -1 := by
   intro e
   cases hn : nanB fm x
   ·have := cls_num h hn; omega
   ·have := cls_nan h hn; omega
  omega
theorem nan_ofE {fm x : Int} (h : okF fm x = true) : nanB fm x = (decide (cls fm x = 4) || decide (cls fm x = 5)) := by
 cases hn : nanB fm x
 ·have := cls_num h hn
  rw [decide_eq_false (by omega), decide_eq_false (by omega)]; rfl
 ·rcases cls_nan h hn with e | e
  ·rw [decide_eq_true e]; rfl
  ·rw [decide_eq_true e]; simp
def nS (fm x : Int) : Bool := !nanB fm x && sigB fm x
def nI (fm x : Int) : Bool := cls fm x == 3
def nZ (fm x : Int) : Int := if finB fm x then (if pS fm x then -pM fm x else pM fm x) else 0
def nE (fm x : Int) : Int := if finB fm x then pE fm x else 0
def nB (fm x : Int) : Bool := cls fm x == 5
theorem fin_facts {fm x : Int} (hx : okF fm x = true) (hf : finB fm x = true) : nS fm x = pS fm x ∧ nI fm x = false ∧ nZ fm x = (if pS fm x then -pM fm x else pM fm x) ∧ nE fm x = pE fm x ∧ nanB fm x = false ∧ nB fm x = false := by
 have hc : 0 ≤ cls fm x ∧ cls fm x ≤ 2 := by simpa [finB] using hf
 have hps : pS fm x = sigB fm x := by unfold pS; rw [hf]; rfl
 have hn : nanB fm x = false := by rw [nan_ofE hx, decide_eq_false (by omega), decide_eq_false (by omega)]; rfl
 refine ⟨by unfold nS; rw [hn, hps]; rfl, ?_, by unfold nZ; rw [hf, if_pos rfl], by unfold nE; rw [hf, if_pos rfl], hn, ?_⟩
 ·unfold nI; rw [beq_eq_false_iff_ne]; omega
 ·unfold nB; rw [beq_eq_false_iff_ne]; omega
structure Q6 (w : World) (b : Nat) (v0 v1 v2 v3 v4 v5 : Value) : Prop where
 c0 : w.cell? ⟨b, 0, none⟩ = some v0
 c1 : w.cell? ⟨b, 1, none⟩ = some v1
 c2 : w.cell? ⟨b, 2, none⟩ = some v2
 c3 : w.cell? ⟨b, 3, none⟩ = some v3
 c4 : w.cell? ⟨b, 4, none⟩ = some v4
 c5 : w.cell? ⟨b, 5, none⟩ = some v5
 f0 : w.frozen? ⟨b, 0, none⟩ = false
 f1 : w.frozen? ⟨b, 1, none⟩ = false
 f2 : w.frozen? ⟨b, 2, none⟩ = false
 f3 : w.frozen? ⟨b, 3, none⟩ = false
 f4 : w.frozen? ⟨b, 4, none⟩ = false
 f5 : w.frozen? ⟨b, 5, none⟩ = false
theorem Q6.lt {w : World} {b : Nat} {v0 v1 v2 v3 v4 v5 : Value} (h : Q6 w b v0 v1 v2 v3 v4 v5) : b < w.heap.size := World.block_lt_of_cell? w _ h.c0
theorem Q6.of_block {w w' : World} {b : Nat} {v0 v1 v2 v3 v4 v5 : Value} (h : Q6 w b v0 v1 v2 v3 v4 v5) (e : w'.heap[b]? = w.heap[b]?) : Q6 w' b v0 v1 v2 v3 v4 v5 :=
 ⟨(World.cell?_of_block (a := ⟨b, 0, none⟩) e).trans h.c0, (World.cell?_of_block (a := ⟨b, 1, none⟩) e).trans h.c1, (World.cell?_of_block (a := ⟨b, 2, none⟩) e).trans h.c2, (World.cell?_of_block (a := ⟨b, 3, none⟩) e).trans h.c3, (World.cell?_of_block (a := ⟨b, 4, none⟩) e).trans h.c4, (World.cell?_of_block (a := ⟨b, 5, none⟩) e).trans h.c5, (World.frozen?_of_block (a := ⟨b, 0, none⟩) e).trans h.f0, (World.frozen?_of_block (a := ⟨b, 1, none⟩) e).trans h.f1, (World.frozen?_of_block (a := ⟨b, 2, none⟩) e).trans h.f2, (World.frozen?_of_block (a := ⟨b, 3, none⟩) e).trans h.f3, (World.frozen?_of_block (a := ⟨b, 4, none⟩) e).trans h.f4, (World.frozen?_of_block (a := ⟨b, 5, none⟩) e).trans h.f5⟩
theorem Q6.below {w w' : World} {b : Nat} {v0 v1 v2 v3 v4 v5 : Value} (h : Q6 w b v0 v1 v2 v3 v4 v5) (hb : Below w.heap.size w w') : Q6 w' b v0 v1 v2 v3 v4 v5 := h.of_block (hb.block b h.lt)
theorem Q6.new (w : World) (v0 v1 v2 v3 v4 v5 : Value) (t : TypeId) : Q6 (w.alloc (.cells #[v0, v1, v2, v3, v4, v5] t)) w.heap.size v0 v1 v2 v3 v4 v5 := ⟨by simp, by simp, by simp, by simp, by simp, by simp, by simp, by simp, by simp, by simp, by simp, by simp⟩
theorem Q6.alloc {w : World} {b : Nat} {v0 v1 v2 v3 v4 v5 : Value} (h : Q6 w b v0 v1 v2 v3 v4 v5) (o : Obj) : Q6 (w.alloc o) b v0 v1 v2 v3 v4 v5 := h.below ((Below.refl _ _).alloc (Nat.le_refl _) _)
theorem Q6.drew {w : World} {b : Nat} {v0 v1 v2 v3 v4 v5 : Value} (h : Q6 w b v0 v1 v2 v3 v4 v5) : Q6 w.drew b v0 v1 v2 v3 v4 v5 := ⟨h.c0, h.c1, h.c2, h.c3, h.c4, h.c5, h.f0, h.f1, h.f2, h.f3, h.f4, h.f5⟩
theorem Q6.cs {w : World} {b : Nat} {v0 v1 v2 v3 v4 v5 : Value} (h : Q6 w b v0 v1 v2 v3 v4 v5) : w.cell? ⟨b, 0, none⟩ = some v0 ∧ w.cell? ⟨b, 1, none⟩ = some v1 ∧ w.cell? ⟨b, 2, none⟩ = some v2 ∧ w.cell? ⟨b, 3, none⟩ = some v3 ∧ w.cell? ⟨b, 4, none⟩ = some v4 ∧ w.cell? ⟨b, 5, none⟩ = some v5 := ⟨h.c0, h.c1, h.c2, h.c3, h.c4, h.c5⟩
theorem Q6.nw2 (w : World) (o : Obj) (v0 v1 v2 v3 v4 v5 : Value) (t : TypeId) : Q6 ((w.alloc o).alloc (.cells #[v0, v1, v2, v3, v4, v5] t)) (w.heap.size + 1) v0 v1 v2 v3 v4 v5 := by simpa using Q6.new (w.alloc o) v0 v1 v2 v3 v4 v5 t
structure E3 (u : Value) (w : World) : Prop where
 t : T3 w
 g : EA.ErrT w
 q : ErrQ w u
theorem E3.below {u : Value} {w w' : World} (h : E3 u w) (hb : Below w.heap.size w w') : E3 u w' := ⟨h.t.below hb, EA.five h.g hb, (hb.cell (p := ⟨0, 0, none⟩) (World.block_lt_of_cell? w _ h.q)).trans h.q⟩
def EX3 (w : World) : Prop := ∃ u, E3 u w
theorem EX3.below {w w' : World} (h : EX3 w) (hb : Below w.heap.size w w') : EX3 w' := by obtain ⟨u, h⟩ := h; exact ⟨u, h.below hb⟩
theorem heap9n (w : World) (B b : Nat) (h : b ≠ B) (u0 u1 u2 u3 u4 u5 u6 u7 u8 : Value) : (((((((((w.setCell ⟨B, 0, none⟩ u0).setCell ⟨B, 1, none⟩ u1).setCell ⟨B, 2, none⟩ u2).setCell ⟨B, 3, none⟩ u3).setCell ⟨B, 4, none⟩ u4).setCell ⟨B, 5, none⟩ u5).setCell ⟨B, 6, none⟩ u6).setCell ⟨B, 7, none⟩ u7).setCell ⟨B, 8, none⟩ u8).heap[b]? = w.heap[b]? := by
 rw [Below.heap_setCell _ _ _ _ h, Below.heap_setCell _ _ _ _ h, Below.heap_setCell _ _ _ _ h, Below.heap_setCell _ _ _ _ h, Below.heap_setCell _ _ _ _ h, Below.heap_setCell _ _ _ _ h, Below.heap_setCell _ _ _ _ h, Below.heap_setCell _ _ _ _ h, Below.heap_setCell _ _ _ _ h]
theorem Q5.nw2 (w : World) (o : Obj) (v0 v1 v2 v3 v4 : Value) (t : TypeId) : Q5 ((w.alloc o).alloc (.cells #[v0, v1, v2, v3, v4] t)) (w.heap.size + 1) v0 v1 v2 v3 v4 := by simpa using Q5.new (w.alloc o) v0 v1 v2 v3 v4 t
end Go.Proofs.YtkfjmcdniohljaaGreatDoor
