/-
  What is needed of AccA, NewA, IA, FloatN, ITs, FloatO, IC, ID, IG.
-/
import Derived.Lib.TrailingZeros
import Derived.WideLaws
import Derived.Test.YtkfjmcdniohljaaGreatDoorE16
set_option maxHeartbeats 16000000
set_option maxRecDepth 1000000
namespace Go.Proofs.YtkfjmcdniohljaaGreatDoor
set_option linter.unusedVariables false
set_option linter.unusedSimpArgs false
open Go.RowKit Go.Deep
/-- A box of nine cells that may be written. -/
structure Q9 (w : World) (b : Nat) (v0 v1 v2 v3 v4 v5 v6 v7 v8 : Value) : Prop where
  c0 : w.cell? ⟨b, 0, none⟩ = some v0
  c1 : w.cell? ⟨b, 1, none⟩ = some v1
  c2 : w.cell? ⟨b, 2, none⟩ = some v2
  c3 : w.cell? ⟨b, 3, none⟩ = some v3
  c4 : w.cell? ⟨b, 4, none⟩ = some v4
  c5 : w.cell? ⟨b, 5, none⟩ = some v5
  c6 : w.cell? ⟨b, 6, none⟩ = some v6
  c7 : w.cell? ⟨b, 7, none⟩ = some v7
  c8 : w.cell? ⟨b, 8, none⟩ = some v8
  f0 : w.frozen? ⟨b, 0, none⟩ = false
  f1 : w.frozen? ⟨b, 1, none⟩ = false
  f2 : w.frozen? ⟨b, 2, none⟩ = false
  f3 : w.frozen? ⟨b, 3, none⟩ = false
  f4 : w.frozen? ⟨b, 4, none⟩ = false
  f5 : w.frozen? ⟨b, 5, none⟩ = false
  f6 : w.frozen? ⟨b, 6, none⟩ = false
  f7 : w.frozen? ⟨b, 7, none⟩ = false
  f8 : w.frozen? ⟨b, 8, none⟩ = false
theorem Q9.lt {w : World} {b : Nat} {v0 v1 v2 v3 v4 v5 v6 v7 v8 : Value} (h : Q9 w b v0 v1 v2 v3 v4 v5 v6 v7 v8) : b < w.heap.size := World.block_lt_of_cell? w _ h.c0
theorem Q9.cs {w : World} {b : Nat} {v0 v1 v2 v3 v4 v5 v6 v7 v8 : Value} (h : Q9 w b v0 v1 v2 v3 v4 v5 v6 v7 v8) : w.cell? ⟨b, 0, none⟩ = some v0 ∧ w.cell? ⟨b, 1, none⟩ = some v1 ∧ w.cell? ⟨b, 2, none⟩ = some v2 ∧ w.cell? ⟨b, 3, none⟩ = some v3 ∧ w.cell? ⟨b, 4, none⟩ = some v4 ∧ w.cell? ⟨b, 5, none⟩ = some v5 ∧ w.cell? ⟨b, 6, none⟩ = some v6 ∧ w.cell? ⟨b, 7, none⟩ = some v7 ∧ w.cell? ⟨b, 8, none⟩ = some v8 := ⟨h.c0, h.c1, h.c2, h.c3, h.c4, h.c5, h.c6, h.c7, h.c8⟩
theorem Q9.of_block {w w' : World} {b : Nat} {v0 v1 v2 v3 v4 v5 v6 v7 v8 : Value} (h : Q9 w b v0 v1 v2 v3 v4 v5 v6 v7 v8) (e : w'.heap[b]? = w.heap[b]?) : Q9 w' b v0 v1 v2 v3 v4 v5 v6 v7 v8 :=
  ⟨(World.cell?_of_block (a := ⟨b, 0, none⟩) e).trans h.c0, (World.cell?_of_block (a := ⟨b, 1, none⟩) e).trans h.c1, (World.cell?_of_block (a := ⟨b, 2, none⟩) e).trans h.c2, (World.cell?_of_block (a := ⟨b, 3, none⟩) e).trans h.c3, (World.cell?_of_block (a := ⟨b, 4, none⟩) e).trans h.c4, (World.cell?_of_block (a := ⟨b, 5, none⟩) e).trans h.c5, (World.cell?_of_block (a := ⟨b, 6, none⟩) e).trans h.c6, (World.cell?_of_block (a := ⟨b, 7, none⟩) e).trans h.c7, (World.cell?_of_block (a := ⟨b, 8, none⟩) e).trans h.c8, (World.frozen?_of_block (a := ⟨b, 0, none⟩) e).trans h.f0, (World.frozen?_of_block (a := ⟨b, 1, none⟩) e).trans h.f1, (World.frozen?_of_block (a := ⟨b, 2, none⟩) e).trans h.f2, (World.frozen?_of_block (a := ⟨b, 3, none⟩) e).trans h.f3, (World.frozen?_of_block (a := ⟨b, 4, none⟩) e).trans h.f4, (World.frozen?_of_block (a := ⟨b, 5, none⟩) e).trans h.f5, (World.frozen?_of_block (a := ⟨b, 6, none⟩) e).trans h.f6, (World.frozen?_of_block (a := ⟨b, 7, none⟩) e).trans h.f7, (World.frozen?_of_block (a := ⟨b, 8, none⟩) e).trans h.f8⟩
theorem Q9.below {w w' : World} {b : Nat} {v0 v1 v2 v3 v4 v5 v6 v7 v8 : Value} (h : Q9 w b v0 v1 v2 v3 v4 v5 v6 v7 v8) (hb : Below w.heap.size w w') : Q9 w' b v0 v1 v2 v3 v4 v5 v6 v7 v8 := h.of_block (hb.block b h.lt)
theorem Q9.new (w : World) (v0 v1 v2 v3 v4 v5 v6 v7 v8 : Value) (t : TypeId) : Q9 (w.alloc (.cells #[v0, v1, v2, v3, v4, v5, v6, v7, v8] t)) w.heap.size v0 v1 v2 v3 v4 v5 v6 v7 v8 := ⟨by simp, by simp, by simp, by simp, by simp, by simp, by simp, by simp, by simp, by simp, by simp, by simp, by simp, by simp, by simp, by simp, by simp, by simp⟩
theorem Q9.alloc {w : World} {b : Nat} {v0 v1 v2 v3 v4 v5 v6 v7 v8 : Value} (h : Q9 w b v0 v1 v2 v3 v4 v5 v6 v7 v8) (o : Obj) : Q9 (w.alloc o) b v0 v1 v2 v3 v4 v5 v6 v7 v8 := h.below ((Below.refl _ _).alloc (Nat.le_refl _) _)
theorem Q9.drew {w : World} {b : Nat} {v0 v1 v2 v3 v4 v5 v6 v7 v8 : Value} (h : Q9 w b v0 v1 v2 v3 v4 v5 v6 v7 v8) : Q9 w.drew b v0 v1 v2 v3 v4 v5 v6 v7 v8 := ⟨h.c0, h.c1, h.c2, h.c3, h.c4, h.c5, h.c6, h.c7, h.c8, h.f0, h.f1, h.f2, h.f3, h.f4, h.f5, h.f6, h.f7, h.f8⟩
theorem Q9.grown {w w' : World} {b : Nat} {v0 v1 v2 v3 v4 v5 v6 v7 v8 : Value} {row : Option Nat} (h : Q9 w b v0 v1 v2 v3 v4 v5 v6 v7 v8) (hg : w.grownBy w' row) (hne : ∀ g, row = some g → b ≠ g) : Q9 w' b v0 v1 v2 v3 v4 v5 v6 v7 v8 :=
  h.of_block (hg.block b h.lt (fun e => hne b e.symm rfl))
theorem Q9.other {w : World} {b : Nat} {v0 v1 v2 v3 v4 v5 v6 v7 v8 : Value} (h : Q9 w b v0 v1 v2 v3 v4 v5 v6 v7 v8) {p : Addr} (hp : b ≠ p.block) (u : Value) : Q9 (w.setCell p u) b v0 v1 v2 v3 v4 v5 v6 v7 v8 := h.of_block (Below.heap_setCell w p u b hp)
def nwF (fm : Int) : Int := if fm = 32 ∨ fm = 64 then fm else 0
theorem nform_spec (fm : Int) (w : World) :
    Calls Tryz.prog 96 #[.int .i64 fm] w fun e w' => e = .returned (.bool (!(nwF fm == 0))) ∧ Below w.heap.size w w' := by
  by_cases h1 : fm = 32
  · subst h1
    go_enter Tryz.func96, Tryz.ntmps96
    go_wp2
    go_ret
    exact ⟨rfl, Below.refl _ _⟩
  · by_cases h2 : fm = 64
    · subst h2
      go_enter Tryz.func96, Tryz.ntmps96
      go_wp2
      go_ret
      exact ⟨rfl, Below.refl _ _⟩
    · have e1 : (fm == 32) = false := by simpa using h1
      have e2 : (fm == 64) = false := by simpa using h2
      have H : Hid (nwF fm = 0) := hid (by unfold nwF; rw [if_neg (by omega)])
      clear h1 h2
      go_enter Tryz.func96, Tryz.ntmps96
      go_wp2
      go_ret
      exact ⟨ret_bool (by rw [H.out]; rfl), Below.refl _ _⟩
theorem nw_yes {fm : Int} (h : (nwF fm == 0) = false) : nwF fm = fm := by
  unfold nwF at *
  by_cases h1 : fm = 32 ∨ fm = 64
  · rw [if_pos h1]
  · rw [if_neg h1] at h; simp at h
theorem new_spec (fm : Int) (w : World) (f : Int) (hf : f = nwF fm) :
    Calls Tryz.prog 40 #[.int .i64 fm] w fun e w' => e = .returned (.agg #[.int .i64 f, .bool false, .slice none 0 0, .int .i64 0, .bool false, .bool false, .bool false, .bool false, .bool false]) ∧ Below w.heap.size w w' := by
  have C := hid (fun w' => nform_spec fm w')
  rw [← hf] at C
  have Q := Q9.new w (.int .i64 0) (.bool false) (.slice none 0 0) (.int .i64 0) (.bool false) (.bool false) (.bool false) (.bool false) (.bool false) 50
  cases h0 : (f == 0) with
  | true =>
    rw [h0] at C
    have hf0 : f = 0 := by simpa using h0
    subst hf0
    clear h0 hf
    go_enter Tryz.func40, Tryz.ntmps40
    go_wp2_with fail
    refine (C.out _).mono ?_
    first | (rintro e w1 ⟨n, rfl, hn, hb1⟩) | (rintro e w1 ⟨rfl, hb1⟩)
    obtain ⟨r0, r1, r2, r3, r4, r5, r6, r7, r8, f0, f1, f2, f3, f4, f5, f6, f7, f8⟩ := Q.below hb1
    clear Q
    go_wp2
    refine bodyPost_ret (v := .agg #[.int .i64 0, .bool false, .slice none 0 0, .int .i64 0, .bool false, .bool false, .bool false, .bool false, .bool false]) (by simp [results, Tryz.results40, go_sem, r0, r1, r2, r3, r4, r5, r6, r7, r8]) rfl ⟨rfl, ?_⟩
    exact (by (repeat with_reducible first | refine Below.setCell ?_ ?_ _ | exact bz0 _ _ | refine bz1 ?_ | refine bz2 ?_ _ | refine bz3 ?_ _ | refine bz4 ?_ hb1 | refine Below.alloc ?_ ?_ _ | refine Below.trans ?_ (Below.mono hb1 ?_)) <;> first | omega | (simp; done) | (simp; omega))
  | false =>
    rw [h0] at C
    have hff : f = fm := by rw [hf]; exact nw_yes (by rw [← hf]; exact h0)
    subst hff
    clear h0 hf
    go_enter Tryz.func40, Tryz.ntmps40
    go_wp2_with fail
    refine (C.out _).mono ?_
    first | (rintro e w1 ⟨n, rfl, hn, hb1⟩) | (rintro e w1 ⟨rfl, hb1⟩)
    obtain ⟨r0, r1, r2, r3, r4, r5, r6, r7, r8, f0, f1, f2, f3, f4, f5, f6, f7, f8⟩ := Q.below hb1
    clear Q
    go_wp2
    refine bodyPost_ret (v := .agg #[.int .i64 f, .bool false, .slice none 0 0, .int .i64 0, .bool false, .bool false, .bool false, .bool false, .bool false]) (by simp [results, Tryz.results40, go_sem, r0, r1, r2, r3, r4, r5, r6, r7, r8]) rfl ⟨rfl, ?_⟩
    exact (by (repeat with_reducible first | refine Below.setCell ?_ ?_ _ | exact bz0 _ _ | refine bz1 ?_ | refine bz2 ?_ _ | refine bz3 ?_ _ | refine bz4 ?_ hb1 | refine Below.alloc ?_ ?_ _ | refine Below.trans ?_ (Below.mono hb1 ?_)) <;> first | omega | (simp; done) | (simp; omega))
/-- A table of bytes in the block g. -/
def Tb (w : World) (g : Nat) (zs : List Nat) : Prop := ∀ i, i < zs.length → w.cell? ⟨g, i, none⟩ = some (.int .u8 ((zs.getD i 0 : Nat) : Int))
theorem Tb.below {w w' : World} {g : Nat} {zs : List Nat} (h : Tb w g zs) (hp : 0 < zs.length) (hb : Below w.heap.size w w') : Tb w' g zs := fun i hi =>
  (hb.cell (p := ⟨g, i, none⟩) (World.block_lt_of_cell? w ⟨g, i, none⟩ (h i hi))).trans (h i hi)
end Go.Proofs.YtkfjmcdniohljaaGreatDoor
namespace Go.Proofs.YtkfjmcdniohljaaGreatDoor
set_option linter.unusedVariables false
set_option linter.unusedSimpArgs false
open Go.RowKit
/-- M and E of a finite float whose bits without sign are y. -/
def parM (L y : Int) : Int := if y / L = 0 then y % L else y % L + L
def parE (L q y : Int) : Int := if y / L = 0 then q else q + y / L - 1

theorem Tab.al {w : World} (h : Tab w) (o : Obj) : Tab (w.alloc o) := h.below ((Below.refl _ _).alloc (Nat.le_refl _) _)
theorem Tab.dr {w : World} (h : Tab w) : Tab w.drew := ⟨h.c0, h.c1, h.c2, h.c3, h.c4, h.c5, h.c6, h.c7, h.c8⟩
/-- A box of three cells that may be written. -/
structure R3 (w : World) (b : Nat) (v0 v1 v2 : Value) : Prop where
  c0 : w.cell? ⟨b, 0, none⟩ = some v0
  c1 : w.cell? ⟨b, 1, none⟩ = some v1
  c2 : w.cell? ⟨b, 2, none⟩ = some v2
  f0 : w.frozen? ⟨b, 0, none⟩ = false
  f1 : w.frozen? ⟨b, 1, none⟩ = false
  f2 : w.frozen? ⟨b, 2, none⟩ = false
theorem R3.below {w w' : World} {b : Nat} {v0 v1 v2 : Value} (h : R3 w b v0 v1 v2) (hb : Below w.heap.size w w') : R3 w' b v0 v1 v2 := by
  have hlt := World.block_lt_of_cell? w _ h.c0
  exact ⟨(hb.cell (p := ⟨b, 0, none⟩) hlt).trans h.c0, (hb.cell (p := ⟨b, 1, none⟩) hlt).trans h.c1, (hb.cell (p := ⟨b, 2, none⟩) hlt).trans h.c2,
    (hb.frozen (p := ⟨b, 0, none⟩) hlt).trans h.f0, (hb.frozen (p := ⟨b, 1, none⟩) hlt).trans h.f1, (hb.frozen (p := ⟨b, 2, none⟩) hlt).trans h.f2⟩
theorem R3.new (w : World) (v0 v1 v2 : Value) (t : TypeId) : R3 (w.alloc (.cells #[v0, v1, v2] t)) w.heap.size v0 v1 v2 := ⟨by simp, by simp, by simp, by simp, by simp, by simp⟩
theorem R3.dr {w : World} {b : Nat} {v0 v1 v2 : Value} (h : R3 w b v0 v1 v2) : R3 w.drew b v0 v1 v2 := ⟨h.c0, h.c1, h.c2, h.f0, h.f1, h.f2⟩
theorem R3.al {w : World} {b : Nat} {v0 v1 v2 : Value} (h : R3 w b v0 v1 v2) (o : Obj) : R3 (w.alloc o) b v0 v1 v2 := h.below ((Below.refl _ _).alloc (Nat.le_refl _) _)

theorem R3.other {w : World} {b : Nat} {v0 v1 v2 : Value} (h : R3 w b v0 v1 v2) {p : Addr} (hp : b ≠ p.block) (u : Value) : R3 (w.setCell p u) b v0 v1 v2 := by
  have e := Below.heap_setCell w p u b hp
  exact ⟨(World.cell?_of_block (a := ⟨b, 0, none⟩) e).trans h.c0, (World.cell?_of_block (a := ⟨b, 1, none⟩) e).trans h.c1, (World.cell?_of_block (a := ⟨b, 2, none⟩) e).trans h.c2,
    (World.frozen?_of_block (a := ⟨b, 0, none⟩) e).trans h.f0, (World.frozen?_of_block (a := ⟨b, 1, none⟩) e).trans h.f1, (World.frozen?_of_block (a := ⟨b, 2, none⟩) e).trans h.f2⟩
theorem R3.set {w : World} {b : Nat} {v0 v1 v2 : Value} (h : R3 w b v0 v1 v2) (a0 a1 a2 : Value) : R3 (((w.setCell ⟨b, 0, none⟩ a0).setCell ⟨b, 1, none⟩ a1).setCell ⟨b, 2, none⟩ a2) b a0 a1 a2 := by
  obtain ⟨h0, h1, h2, f0, f1, f2⟩ := h
  exact ⟨by simp [go_sem, h0, h1, h2], by simp [go_sem, h0, h1, h2], by simp [go_sem, h0, h1, h2], by simp [go_sem, f0, f1, f2], by simp [go_sem, f0, f1, f2], by simp [go_sem, f0, f1, f2]⟩
end Go.Proofs.YtkfjmcdniohljaaGreatDoor
namespace Go.Proofs.YtkfjmcdniohljaaGreatDoor
set_option linter.unusedVariables false
set_option linter.unusedSimpArgs false
open Go.RowKit Go.Deep
/-- The table of formats, and that of 64. -/
structure Ts (w : World) : Prop where
  f : Tab w
  t64 : Tb w 4 Lib.deBruijn64tab
theorem Ts.below {w w' : World} (h : Ts w) (hb : Below w.heap.size w w') : Ts w' := ⟨h.f.below hb, h.t64.below (by decide) hb⟩
theorem Ts.al {w : World} (h : Ts w) (o : Obj) : Ts (w.alloc o) := h.below ((Below.refl _ _).alloc (Nat.le_refl _) _)
theorem Ts.dr {w : World} (h : Ts w) : Ts w.drew := ⟨⟨h.f.c0, h.f.c1, h.f.c2, h.f.c3, h.f.c4, h.f.c5, h.f.c6, h.f.c7, h.f.c8⟩, h.t64⟩
end Go.Proofs.YtkfjmcdniohljaaGreatDoor
namespace Go.Proofs.YtkfjmcdniohljaaGreatDoor
set_option linter.unusedVariables false
set_option linter.unusedSimpArgs false
open Go.RowKit
theorem fin_no {fm x : Int} (h : okF fm x = false) : finB fm x = false := by unfold finB; rw [cls_no h]; decide
theorem fin_lt {fm x : Int} (h : okF fm x = true) : finB fm x = decide (absF fm x < infOf fm) := by
  rcases okF_cases h with ⟨rfl, hx⟩ | rfl
  · unfold finB infOf; rw [cls32 hx, abs32 hx, if_pos rfl]; unfold clsY
    rw [Bool.eq_iff_iff]; simp only [decide_eq_true_eq]
    repeat' split
    all_goals omega
  · unfold finB infOf; rw [cls64, abs64, if_neg (by decide)]; unfold clsY
    rw [Bool.eq_iff_iff]; simp only [decide_eq_true_eq]
    repeat' split
    all_goals omega
theorem spec_fin (fm x : Int) (w : World) (h0 : 0 ≤ x) (h1 : x < 18446744073709551616) :
    Calls Tryz.prog 129 #[.int .i64 fm, .int .u64 x] w fun e w' => e = .returned (.bool (finB fm x)) ∧ Below w.heap.size w w' := by
  cases ho : okF fm x
  · have HR := hid (fin_no ho)
    go_enter Tryz.func129, Tryz.ntmps129
    go_wp2_with fail
    refine (spec_ok fm x _).mono ?_
    rintro e w1 ⟨rfl, hb1⟩
    go_wp2
    go_ret
    exact ⟨ret_bool HR.out.symm, (by repeat (first | exact bz0 _ _ | refine bz1 ?_ | refine bz2 ?_ _ | refine bz3 ?_ _ | refine bz4 ?_ hb1 | refine bz5 ?_ _ | refine bz6 ?_ _ | refine bz7 ?_ hb1))⟩
  · have HR := hid (fin_lt ho)
    have HO := hid ho
    go_enter Tryz.func129, Tryz.ntmps129
    go_wp2_with fail
    refine (spec_ok fm x _).mono ?_
    rintro e w1 ⟨rfl, hb1⟩
    go_wp2_with fail
    refine (spec_l2abs fm x _ HO.out h0 h1).mono ?_
    rintro e w2 ⟨rfl, hb2⟩
    go_wp2_with fail
    refine (spec_inf fm x _ HO.out).mono ?_
    rintro e w3 ⟨rfl, hb3⟩
    go_wp2
    go_ret
    exact ⟨ret_bool HR.out.symm, (by repeat (first | exact bz0 _ _ | refine bz1 ?_ | refine bz2 ?_ _ | refine bz3 ?_ _ | refine bz4 ?_ hb3 | refine bz4 ?_ hb2 | refine bz4 ?_ hb1 | refine bz5 ?_ _ | refine bz6 ?_ _ | refine bz7 ?_ hb3 | refine bz7 ?_ hb2 | refine bz7 ?_ hb1))⟩
theorem spec_P32 (w : World) :
    Calls Tryz.prog 164 #[.int .i64 32] w fun e w' => e = .returned (.int .i64 24) ∧ Below w.heap.size w w' := by
  go_enter Tryz.func164, Tryz.ntmps164
  go_wp2
  go_ret
  exact ⟨rfl, (by repeat (first | exact bz0 _ _ | refine bz1 ?_ | refine bz2 ?_ _ | refine bz3 ?_ _ | refine bz5 ?_ _ | refine bz6 ?_ _))⟩
theorem spec_Q32 (w : World) :
    Calls Tryz.prog 133 #[.int .i64 32] w fun e w' => e = .returned (.int .i64 (-149)) ∧ Below w.heap.size w w' := by
  go_enter Tryz.func133, Tryz.ntmps133
  go_wp2
  go_ret
  exact ⟨rfl, (by repeat (first | exact bz0 _ _ | refine bz1 ?_ | refine bz2 ?_ _ | refine bz3 ?_ _ | refine bz5 ?_ _ | refine bz6 ?_ _))⟩
theorem spec_P64 (w : World) :
    Calls Tryz.prog 164 #[.int .i64 64] w fun e w' => e = .returned (.int .i64 53) ∧ Below w.heap.size w w' := by
  go_enter Tryz.func164, Tryz.ntmps164
  go_wp2
  go_ret
  exact ⟨rfl, (by repeat (first | exact bz0 _ _ | refine bz1 ?_ | refine bz2 ?_ _ | refine bz3 ?_ _ | refine bz5 ?_ _ | refine bz6 ?_ _))⟩
theorem spec_Q64 (w : World) :
    Calls Tryz.prog 133 #[.int .i64 64] w fun e w' => e = .returned (.int .i64 (-1074)) ∧ Below w.heap.size w w' := by
  go_enter Tryz.func133, Tryz.ntmps133
  go_wp2
  go_ret
  exact ⟨rfl, (by repeat (first | exact bz0 _ _ | refine bz1 ?_ | refine bz2 ?_ _ | refine bz3 ?_ _ | refine bz5 ?_ _ | refine bz6 ?_ _))⟩

theorem R3.set1 {w : World} {b : Nat} {v0 v1 v2 : Value} (h : R3 w b v0 v1 v2) (a1 : Value) : R3 (w.setCell ⟨b, 1, none⟩ a1) b v0 a1 v2 := by
  obtain ⟨h0, h1, h2, f0, f1, f2⟩ := h
  exact ⟨by simp [go_sem, h0, h1, h2], by simp [go_sem, h0, h1, h2], by simp [go_sem, h0, h1, h2], by simp [go_sem, f0, f1, f2], by simp [go_sem, f0, f1, f2], by simp [go_sem, f0, f1, f2]⟩
theorem ret_agg3 {s : Bool} {a b a' b' : Int} (h : a = a') (k : b = b') : Ending.returned (.agg #[.bool s, .int .i64 a, .int .i64 b]) = .returned (.agg #[.bool s, .int .i64 a', .int .i64 b']) := by rw [h, k]
theorem spec_l2Parts32 (x : Int) (w : World) (h0 : 0 ≤ x) (h1 : x < 4294967296) :
    Calls Tryz.prog 77 #[.int .i64 32, .int .u64 x] w fun e w' => e = .returned (.agg #[.bool (sigB 32 x), .int .i64 (parM 8388608 (x % 2147483648)), .int .i64 (parE 8388608 (-149) (x % 2147483648))]) ∧ Below w.heap.size w w' := by
  have h1' : x < 18446744073709551616 := by omega
  have HO : Hid (okF 32 x = true) := hid (by first | exact okF32 h1 | exact okF64)
  have HA : Hid (absF 32 x = x % 2147483648) := hid (by first | exact abs32 h1 | exact abs64)
  have HN : Hid (x % 8388608 = x % 2147483648 % 8388608) := hid (by omega)
  have e2 := Bt.mask23 (x % 2147483648) (by omega) (by omega)
  have y0 : 0 ≤ x % 2147483648 := by omega
  have y1 : x % 2147483648 < 2147483648 := by omega
  have xl0 : 0 ≤ x % 8388608 := by omega
  have xl1 : x % 8388608 < 8388608 := by omega
  have k0 : 0 ≤ x % 2147483648 / 8388608 := by omega
  have k1 : x % 2147483648 / 8388608 < 256 := by omega
  have hwr : IntKind.i64.wrap (x % 2147483648 % 8388608) = x % 2147483648 % 8388608 := by rw [IntKind.wrap_i64]; omega
  have hwk : IntKind.i64.wrap (x % 2147483648 / 8388608) = x % 2147483648 / 8388608 := by rw [IntKind.wrap_i64]; omega
  go_enter Tryz.func77, Tryz.ntmps77
  go_wp2_with fail
  refine (spec_l2abs 32 x _ HO.out h0 h1').mono ?_
  rw [HA.out]
  rintro e w1 ⟨rfl, hb1⟩
  go_wp2_with fail
  refine (spec_P32 _).mono ?_
  rintro e w2 ⟨rfl, hb2⟩
  go_wp2_with fail
  refine (spec_P32 _).mono ?_
  rintro e w3 ⟨rfl, hb3⟩
  go_wp2_with fail
  refine (spec_l2neg 32 x _ HO.out h0 h1').mono ?_
  rintro e w4 ⟨rfl, hb4⟩
  go_wp2_with fail
  refine (spec_Q32 _).mono ?_
  rintro e w5 ⟨rfl, hb5⟩
  have r5 := (((((R3.new w (.bool false) (.int .i64 0) (.int .i64 0) 89).below hb1).below hb2).below hb3).below hb4).below hb5
  by_cases hz : x % 2147483648 / 8388608 = 0
  · have HP : Hid (x % 8388608 = parM 8388608 (x % 2147483648)) := hid (by unfold parM; rw [if_pos hz]; exact HN.out)
    have HQ : Hid ((-149) = parE 8388608 (-149) (x % 2147483648)) := hid (by unfold parE; rw [if_pos hz])
    have hz' : ¬ 0 < x % 2147483648 / 8388608 := by omega
    clear hz
    obtain ⟨rc0, rc1, rc2, rf0, rf1, rf2⟩ := r5
    have lw : w.heap.size < w5.heap.size := World.block_lt_of_cell? w5 _ rc0
    go_wp2
    exact bodyPost_ret (v := .agg #[.bool (sigB 32 x), .int .i64 (x % 8388608), .int .i64 (-149)]) (by simp [results, Tryz.results77, go_sem, rc0, rc1, rc2, lw]) rfl ⟨ret_agg3 HP.out HQ.out, (by repeat (first | exact bz0 _ _ | refine bz1 ?_ | refine bz2 ?_ _ | refine bz3 ?_ _ | refine bz4 ?_ hb5 | refine bz4 ?_ hb4 | refine bz4 ?_ hb3 | refine bz4 ?_ hb2 | refine bz4 ?_ hb1 | refine bz5 ?_ _ | refine bz6 ?_ _ | refine bz7 ?_ hb5 | refine bz7 ?_ hb4 | refine bz7 ?_ hb3 | refine bz7 ?_ hb2 | refine bz7 ?_ hb1))⟩
  · have HP : Hid (x % 8388608 + 8388608 = parM 8388608 (x % 2147483648)) := hid (by unfold parM; rw [if_neg hz, ← HN.out])
    have HQ : Hid ((-149) + x % 2147483648 / 8388608 - 1 = parE 8388608 (-149) (x % 2147483648)) := hid (by unfold parE; rw [if_neg hz])
    have hz' : 0 < x % 2147483648 / 8388608 := by omega
    clear hz
    go_wp2_with fail
    refine (spec_P32 _).mono ?_
    rintro e w6 ⟨rfl, hb6⟩
    have r6 := (r5.al (.cells #[.bool (sigB 32 x), .int .i64 (x % 8388608), .int .i64 (-149)] 89)).below hb6
    have p6 := (R3.new w5 (.bool (sigB 32 x)) (.int .i64 (x % 8388608)) (.int .i64 (-149)) 89).below hb6
    have lw : w.heap.size < w5.heap.size := World.block_lt_of_cell? w5 _ r5.c0
    have r7 := r6.other (p := ⟨w5.heap.size, 1, none⟩) (Nat.ne_of_lt lw) (.int .i64 (x % 8388608 + 8388608))
    have p7 := p6.set1 (.int .i64 (x % 8388608 + 8388608))
    obtain ⟨pc0, pc1, pc2, pf0, pf1, pf2⟩ := p6
    go_wp2_with fail
    refine (spec_Q32 _).mono ?_
    rintro e w7 ⟨rfl, hb7⟩
    obtain ⟨rc0, rc1, rc2, rf0, rf1, rf2⟩ := r7.below hb7
    obtain ⟨qc0, qc1, qc2, qf0, qf1, qf2⟩ := p7.below hb7
    have lw6 : w5.heap.size < w6.heap.size := World.block_lt_of_cell? w6 _ pc0
    have lw7 : w5.heap.size < w7.heap.size := World.block_lt_of_cell? w7 _ qc0
    clear pc0 pc1 pc2 pf0 pf1 pf2 r6 r7 p7 r5
    go_wp2
    exact bodyPost_ret (v := .agg #[.bool (sigB 32 x), .int .i64 (x % 8388608 + 8388608), .int .i64 ((-149) + x % 2147483648 / 8388608 - 1)]) (by simp [results, Tryz.results77, go_sem, rc0, rc1, rc2, lw]) rfl ⟨ret_agg3 HP.out HQ.out, (by repeat (first | exact bz0 _ _ | refine bz1 ?_ | refine bz2 ?_ _ | refine bz3 ?_ _ | refine bz4 ?_ hb7 | refine bz4 ?_ hb6 | refine bz4 ?_ hb5 | refine bz4 ?_ hb4 | refine bz4 ?_ hb3 | refine bz4 ?_ hb2 | refine bz4 ?_ hb1 | refine bz5 ?_ _ | refine bz6 ?_ _ | refine bz7 ?_ hb7 | refine bz7 ?_ hb6 | refine bz7 ?_ hb5 | refine bz7 ?_ hb4 | refine bz7 ?_ hb3 | refine bz7 ?_ hb2 | refine bz7 ?_ hb1))⟩
theorem spec_l2Parts64 (x : Int) (w : World) (h0 : 0 ≤ x) (h1 : x < 18446744073709551616) :
    Calls Tryz.prog 77 #[.int .i64 64, .int .u64 x] w fun e w' => e = .returned (.agg #[.bool (sigB 64 x), .int .i64 (parM 4503599627370496 (x % 9223372036854775808)), .int .i64 (parE 4503599627370496 (-1074) (x % 9223372036854775808))]) ∧ Below w.heap.size w w' := by
  have h1' : x < 18446744073709551616 := by omega
  have HO : Hid (okF 64 x = true) := hid (by first | exact okF32 h1 | exact okF64)
  have HA : Hid (absF 64 x = x % 9223372036854775808) := hid (by first | exact abs32 h1 | exact abs64)
  have HN : Hid (x % 4503599627370496 = x % 9223372036854775808 % 4503599627370496) := hid (by omega)
  have e2 := Bt.mask52 (x % 9223372036854775808) (by omega) (by omega)
  have y0 : 0 ≤ x % 9223372036854775808 := by omega
  have y1 : x % 9223372036854775808 < 9223372036854775808 := by omega
  have xl0 : 0 ≤ x % 4503599627370496 := by omega
  have xl1 : x % 4503599627370496 < 4503599627370496 := by omega
  have k0 : 0 ≤ x % 9223372036854775808 / 4503599627370496 := by omega
  have k1 : x % 9223372036854775808 / 4503599627370496 < 2048 := by omega
  have hwr : IntKind.i64.wrap (x % 9223372036854775808 % 4503599627370496) = x % 9223372036854775808 % 4503599627370496 := by rw [IntKind.wrap_i64]; omega
  have hwk : IntKind.i64.wrap (x % 9223372036854775808 / 4503599627370496) = x % 9223372036854775808 / 4503599627370496 := by rw [IntKind.wrap_i64]; omega
  go_enter Tryz.func77, Tryz.ntmps77
  go_wp2_with fail
  refine (spec_l2abs 64 x _ HO.out h0 h1').mono ?_
  rw [HA.out]
  rintro e w1 ⟨rfl, hb1⟩
  go_wp2_with fail
  refine (spec_P64 _).mono ?_
  rintro e w2 ⟨rfl, hb2⟩
  go_wp2_with fail
  refine (spec_P64 _).mono ?_
  rintro e w3 ⟨rfl, hb3⟩
  go_wp2_with fail
  refine (spec_l2neg 64 x _ HO.out h0 h1').mono ?_
  rintro e w4 ⟨rfl, hb4⟩
  go_wp2_with fail
  refine (spec_Q64 _).mono ?_
  rintro e w5 ⟨rfl, hb5⟩
  have r5 := (((((R3.new w (.bool false) (.int .i64 0) (.int .i64 0) 89).below hb1).below hb2).below hb3).below hb4).below hb5
  by_cases hz : x % 9223372036854775808 / 4503599627370496 = 0
  · have HP : Hid (x % 4503599627370496 = parM 4503599627370496 (x % 9223372036854775808)) := hid (by unfold parM; rw [if_pos hz]; exact HN.out)
    have HQ : Hid ((-1074) = parE 4503599627370496 (-1074) (x % 9223372036854775808)) := hid (by unfold parE; rw [if_pos hz])
    have hz' : ¬ 0 < x % 9223372036854775808 / 4503599627370496 := by omega
    clear hz
    obtain ⟨rc0, rc1, rc2, rf0, rf1, rf2⟩ := r5
    have lw : w.heap.size < w5.heap.size := World.block_lt_of_cell? w5 _ rc0
    go_wp2
    exact bodyPost_ret (v := .agg #[.bool (sigB 64 x), .int .i64 (x % 4503599627370496), .int .i64 (-1074)]) (by simp [results, Tryz.results77, go_sem, rc0, rc1, rc2, lw]) rfl ⟨ret_agg3 HP.out HQ.out, (by repeat (first | exact bz0 _ _ | refine bz1 ?_ | refine bz2 ?_ _ | refine bz3 ?_ _ | refine bz4 ?_ hb5 | refine bz4 ?_ hb4 | refine bz4 ?_ hb3 | refine bz4 ?_ hb2 | refine bz4 ?_ hb1 | refine bz5 ?_ _ | refine bz6 ?_ _ | refine bz7 ?_ hb5 | refine bz7 ?_ hb4 | refine bz7 ?_ hb3 | refine bz7 ?_ hb2 | refine bz7 ?_ hb1))⟩
  · have HP : Hid (x % 4503599627370496 + 4503599627370496 = parM 4503599627370496 (x % 9223372036854775808)) := hid (by unfold parM; rw [if_neg hz, ← HN.out])
    have HQ : Hid ((-1074) + x % 9223372036854775808 / 4503599627370496 - 1 = parE 4503599627370496 (-1074) (x % 9223372036854775808)) := hid (by unfold parE; rw [if_neg hz])
    have hz' : 0 < x % 9223372036854775808 / 4503599627370496 := by omega
    clear hz
    go_wp2_with fail
    refine (spec_P64 _).mono ?_
    rintro e w6 ⟨rfl, hb6⟩
    have r6 := (r5.al (.cells #[.bool (sigB 64 x), .int .i64 (x % 4503599627370496), .int .i64 (-1074)] 89)).below hb6
    have p6 := (R3.new w5 (.bool (sigB 64 x)) (.int .i64 (x % 4503599627370496)) (.int .i64 (-1074)) 89).below hb6
    have lw : w.heap.size < w5.heap.size := World.block_lt_of_cell? w5 _ r5.c0
    have r7 := r6.other (p := ⟨w5.heap.size, 1, none⟩) (Nat.ne_of_lt lw) (.int .i64 (x % 4503599627370496 + 4503599627370496))
    have p7 := p6.set1 (.int .i64 (x % 4503599627370496 + 4503599627370496))
    obtain ⟨pc0, pc1, pc2, pf0, pf1, pf2⟩ := p6
    go_wp2_with fail
    refine (spec_Q64 _).mono ?_
    rintro e w7 ⟨rfl, hb7⟩
    obtain ⟨rc0, rc1, rc2, rf0, rf1, rf2⟩ := r7.below hb7
    obtain ⟨qc0, qc1, qc2, qf0, qf1, qf2⟩ := p7.below hb7
    have lw6 : w5.heap.size < w6.heap.size := World.block_lt_of_cell? w6 _ pc0
    have lw7 : w5.heap.size < w7.heap.size := World.block_lt_of_cell? w7 _ qc0
    clear pc0 pc1 pc2 pf0 pf1 pf2 r6 r7 p7 r5
    go_wp2
    exact bodyPost_ret (v := .agg #[.bool (sigB 64 x), .int .i64 (x % 4503599627370496 + 4503599627370496), .int .i64 ((-1074) + x % 9223372036854775808 / 4503599627370496 - 1)]) (by simp [results, Tryz.results77, go_sem, rc0, rc1, rc2, lw]) rfl ⟨ret_agg3 HP.out HQ.out, (by repeat (first | exact bz0 _ _ | refine bz1 ?_ | refine bz2 ?_ _ | refine bz3 ?_ _ | refine bz4 ?_ hb7 | refine bz4 ?_ hb6 | refine bz4 ?_ hb5 | refine bz4 ?_ hb4 | refine bz4 ?_ hb3 | refine bz4 ?_ hb2 | refine bz4 ?_ hb1 | refine bz5 ?_ _ | refine bz6 ?_ _ | refine bz7 ?_ hb7 | refine bz7 ?_ hb6 | refine bz7 ?_ hb5 | refine bz7 ?_ hb4 | refine bz7 ?_ hb3 | refine bz7 ?_ hb2 | refine bz7 ?_ hb1))⟩

/-- The parts of a float: the empty ones where it is not finite. -/
def pS (fm x : Int) : Bool := if finB fm x then sigB fm x else false
def pM (fm x : Int) : Int := if finB fm x then (if fm = 32 then parM 8388608 (x % 2147483648) else parM 4503599627370496 (x % 9223372036854775808)) else 0
def pE (fm x : Int) : Int := if finB fm x then (if fm = 32 then parE 8388608 (-149) (x % 2147483648) else parE 4503599627370496 (-1074) (x % 9223372036854775808)) else 0
theorem ret_p3 {s s' : Bool} {a b a' b' : Int} (g : s = s') (h : a = a') (k : b = b') : Ending.returned (.agg #[.bool s, .int .i64 a, .int .i64 b]) = .returned (.agg #[.bool s', .int .i64 a', .int .i64 b']) := by rw [g, h, k]
end Go.Proofs.YtkfjmcdniohljaaGreatDoor
namespace Go.Proofs.YtkfjmcdniohljaaGreatDoor
set_option linter.unusedVariables false
set_option linter.unusedSimpArgs false
open Go.RowKit Go.Deep
theorem store_func (P : Program) (w : World) (a : Addr) (f : Fn) (xs ys) (m) : (store a (.func f xs ys) m).run P w = stored P w a (.func f xs ys) m := run_store P w a _ m rfl
attribute [local go_sem] store_func
theorem ok_lim {a : Nat} (ha : a ≠ 0) (hl : bitLen a ≤ 6400) (ng : Bool) : okB ng (Nm.lim a) = true := by
  have hlen := lim_len (x := a) (k := 200) (by omega)
  have hne : (Nm.lim a).length ≠ 0 := fun h => ha ((Nm.lim_length_zero a).1 h)
  have hz := Nm.lim_nz a
  unfold okB
  rw [if_neg hne, decide_eq_true hlen, Bool.true_and]
  have : (Nm.lim a).getD ((Nm.lim a).length - 1) 0 ≠ 0 := by
    apply hz
    rw [List.getLast?_eq_getElem?, List.getD_eq_getElem?_getD, List.getElem?_eq_getElem (by omega)]; rfl
  rw [decide_eq_false this]; rfl
theorem fits_nat {x : Nat} (h : bitLen x ≤ 6400) : Nm.fits (x : Int) = true := by
  unfold Nm.fits; rw [wl_nat]; exact decide_eq_true (lim_len (k := 200) (by omega))
end Go.Proofs.YtkfjmcdniohljaaGreatDoor
namespace Go.Proofs.YtkfjmcdniohljaaGreatDoor
set_option linter.unusedVariables false
set_option linter.unusedSimpArgs false
open Go.RowKit Go.Deep
/-- What is cut off, against a half, as the program tells it. -/
def hI (a : Nat) (n : Int) : Int := if (Nm.tz a : Int) = n - 1 then 0 else if a / 2 ^ (n - 1).toNat % 2 = 1 then 1 else -1
theorem ret_ub {a a' : Int} {c c' : Bool} (h : a = a') (l : c = c') : Ending.returned (.tuple #[.int .u64 a, .bool c]) = .returned (.tuple #[.int .u64 a', .bool c']) := by rw [h, l]
/-- What parts make. -/
def fpO (P : Nat) (q ones : Int) (M E : Int) : Bool := decide (0 ≤ M) && decide (-5000 ≤ E) && decide (E ≤ 5000) && (decide (M = 0) || Nm.stOk P q ones M.toNat E)
def fpB (P : Nat) (q ones S : Int) (ng : Bool) (M E : Int) : Int := if fpO P q ones M E then (if M = 0 then sgn S 0 ng else sgn S (Nm.flb P (Nm.stU q M.toNat E) : Nat) ng) else 0
end Go.Proofs.YtkfjmcdniohljaaGreatDoor
