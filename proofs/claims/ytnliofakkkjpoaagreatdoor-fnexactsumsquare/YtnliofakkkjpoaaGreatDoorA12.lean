/-
  What is needed of AccA, ITs, FloatO.
-/
import Derived.Test.YtnliofakkkjpoaaGreatDoorA09
import Derived.Test.YtnliofakkkjpoaaGreatDoorA10
set_option maxHeartbeats 16000000
set_option maxRecDepth 1000000
namespace Go.Proofs.YtnliofakkkjpoaaGreatDoor
set_option linter.unusedVariables false
set_option linter.unusedSimpArgs false
open Go.RowKit Go.Deep
/-- A box of nine cells that may be written. -/
structure Q9 (w : World) (b : Nat) (v0 v1 v2 v3 v4 v5 v6 v7 v8 : Value) : Prop where
  c0 : w.cell? ⟨b, 0, none⟩ = some v0
  c1 : w.cell? ⟨b, 1, none⟩ = some v1
  c2 : w.cell? ⟨b, 2, none⟩ = some v2
  c3 : w.cell? ⟨b, 3, none⟩ = some v3
  c4 : w.cell? ⟨b, 4, none⟩ = some v4
  c5 : w.cell? ⟨b, 5, none⟩ = some v5
  c6 : w.cell? ⟨b, 6, none⟩ = some v6
  c7 : w.cell? ⟨b, 7, none⟩ = some v7
  c8 : w.cell? ⟨b, 8, none⟩ = some v8
  f0 : w.frozen? ⟨b, 0, none⟩ = false
  f1 : w.frozen? ⟨b, 1, none⟩ = false
  f2 : w.frozen? ⟨b, 2, none⟩ = false
  f3 : w.frozen? ⟨b, 3, none⟩ = false
  f4 : w.frozen? ⟨b, 4, none⟩ = false
  f5 : w.frozen? ⟨b, 5, none⟩ = false
  f6 : w.frozen? ⟨b, 6, none⟩ = false
  f7 : w.frozen? ⟨b, 7, none⟩ = false
  f8 : w.frozen? ⟨b, 8, none⟩ = false
theorem Q9.lt {w : World} {b : Nat} {v0 v1 v2 v3 v4 v5 v6 v7 v8 : Value} (h : Q9 w b v0 v1 v2 v3 v4 v5 v6 v7 v8) : b < w.heap.size := World.block_lt_of_cell? w _ h.c0
theorem Q9.cs {w : World} {b : Nat} {v0 v1 v2 v3 v4 v5 v6 v7 v8 : Value} (h : Q9 w b v0 v1 v2 v3 v4 v5 v6 v7 v8) : w.cell? ⟨b, 0, none⟩ = some v0 ∧ w.cell? ⟨b, 1, none⟩ = some v1 ∧ w.cell? ⟨b, 2, none⟩ = some v2 ∧ w.cell? ⟨b, 3, none⟩ = some v3 ∧ w.cell? ⟨b, 4, none⟩ = some v4 ∧ w.cell? ⟨b, 5, none⟩ = some v5 ∧ w.cell? ⟨b, 6, none⟩ = some v6 ∧ w.cell? ⟨b, 7, none⟩ = some v7 ∧ w.cell? ⟨b, 8, none⟩ = some v8 := ⟨h.c0, h.c1, h.c2, h.c3, h.c4, h.c5, h.c6, h.c7, h.c8⟩
theorem Q9.of_block {w w' : World} {b : Nat} {v0 v1 v2 v3 v4 v5 v6 v7 v8 : Value} (h : Q9 w b v0 v1 v2 v3 v4 v5 v6 v7 v8) (e : w'.heap[b]? = w.heap[b]?) : Q9 w' b v0 v1 v2 v3 v4 v5 v6 v7 v8 :=
  ⟨(World.cell?_of_block (a := ⟨b, 0, none⟩) e).trans h.c0, (World.cell?_of_block (a := ⟨b, 1, none⟩) e).trans h.c1, (World.cell?_of_block (a := ⟨b, 2, none⟩) e).trans h.c2, (World.cell?_of_block (a := ⟨b, 3, none⟩) e).trans h.c3, (World.cell?_of_block (a := ⟨b, 4, none⟩) e).trans h.c4, (World.cell?_of_block (a := ⟨b, 5, none⟩) e).trans h.c5, (World.cell?_of_block (a := ⟨b, 6, none⟩) e).trans h.c6, (World.cell?_of_block (a := ⟨b, 7, none⟩) e).trans h.c7, (World.cell?_of_block (a := ⟨b, 8, none⟩) e).trans h.c8, (World.frozen?_of_block (a := ⟨b, 0, none⟩) e).trans h.f0, (World.frozen?_of_block (a := ⟨b, 1, none⟩) e).trans h.f1, (World.frozen?_of_block (a := ⟨b, 2, none⟩) e).trans h.f2, (World.frozen?_of_block (a := ⟨b, 3, none⟩) e).trans h.f3, (World.frozen?_of_block (a := ⟨b, 4, none⟩) e).trans h.f4, (World.frozen?_of_block (a := ⟨b, 5, none⟩) e).trans h.f5, (World.frozen?_of_block (a := ⟨b, 6, none⟩) e).trans h.f6, (World.frozen?_of_block (a := ⟨b, 7, none⟩) e).trans h.f7, (World.frozen?_of_block (a := ⟨b, 8, none⟩) e).trans h.f8⟩
theorem Q9.below {w w' : World} {b : Nat} {v0 v1 v2 v3 v4 v5 v6 v7 v8 : Value} (h : Q9 w b v0 v1 v2 v3 v4 v5 v6 v7 v8) (hb : Below w.heap.size w w') : Q9 w' b v0 v1 v2 v3 v4 v5 v6 v7 v8 := h.of_block (hb.block b h.lt)
theorem Q9.new (w : World) (v0 v1 v2 v3 v4 v5 v6 v7 v8 : Value) (t : TypeId) : Q9 (w.alloc (.cells #[v0, v1, v2, v3, v4, v5, v6, v7, v8] t)) w.heap.size v0 v1 v2 v3 v4 v5 v6 v7 v8 := ⟨by simp, by simp, by simp, by simp, by simp, by simp, by simp, by simp, by simp, by simp, by simp, by simp, by simp, by simp, by simp, by simp, by simp, by simp⟩
theorem Q9.alloc {w : World} {b : Nat} {v0 v1 v2 v3 v4 v5 v6 v7 v8 : Value} (h : Q9 w b v0 v1 v2 v3 v4 v5 v6 v7 v8) (o : Obj) : Q9 (w.alloc o) b v0 v1 v2 v3 v4 v5 v6 v7 v8 := h.below ((Below.refl _ _).alloc (Nat.le_refl _) _)
theorem Q9.drew {w : World} {b : Nat} {v0 v1 v2 v3 v4 v5 v6 v7 v8 : Value} (h : Q9 w b v0 v1 v2 v3 v4 v5 v6 v7 v8) : Q9 w.drew b v0 v1 v2 v3 v4 v5 v6 v7 v8 := ⟨h.c0, h.c1, h.c2, h.c3, h.c4, h.c5, h.c6, h.c7, h.c8, h.f0, h.f1, h.f2, h.f3, h.f4, h.f5, h.f6, h.f7, h.f8⟩
theorem Q9.grown {w w' : World} {b : Nat} {v0 v1 v2 v3 v4 v5 v6 v7 v8 : Value} {row : Option Nat} (h : Q9 w b v0 v1 v2 v3 v4 v5 v6 v7 v8) (hg : w.grownBy w' row) (hne : ∀ g, row = some g → b ≠ g) : Q9 w' b v0 v1 v2 v3 v4 v5 v6 v7 v8 :=
  h.of_block (hg.block b h.lt (fun e => hne b e.symm rfl))
theorem Q9.other {w : World} {b : Nat} {v0 v1 v2 v3 v4 v5 v6 v7 v8 : Value} (h : Q9 w b v0 v1 v2 v3 v4 v5 v6 v7 v8) {p : Addr} (hp : b ≠ p.block) (u : Value) : Q9 (w.setCell p u) b v0 v1 v2 v3 v4 v5 v6 v7 v8 := h.of_block (Below.heap_setCell w p u b hp)
theorem szA_any (fm : Int) (ng : Bool) (T : Int) (nn bd pl mi am : Bool) (a : Option Addr) (len cap : Nat) (left : Int) (w : World) (hl : len ≤ 9223372036854775807) (h0 : 0 ≤ left) (h1 : left ≤ 1048576) :
    Calls Tryz.prog 15 #[.agg #[.int .i64 fm, .bool ng, .slice a len cap, .int .i64 T, .bool nn, .bool bd, .bool pl, .bool mi, .bool am], .int .i64 left] w fun e w' => e = .returned (.int .i64 (szR left len)) ∧ Below w.heap.size w w' := by
  by_cases h : szR left len < 0
  · have hr : szR left len = -1 := by unfold szR at *; split at h <;> rename_i hc <;> simp only [hc, if_true, if_false] <;> omega
    have H : Hid (szR left len = -1) := hr
    clear hr
    go_enter Tryz.func15, Tryz.ntmps15
    go_wp2_with fail
    refine (szW_any ng a len cap left _ hl h0 h1).mono ?_
    rintro e w1 ⟨rfl, hb1⟩
    go_wp2
    go_ret
    exact ⟨ret_int H.out.symm, (by repeat (first | exact bz0 _ _ | refine bz1 ?_ | refine bz2 ?_ _ | refine bz3 ?_ _ | refine bz4 ?_ hb1 | refine bz5 ?_ _ | refine bz6 ?_ _ | refine bz7 ?_ hb1))⟩
  · go_enter Tryz.func15, Tryz.ntmps15
    go_wp2_with fail
    refine (szW_any ng a len cap left _ hl h0 h1).mono ?_
    rintro e w1 ⟨rfl, hb1⟩
    go_wp2
    go_ret
    exact ⟨rfl, (by repeat (first | exact bz0 _ _ | refine bz1 ?_ | refine bz2 ?_ _ | refine bz3 ?_ _ | refine bz4 ?_ hb1 | refine bz5 ?_ _ | refine bz6 ?_ _ | refine bz7 ?_ hb1))⟩
theorem toA_any (fm : Int) (ng : Bool) (T : Int) (nn bd pl mi am : Bool) (v : Value) (zs : List Int) (w : World) (hs : Sl .u32 w v zs) (hl : zs.length ≤ 1048576) :
    Calls Tryz.prog 17 #[.agg #[.int .i64 fm, .bool ng, v, .int .i64 T, .bool nn, .bool bd, .bool pl, .bool mi, .bool am]] w fun e w' => ∃ a' c', e = .returned (.agg #[.int .i64 fm, .bool ng, .slice a' zs.length c', .int .i64 T, .bool nn, .bool bd, .bool pl, .bool mi, .bool am]) ∧ Own w' w.heap.size a' c' zs ∧ Below w.heap.size w w' := by
  go_enter Tryz.func17, Tryz.ntmps17
  go_wp2_with fail
  refine (toW_any ng v zs _ (hs.below (by repeat (first | exact bz0 _ _ | refine bz1 ?_ | refine bz2 ?_ _ | refine bz3 ?_ _ | refine bz5 ?_ _ | refine bz6 ?_ _))) hl).mono ?_
  rintro e w1 ⟨a', c', rfl, hown, hb⟩
  obtain ⟨hc, hf⟩ := bcell hb
  have hz : w.heap.size + 1 + 1 + 1 ≤ w1.heap.size := by have := hb.size; simp at this; omega
  go_wp2
  have ho : Own w1 (w.heap.size + 1 + 1 + 1) a' c' zs := by simpa using hown
  refine bodyPost_ret (v := .agg #[.int .i64 fm, .bool ng, .slice a' zs.length c', .int .i64 T, .bool nn, .bool bd, .bool pl, .bool mi, .bool am]) (by simp [results, Tryz.results17, go_sem, hc]) rfl ⟨a', c', rfl, ?_, ?_⟩
  · refine Own.base (B := w.heap.size + 1 + 1 + 1) ?_ (by omega)
    repeat (first | with_reducible exact ho | (with_reducible refine Own.setBelow ?_ ?_ _; rotate_left; simp))
  · exact (by (repeat with_reducible first | refine Below.setCell ?_ ?_ _ | exact bz0 _ _ | refine bz1 ?_ | refine bz2 ?_ _ | refine bz3 ?_ _ | refine bz4 ?_ hb | refine Below.alloc ?_ ?_ _ | refine Below.trans ?_ (Below.mono hb ?_)) <;> first | omega | (simp; done) | (simp; omega))
theorem eqA_same (fm : Int) (ng : Bool) (T : Int) (nn bd pl mi am : Bool) (a a' : Option Addr) (cap cap' : Nat) (zs : List Int) (w : World) (hx : Sl .u32 w (.slice a zs.length cap) zs) (hy : Sl .u32 w (.slice a' zs.length cap') zs) (hl : zs.length ≤ 140737488355328) :
    Calls Tryz.prog 19 #[.agg #[.int .i64 fm, .bool ng, .slice a zs.length cap, .int .i64 T, .bool nn, .bool bd, .bool pl, .bool mi, .bool am], .agg #[.int .i64 fm, .bool ng, .slice a' zs.length cap', .int .i64 T, .bool nn, .bool bd, .bool pl, .bool mi, .bool am]] w fun e w' => e = .returned (.bool true) ∧ Below w.heap.size w w' := by
  have q1 : (fm != fm) = false := by simp
  have q2 : (T != T) = false := by simp
  have q3 : (nn != nn) = false := by simp
  have q4 : (bd != bd) = false := by simp
  have q5 : (pl != pl) = false := by simp
  have q6 : (mi != mi) = false := by simp
  have q7 : (am != am) = false := by simp
  have C := hid (eqW_any ng ng a a' cap cap' zs zs ((w.alloc (.cells #[.int .i64 fm, .bool ng, .slice a zs.length cap, .int .i64 T, .bool nn, .bool bd, .bool pl, .bool mi, .bool am] 31)).alloc (.cells #[.int .i64 fm, .bool ng, .slice a' zs.length cap', .int .i64 T, .bool nn, .bool bd, .bool pl, .bool mi, .bool am] 31)) ((hx.alloc _).alloc _) ((hy.alloc _).alloc _) hl)
  rw [eqW_refl] at C
  go_enter Tryz.func19, Tryz.ntmps19
  go_wp2_with fail
  refine C.out.mono ?_
  rintro e w1 ⟨rfl, hb1⟩
  obtain ⟨hc, hf⟩ := bcell hb1
  go_wp2
  go_ret
  exact ⟨rfl, (by repeat (first | exact bz0 _ _ | refine bz1 ?_ | refine bz2 ?_ _ | refine bz3 ?_ _ | refine bz4 ?_ hb1 | refine bz5 ?_ _ | refine bz6 ?_ _ | refine bz7 ?_ hb1))⟩
theorem markA_any (fm : Int) (ng : Bool) (T : Int) (nn bd pl mi am : Bool) (a : Option Addr) (cap : Nat) (zs : List Int) (k : Int) (B : Nat) (w : World) (ho : Own w B a cap zs) (hl : zs.length ≤ 1048576) (h0 : 0 ≤ k) (h1 : k ≤ 1073741824) :
    Calls Tryz.prog 20 #[.agg #[.int .i64 fm, .bool ng, .slice a zs.length cap, .int .i64 T, .bool nn, .bool bd, .bool pl, .bool mi, .bool am], .int .i64 k] w fun e w' => e = .returned (.int .i64 (k + zs.length)) ∧ Own w' B a cap (iot k zs.length) ∧ w.grownBy w' (Value.slice a zs.length cap).ownBlock := by
  go_enter Tryz.func20, Tryz.ntmps20
  go_wp2_with fail
  refine (markW_any ng a cap zs k B _ (ho.below ((Below.refl _ _).alloc (Nat.le_refl _) _)) hl h0 h1).mono ?_
  rintro e w1 ⟨rfl, hown, hg⟩
  go_wp2
  go_ret
  refine ⟨rfl, hown, hg.os, hg.tape, hg.output, ?_, fun i hi hne => ?_⟩
  · have := hg.size; simp at this; omega
  · exact (hg.block i (by simp; omega) hne).trans (Below.heap_alloc _ _ _ hi)
theorem heldA_any (fm : Int) (ng : Bool) (T : Int) (nn bd pl mi am : Bool) (a : Option Addr) (cap : Nat) (zs : List Int) (k : Int) (w : World) (hs : Sl .u32 w (.slice a zs.length cap) zs) (hz : Nm.Dg zs) (hl : zs.length ≤ 1048576) (h0 : 0 ≤ k) (h1 : k ≤ 1073741824) :
    Calls Tryz.prog 21 #[.agg #[.int .i64 fm, .bool ng, .slice a zs.length cap, .int .i64 T, .bool nn, .bool bd, .bool pl, .bool mi, .bool am], .int .i64 k] w fun e w' => e = .returned (.int .i64 (heldR k zs)) ∧ Below w.heap.size w w' := by
  by_cases hn : heldR k zs < 0
  · have HN := hid (heldR_lt k zs hn h0)
    go_enter Tryz.func21, Tryz.ntmps21
    go_wp2_with fail
    refine (heldW_any ng a cap zs k _ (hs.alloc _) hz hl h0 h1).mono ?_
    rintro e w1 ⟨rfl, hb⟩
    go_wp2
    go_ret
    exact ⟨ret_int HN.out.symm, (by repeat (first | exact bz0 _ _ | refine bz1 ?_ | refine bz2 ?_ _ | refine bz3 ?_ _ | refine bz4 ?_ hb | refine bz5 ?_ _ | refine bz6 ?_ _ | refine bz7 ?_ hb))⟩
  · go_enter Tryz.func21, Tryz.ntmps21
    go_wp2_with fail
    refine (heldW_any ng a cap zs k _ (hs.alloc _) hz hl h0 h1).mono ?_
    rintro e w1 ⟨rfl, hb⟩
    go_wp2
    go_ret
    exact ⟨rfl, (by repeat (first | exact bz0 _ _ | refine bz1 ?_ | refine bz2 ?_ _ | refine bz3 ?_ _ | refine bz4 ?_ hb | refine bz5 ?_ _ | refine bz6 ?_ _ | refine bz7 ?_ hb))⟩
/-- The table of formats, and that of 64. -/
structure Ts (w : World) : Prop where
  f : Tab w
  t64 : Tb w 4 Lib.deBruijn64tab
theorem Ts.below {w w' : World} (h : Ts w) (hb : Below w.heap.size w w') : Ts w' := ⟨h.f.below hb, h.t64.below (by decide) hb⟩
theorem Ts.al {w : World} (h : Ts w) (o : Obj) : Ts (w.alloc o) := h.below ((Below.refl _ _).alloc (Nat.le_refl _) _)
theorem Ts.dr {w : World} (h : Ts w) : Ts w.drew := ⟨⟨h.f.c0, h.f.c1, h.f.c2, h.f.c3, h.f.c4, h.f.c5, h.f.c6, h.f.c7, h.f.c8⟩, h.t64⟩
end Go.Proofs.YtnliofakkkjpoaaGreatDoor
namespace Go.Proofs.YtnliofakkkjpoaaGreatDoor
set_option linter.unusedVariables false
set_option linter.unusedSimpArgs false
open Go.RowKit
theorem fin_no {fm x : Int} (h : okF fm x = false) : finB fm x = false := by unfold finB; rw [cls_no h]; decide
theorem fin_lt {fm x : Int} (h : okF fm x = true) : finB fm x = decide (absF fm x < infOf fm) := by
  rcases okF_cases h with ⟨rfl, hx⟩ | rfl
  · unfold finB infOf; rw [cls32 hx, abs32 hx, if_pos rfl]; unfold clsY
    rw [Bool.eq_iff_iff]; simp only [decide_eq_true_eq]
    repeat' split
    all_goals omega
  · unfold finB infOf; rw [cls64, abs64, if_neg (by decide)]; unfold clsY
    rw [Bool.eq_iff_iff]; simp only [decide_eq_true_eq]
    repeat' split
    all_goals omega
theorem impl_partsNo (fm x : Int) (w : World) (hT : Tab w) (hf : finB fm x = false) (h0 : 0 ≤ x) (h1 : x < 18446744073709551616) :
    Calls Tryz.prog 163 #[.int .i64 fm, .int .u64 x] w fun e w' => e = .returned (.tuple #[.agg #[.bool false, .int .i64 0, .int .i64 0], .bool false]) ∧ Below w.heap.size w w' := by
  go_enter Tryz.func163, Tryz.ntmps163
  go_wp2_with fail
  refine (impl_fin fm x _ (hT.below ((Below.refl _ _).alloc (Nat.le_refl _) _)) h0 h1).mono ?_
  rintro e w1 ⟨rfl, hb1⟩
  have c0 : w1.cell? ⟨w.heap.size, 0, none⟩ = some (.bool false) := (hb1.cell (p := ⟨w.heap.size, 0, none⟩) (by simp)).trans (by simp)
  have c1 : w1.cell? ⟨w.heap.size, 1, none⟩ = some (.int .i64 0) := (hb1.cell (p := ⟨w.heap.size, 1, none⟩) (by simp)).trans (by simp)
  have c2 : w1.cell? ⟨w.heap.size, 2, none⟩ = some (.int .i64 0) := (hb1.cell (p := ⟨w.heap.size, 2, none⟩) (by simp)).trans (by simp)
  have f0 : w1.frozen? ⟨w.heap.size, 0, none⟩ = false := (hb1.frozen (p := ⟨w.heap.size, 0, none⟩) (by simp)).trans (by simp)
  have f1 : w1.frozen? ⟨w.heap.size, 1, none⟩ = false := (hb1.frozen (p := ⟨w.heap.size, 1, none⟩) (by simp)).trans (by simp)
  have f2 : w1.frozen? ⟨w.heap.size, 2, none⟩ = false := (hb1.frozen (p := ⟨w.heap.size, 2, none⟩) (by simp)).trans (by simp)
  go_wp2
  exact bodyPost_ret (v := .tuple #[.agg #[.bool false, .int .i64 0, .int .i64 0], .bool false]) (by simp [results, Tryz.results163, go_sem, c0, c1, c2]) rfl ⟨rfl, (by repeat (first | exact bz0 _ _ | refine bz1 ?_ | refine bz2 ?_ _ | refine bz3 ?_ _ | refine bz4 ?_ hb1 | refine bz5 ?_ _ | refine bz6 ?_ _ | refine bz7 ?_ hb1))⟩
theorem spec_P32 (w : World) :
    Calls Tryz.prog 125 #[.int .i64 32] w fun e w' => e = .returned (.int .i64 24) ∧ Below w.heap.size w w' := by
  go_enter Tryz.func125, Tryz.ntmps125
  go_wp2
  go_ret
  exact ⟨rfl, (by repeat (first | exact bz0 _ _ | refine bz1 ?_ | refine bz2 ?_ _ | refine bz3 ?_ _ | refine bz5 ?_ _ | refine bz6 ?_ _))⟩
theorem spec_Q32 (w : World) :
    Calls Tryz.prog 61 #[.int .i64 32] w fun e w' => e = .returned (.int .i64 (-149)) ∧ Below w.heap.size w w' := by
  go_enter Tryz.func61, Tryz.ntmps61
  go_wp2
  go_ret
  exact ⟨rfl, (by repeat (first | exact bz0 _ _ | refine bz1 ?_ | refine bz2 ?_ _ | refine bz3 ?_ _ | refine bz5 ?_ _ | refine bz6 ?_ _))⟩
theorem spec_P64 (w : World) :
    Calls Tryz.prog 125 #[.int .i64 64] w fun e w' => e = .returned (.int .i64 53) ∧ Below w.heap.size w w' := by
  go_enter Tryz.func125, Tryz.ntmps125
  go_wp2
  go_ret
  exact ⟨rfl, (by repeat (first | exact bz0 _ _ | refine bz1 ?_ | refine bz2 ?_ _ | refine bz3 ?_ _ | refine bz5 ?_ _ | refine bz6 ?_ _))⟩
theorem spec_Q64 (w : World) :
    Calls Tryz.prog 61 #[.int .i64 64] w fun e w' => e = .returned (.int .i64 (-1074)) ∧ Below w.heap.size w w' := by
  go_enter Tryz.func61, Tryz.ntmps61
  go_wp2
  go_ret
  exact ⟨rfl, (by repeat (first | exact bz0 _ _ | refine bz1 ?_ | refine bz2 ?_ _ | refine bz3 ?_ _ | refine bz5 ?_ _ | refine bz6 ?_ _))⟩

theorem R3.set1 {w : World} {b : Nat} {v0 v1 v2 : Value} (h : R3 w b v0 v1 v2) (a1 : Value) : R3 (w.setCell ⟨b, 1, none⟩ a1) b v0 a1 v2 := by
  obtain ⟨h0, h1, h2, f0, f1, f2⟩ := h
  exact ⟨by simp [go_sem, h0, h1, h2], by simp [go_sem, h0, h1, h2], by simp [go_sem, h0, h1, h2], by simp [go_sem, f0, f1, f2], by simp [go_sem, f0, f1, f2], by simp [go_sem, f0, f1, f2]⟩
theorem ret_agg3 {s : Bool} {a b a' b' : Int} (h : a = a') (k : b = b') : Ending.returned (.agg #[.bool s, .int .i64 a, .int .i64 b]) = .returned (.agg #[.bool s, .int .i64 a', .int .i64 b']) := by rw [h, k]
theorem spec_l2Parts32 (x : Int) (w : World) (h0 : 0 ≤ x) (h1 : x < 4294967296) :
    Calls Tryz.prog 93 #[.int .i64 32, .int .u64 x] w fun e w' => e = .returned (.agg #[.bool (sigB 32 x), .int .i64 (parM 8388608 (x % 2147483648)), .int .i64 (parE 8388608 (-149) (x % 2147483648))]) ∧ Below w.heap.size w w' := by
  have h1' : x < 18446744073709551616 := by omega
  have HO : Hid (okF 32 x = true) := hid (by first | exact okF32 h1 | exact okF64)
  have HA : Hid (absF 32 x = x % 2147483648) := hid (by first | exact abs32 h1 | exact abs64)
  have HN : Hid (x % 8388608 = x % 2147483648 % 8388608) := hid (by omega)
  have e2 := Bt.mask23 (x % 2147483648) (by omega) (by omega)
  have y0 : 0 ≤ x % 2147483648 := by omega
  have y1 : x % 2147483648 < 2147483648 := by omega
  have xl0 : 0 ≤ x % 8388608 := by omega
  have xl1 : x % 8388608 < 8388608 := by omega
  have k0 : 0 ≤ x % 2147483648 / 8388608 := by omega
  have k1 : x % 2147483648 / 8388608 < 256 := by omega
  have hwr : IntKind.i64.wrap (x % 2147483648 % 8388608) = x % 2147483648 % 8388608 := by rw [IntKind.wrap_i64]; omega
  have hwk : IntKind.i64.wrap (x % 2147483648 / 8388608) = x % 2147483648 / 8388608 := by rw [IntKind.wrap_i64]; omega
  go_enter Tryz.func93, Tryz.ntmps93
  go_wp2_with fail
  refine (spec_l2abs 32 x _ HO.out h0 h1').mono ?_
  rw [HA.out]
  rintro e w1 ⟨rfl, hb1⟩
  go_wp2_with fail
  refine (spec_P32 _).mono ?_
  rintro e w2 ⟨rfl, hb2⟩
  go_wp2_with fail
  refine (spec_P32 _).mono ?_
  rintro e w3 ⟨rfl, hb3⟩
  go_wp2_with fail
  refine (spec_l2neg 32 x _ HO.out h0 h1').mono ?_
  rintro e w4 ⟨rfl, hb4⟩
  go_wp2_with fail
  refine (spec_Q32 _).mono ?_
  rintro e w5 ⟨rfl, hb5⟩
  have r5 := (((((R3.new w (.bool false) (.int .i64 0) (.int .i64 0) 113).below hb1).below hb2).below hb3).below hb4).below hb5
  by_cases hz : x % 2147483648 / 8388608 = 0
  · have HP : Hid (x % 8388608 = parM 8388608 (x % 2147483648)) := hid (by unfold parM; rw [if_pos hz]; exact HN.out)
    have HQ : Hid ((-149) = parE 8388608 (-149) (x % 2147483648)) := hid (by unfold parE; rw [if_pos hz])
    have hz' : ¬ 0 < x % 2147483648 / 8388608 := by omega
    clear hz
    obtain ⟨rc0, rc1, rc2, rf0, rf1, rf2⟩ := r5
    have lw : w.heap.size < w5.heap.size := World.block_lt_of_cell? w5 _ rc0
    go_wp2
    exact bodyPost_ret (v := .agg #[.bool (sigB 32 x), .int .i64 (x % 8388608), .int .i64 (-149)]) (by simp [results, Tryz.results93, go_sem, rc0, rc1, rc2, lw]) rfl ⟨ret_agg3 HP.out HQ.out, (by repeat (first | exact bz0 _ _ | refine bz1 ?_ | refine bz2 ?_ _ | refine bz3 ?_ _ | refine bz4 ?_ hb5 | refine bz4 ?_ hb4 | refine bz4 ?_ hb3 | refine bz4 ?_ hb2 | refine bz4 ?_ hb1 | refine bz5 ?_ _ | refine bz6 ?_ _ | refine bz7 ?_ hb5 | refine bz7 ?_ hb4 | refine bz7 ?_ hb3 | refine bz7 ?_ hb2 | refine bz7 ?_ hb1))⟩
  · have HP : Hid (x % 8388608 + 8388608 = parM 8388608 (x % 2147483648)) := hid (by unfold parM; rw [if_neg hz, ← HN.out])
    have HQ : Hid ((-149) + x % 2147483648 / 8388608 - 1 = parE 8388608 (-149) (x % 2147483648)) := hid (by unfold parE; rw [if_neg hz])
    have hz' : 0 < x % 2147483648 / 8388608 := by omega
    clear hz
    go_wp2_with fail
    refine (spec_P32 _).mono ?_
    rintro e w6 ⟨rfl, hb6⟩
    have r6 := (r5.al (.cells #[.bool (sigB 32 x), .int .i64 (x % 8388608), .int .i64 (-149)] 113)).below hb6
    have p6 := (R3.new w5 (.bool (sigB 32 x)) (.int .i64 (x % 8388608)) (.int .i64 (-149)) 113).below hb6
    have lw : w.heap.size < w5.heap.size := World.block_lt_of_cell? w5 _ r5.c0
    have r7 := r6.other (p := ⟨w5.heap.size, 1, none⟩) (Nat.ne_of_lt lw) (.int .i64 (x % 8388608 + 8388608))
    have p7 := p6.set1 (.int .i64 (x % 8388608 + 8388608))
    obtain ⟨pc0, pc1, pc2, pf0, pf1, pf2⟩ := p6
    go_wp2_with fail
    refine (spec_Q32 _).mono ?_
    rintro e w7 ⟨rfl, hb7⟩
    obtain ⟨rc0, rc1, rc2, rf0, rf1, rf2⟩ := r7.below hb7
    obtain ⟨qc0, qc1, qc2, qf0, qf1, qf2⟩ := p7.below hb7
    have lw6 : w5.heap.size < w6.heap.size := World.block_lt_of_cell? w6 _ pc0
    have lw7 : w5.heap.size < w7.heap.size := World.block_lt_of_cell? w7 _ qc0
    clear pc0 pc1 pc2 pf0 pf1 pf2 r6 r7 p7 r5
    go_wp2
    exact bodyPost_ret (v := .agg #[.bool (sigB 32 x), .int .i64 (x % 8388608 + 8388608), .int .i64 ((-149) + x % 2147483648 / 8388608 - 1)]) (by simp [results, Tryz.results93, go_sem, rc0, rc1, rc2, lw]) rfl ⟨ret_agg3 HP.out HQ.out, (by repeat (first | exact bz0 _ _ | refine bz1 ?_ | refine bz2 ?_ _ | refine bz3 ?_ _ | refine bz4 ?_ hb7 | refine bz4 ?_ hb6 | refine bz4 ?_ hb5 | refine bz4 ?_ hb4 | refine bz4 ?_ hb3 | refine bz4 ?_ hb2 | refine bz4 ?_ hb1 | refine bz5 ?_ _ | refine bz6 ?_ _ | refine bz7 ?_ hb7 | refine bz7 ?_ hb6 | refine bz7 ?_ hb5 | refine bz7 ?_ hb4 | refine bz7 ?_ hb3 | refine bz7 ?_ hb2 | refine bz7 ?_ hb1))⟩
theorem spec_l2Parts64 (x : Int) (w : World) (h0 : 0 ≤ x) (h1 : x < 18446744073709551616) :
    Calls Tryz.prog 93 #[.int .i64 64, .int .u64 x] w fun e w' => e = .returned (.agg #[.bool (sigB 64 x), .int .i64 (parM 4503599627370496 (x % 9223372036854775808)), .int .i64 (parE 4503599627370496 (-1074) (x % 9223372036854775808))]) ∧ Below w.heap.size w w' := by
  have h1' : x < 18446744073709551616 := by omega
  have HO : Hid (okF 64 x = true) := hid (by first | exact okF32 h1 | exact okF64)
  have HA : Hid (absF 64 x = x % 9223372036854775808) := hid (by first | exact abs32 h1 | exact abs64)
  have HN : Hid (x % 4503599627370496 = x % 9223372036854775808 % 4503599627370496) := hid (by omega)
  have e2 := Bt.mask52 (x % 9223372036854775808) (by omega) (by omega)
  have y0 : 0 ≤ x % 9223372036854775808 := by omega
  have y1 : x % 9223372036854775808 < 9223372036854775808 := by omega
  have xl0 : 0 ≤ x % 4503599627370496 := by omega
  have xl1 : x % 4503599627370496 < 4503599627370496 := by omega
  have k0 : 0 ≤ x % 9223372036854775808 / 4503599627370496 := by omega
  have k1 : x % 9223372036854775808 / 4503599627370496 < 2048 := by omega
  have hwr : IntKind.i64.wrap (x % 9223372036854775808 % 4503599627370496) = x % 9223372036854775808 % 4503599627370496 := by rw [IntKind.wrap_i64]; omega
  have hwk : IntKind.i64.wrap (x % 9223372036854775808 / 4503599627370496) = x % 9223372036854775808 / 4503599627370496 := by rw [IntKind.wrap_i64]; omega
  go_enter Tryz.func93, Tryz.ntmps93
  go_wp2_with fail
  refine (spec_l2abs 64 x _ HO.out h0 h1').mono ?_
  rw [HA.out]
  rintro e w1 ⟨rfl, hb1⟩
  go_wp2_with fail
  refine (spec_P64 _).mono ?_
  rintro e w2 ⟨rfl, hb2⟩
  go_wp2_with fail
  refine (spec_P64 _).mono ?_
  rintro e w3 ⟨rfl, hb3⟩
  go_wp2_with fail
  refine (spec_l2neg 64 x _ HO.out h0 h1').mono ?_
  rintro e w4 ⟨rfl, hb4⟩
  go_wp2_with fail
  refine (spec_Q64 _).mono ?_
  rintro e w5 ⟨rfl, hb5⟩
  have r5 := (((((R3.new w (.bool false) (.int .i64 0) (.int .i64 0) 113).below hb1).below hb2).below hb3).below hb4).below hb5
  by_cases hz : x % 9223372036854775808 / 4503599627370496 = 0
  · have HP : Hid (x % 4503599627370496 = parM 4503599627370496 (x % 9223372036854775808)) := hid (by unfold parM; rw [if_pos hz]; exact HN.out)
    have HQ : Hid ((-1074) = parE 4503599627370496 (-1074) (x % 9223372036854775808)) := hid (by unfold parE; rw [if_pos hz])
    have hz' : ¬ 0 < x % 9223372036854775808 / 4503599627370496 := by omega
    clear hz
    obtain ⟨rc0, rc1, rc2, rf0, rf1, rf2⟩ := r5
    have lw : w.heap.size < w5.heap.size := World.block_lt_of_cell? w5 _ rc0
    go_wp2
    exact bodyPost_ret (v := .agg #[.bool (sigB 64 x), .int .i64 (x % 4503599627370496), .int .i64 (-1074)]) (by simp [results, Tryz.results93, go_sem, rc0, rc1, rc2, lw]) rfl ⟨ret_agg3 HP.out HQ.out, (by repeat (first | exact bz0 _ _ | refine bz1 ?_ | refine bz2 ?_ _ | refine bz3 ?_ _ | refine bz4 ?_ hb5 | refine bz4 ?_ hb4 | refine bz4 ?_ hb3 | refine bz4 ?_ hb2 | refine bz4 ?_ hb1 | refine bz5 ?_ _ | refine bz6 ?_ _ | refine bz7 ?_ hb5 | refine bz7 ?_ hb4 | refine bz7 ?_ hb3 | refine bz7 ?_ hb2 | refine bz7 ?_ hb1))⟩
  · have HP : Hid (x % 4503599627370496 + 4503599627370496 = parM 4503599627370496 (x % 9223372036854775808)) := hid (by unfold parM; rw [if_neg hz, ← HN.out])
    have HQ : Hid ((-1074) + x % 9223372036854775808 / 4503599627370496 - 1 = parE 4503599627370496 (-1074) (x % 9223372036854775808)) := hid (by unfold parE; rw [if_neg hz])
    have hz' : 0 < x % 9223372036854775808 / 4503599627370496 := by omega
    clear hz
    go_wp2_with fail
    refine (spec_P64 _).mono ?_
    rintro e w6 ⟨rfl, hb6⟩
    have r6 := (r5.al (.cells #[.bool (sigB 64 x), .int .i64 (x % 4503599627370496), .int .i64 (-1074)] 113)).below hb6
    have p6 := (R3.new w5 (.bool (sigB 64 x)) (.int .i64 (x % 4503599627370496)) (.int .i64 (-1074)) 113).below hb6
    have lw : w.heap.size < w5.heap.size := World.block_lt_of_cell? w5 _ r5.c0
    have r7 := r6.other (p := ⟨w5.heap.size, 1, none⟩) (Nat.ne_of_lt lw) (.int .i64 (x % 4503599627370496 + 4503599627370496))
    have p7 := p6.set1 (.int .i64 (x % 4503599627370496 + 4503599627370496))
    obtain ⟨pc0, pc1, pc2, pf0, pf1, pf2⟩ := p6
    go_wp2_with fail
    refine (spec_Q64 _).mono ?_
    rintro e w7 ⟨rfl, hb7⟩
    obtain ⟨rc0, rc1, rc2, rf0, rf1, rf2⟩ := r7.below hb7
    obtain ⟨qc0, qc1, qc2, qf0, qf1, qf2⟩ := p7.below hb7
    have lw6 : w5.heap.size < w6.heap.size := World.block_lt_of_cell? w6 _ pc0
    have lw7 : w5.heap.size < w7.heap.size := World.block_lt_of_cell? w7 _ qc0
    clear pc0 pc1 pc2 pf0 pf1 pf2 r6 r7 p7 r5
    go_wp2
    exact bodyPost_ret (v := .agg #[.bool (sigB 64 x), .int .i64 (x % 4503599627370496 + 4503599627370496), .int .i64 ((-1074) + x % 9223372036854775808 / 4503599627370496 - 1)]) (by simp [results, Tryz.results93, go_sem, rc0, rc1, rc2, lw]) rfl ⟨ret_agg3 HP.out HQ.out, (by repeat (first | exact bz0 _ _ | refine bz1 ?_ | refine bz2 ?_ _ | refine bz3 ?_ _ | refine bz4 ?_ hb7 | refine bz4 ?_ hb6 | refine bz4 ?_ hb5 | refine bz4 ?_ hb4 | refine bz4 ?_ hb3 | refine bz4 ?_ hb2 | refine bz4 ?_ hb1 | refine bz5 ?_ _ | refine bz6 ?_ _ | refine bz7 ?_ hb7 | refine bz7 ?_ hb6 | refine bz7 ?_ hb5 | refine bz7 ?_ hb4 | refine bz7 ?_ hb3 | refine bz7 ?_ hb2 | refine bz7 ?_ hb1))⟩

/-- The parts of a float: the empty ones where it is not finite. -/
def pS (fm x : Int) : Bool := if finB fm x then sigB fm x else false
def pM (fm x : Int) : Int := if finB fm x then (if fm = 32 then parM 8388608 (x % 2147483648) else parM 4503599627370496 (x % 9223372036854775808)) else 0
def pE (fm x : Int) : Int := if finB fm x then (if fm = 32 then parE 8388608 (-149) (x % 2147483648) else parE 4503599627370496 (-1074) (x % 9223372036854775808)) else 0
theorem ret_p4 {s s' : Bool} {a b a' b' : Int} {o o' : Bool} (g : s = s') (h : a = a') (k : b = b') (l : o = o') : Ending.returned (.tuple #[.agg #[.bool s, .int .i64 a, .int .i64 b], .bool o]) = .returned (.tuple #[.agg #[.bool s', .int .i64 a', .int .i64 b'], .bool o']) := by rw [g, h, k, l]
theorem ret_p3 {s s' : Bool} {a b a' b' : Int} (g : s = s') (h : a = a') (k : b = b') : Ending.returned (.agg #[.bool s, .int .i64 a, .int .i64 b]) = .returned (.agg #[.bool s', .int .i64 a', .int .i64 b']) := by rw [g, h, k]
theorem impl_parts (fm x : Int) (w : World) (hT : Tab w) (h0 : 0 ≤ x) (h1 : x < 18446744073709551616) :
    Calls Tryz.prog 163 #[.int .i64 fm, .int .u64 x] w fun e w' => e = .returned (.tuple #[.agg #[.bool (pS fm x), .int .i64 (pM fm x), .int .i64 (pE fm x)], .bool (finB fm x)]) ∧ Below w.heap.size w w' := by
  cases hf : finB fm x
  · refine (impl_partsNo fm x w hT hf h0 h1).mono ?_
    rintro e w1 ⟨rfl, hb1⟩
    exact ⟨ret_p4 (by unfold pS; rw [hf]; rfl) (by unfold pM; rw [hf]; rfl) (by unfold pE; rw [hf]; rfl) rfl, hb1⟩
  have ho : okF fm x = true := by
    cases ho : okF fm x
    · rw [fin_no ho] at hf; cases hf
    · rfl
  have hlt := fin_lt ho
  rw [hf] at hlt
  have hlt' := of_decide_eq_true hlt.symm
  rcases okF_cases ho with ⟨rfl, hx⟩ | rfl
  · rw [abs32 hx] at hlt'
    refine (impl_parts32 x w hT hf h0 hx hlt').mono ?_
    rintro e w1 ⟨rfl, hb1⟩
    exact ⟨ret_p4 (by unfold pS; rw [hf]; rfl) (by unfold pM; rw [hf]; rfl) (by unfold pE; rw [hf]; rfl) rfl, hb1⟩
  · rw [abs64] at hlt'
    refine (impl_parts64 x w hT hf h0 h1 hlt').mono ?_
    rintro e w1 ⟨rfl, hb1⟩
    exact ⟨ret_p4 (by unfold pS; rw [hf]; rfl) (by unfold pM; rw [hf]; rfl) (by unfold pE; rw [hf]; rfl) rfl, hb1⟩
end Go.Proofs.YtnliofakkkjpoaaGreatDoor
