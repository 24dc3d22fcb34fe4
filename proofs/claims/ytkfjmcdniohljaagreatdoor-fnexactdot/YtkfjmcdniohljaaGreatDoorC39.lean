/-
  What is needed of LaidB, NO, NT, NP.
-/
import Derived.LaidSub
import Derived.MakeChecks
import Derived.Test.YtkfjmcdniohljaaGreatDoorC08
import Derived.Test.YtkfjmcdniohljaaGreatDoorC33
import Derived.Test.YtkfjmcdniohljaaGreatDoorC34
set_option maxHeartbeats 16000000
set_option maxRecDepth 1000000
namespace Go.Proofs.YtkfjmcdniohljaaGreatDoor
set_option linter.unusedVariables false
set_option linter.unusedSimpArgs false
namespace Ld
open Go.RowKit Go.Deep
def zs32 : List Int := Lib.deBruijn32tab.map Int.ofNat
theorem tb32 {W : World} (h : laidMet Tryz.prog [("math/bits.deBruijn32tab", Rows.laid_math_bits_deBruijn32tab)] W) : Tb W 3 Lib.deBruijn32tab := by
  have h' : laidMet Tryz.prog (("math/bits.deBruijn32tab", Lib.tabData .u8 zs32) :: []) W := h
  have hg : Tryz.prog.globalNamed "math/bits.deBruijn32tab" = some 3 := by kernel_rfl
  have ht := Lib.tabIs_of_head (g := 3) (t := 230) (e := 5) (n := 32) hg (by kernel_rfl) Tryz.underlying230 Tryz.underlying5 (by kernel_rfl) (by kernel_rfl) h'
  intro i hi
  have := ht.cell hg i (by simpa [zs32] using hi)
  rw [this]
  congr 2
  unfold zs32
  rw [List.getD_eq_getElem?_getD, List.getElem?_map, List.getD_eq_getElem?_getD, List.getElem?_eq_getElem hi]; rfl
def zs64 : List Int := Lib.deBruijn64tab.map Int.ofNat
theorem tb64 {W : World} (h : laidMet Tryz.prog [("math/bits.deBruijn64tab", Rows.laid_math_bits_deBruijn64tab)] W) : Tb W 4 Lib.deBruijn64tab := by
  have h' : laidMet Tryz.prog (("math/bits.deBruijn64tab", Lib.tabData .u8 zs64) :: []) W := h
  have hg : Tryz.prog.globalNamed "math/bits.deBruijn64tab" = some 4 := by kernel_rfl
  have ht := Lib.tabIs_of_head (g := 4) (t := 231) (e := 5) (n := 64) hg (by kernel_rfl) Tryz.underlying231 Tryz.underlying5 (by kernel_rfl) (by kernel_rfl) h'
  intro i hi
  have := ht.cell hg i (by simpa [zs64] using hi)
  rw [this]
  congr 2
  unfold zs64
  rw [List.getD_eq_getElem?_getD, List.getElem?_map, List.getD_eq_getElem?_getD, List.getElem?_eq_getElem hi]; rfl
end Ld
open Go.RowKit Go.Deep
/-- What the program's variables hold, the tables of math/bits among them. -/
structure E3 (u : Value) (w : World) : Prop where
  t : T3 w
  g : EA.ErrT w
  q : ErrQ w u
theorem E3.below {u : Value} {w w' : World} (h : E3 u w) (hb : Below w.heap.size w w') : E3 u w' := ⟨h.t.below hb, EA.five h.g hb, (hb.cell (p := ⟨0, 0, none⟩) (World.block_lt_of_cell? w _ h.q)).trans h.q⟩
theorem E3.ee {u : Value} {w : World} (h : E3 u w) : EE u w := ⟨h.t.s.f, h.g, h.q⟩
def EX3 (w : World) : Prop := ∃ u, E3 u w
theorem EX3.below {w w' : World} (h : EX3 w) (hb : Below w.heap.size w w') : EX3 w' := by obtain ⟨u, h⟩ := h; exact ⟨u, h.below hb⟩
theorem keepQ2 {w : World} {B b b' : Nat} {v0 v1 v2 v3 v4 y0 y1 y2 y3 y4 : Value} (h : Q5 w b v0 v1 v2 v3 v4) (h' : Q5 w b' y0 y1 y2 y3 y4) (n : b ≠ B) (n' : b' ≠ B) (u0 u1 u2 u3 u4 : Value) (W : World) (hW : W = (((((w.setCell ⟨B, 0, none⟩ u0).setCell ⟨B, 1, none⟩ u1).setCell ⟨B, 2, none⟩ u2).setCell ⟨B, 3, none⟩ u3).setCell ⟨B, 4, none⟩ u4)) :
    (W.cell? ⟨b, 0, none⟩ = some v0 ∧ W.cell? ⟨b, 1, none⟩ = some v1 ∧ W.cell? ⟨b, 2, none⟩ = some v2 ∧ W.cell? ⟨b, 3, none⟩ = some v3 ∧ W.cell? ⟨b, 4, none⟩ = some v4) ∧ (W.cell? ⟨b', 0, none⟩ = some y0 ∧ W.cell? ⟨b', 1, none⟩ = some y1 ∧ W.cell? ⟨b', 2, none⟩ = some y2 ∧ W.cell? ⟨b', 3, none⟩ = some y3 ∧ W.cell? ⟨b', 4, none⟩ = some y4) := by
  subst hW
  exact ⟨(h.of_block (heap5 w B b n u0 u1 u2 u3 u4)).cs, (h'.of_block (heap5 w B b' n' u0 u1 u2 u3 u4)).cs⟩
theorem keepQ4 {w : World} {B C b b' : Nat} {v0 v1 v2 v3 v4 y0 y1 y2 y3 y4 : Value} (h : Q5 w b v0 v1 v2 v3 v4) (h' : Q5 w b' y0 y1 y2 y3 y4) (n : b ≠ B) (n' : b' ≠ B) (m : b ≠ C) (m' : b' ≠ C) (u0 u1 u2 u3 u4 t0 t1 t2 t3 t4 : Value) (W : World) (hW : W = ((((((((((w.setCell ⟨B, 0, none⟩ u0).setCell ⟨B, 1, none⟩ u1).setCell ⟨B, 2, none⟩ u2).setCell ⟨B, 3, none⟩ u3).setCell ⟨B, 4, none⟩ u4).setCell ⟨C, 0, none⟩ t0).setCell ⟨C, 1, none⟩ t1).setCell ⟨C, 2, none⟩ t2).setCell ⟨C, 3, none⟩ t3).setCell ⟨C, 4, none⟩ t4)) :
    (W.cell? ⟨b, 0, none⟩ = some v0 ∧ W.cell? ⟨b, 1, none⟩ = some v1 ∧ W.cell? ⟨b, 2, none⟩ = some v2 ∧ W.cell? ⟨b, 3, none⟩ = some v3 ∧ W.cell? ⟨b, 4, none⟩ = some v4) ∧ (W.cell? ⟨b', 0, none⟩ = some y0 ∧ W.cell? ⟨b', 1, none⟩ = some y1 ∧ W.cell? ⟨b', 2, none⟩ = some y2 ∧ W.cell? ⟨b', 3, none⟩ = some y3 ∧ W.cell? ⟨b', 4, none⟩ = some y4) := by
  subst hW
  exact ⟨((h.of_block (heap5 w B b n u0 u1 u2 u3 u4)).of_block (heap5 _ C b m t0 t1 t2 t3 t4)).cs, ((h'.of_block (heap5 w B b' n' u0 u1 u2 u3 u4)).of_block (heap5 _ C b' m' t0 t1 t2 t3 t4)).cs⟩
theorem Q5.nw2 (w : World) (o : Obj) (v0 v1 v2 v3 v4 : Value) (t : TypeId) : Q5 ((w.alloc o).alloc (.cells #[v0, v1, v2, v3, v4] t)) (w.heap.size + 1) v0 v1 v2 v3 v4 := by simpa using Q5.new (w.alloc o) v0 v1 v2 v3 v4 t
theorem Q5.nw3 (w : World) (o o' : Obj) (v0 v1 v2 v3 v4 : Value) (t : TypeId) : Q5 (((w.alloc o).alloc o').alloc (.cells #[v0, v1, v2, v3, v4] t)) (w.heap.size + 2) v0 v1 v2 v3 v4 := by simpa using Q5.new ((w.alloc o).alloc o') v0 v1 v2 v3 v4 t
/-- What numberOf answers at a float, by letters. -/
abbrev NumAt (u : Value) (fm x : Int) (sg inf G : Bool) (L : List Int) (E : Int) (n b : Bool) : Prop := ∀ w : World, EE u w → Calls Tryz.prog 90 #[.int .i64 fm, .int .u64 x] w fun r w' => ∃ a' c' ev, r = .returned (.tuple #[.agg #[.bool sg, .bool inf, .bool G, .slice a' L.length c', .int .i64 E], ev]) ∧ EK u ev n b ∧ Own w' w.heap.size a' c' L ∧ Below w.heap.size w w'
theorem two_nums (fm x y : Int) (u : Value) (sg1 inf1 G1 : Bool) (L1 : List Int) (E1 : Int) (n1 b1 : Bool) (sg2 inf2 G2 : Bool) (L2 : List Int) (E2 : Int) (n2 b2 : Bool) (hx : NumAt u fm x sg1 inf1 G1 L1 E1 n1 b1) (hy : NumAt u fm y sg2 inf2 G2 L2 E2 n2 b2) (w : World) (hE : EE u w) :
    Calls Tryz.prog 206 #[.int .i64 fm, .int .u64 x, .int .u64 y] w fun r w' => ∃ a1 c1 a2 c2 ev, r = .returned (.tuple #[.agg #[.bool sg1, .bool inf1, .bool G1, .slice a1 L1.length c1, .int .i64 E1], .agg #[.bool sg2, .bool inf2, .bool G2, .slice a2 L2.length c2, .int .i64 E2], ev]) ∧ EK u ev (n1 || n2) (b1 || b2) ∧ Own w' w.heap.size a1 c1 L1 ∧ Own w' w.heap.size a2 c2 L2 ∧ Below w.heap.size w w' := by
  have CX := hid hx
  have CY := hid hy
  clear hx hy
  have R1 := (Q5.new w (.bool false) (.bool false) (.bool false) (.slice none 0 0) (.int .i64 0) 98).alloc (.cells #[.bool false, .bool false, .bool false, .slice none 0 0, .int .i64 0] 98)
  have R2 := Q5.nw2 w (.cells #[.bool false, .bool false, .bool false, .slice none 0 0, .int .i64 0] 98) (.bool false) (.bool false) (.bool false) (.slice none 0 0) (.int .i64 0) 98
  have bel0 : Below w.heap.size w ((w.alloc (.cells #[.bool false, .bool false, .bool false, .slice none 0 0, .int .i64 0] 98)).alloc (.cells #[.bool false, .bool false, .bool false, .slice none 0 0, .int .i64 0] 98)) := (by repeat (first | exact bz0 _ _ | refine bz1 ?_ | refine bz2 ?_ _ | refine bz3 ?_ _ | refine bz5 ?_ _ | refine bz6 ?_ _))
  go_enter Tryz.func206, Tryz.ntmps206
  go_wp2_with fail
  refine (CX.out _ (hE.below bel0)).mono ?_
  rintro r w1 ⟨a1, c1, e1, rfl, k1, o1, hb1⟩
  have bel1 := bel_go bel0 hb1
  replace R1 := (R1.below hb1).alloc (.cells #[.bool sg1, .bool inf1, .bool G1, .slice a1 L1.length c1, .int .i64 E1] 98)
  replace R2 := (R2.below hb1).alloc (.cells #[.bool sg1, .bool inf1, .bool G1, .slice a1 L1.length c1, .int .i64 E1] 98)
  have X := Q5.new w1 (.bool sg1) (.bool inf1) (.bool G1) (.slice a1 L1.length c1) (.int .i64 E1) 98
  have o1' := o1.alloc (.cells #[.bool sg1, .bool inf1, .bool G1, .slice a1 L1.length c1, .int .i64 E1] 98)
  have bel1' := bel_al bel1 (.cells #[.bool sg1, .bool inf1, .bool G1, .slice a1 L1.length c1, .int .i64 E1] 98)
  have l1 := R2.lt
  have z1 : w1.heap.size < (w1.alloc (.cells #[.bool sg1, .bool inf1, .bool G1, .slice a1 L1.length c1, .int .i64 E1] 98)).heap.size := by simp
  have lw1 : w.heap.size + 1 < w1.heap.size := by have := hb1.size; simp at this; omega
  clear hb1 o1 bel1 bel0
  go_wp2_with fail
  refine (CY.out _ (hE.below bel1')).mono ?_
  rintro r w2 ⟨a2, c2, e2, rfl, k2, o2, hb2⟩
  have bel2w := bel_go bel1' hb2
  have bel2 := bel_al (bel_go bel1' hb2) (.cells #[.bool sg2, .bool inf2, .bool G2, .slice a2 L2.length c2, .int .i64 E2] 98)
  replace R1 := (R1.below hb2).alloc (.cells #[.bool sg2, .bool inf2, .bool G2, .slice a2 L2.length c2, .int .i64 E2] 98)
  replace R2 := (R2.below hb2).alloc (.cells #[.bool sg2, .bool inf2, .bool G2, .slice a2 L2.length c2, .int .i64 E2] 98)
  replace X := (X.below hb2).alloc (.cells #[.bool sg2, .bool inf2, .bool G2, .slice a2 L2.length c2, .int .i64 E2] 98)
  have Y := Q5.new w2 (.bool sg2) (.bool inf2) (.bool G2) (.slice a2 L2.length c2) (.int .i64 E2) 98
  have p1 := (o1'.below hb2).alloc (.cells #[.bool sg2, .bool inf2, .bool G2, .slice a2 L2.length c2, .int .i64 E2] 98)
  have p2 := o2.alloc (.cells #[.bool sg2, .bool inf2, .bool G2, .slice a2 L2.length c2, .int .i64 E2] 98)
  have lw2 : w1.heap.size < w2.heap.size := by have := hb2.size; simp at this; omega
  have CW := hid (fun w' h => worse_any k1 k2 w' h)
  have g2 : EA.ErrT (w2.alloc (.cells #[.bool sg2, .bool inf2, .bool G2, .slice a2 L2.length c2, .int .i64 E2] 98)).drew := (hE.below (Below.drew bel2)).g
  clear hb2 o2 o1' bel1' k1 k2 CX CY l1 z1
  have xd := X.drew.cs
  have yd := Y.drew.cs
  go_wp2_with fail
  refine wp_region_held_drew (S := (fun w' => (w'.cell? ⟨w1.heap.size, 0, none⟩ = some (.bool sg1) ∧ w'.cell? ⟨w1.heap.size, 1, none⟩ = some (.bool inf1) ∧ w'.cell? ⟨w1.heap.size, 2, none⟩ = some (.bool G1) ∧ w'.cell? ⟨w1.heap.size, 3, none⟩ = some (.slice a1 L1.length c1) ∧ w'.cell? ⟨w1.heap.size, 4, none⟩ = some (.int .i64 E1)) ∧ (w'.cell? ⟨w2.heap.size, 0, none⟩ = some (.bool sg2) ∧ w'.cell? ⟨w2.heap.size, 1, none⟩ = some (.bool inf2) ∧ w'.cell? ⟨w2.heap.size, 2, none⟩ = some (.bool G2) ∧ w'.cell? ⟨w2.heap.size, 3, none⟩ = some (.slice a2 L2.length c2) ∧ w'.cell? ⟨w2.heap.size, 4, none⟩ = some (.int .i64 E2)))) (by kernel_rfl) ?_ (fun hHeld => ?_)
  · exact ⟨xd, yd⟩
  refine tk 0 ?_ rfl (Or.inl ⟨by rfl, ?_⟩) ?_
  rotate_left
  · (intro w hSw; (try dsimp only at hSw); go_simp; try (with_reducible rfl))
  try simp only [Act.put, Ls]
  refine tk 1 ?_ rfl (Or.inl ⟨by rfl, ?_⟩) ?_
  rotate_left
  · (intro w hSw; (try dsimp only at hSw); go_simp; try (with_reducible rfl))
  try simp only [Act.put, Ls]
  refine tk 2 ?_ rfl (Or.inl ⟨by rfl, ?_⟩) ?_
  rotate_left
  · (intro w hSw; (try dsimp only at hSw); go_simp; try (with_reducible rfl))
  try simp only [Act.put, Ls]
  refine tk 3 ?_ rfl (Or.inl ⟨by rfl, ?_⟩) ?_
  rotate_left
  · (intro w hSw; (try dsimp only at hSw); go_simp; try (with_reducible rfl))
  try simp only [Act.put, Ls]
  refine rdy 4 rfl (fun K hK => ?_)
  go_simp
  go_at_call 225; refine (CW.out _ g2).mono ?_; rintro r q1 ⟨ev, rfl, kv, hq1⟩
  have X1 := X.drew.below hq1
  have Y1 := Y.drew.below hq1
  have S1 := R1.drew.below hq1
  have S2 := R2.drew.below hq1
  have s1 := p1.drew.below hq1
  have s2 := p2.drew.below hq1
  obtain ⟨r0, r1, r2, r3, r4, f0, f1, f2, f3, f4⟩ := S1
  obtain ⟨q0, q1', q2, q3, q4, g0, g1, g2', g3, g4⟩ := S2
  refine hK.out _ _ ?_ (fun hHeld => ?_)
  · exact ⟨X1.cs, Y1.cs⟩
  clear hK K
  try simp only [Act.put, Ls]
  refine rdy 5 rfl (fun K hK => ?_)
  go_simp
  refine hK.out _ _ ?_ (fun hHeld => ?_)
  · exact keepQ2 X1 Y1 (by omega) (by omega) _ _ _ _ _ _ rfl
  clear hK K
  try simp only [Act.put, Ls]
  refine rdy 6 rfl (fun K hK => ?_)
  go_simp
  refine hK.out _ _ ?_ (fun hHeld => ?_)
  · exact keepQ4 X1 Y1 (by omega) (by omega) (by omega) (by omega) _ _ _ _ _ _ _ _ _ _ _ rfl
  clear hK K
  try simp only [Act.put, Ls]
  refine rdy 7 rfl (fun K hK => ?_)
  go_simp
  refine hK.out _ _ ?_ (fun hHeld => ?_)
  · exact keepQ4 X1 Y1 (by omega) (by omega) (by omega) (by omega) _ _ _ _ _ _ _ _ _ _ _ rfl
  clear hK K
  try simp only [Act.put, Ls]
  refine wpAnyH_done (by kernel_rfl) ?_ _
  go_wp2
  refine bodyPost_ret (v := .tuple #[.agg #[.bool sg1, .bool inf1, .bool G1, .slice a1 L1.length c1, .int .i64 E1], .agg #[.bool sg2, .bool inf2, .bool G2, .slice a2 L2.length c2, .int .i64 E2], ev]) (by simp [results, Tryz.results206, go_sem, r0, r1, r2, r3, r4, q0, q1', q2, q3, q4]) rfl ⟨a1, c1, a2, c2, ev, rfl, kv, ?_, ?_, ?_⟩
  · refine Own.base (B := w.heap.size + 2) ?_ (by omega)
    have s1' := s1.base (B' := w.heap.size + 2) (by simp <;> omega)
    repeat (first | with_reducible exact s1' | (with_reducible refine Own.setBelow ?_ ?_ _; rotate_left; (simp; try omega)))
  · refine Own.base (B := w.heap.size + 2) ?_ (by omega)
    have s2' := s2.base (B' := w.heap.size + 2) (by simp <;> omega)
    repeat (first | with_reducible exact s2' | (with_reducible refine Own.setBelow ?_ ?_ _; rotate_left; (simp; try omega)))
  · exact (by (repeat with_reducible first | refine Below.setCell ?_ ?_ _ | exact bz0 _ _ | refine bz1 ?_ | refine bz2 ?_ _ | refine bz3 ?_ _ | refine bz4 ?_ hq1 | refine bz4 ?_ bel2w | refine Below.alloc ?_ ?_ _ | refine Below.trans ?_ (Below.mono hq1 ?_) | refine Below.trans ?_ (Below.mono bel2w ?_)) <;> first | omega | (simp; done) | (simp; omega))
/-- Whether a product is invalid: infinity and zero. -/
def oddB (inf1 z1 inf2 z2 : Bool) : Bool := (inf1 && (!inf2 && z2)) || ((!inf1 && z1) && inf2)
theorem times_odd (sg1 inf1 G1 : Bool) (L1 : List Int) (E1 : Int) (a1 : Option Addr) (c1 : Nat) (sg2 inf2 G2 : Bool) (L2 : List Int) (E2 : Int) (a2 : Option Addr) (c2 : Nat) (w : World) (hl1 : L1.length ≤ 200) (hl2 : L2.length ≤ 200) (ho : oddB inf1 (decide (L1.length = 0)) inf2 (decide (L2.length = 0)) = true) :
    Calls Tryz.prog 207 #[.agg #[.bool sg1, .bool inf1, .bool G1, .slice a1 L1.length c1, .int .i64 E1], .agg #[.bool sg2, .bool inf2, .bool G2, .slice a2 L2.length c2, .int .i64 E2]] w fun r w' => ∃ s : ByteArray, r = .returned (.tuple #[.agg #[.bool false, .bool false, .bool false, .slice none 0 0, .int .i64 0], .iface 179 (.agg #[.iface 181 (.agg #[.string s])])]) ∧ Below w.heap.size w w' := by
  have C1 := hid (fun w' => zero_any sg1 inf1 G1 a1 L1.length c1 E1 w' (by omega))
  have C2 := hid (fun w' => zero_any sg2 inf2 G2 a2 L2.length c2 E2 w' (by omega))
  obtain ⟨z1, e1⟩ : ∃ z, z = decide (L1.length = 0) := ⟨_, rfl⟩
  obtain ⟨z2, e2⟩ : ∃ z, z = decide (L2.length = 0) := ⟨_, rfl⟩
  rw [← e1] at C1 ho
  rw [← e2] at C2 ho
  clear e1 e2
  have X := ((Q5.new w (.bool sg1) (.bool inf1) (.bool G1) (.slice a1 L1.length c1) (.int .i64 E1) 98).alloc (.cells #[.bool sg2, .bool inf2, .bool G2, .slice a2 L2.length c2, .int .i64 E2] 98)).alloc (.cells #[.bool false, .bool false, .bool false, .slice none 0 0, .int .i64 0] 98)
  have Y := (Q5.nw2 w (.cells #[.bool sg1, .bool inf1, .bool G1, .slice a1 L1.length c1, .int .i64 E1] 98) (.bool sg2) (.bool inf2) (.bool G2) (.slice a2 L2.length c2) (.int .i64 E2) 98).alloc (.cells #[.bool false, .bool false, .bool false, .slice none 0 0, .int .i64 0] 98)
  have R := Q5.nw3 w (.cells #[.bool sg1, .bool inf1, .bool G1, .slice a1 L1.length c1, .int .i64 E1] 98) (.cells #[.bool sg2, .bool inf2, .bool G2, .slice a2 L2.length c2, .int .i64 E2] 98) (.bool false) (.bool false) (.bool false) (.slice none 0 0) (.int .i64 0) 98
  have bel0 : Below w.heap.size w (((w.alloc (.cells #[.bool sg1, .bool inf1, .bool G1, .slice a1 L1.length c1, .int .i64 E1] 98)).alloc (.cells #[.bool sg2, .bool inf2, .bool G2, .slice a2 L2.length c2, .int .i64 E2] 98)).alloc (.cells #[.bool false, .bool false, .bool false, .slice none 0 0, .int .i64 0] 98)) := (by repeat (first | exact bz0 _ _ | refine bz1 ?_ | refine bz2 ?_ _ | refine bz3 ?_ _ | refine bz5 ?_ _ | refine bz6 ?_ _))
  cases inf1 with
  | true =>
    have h2 : (!inf2 && z2) = true := by revert ho; cases inf2 <;> cases z2 <;> simp [oddB]
    rw [h2] at C2
    clear ho h2 C1
    obtain ⟨x0, x1, x2, x3, x4⟩ := X.cs
    obtain ⟨y0, y1, y2, y3, y4⟩ := Y.cs
    go_enter Tryz.func207, Tryz.ntmps207
    go_wp2_with fail
    refine (C2.out _).mono ?_
    rintro r w1 ⟨rfl, hb1⟩
    clear x0 x1 x2 x3 x4 y0 y1 y2 y3 y4
    obtain ⟨r0, r1, r2, r3, r4, f0, f1, f2, f3, f4⟩ := R.below hb1
    go_wp2
    refine bodyPost_ret (by simp [results, Tryz.results207, go_sem, r0, r1, r2, r3, r4]; rfl) rfl ⟨_, rfl, ?_⟩
    exact (by (repeat with_reducible first | refine Below.setCell ?_ ?_ _ | exact bz0 _ _ | refine bz1 ?_ | refine bz2 ?_ _ | refine bz3 ?_ _ | refine bz4 ?_ hb1 | refine bz4 ?_ bel0 | refine Below.alloc ?_ ?_ _ | refine Below.trans ?_ (Below.mono hb1 ?_) | refine Below.trans ?_ (Below.mono bel0 ?_)) <;> first | omega | (simp; done) | (simp; omega))
  | false =>
    obtain ⟨rfl, rfl⟩ : z1 = true ∧ inf2 = true := by revert ho; cases inf2 <;> cases z1 <;> simp [oddB]
    simp only [Bool.not_false, Bool.true_and] at C1
    clear ho C2
    obtain ⟨x0, x1, x2, x3, x4⟩ := X.cs
    obtain ⟨y0, y1, y2, y3, y4⟩ := Y.cs
    go_enter Tryz.func207, Tryz.ntmps207
    go_wp2_with fail
    refine (C1.out _).mono ?_
    rintro r w1 ⟨rfl, hb1⟩
    clear x0 x1 x2 x3 x4 y0 y1 y2 y3 y4
    obtain ⟨y0, y1, y2, y3, y4⟩ := (Y.below hb1).cs
    obtain ⟨r0, r1, r2, r3, r4, f0, f1, f2, f3, f4⟩ := R.below hb1
    go_wp2
    refine bodyPost_ret (by simp [results, Tryz.results207, go_sem, r0, r1, r2, r3, r4]; rfl) rfl ⟨_, rfl, ?_⟩
    exact (by (repeat with_reducible first | refine Below.setCell ?_ ?_ _ | exact bz0 _ _ | refine bz1 ?_ | refine bz2 ?_ _ | refine bz3 ?_ _ | refine bz4 ?_ hb1 | refine bz4 ?_ bel0 | refine Below.alloc ?_ ?_ _ | refine Below.trans ?_ (Below.mono hb1 ?_) | refine Below.trans ?_ (Below.mono bel0 ?_)) <;> first | omega | (simp; done) | (simp; omega))
theorem times_inf (sg1 inf1 G1 : Bool) (L1 : List Int) (E1 : Int) (a1 : Option Addr) (c1 : Nat) (sg2 inf2 G2 : Bool) (L2 : List Int) (E2 : Int) (a2 : Option Addr) (c2 : Nat) (w : World) (hl1 : L1.length ≤ 200) (hl2 : L2.length ≤ 200) (ho : oddB inf1 (decide (L1.length = 0)) inf2 (decide (L2.length = 0)) = false) (hi : (inf1 || inf2) = true) (ng : Bool) (hng : ng = (sg1 != sg2)) :
    Calls Tryz.prog 207 #[.agg #[.bool sg1, .bool inf1, .bool G1, .slice a1 L1.length c1, .int .i64 E1], .agg #[.bool sg2, .bool inf2, .bool G2, .slice a2 L2.length c2, .int .i64 E2]] w fun r w' => r = .returned (.tuple #[.agg #[.bool ng, .bool true, .bool false, .slice none 0 0, .int .i64 0], .nilIface]) ∧ Below w.heap.size w w' := by
  have C1 := hid (fun w' => zero_any sg1 inf1 G1 a1 L1.length c1 E1 w' (by omega))
  have C2 := hid (fun w' => zero_any sg2 inf2 G2 a2 L2.length c2 E2 w' (by omega))
  obtain ⟨z1, e1⟩ : ∃ z, z = decide (L1.length = 0) := ⟨_, rfl⟩
  obtain ⟨z2, e2⟩ : ∃ z, z = decide (L2.length = 0) := ⟨_, rfl⟩
  rw [← e1] at C1 ho
  rw [← e2] at C2 ho
  clear e1 e2
  have hng' : (sg1 != sg2) = ng := hng.symm
  have hng2 : (sg1 == sg2) = !ng := by rw [← hng']; cases sg1 <;> cases sg2 <;> rfl
  clear hng
  have X := ((Q5.new w (.bool sg1) (.bool inf1) (.bool G1) (.slice a1 L1.length c1) (.int .i64 E1) 98).alloc (.cells #[.bool sg2, .bool inf2, .bool G2, .slice a2 L2.length c2, .int .i64 E2] 98)).alloc (.cells #[.bool false, .bool false, .bool false, .slice none 0 0, .int .i64 0] 98)
  have Y := (Q5.nw2 w (.cells #[.bool sg1, .bool inf1, .bool G1, .slice a1 L1.length c1, .int .i64 E1] 98) (.bool sg2) (.bool inf2) (.bool G2) (.slice a2 L2.length c2) (.int .i64 E2) 98).alloc (.cells #[.bool false, .bool false, .bool false, .slice none 0 0, .int .i64 0] 98)
  have R := Q5.nw3 w (.cells #[.bool sg1, .bool inf1, .bool G1, .slice a1 L1.length c1, .int .i64 E1] 98) (.cells #[.bool sg2, .bool inf2, .bool G2, .slice a2 L2.length c2, .int .i64 E2] 98) (.bool false) (.bool false) (.bool false) (.slice none 0 0) (.int .i64 0) 98
  have bel0 : Below w.heap.size w (((w.alloc (.cells #[.bool sg1, .bool inf1, .bool G1, .slice a1 L1.length c1, .int .i64 E1] 98)).alloc (.cells #[.bool sg2, .bool inf2, .bool G2, .slice a2 L2.length c2, .int .i64 E2] 98)).alloc (.cells #[.bool false, .bool false, .bool false, .slice none 0 0, .int .i64 0] 98)) := (by repeat (first | exact bz0 _ _ | refine bz1 ?_ | refine bz2 ?_ _ | refine bz3 ?_ _ | refine bz5 ?_ _ | refine bz6 ?_ _))
  cases inf1 with
  | true =>
    have h2 : (!inf2 && z2) = false := by revert ho; cases inf2 <;> cases z2 <;> simp [oddB]
    rw [h2] at C2
    simp only [Bool.not_true, Bool.false_and] at C1
    clear ho h2 hi
    obtain ⟨x0, x1, x2, x3, x4⟩ := X.cs
    obtain ⟨y0, y1, y2, y3, y4⟩ := Y.cs
    go_enter Tryz.func207, Tryz.ntmps207
    go_wp2_with fail
    refine (C2.out _).mono ?_
    rintro r w1 ⟨rfl, hb1⟩
    clear x0 x1 x2 x3 x4 y0 y1 y2 y3 y4
    replace X := X.below hb1
    replace Y := Y.below hb1
    replace R := R.below hb1
    obtain ⟨x0, x1, x2, x3, x4⟩ := X.cs
    obtain ⟨y0, y1, y2, y3, y4⟩ := Y.cs
    go_wp2_with fail
    refine (C1.out _).mono ?_
    rintro r w2 ⟨rfl, hb2⟩
    clear x0 x1 x2 x3 x4 y0 y1 y2 y3 y4
    obtain ⟨x0, x1, x2, x3, x4⟩ := (X.below hb2).cs
    obtain ⟨y0, y1, y2, y3, y4⟩ := (Y.below hb2).cs
    obtain ⟨r0, r1, r2, r3, r4, f0, f1, f2, f3, f4⟩ := R.below hb2
    go_wp2
    refine bodyPost_ret (v := .tuple #[.agg #[.bool ng, .bool true, .bool false, .slice none 0 0, .int .i64 0], .nilIface]) (by simp [results, Tryz.results207, go_sem, r0, r1, r2, r3, r4, hng2]) rfl ⟨rfl, ?_⟩
    exact (by (repeat with_reducible first | refine Below.setCell ?_ ?_ _ | exact bz0 _ _ | refine bz1 ?_ | refine bz2 ?_ _ | refine bz3 ?_ _ | refine bz4 ?_ hb2 | refine bz4 ?_ hb1 | refine bz4 ?_ bel0 | refine Below.alloc ?_ ?_ _ | refine Below.trans ?_ (Below.mono hb2 ?_) | refine Below.trans ?_ (Below.mono hb1 ?_) | refine Below.trans ?_ (Below.mono bel0 ?_)) <;> first | omega | (simp; done) | (simp; omega))
  | false =>
    have hi2 : inf2 = true := by simpa using hi
    subst hi2
    have hz1 : z1 = false := by revert ho; cases z1 <;> simp [oddB]
    subst hz1
    simp only [Bool.not_false, Bool.true_and] at C1
    clear ho hi C2
    obtain ⟨x0, x1, x2, x3, x4⟩ := X.cs
    obtain ⟨y0, y1, y2, y3, y4⟩ := Y.cs
    go_enter Tryz.func207, Tryz.ntmps207
    go_wp2_with fail
    refine (C1.out _).mono ?_
    rintro r w1 ⟨rfl, hb1⟩
    clear x0 x1 x2 x3 x4 y0 y1 y2 y3 y4
    obtain ⟨x0, x1, x2, x3, x4⟩ := (X.below hb1).cs
    obtain ⟨y0, y1, y2, y3, y4⟩ := (Y.below hb1).cs
    obtain ⟨r0, r1, r2, r3, r4, f0, f1, f2, f3, f4⟩ := R.below hb1
    go_wp2
    refine bodyPost_ret (v := .tuple #[.agg #[.bool ng, .bool true, .bool false, .slice none 0 0, .int .i64 0], .nilIface]) (by simp [results, Tryz.results207, go_sem, r0, r1, r2, r3, r4, hng2]) rfl ⟨rfl, ?_⟩
    exact (by (repeat with_reducible first | refine Below.setCell ?_ ?_ _ | exact bz0 _ _ | refine bz1 ?_ | refine bz2 ?_ _ | refine bz3 ?_ _ | refine bz4 ?_ hb1 | refine bz4 ?_ bel0 | refine Below.alloc ?_ ?_ _ | refine Below.trans ?_ (Below.mono hb1 ?_) | refine Below.trans ?_ (Below.mono bel0 ?_)) <;> first | omega | (simp; done) | (simp; omega))
theorem mul_ok {na nb : Bool} {xs ys : List Int} (a b : Option Addr) (cap cap' : Nat) (w : World) (hx : Sl .u32 w (.slice a xs.length cap) xs) (hy : Sl .u32 w (.slice b ys.length cap') ys) (dx : Nm.Dg xs) (dy : Nm.Dg ys) (ho : okB na xs = true) (ho' : okB nb ys = true) (x : Int) (hxv : x = Nm.wv na xs * Nm.wv nb ys) (hf : Nm.fits x = true) :
    Calls Tryz.prog 226 #[.agg #[.bool na, .slice a xs.length cap], .agg #[.bool nb, .slice b ys.length cap']] w fun e w' => ∃ a' c', e = .returned (.tuple #[.agg #[.bool (Nm.wn x), .slice a' (Nm.wl x).length c'], .bool true]) ∧ Own w' w.heap.size a' c' (Nm.wl x) ∧ Below w.heap.size w w' := by
  have h1 := (okB_nz ho).2
  have h2 := (okB_nz ho').2
  have h := wmul_impl na nb a b cap cap' xs ys w hx hy dx dy (by omega) (by omega) x hxv
  have e4 := out_fits hf
  rw [ho, ho', Bool.and_self, (op_yes _).1, (op_yes _).2.1, (op_yes _).2.2, hf, e4.1, e4.2] at h
  exact h
theorem times_fin (sg1 G1 : Bool) (L1 : List Int) (E1 : Int) (a1 : Option Addr) (c1 : Nat) (sg2 G2 : Bool) (L2 : List Int) (E2 : Int) (a2 : Option Addr) (c2 : Nat) (w : World) (ng G : Bool) (L : List Int) (E : Int) (hng : ng = (sg1 != sg2)) (hE : E = E1 + E2) (h1 : -5000 ≤ E1 ∧ E1 ≤ 5000) (h2 : -5000 ≤ E2 ∧ E2 ≤ 5000) (hl1 : L1.length ≤ 200) (hl2 : L2.length ≤ 200) (s1 : Sl .u32 w (.slice a1 L1.length c1) L1) (s2 : Sl .u32 w (.slice a2 L2.length c2) L2)
    (hm : ∀ w' : World, Sl .u32 w' (.slice a1 L1.length c1) L1 → Sl .u32 w' (.slice a2 L2.length c2) L2 → Calls Tryz.prog 226 #[.agg #[.bool G1, .slice a1 L1.length c1], .agg #[.bool G2, .slice a2 L2.length c2]] w' fun r w'' => ∃ a' c', r = .returned (.tuple #[.agg #[.bool G, .slice a' L.length c'], .bool true]) ∧ Own w'' w'.heap.size a' c' L ∧ Below w'.heap.size w' w'') :
    Calls Tryz.prog 207 #[.agg #[.bool sg1, .bool false, .bool G1, .slice a1 L1.length c1, .int .i64 E1], .agg #[.bool sg2, .bool false, .bool G2, .slice a2 L2.length c2, .int .i64 E2]] w fun r w' => ∃ a' c', r = .returned (.tuple #[.agg #[.bool ng, .bool false, .bool G, .slice a' L.length c', .int .i64 E], .nilIface]) ∧ Own w' w.heap.size a' c' L ∧ Below w.heap.size w w' := by
  have C1 := hid (fun w' => zero_any sg1 false G1 a1 L1.length c1 E1 w' (by omega))
  have CM := hid hm
  obtain ⟨z1, e1⟩ : ∃ z, z = decide (L1.length = 0) := ⟨_, rfl⟩
  rw [← e1] at C1
  simp only [Bool.not_false, Bool.true_and] at C1
  clear e1 hm
  have hng' : (sg1 != sg2) = ng := hng.symm
  have hng2 : (sg1 == sg2) = !ng := by rw [← hng']; cases sg1 <;> cases sg2 <;> rfl
  have hwr : IntKind.i64.wrap (E1 + E2) = E := by rw [hE, IntKind.wrap_i64]; omega
  clear hng hE
  have X := ((Q5.new w (.bool sg1) (.bool false) (.bool G1) (.slice a1 L1.length c1) (.int .i64 E1) 98).alloc (.cells #[.bool sg2, .bool false, .bool G2, .slice a2 L2.length c2, .int .i64 E2] 98)).alloc (.cells #[.bool false, .bool false, .bool false, .slice none 0 0, .int .i64 0] 98)
  have Y := (Q5.nw2 w (.cells #[.bool sg1, .bool false, .bool G1, .slice a1 L1.length c1, .int .i64 E1] 98) (.bool sg2) (.bool false) (.bool G2) (.slice a2 L2.length c2) (.int .i64 E2) 98).alloc (.cells #[.bool false, .bool false, .bool false, .slice none 0 0, .int .i64 0] 98)
  have R := Q5.nw3 w (.cells #[.bool sg1, .bool false, .bool G1, .slice a1 L1.length c1, .int .i64 E1] 98) (.cells #[.bool sg2, .bool false, .bool G2, .slice a2 L2.length c2, .int .i64 E2] 98) (.bool false) (.bool false) (.bool false) (.slice none 0 0) (.int .i64 0) 98
  have bel0 : Below w.heap.size w (((w.alloc (.cells #[.bool sg1, .bool false, .bool G1, .slice a1 L1.length c1, .int .i64 E1] 98)).alloc (.cells #[.bool sg2, .bool false, .bool G2, .slice a2 L2.length c2, .int .i64 E2] 98)).alloc (.cells #[.bool false, .bool false, .bool false, .slice none 0 0, .int .i64 0] 98)) := (by repeat (first | exact bz0 _ _ | refine bz1 ?_ | refine bz2 ?_ _ | refine bz3 ?_ _ | refine bz5 ?_ _ | refine bz6 ?_ _))
  cases z1
  all_goals
    obtain ⟨x0, x1, x2, x3, x4⟩ := X.cs
    obtain ⟨y0, y1, y2, y3, y4⟩ := Y.cs
    go_enter Tryz.func207, Tryz.ntmps207
    go_wp2_with fail
    refine (C1.out _).mono ?_
    rintro r w1 ⟨rfl, hb1⟩
    clear x0 x1 x2 x3 x4 y0 y1 y2 y3 y4
    replace X := X.below hb1
    replace Y := Y.below hb1
    replace R := R.below hb1
    have bel1 := bel_go bel0 hb1
    obtain ⟨x0, x1, x2, x3, x4⟩ := X.cs
    obtain ⟨y0, y1, y2, y3, y4⟩ := Y.cs
    go_wp2_with fail
    refine (CM.out _ (s1.below bel1) (s2.below bel1)).mono ?_
    rintro r w2 ⟨a3, c3, rfl, o3, hb2⟩
    clear x0 x1 x2 x3 x4 y0 y1 y2 y3 y4
    have lw1 := R.lt
    have lw2 := hb2.size
    obtain ⟨x0, x1, x2, x3, x4⟩ := ((X.below hb2).alloc (.cells #[.bool G, .slice a3 L.length c3] 32)).cs
    obtain ⟨y0, y1, y2, y3, y4⟩ := ((Y.below hb2).alloc (.cells #[.bool G, .slice a3 L.length c3] 32)).cs
    obtain ⟨r0, r1, r2, r3, r4, f0, f1, f2, f3, f4⟩ := (R.below hb2).alloc (.cells #[.bool G, .slice a3 L.length c3] 32)
    obtain ⟨d0, d1⟩ := Box.new w2 (.bool G) (.slice a3 L.length c3) 32
    have o4 := o3.alloc (.cells #[.bool G, .slice a3 L.length c3] 32)
    go_wp2
    refine bodyPost_ret (v := .tuple #[.agg #[.bool ng, .bool false, .bool G, .slice a3 L.length c3, .int .i64 E], .nilIface]) (by simp [results, Tryz.results207, go_sem, r0, r1, r2, r3, r4, hng2]) rfl ⟨a3, c3, rfl, ?_, ?_⟩
    · refine Own.base (B := w1.heap.size) ?_ (by omega)
      repeat (first | with_reducible exact o4 | (with_reducible refine Own.setBelow ?_ ?_ _; rotate_left; (simp; try omega)))
    · exact (by (repeat with_reducible first | refine Below.setCell ?_ ?_ _ | exact bz0 _ _ | refine bz1 ?_ | refine bz2 ?_ _ | refine bz3 ?_ _ | refine bz4 ?_ hb2 | refine bz4 ?_ bel1 | refine Below.alloc ?_ ?_ _ | refine Below.trans ?_ (Below.mono hb2 ?_) | refine Below.trans ?_ (Below.mono bel1 ?_)) <;> first | omega | (simp; done) | (simp; omega))
/-- What productOf answers at two floats, by letters. -/
abbrev ProdAt (u : Value) (fm x y : Int) (sg inf G : Bool) (L : List Int) (E : Int) (n b : Bool) : Prop := ∀ w : World, EE u w → Calls Tryz.prog 149 #[.int .i64 fm, .int .u64 x, .int .u64 y] w fun r w' => ∃ a' c' ev, r = .returned (.tuple #[.agg #[.bool sg, .bool inf, .bool G, .slice a' L.length c', .int .i64 E], ev]) ∧ EK u ev n b ∧ Own w' w.heap.size a' c' L ∧ Below w.heap.size w w'
theorem prod_nan (fm x y : Int) (u : Value) (sg1 inf1 G1 : Bool) (L1 : List Int) (E1 : Int) (n1 b1 : Bool) (sg2 inf2 G2 : Bool) (L2 : List Int) (E2 : Int) (n2 b2 : Bool) (hx : NumAt u fm x sg1 inf1 G1 L1 E1 n1 b1) (hy : NumAt u fm y sg2 inf2 G2 L2 E2 n2 b2) (hn : (n1 || n2) = true) (b : Bool) (hb : b = (b1 || b2)) :
    ProdAt u fm x y false false false [] 0 true b := by
  intro w hE
  have CT := hid (fun w' h => two_nums fm x y u sg1 inf1 G1 L1 E1 n1 b1 sg2 inf2 G2 L2 E2 n2 b2 hx hy w' h)
  rw [hn, ← hb] at CT
  clear hn hb hx hy
  have R := Q5.new w (.bool false) (.bool false) (.bool false) (.slice none 0 0) (.int .i64 0) 98
  have bel0 : Below w.heap.size w (w.alloc (.cells #[.bool false, .bool false, .bool false, .slice none 0 0, .int .i64 0] 98)) := (by repeat (first | exact bz0 _ _ | refine bz1 ?_ | refine bz2 ?_ _ | refine bz3 ?_ _ | refine bz5 ?_ _ | refine bz6 ?_ _))
  go_enter Tryz.func149, Tryz.ntmps149
  go_wp2_with fail
  refine (CT.out _ (hE.below bel0)).mono ?_
  rintro r w1 ⟨a1, c1, a2, c2, ev, rfl, kv, o1, o2, hb1⟩
  have bel1 := bel_go bel0 hb1
  replace R := ((R.below hb1).alloc (.cells #[.bool sg1, .bool inf1, .bool G1, .slice a1 L1.length c1, .int .i64 E1] 98)).alloc (.cells #[.bool sg2, .bool inf2, .bool G2, .slice a2 L2.length c2, .int .i64 E2] 98)
  obtain ⟨r0, r1, r2, r3, r4, f0, f1, f2, f3, f4⟩ := R
  clear o1 o2
  cases kv with
  | quiet =>
    go_wp2
    refine bodyPost_ret (v := .tuple #[.agg #[.bool false, .bool false, .bool false, .slice none 0 0, .int .i64 0], .iface 179 (.agg #[.iface 246 u])]) (by simp [results, Tryz.results149, go_sem, r0, r1, r2, r3, r4]) rfl ⟨none, 0, _, rfl, EK.quiet, Own.nil _ _, ?_⟩
    exact (by (repeat with_reducible first | refine Below.setCell ?_ ?_ _ | exact bz0 _ _ | refine bz1 ?_ | refine bz2 ?_ _ | refine bz3 ?_ _ | refine bz4 ?_ hb1 | refine bz4 ?_ bel0 | refine Below.alloc ?_ ?_ _ | refine Below.trans ?_ (Below.mono hb1 ?_) | refine Below.trans ?_ (Below.mono bel0 ?_)) <;> first | omega | (simp; done) | (simp; omega))
  | bad s =>
    go_wp2
    refine bodyPost_ret (v := .tuple #[.agg #[.bool false, .bool false, .bool false, .slice none 0 0, .int .i64 0], .iface 179 (.agg #[.iface 181 (.agg #[.string s])])]) (by simp [results, Tryz.results149, go_sem, r0, r1, r2, r3, r4]) rfl ⟨none, 0, _, rfl, EK.bad s, Own.nil _ _, ?_⟩
    exact (by (repeat with_reducible first | refine Below.setCell ?_ ?_ _ | exact bz0 _ _ | refine bz1 ?_ | refine bz2 ?_ _ | refine bz3 ?_ _ | refine bz4 ?_ hb1 | refine bz4 ?_ bel0 | refine Below.alloc ?_ ?_ _ | refine Below.trans ?_ (Below.mono hb1 ?_) | refine Below.trans ?_ (Below.mono bel0 ?_)) <;> first | omega | (simp; done) | (simp; omega))
theorem prod_num (fm x y : Int) (u : Value) (sg1 inf1 G1 : Bool) (L1 : List Int) (E1 : Int) (n1 b1 : Bool) (sg2 inf2 G2 : Bool) (L2 : List Int) (E2 : Int) (n2 b2 : Bool) (hx : NumAt u fm x sg1 inf1 G1 L1 E1 n1 b1) (hy : NumAt u fm y sg2 inf2 G2 L2 E2 n2 b2) (hn : (n1 || n2) = false) (sg inf G : Bool) (L : List Int) (E : Int) (n b : Bool)
    (hm : ∀ (B : Nat) (a1 : Option Addr) (c1 : Nat) (a2 : Option Addr) (c2 : Nat) (w : World), B ≤ w.heap.size → Own w B a1 c1 L1 → Own w B a2 c2 L2 → Calls Tryz.prog 207 #[.agg #[.bool sg1, .bool inf1, .bool G1, .slice a1 L1.length c1, .int .i64 E1], .agg #[.bool sg2, .bool inf2, .bool G2, .slice a2 L2.length c2, .int .i64 E2]] w fun r w' => ∃ a3 c3 ev, r = .returned (.tuple #[.agg #[.bool sg, .bool inf, .bool G, .slice a3 L.length c3, .int .i64 E], ev]) ∧ EK u ev n b ∧ Own w' B a3 c3 L ∧ Below w.heap.size w w') :
    ProdAt u fm x y sg inf G L E n b := by
  intro w hE
  have CT := hid (fun w' h => two_nums fm x y u sg1 inf1 G1 L1 E1 n1 b1 sg2 inf2 G2 L2 E2 n2 b2 hx hy w' h)
  have CM := hid hm
  rw [hn] at CT
  obtain ⟨b0, hb0⟩ : ∃ b0, b0 = (b1 || b2) := ⟨_, rfl⟩
  rw [← hb0] at CT
  clear hb0
  clear hn hx hy hm
  have R := Q5.new w (.bool false) (.bool false) (.bool false) (.slice none 0 0) (.int .i64 0) 98
  have bel0 : Below w.heap.size w (w.alloc (.cells #[.bool false, .bool false, .bool false, .slice none 0 0, .int .i64 0] 98)) := (by repeat (first | exact bz0 _ _ | refine bz1 ?_ | refine bz2 ?_ _ | refine bz3 ?_ _ | refine bz5 ?_ _ | refine bz6 ?_ _))
  go_enter Tryz.func149, Tryz.ntmps149
  go_wp2_with fail
  refine (CT.out _ (hE.below bel0)).mono ?_
  rintro r w1 ⟨a1, c1, a2, c2, ev, rfl, kv, o1, o2, hb1⟩
  have bel1w := bel_go bel0 hb1
  have bel1 := bel_al (bel_al (bel_go bel0 hb1) (.cells #[.bool sg1, .bool inf1, .bool G1, .slice a1 L1.length c1, .int .i64 E1] 98)) (.cells #[.bool sg2, .bool inf2, .bool G2, .slice a2 L2.length c2, .int .i64 E2] 98)
  replace R := ((R.below hb1).alloc (.cells #[.bool sg1, .bool inf1, .bool G1, .slice a1 L1.length c1, .int .i64 E1] 98)).alloc (.cells #[.bool sg2, .bool inf2, .bool G2, .slice a2 L2.length c2, .int .i64 E2] 98)
  have PX := (Q5.new w1 (.bool sg1) (.bool inf1) (.bool G1) (.slice a1 L1.length c1) (.int .i64 E1) 98).alloc (.cells #[.bool sg2, .bool inf2, .bool G2, .slice a2 L2.length c2, .int .i64 E2] 98)
  have PY := Q5.nw2 w1 (.cells #[.bool sg1, .bool inf1, .bool G1, .slice a1 L1.length c1, .int .i64 E1] 98) (.bool sg2) (.bool inf2) (.bool G2) (.slice a2 L2.length c2) (.int .i64 E2) 98
  have s1 := ((o1.alloc (.cells #[.bool sg1, .bool inf1, .bool G1, .slice a1 L1.length c1, .int .i64 E1] 98)).alloc (.cells #[.bool sg2, .bool inf2, .bool G2, .slice a2 L2.length c2, .int .i64 E2] 98)).base (B' := w.heap.size + 1) (by simp)
  have s2 := ((o2.alloc (.cells #[.bool sg1, .bool inf1, .bool G1, .slice a1 L1.length c1, .int .i64 E1] 98)).alloc (.cells #[.bool sg2, .bool inf2, .bool G2, .slice a2 L2.length c2, .int .i64 E2] 98)).base (B' := w.heap.size + 1) (by simp)
  have lr := R.lt
  have lb1 := hb1.size
  have lb1' : w.heap.size + 1 ≤ w1.heap.size := by simpa using lb1
  clear o1 o2
  cases kv with
  | no =>
    obtain ⟨x0, x1, x2, x3, x4⟩ := PX.cs
    obtain ⟨y0, y1, y2, y3, y4⟩ := PY.cs
    go_wp2_with fail
    refine (CM.out (w.heap.size + 1) a1 c1 a2 c2 _ (by simp; omega) s1 s2).mono ?_
    rintro r w2 ⟨a3, c3, ev, rfl, kv, o3, hb2⟩
    clear x0 x1 x2 x3 x4 y0 y1 y2 y3 y4
    obtain ⟨r0, r1, r2, r3, r4, f0, f1, f2, f3, f4⟩ := R.below hb2
    go_wp2
    refine bodyPost_ret (v := .tuple #[.agg #[.bool sg, .bool inf, .bool G, .slice a3 L.length c3, .int .i64 E], ev]) (by simp [results, Tryz.results149, go_sem, r0, r1, r2, r3, r4]) rfl ⟨a3, c3, ev, rfl, kv, ?_, ?_⟩
    · have o4 := o3
      refine Own.base (B := w.heap.size + 1) ?_ (by omega)
      repeat (first | with_reducible exact o4 | (with_reducible refine Own.setBelow ?_ ?_ _; rotate_left; (simp; try omega)))
    · exact (by (repeat with_reducible first | refine Below.setCell ?_ ?_ _ | exact bz0 _ _ | refine bz1 ?_ | refine bz2 ?_ _ | refine bz3 ?_ _ | refine bz4 ?_ hb2 | refine bz4 ?_ bel1w | refine Below.alloc ?_ ?_ _ | refine Below.trans ?_ (Below.mono hb2 ?_) | refine Below.trans ?_ (Below.mono bel1w ?_)) <;> first | omega | (simp; done) | (simp; omega))
end Go.Proofs.YtkfjmcdniohljaaGreatDoor
