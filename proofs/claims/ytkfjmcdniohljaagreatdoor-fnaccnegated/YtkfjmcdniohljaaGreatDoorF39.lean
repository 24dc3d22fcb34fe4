/-
  What is needed of AccN.
-/
import Derived.Test.YtkfjmcdniohljaaGreatDoorF37
set_option maxHeartbeats 16000000
set_option maxRecDepth 1000000
namespace Go.Proofs.YtkfjmcdniohljaaGreatDoor
set_option linter.unusedVariables false
set_option linter.unusedSimpArgs false
open Go.RowKit Go.Deep
def mgNo (fm : Int) (x y : Bool) (fmq T Tq c : Int) : Prop := (x = false ∧ c = 1) ∨ (x = true ∧ y = false ∧ c = 1) ∨ (x = true ∧ y = true ∧ fm ≠ fmq ∧ c = 2) ∨ (x = true ∧ y = true ∧ fm = fmq ∧ T + Tq > 1000000 ∧ c = 3)
theorem merge_impl_no (fm : Int) (ng : Bool) (T : Int) (nn bd pl mi am : Bool) (fmq : Int) (ngq : Bool) (Tq : Int) (nnq bdq plq miq amq : Bool) (p pq : Option Addr) (cap capq : Nat) (zs ys : List Int) (w : World) (hT : Tab w) (hs : Sl .u32 w (.slice p zs.length cap) zs) (hy : Sl .u32 w (.slice pq ys.length capq) ys) (hl : zs.length ≤ 1048576) (hl' : ys.length ≤ 1048576) (c : Int) (hc : mgNo fm (accB fm ng zs T nn bd pl mi am) (accB fmq ngq ys Tq nnq bdq plq miq amq) fmq T Tq c) :
  Calls Tryz.prog 42 #[.agg #[.int .i64 fm, .bool ng, .slice p zs.length cap, .int .i64 T, .bool nn, .bool bd, .bool pl, .bool mi, .bool am], .agg #[.int .i64 fmq, .bool ngq, .slice pq ys.length capq, .int .i64 Tq, .bool nnq, .bool bdq, .bool plq, .bool miq, .bool amq]] w fun e w' => e = .returned (.tuple #[A0, .int .i64 c]) ∧ Below w.heap.size w w' := by
 have C1 := hid (accok_impl fm ng T nn bd pl mi am p cap zs (((w.alloc (.cells #[.int .i64 fm, .bool ng, .slice p zs.length cap, .int .i64 T, .bool nn, .bool bd, .bool pl, .bool mi, .bool am] 50)).alloc (.cells #[.int .i64 fmq, .bool ngq, .slice pq ys.length capq, .int .i64 Tq, .bool nnq, .bool bdq, .bool plq, .bool miq, .bool amq] 50)).alloc (.cells #[.int .i64 0, .bool false, .slice none 0 0, .int .i64 0, .bool false, .bool false, .bool false, .bool false, .bool false] 50)) ((tab_al (tab_al (tab_al hT _) _) _)) (((hs.alloc _).alloc _).alloc _) hl)
 have Q1 := (((Q9.new w (.int .i64 fm) (.bool ng) (.slice p zs.length cap) (.int .i64 T) (.bool nn) (.bool bd) (.bool pl) (.bool mi) (.bool am) 50).alloc (.cells #[.int .i64 fmq, .bool ngq, .slice pq ys.length capq, .int .i64 Tq, .bool nnq, .bool bdq, .bool plq, .bool miq, .bool amq] 50)).alloc (.cells #[.int .i64 0, .bool false, .slice none 0 0, .int .i64 0, .bool false, .bool false, .bool false, .bool false, .bool false] 50))
 have Q2 := ((Q9.nw2 w (.cells #[.int .i64 fm, .bool ng, .slice p zs.length cap, .int .i64 T, .bool nn, .bool bd, .bool pl, .bool mi, .bool am] 50) (.int .i64 fmq) (.bool ngq) (.slice pq ys.length capq) (.int .i64 Tq) (.bool nnq) (.bool bdq) (.bool plq) (.bool miq) (.bool amq) 50).alloc (.cells #[.int .i64 0, .bool false, .slice none 0 0, .int .i64 0, .bool false, .bool false, .bool false, .bool false, .bool false] 50))
 have Q3 := Q9.new3 w (.cells #[.int .i64 fm, .bool ng, .slice p zs.length cap, .int .i64 T, .bool nn, .bool bd, .bool pl, .bool mi, .bool am] 50) (.cells #[.int .i64 fmq, .bool ngq, .slice pq ys.length capq, .int .i64 Tq, .bool nnq, .bool bdq, .bool plq, .bool miq, .bool amq] 50) (.int .i64 0) (.bool false) (.slice none 0 0) (.int .i64 0) (.bool false) (.bool false) (.bool false) (.bool false) (.bool false) 50
 rcases hc with ⟨h1, rfl⟩ | ⟨h1, h2, rfl⟩ | ⟨h1, h2, h3, rfl⟩ | ⟨h1, h2, h3, h4, rfl⟩
 ·rw [h1] at C1
  clear h1
  go_enter Tryz.func42, Tryz.ntmps42
  go_wp2_with fail
  refine C1.out.mono ?_
  rintro e w1 ⟨rfl, hb1⟩
  obtain ⟨r0, r1, r2, r3, r4, r5, r6, r7, r8, f0, f1, f2, f3, f4, f5, f6, f7, f8⟩ := Q3.below hb1
  clear Q1 Q2 Q3
  go_wp2
  refine bodyPost_ret (v := .tuple #[A0, .int .i64 1]) (by simp [results, Tryz.results42, go_sem, r0, r1, r2, r3, r4, r5, r6, r7, r8, A0]) rfl ⟨rfl, ?_⟩
  exact (by (repeat with_reducible first | refine Below.setCell ?_ ?_ _ | exact bz0 _ _ | refine bz1 ?_ | refine bz2 ?_ _ | refine bz3 ?_ _ | refine bz4 ?_ hb1 | refine Below.alloc ?_ ?_ _ | refine Below.trans ?_ (Below.mono hb1 ?_)) <;> first | omega | (simp; done) | (simp; omega))
 all_goals
  rw [h1] at C1
  have C2 := hid (fun w' (hB : Below (((w.alloc (.cells #[.int .i64 fm, .bool ng, .slice p zs.length cap, .int .i64 T, .bool nn, .bool bd, .bool pl, .bool mi, .bool am] 50)).alloc (.cells #[.int .i64 fmq, .bool ngq, .slice pq ys.length capq, .int .i64 Tq, .bool nnq, .bool bdq, .bool plq, .bool miq, .bool amq] 50)).alloc (.cells #[.int .i64 0, .bool false, .slice none 0 0, .int .i64 0, .bool false, .bool false, .bool false, .bool false, .bool false] 50)).heap.size (((w.alloc (.cells #[.int .i64 fm, .bool ng, .slice p zs.length cap, .int .i64 T, .bool nn, .bool bd, .bool pl, .bool mi, .bool am] 50)).alloc (.cells #[.int .i64 fmq, .bool ngq, .slice pq ys.length capq, .int .i64 Tq, .bool nnq, .bool bdq, .bool plq, .bool miq, .bool amq] 50)).alloc (.cells #[.int .i64 0, .bool false, .slice none 0 0, .int .i64 0, .bool false, .bool false, .bool false, .bool false, .bool false] 50)) w') => accok_impl fmq ngq Tq nnq bdq plq miq amq pq capq ys w' ((tab_al (tab_al (tab_al hT _) _) _).below hB) ((((hy.alloc _).alloc _).alloc _).below hB) hl')
  rw [h2] at C2
 ·clear h1 h2
  go_enter Tryz.func42, Tryz.ntmps42
  go_wp2_with fail
  refine C1.out.mono ?_
  rintro e w1 ⟨rfl, hb1⟩
  replace Q2 := Q2.below hb1
  replace Q3 := Q3.below hb1
  clear Q1
  obtain ⟨c0, c1, c2, c3, c4, c5, c6, c7, c8⟩ := Q2.cs
  go_wp2_with fail
  refine (C2.out _ hb1).mono ?_
  rintro e w2 ⟨rfl, hb2⟩
  clear c0 c1 c2 c3 c4 c5 c6 c7 c8 Q2
  obtain ⟨r0, r1, r2, r3, r4, r5, r6, r7, r8, f0, f1, f2, f3, f4, f5, f6, f7, f8⟩ := Q3.below hb2
  clear Q3
  go_wp2
  refine bodyPost_ret (v := .tuple #[A0, .int .i64 1]) (by simp [results, Tryz.results42, go_sem, r0, r1, r2, r3, r4, r5, r6, r7, r8, A0]) rfl ⟨rfl, ?_⟩
  exact (by (repeat with_reducible first | refine Below.setCell ?_ ?_ _ | exact bz0 _ _ | refine bz1 ?_ | refine bz2 ?_ _ | refine bz3 ?_ _ | refine bz4 ?_ hb2 | refine bz4 ?_ hb1 | refine Below.alloc ?_ ?_ _ | refine Below.trans ?_ (Below.mono hb2 ?_) | refine Below.trans ?_ (Below.mono hb1 ?_)) <;> first | omega | (simp; done) | (simp; omega))
 ·clear h1 h2
  have hne : (fm != fmq) = true := by simpa using h3
  go_enter Tryz.func42, Tryz.ntmps42
  go_wp2_with fail
  refine C1.out.mono ?_
  rintro e w1 ⟨rfl, hb1⟩
  replace Q1 := Q1.below hb1
  replace Q2 := Q2.below hb1
  replace Q3 := Q3.below hb1
  obtain ⟨c0, c1, c2, c3, c4, c5, c6, c7, c8⟩ := Q2.cs
  go_wp2_with fail
  refine (C2.out _ hb1).mono ?_
  rintro e w2 ⟨rfl, hb2⟩
  clear c0 c1 c2 c3 c4 c5 c6 c7 c8
  have k1 := (Q1.below hb2).c0
  have k2 := (Q2.below hb2).c0
  obtain ⟨r0, r1, r2, r3, r4, r5, r6, r7, r8, f0, f1, f2, f3, f4, f5, f6, f7, f8⟩ := Q3.below hb2
  clear Q1 Q2 Q3
  go_wp2
  refine bodyPost_ret (v := .tuple #[A0, .int .i64 2]) (by simp [results, Tryz.results42, go_sem, r0, r1, r2, r3, r4, r5, r6, r7, r8, A0]) rfl ⟨rfl, ?_⟩
  exact (by (repeat with_reducible first | refine Below.setCell ?_ ?_ _ | exact bz0 _ _ | refine bz1 ?_ | refine bz2 ?_ _ | refine bz3 ?_ _ | refine bz4 ?_ hb2 | refine bz4 ?_ hb1 | refine Below.alloc ?_ ?_ _ | refine Below.trans ?_ (Below.mono hb2 ?_) | refine Below.trans ?_ (Below.mono hb1 ?_)) <;> first | omega | (simp; done) | (simp; omega))
 ·have t1 := mkB_T (acc_parts h1).2.1
  have t2 := mkB_T (acc_parts h2).2.1
  obtain ⟨t10, t11⟩ := t1
  obtain ⟨t20, t21⟩ := t2
  clear h1 h2
  have hne : (fm != fmq) = false := by simpa using h3
  clear h3
  go_enter Tryz.func42, Tryz.ntmps42
  go_wp2_with fail
  refine C1.out.mono ?_
  rintro e w1 ⟨rfl, hb1⟩
  replace Q1 := Q1.below hb1
  replace Q2 := Q2.below hb1
  replace Q3 := Q3.below hb1
  obtain ⟨c0, c1, c2, c3, c4, c5, c6, c7, c8⟩ := Q2.cs
  go_wp2_with fail
  refine (C2.out _ hb1).mono ?_
  rintro e w2 ⟨rfl, hb2⟩
  clear c0 c1 c2 c3 c4 c5 c6 c7 c8
  have k1 := (Q1.below hb2).c0
  have k2 := (Q2.below hb2).c0
  have m1 := (Q1.below hb2).c3
  have m2 := (Q2.below hb2).c3
  obtain ⟨r0, r1, r2, r3, r4, r5, r6, r7, r8, f0, f1, f2, f3, f4, f5, f6, f7, f8⟩ := Q3.below hb2
  clear Q1 Q2 Q3
  go_wp2
  refine bodyPost_ret (v := .tuple #[A0, .int .i64 3]) (by simp [results, Tryz.results42, go_sem, r0, r1, r2, r3, r4, r5, r6, r7, r8, A0]) rfl ⟨rfl, ?_⟩
  exact (by (repeat with_reducible first | refine Below.setCell ?_ ?_ _ | exact bz0 _ _ | refine bz1 ?_ | refine bz2 ?_ _ | refine bz3 ?_ _ | refine bz4 ?_ hb2 | refine bz4 ?_ hb1 | refine Below.alloc ?_ ?_ _ | refine Below.trans ?_ (Below.mono hb2 ?_) | refine Below.trans ?_ (Below.mono hb1 ?_)) <;> first | omega | (simp; done) | (simp; omega))
theorem keep9b {w : World} {B b b' : Nat} {v0 v1 v2 v3 v4 v5 v6 v7 v8 y0 y1 y2 y3 y4 y5 y6 y7 y8 : Value} (h : Q9 w b v0 v1 v2 v3 v4 v5 v6 v7 v8) (h' : Q9 w b' y0 y1 y2 y3 y4 y5 y6 y7 y8) (n : b ≠ B) (n' : b' ≠ B) (u0 u1 u2 u3 u4 u5 u6 u7 u8 : Value) (W : World)
  (hW : W = (((((((((w.setCell ⟨B, 0, none⟩ u0).setCell ⟨B, 1, none⟩ u1).setCell ⟨B, 2, none⟩ u2).setCell ⟨B, 3, none⟩ u3).setCell ⟨B, 4, none⟩ u4).setCell ⟨B, 5, none⟩ u5).setCell ⟨B, 6, none⟩ u6).setCell ⟨B, 7, none⟩ u7).setCell ⟨B, 8, none⟩ u8)) :
  (W.cell? ⟨b, 0, none⟩ = some v0 ∧ W.cell? ⟨b, 1, none⟩ = some v1 ∧ W.cell? ⟨b, 2, none⟩ = some v2 ∧ W.cell? ⟨b, 3, none⟩ = some v3 ∧ W.cell? ⟨b, 4, none⟩ = some v4 ∧ W.cell? ⟨b, 5, none⟩ = some v5 ∧ W.cell? ⟨b, 6, none⟩ = some v6 ∧ W.cell? ⟨b, 7, none⟩ = some v7 ∧ W.cell? ⟨b, 8, none⟩ = some v8) ∧ (W.cell? ⟨b', 0, none⟩ = some y0 ∧ W.cell? ⟨b', 1, none⟩ = some y1 ∧ W.cell? ⟨b', 2, none⟩ = some y2 ∧ W.cell? ⟨b', 3, none⟩ = some y3 ∧ W.cell? ⟨b', 4, none⟩ = some y4 ∧ W.cell? ⟨b', 5, none⟩ = some y5 ∧ W.cell? ⟨b', 6, none⟩ = some y6 ∧ W.cell? ⟨b', 7, none⟩ = some y7 ∧ W.cell? ⟨b', 8, none⟩ = some y8) := by
 subst hW
 exact ⟨(h.of_block (heap9 w B b n u0 u1 u2 u3 u4 u5 u6 u7 u8)).cs, (h'.of_block (heap9 w B b' n' u0 u1 u2 u3 u4 u5 u6 u7 u8)).cs⟩
theorem merge_impl_yes (fm : Int) (ng : Bool) (T : Int) (nn bd pl mi am : Bool) (fmq : Int) (ngq : Bool) (Tq : Int) (nnq bdq plq miq amq : Bool) (p pq : Option Addr) (cap capq : Nat) (zs ys : List Int) (w : World) (hT : Tab w) (hs : Sl .u32 w (.slice p zs.length cap) zs) (hy : Sl .u32 w (.slice pq ys.length capq) ys) (dz : Nm.Dg zs) (dy : Nm.Dg ys) (h1 : accB fm ng zs T nn bd pl mi am = true) (h2 : accB fmq ngq ys Tq nnq bdq plq miq amq = true) (h3 : fm = fmq) (h4 : T + Tq ≤ 1000000) (x : Int) (hx : x = Nm.wv ng zs + Nm.wv ngq ys) :
  Calls Tryz.prog 42 #[.agg #[.int .i64 fm, .bool ng, .slice p zs.length cap, .int .i64 T, .bool nn, .bool bd, .bool pl, .bool mi, .bool am], .agg #[.int .i64 fmq, .bool ngq, .slice pq ys.length capq, .int .i64 Tq, .bool nnq, .bool bdq, .bool plq, .bool miq, .bool amq]] w fun e w' => ∃ a' c', e = .returned (.tuple #[.agg #[.int .i64 fm, .bool (Nm.wn x), .slice a' (Nm.wl x).length c', .int .i64 (T + Tq), .bool (nn || nnq), .bool (bd || bdq), .bool (pl || plq), .bool (mi || miq), .bool (amW T am Tq amq)], .int .i64 0]) ∧ Own w' w.heap.size a' c' (Nm.wl x) ∧ Below w.heap.size w w' := by
 obtain ⟨-, hk1, ho1, -⟩ := acc_parts h1
 obtain ⟨-, hk2, ho2, -⟩ := acc_parts h2
 have hl := (okB_nz ho1).2
 have hl' := (okB_nz ho2).2
 obtain ⟨t10, t11⟩ := mkB_T hk1
 obtain ⟨t20, t21⟩ := mkB_T hk2
 have C1 := hid (fun w' h h' => accok_impl fm ng T nn bd pl mi am p cap zs w' h h' (by omega))
 have C2 := hid (fun w' h h' => accok_impl fmq ngq Tq nnq bdq plq miq amq pq capq ys w' h h' (by omega))
 have hf : Nm.fits x = true := by rw [hx]; exact merge_fits dz dy h1 (by rw [h3]; exact h2)
 have CW := hid (fun w' h h' => twith fm ng T nn bd pl mi am fmq ngq Tq nnq bdq plq miq amq p pq cap capq zs ys w' h h' dz dy hk1 t20 t21 ho1 ho2 x hx hf)
 have CT := hid (fun w' => tally_any fm ng T nn bd pl mi am p zs.length cap w')
 have CU := hid (fun w' => tally_any fmq ngq Tq nnq bdq plq miq amq pq ys.length capq w')
 rw [h1] at C1
 rw [h2] at C2
 obtain ⟨T2, hT2⟩ : ∃ T2, T2 = T + Tq := ⟨_, rfl⟩
 obtain ⟨n2, hn2⟩ : ∃ n2, n2 = (nn || nnq) := ⟨_, rfl⟩
 obtain ⟨b2, hb2'⟩ : ∃ b2, b2 = (bd || bdq) := ⟨_, rfl⟩
 obtain ⟨p2, hp2⟩ : ∃ p2, p2 = (pl || plq) := ⟨_, rfl⟩
 obtain ⟨m2, hm2⟩ : ∃ m2, m2 = (mi || miq) := ⟨_, rfl⟩
 obtain ⟨a2, ha2⟩ : ∃ a2, a2 = amW T am Tq amq := ⟨_, rfl⟩
 obtain ⟨G, hG⟩ : ∃ G, G = Nm.wn x := ⟨_, rfl⟩
 obtain ⟨L, hL⟩ : ∃ L, L = Nm.wl x := ⟨_, rfl⟩
 rw [← hT2, ← hn2, ← hb2', ← hp2, ← hm2, ← ha2, ← hG, ← hL] at CW
 rw [← hT2, ← hn2, ← hb2', ← hp2, ← hm2, ← ha2, ← hG, ← hL]
 have CA := hid (fun a c w' => tacc fm G T2 n2 b2 p2 m2 a2 (.slice a L.length c) w' ⟨_, _, _, rfl⟩)
 clear hT2 hn2 hb2' hp2 hm2 ha2 hG hL hk1 hk2 ho1 ho2 hx hf dz dy h1 h2 hl hl'
 have hne : (fm != fmq) = false := by simpa using h3
 clear h3
 have Q1 := (((Q9.new w (.int .i64 fm) (.bool ng) (.slice p zs.length cap) (.int .i64 T) (.bool nn) (.bool bd) (.bool pl) (.bool mi) (.bool am) 50).alloc (.cells #[.int .i64 fmq, .bool ngq, .slice pq ys.length capq, .int .i64 Tq, .bool nnq, .bool bdq, .bool plq, .bool miq, .bool amq] 50)).alloc (.cells #[.int .i64 0, .bool false, .slice none 0 0, .int .i64 0, .bool false, .bool false, .bool false, .bool false, .bool false] 50))
 have Q2 := ((Q9.nw2 w (.cells #[.int .i64 fm, .bool ng, .slice p zs.length cap, .int .i64 T, .bool nn, .bool bd, .bool pl, .bool mi, .bool am] 50) (.int .i64 fmq) (.bool ngq) (.slice pq ys.length capq) (.int .i64 Tq) (.bool nnq) (.bool bdq) (.bool plq) (.bool miq) (.bool amq) 50).alloc (.cells #[.int .i64 0, .bool false, .slice none 0 0, .int .i64 0, .bool false, .bool false, .bool false, .bool false, .bool false] 50))
 have Q3 := Q9.new3 w (.cells #[.int .i64 fm, .bool ng, .slice p zs.length cap, .int .i64 T, .bool nn, .bool bd, .bool pl, .bool mi, .bool am] 50) (.cells #[.int .i64 fmq, .bool ngq, .slice pq ys.length capq, .int .i64 Tq, .bool nnq, .bool bdq, .bool plq, .bool miq, .bool amq] 50) (.int .i64 0) (.bool false) (.slice none 0 0) (.int .i64 0) (.bool false) (.bool false) (.bool false) (.bool false) (.bool false) 50
 have bel0 : Below w.heap.size w (((w.alloc (.cells #[.int .i64 fm, .bool ng, .slice p zs.length cap, .int .i64 T, .bool nn, .bool bd, .bool pl, .bool mi, .bool am] 50)).alloc (.cells #[.int .i64 fmq, .bool ngq, .slice pq ys.length capq, .int .i64 Tq, .bool nnq, .bool bdq, .bool plq, .bool miq, .bool amq] 50)).alloc (.cells #[.int .i64 0, .bool false, .slice none 0 0, .int .i64 0, .bool false, .bool false, .bool false, .bool false, .bool false] 50)) := (by repeat (first | exact bz0 _ _ | refine bz1 ?_ | refine bz2 ?_ _ | refine bz3 ?_ _ | refine bz5 ?_ _ | refine bz6 ?_ _))
 go_enter Tryz.func42, Tryz.ntmps42
 go_wp2_with fail
 refine (C1.out _ (hT.below bel0) (hs.below bel0)).mono ?_
 rintro e w1 ⟨rfl, hb1⟩
 replace Q1 := Q1.below hb1
 replace Q2 := Q2.below hb1
 replace Q3 := Q3.below hb1
 have bel1 := bel_go bel0 hb1
 clear bel0 hb1 C1
 obtain ⟨c0, c1, c2, c3, c4, c5, c6, c7, c8⟩ := Q2.cs
 go_wp2_with fail
 refine (C2.out _ (hT.below bel1) (hy.below bel1)).mono ?_
 rintro e w2 ⟨rfl, hb2⟩
 clear c0 c1 c2 c3 c4 c5 c6 c7 c8
 replace Q1 := Q1.below hb2
 replace Q2 := Q2.below hb2
 replace Q3 := Q3.below hb2
 have bel2 := bel_go bel1 hb2
 clear bel1 hb2 C2
 have k1 := Q1.c0
 have k2 := Q2.c0
 have m1 := Q1.c3
 have m2' := Q2.c3
 go_wp2_with fail
 clear k1 k2 m1 m2'
 have lr := Q3.lt
 have s2 := hs.below bel2
 have y2 := hy.below bel2
 have ctd := Q1.drew.cs
 have cod := Q2.drew.cs
 go_region_held3 (fun w' => (w'.cell? ⟨w.heap.size, 0, none⟩ = some (.int .i64 fm) ∧ w'.cell? ⟨w.heap.size, 1, none⟩ = some (.bool ng) ∧ w'.cell? ⟨w.heap.size, 2, none⟩ = some (.slice p zs.length cap) ∧ w'.cell? ⟨w.heap.size, 3, none⟩ = some (.int .i64 T) ∧ w'.cell? ⟨w.heap.size, 4, none⟩ = some (.bool nn) ∧ w'.cell? ⟨w.heap.size, 5, none⟩ = some (.bool bd) ∧ w'.cell? ⟨w.heap.size, 6, none⟩ = some (.bool pl) ∧ w'.cell? ⟨w.heap.size, 7, none⟩ = some (.bool mi) ∧ w'.cell? ⟨w.heap.size, 8, none⟩ = some (.bool am)) ∧ (w'.cell? ⟨w.heap.size + 1, 0, none⟩ = some (.int .i64 fmq) ∧ w'.cell? ⟨w.heap.size + 1, 1, none⟩ = some (.bool ngq) ∧ w'.cell? ⟨w.heap.size + 1, 2, none⟩ = some (.slice pq ys.length capq) ∧ w'.cell? ⟨w.heap.size + 1, 3, none⟩ = some (.int .i64 Tq) ∧ w'.cell? ⟨w.heap.size + 1, 4, none⟩ = some (.bool nnq) ∧ w'.cell? ⟨w.heap.size + 1, 5, none⟩ = some (.bool bdq) ∧ w'.cell? ⟨w.heap.size + 1, 6, none⟩ = some (.bool plq) ∧ w'.cell? ⟨w.heap.size + 1, 7, none⟩ = some (.bool miq) ∧ w'.cell? ⟨w.heap.size + 1, 8, none⟩ = some (.bool amq)))
  (first | with_reducible assumption | with_reducible exact ⟨ctd, cod⟩ | with_reducible exact keep9b Q1d Q2d (by omega) (by omega) _ _ _ _ _ _ _ _ _ _ rfl | fail)
  (first
   | (go_at_call_of 122 zs; refine (CT.out _).mono ?_; rintro e q1 ⟨rfl, hq1⟩; have Q1a := Q1.drew.below hq1; have Q2a := Q2.drew.below hq1; have Q3a := Q3.drew.below hq1; have f1 := And.intro Q1a.cs Q2a.cs; have sa := s2.drew.below hq1; have ya := y2.drew.below hq1)
   | (go_at_call_of 122 ys; refine (CU.out _).mono ?_; rintro e q2 ⟨rfl, hq2⟩; have Q1b := Q1a.below hq2; have Q2b := Q2a.below hq2; have Q3b := Q3a.below hq2; have f2 := And.intro Q1b.cs Q2b.cs; have sb := sa.below hq2; have yb := ya.below hq2)
   | (go_at_call 123; refine (CW.out _ sb yb).mono ?_; rintro e q3 ⟨a3, k3, rfl, hp3, hq3⟩; have Q1c := Q1b.below hq3; have Q2c := Q2b.below hq3; have Q3c := Q3b.below hq3; have f3 := And.intro Q1c.cs Q2c.cs)
   | (go_at_call 125; refine (CA.out a3 k3 _).mono ?_; rintro e q4 ⟨rfl, hq4⟩; have Q1d := Q1c.below hq4; have Q2d := Q2c.below hq4; have Q3d := Q3c.below hq4; have f4 := And.intro Q1d.cs Q2d.cs; have hp4 := hp3.below hq4; obtain ⟨r0, r1, r2, r3, r4, r5, r6, r7, r8, g0, g1, g2, g3, g4, g5, g6, g7, g8⟩ := Q3d))
 have z1 := hq1.size
 have z2 := hq2.size
 have z3 : w2.heap.size ≤ w2.drew.heap.size := Nat.le_refl _
 have bel3 : Below w.heap.size w q2 := bel_go (bel_go (Below.drew bel2) hq1) hq2
 go_wp2
 refine bodyPost_ret (v := .tuple #[.agg #[.int .i64 fm, .bool G, .slice a3 L.length k3, .int .i64 T2, .bool n2, .bool b2, .bool p2, .bool m2, .bool a2], .int .i64 0]) (by simp [results, Tryz.results42, go_sem, r0, r1, r2, r3, r4, r5, r6, r7, r8]) rfl ⟨a3, k3, rfl, ?_, ?_⟩
 ·refine Own.base (B := q2.heap.size) ?_ (by have := bel3.size; omega)
  repeat (first | with_reducible exact hp4 | (with_reducible refine Own.setBelow ?_ ?_ _; rotate_left; (simp; try omega)))
 ·exact (by (repeat with_reducible first | refine Below.setCell ?_ ?_ _ | exact bz0 _ _ | refine bz1 ?_ | refine bz2 ?_ _ | refine bz3 ?_ _ | refine bz4 ?_ hq4 | refine bz4 ?_ hq3 | refine bz4 ?_ bel3 | refine Below.alloc ?_ ?_ _ | refine Below.trans ?_ (Below.mono hq4 ?_) | refine Below.trans ?_ (Below.mono hq3 ?_) | refine Below.trans ?_ (Below.mono bel3 ?_)) <;> first | omega | (simp; done) | (simp; omega))
end Go.Proofs.YtkfjmcdniohljaaGreatDoor
