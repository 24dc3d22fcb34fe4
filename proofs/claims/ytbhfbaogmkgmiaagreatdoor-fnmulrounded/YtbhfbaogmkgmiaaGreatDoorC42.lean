/-
  What is needed of AccM, NB, EF, FS, NT, FM, FN, FA, FB, DP.
-/
import Derived.Test.YtbhfbaogmkgmiaaGreatDoorC25
import Derived.Test.YtbhfbaogmkgmiaaGreatDoorC39
set_option maxHeartbeats 16000000
set_option maxRecDepth 1000000
namespace Go.Proofs.YtbhfbaogmkgmiaaGreatDoor
set_option linter.unusedVariables false
set_option linter.unusedSimpArgs false
open Go.RowKit Go.Deep
theorem Q9.nw2 (w : World) (o : Obj) (v0 v1 v2 v3 v4 v5 v6 v7 v8 : Value) (t : TypeId) : Q9 ((w.alloc o).alloc (.cells #[v0, v1, v2, v3, v4, v5, v6, v7, v8] t)) (w.heap.size + 1) v0 v1 v2 v3 v4 v5 v6 v7 v8 := by simpa using Q9.new (w.alloc o) v0 v1 v2 v3 v4 v5 v6 v7 v8 t
theorem Q6.nw2 (w : World) (o : Obj) (v0 v1 v2 v3 v4 v5 : Value) (t : TypeId) : Q6 ((w.alloc o).alloc (.cells #[v0, v1, v2, v3, v4, v5] t)) (w.heap.size + 1) v0 v1 v2 v3 v4 v5 := by simpa using Q6.new (w.alloc o) v0 v1 v2 v3 v4 v5 t
theorem worse_any {u a b : Value} {n1 b1 n2 b2 : Bool} (ha : EK u a n1 b1) (hb : EK u b n2 b2) (w : World) (hg : EA.ErrT w) :
    Calls Tryz.prog 133 #[a, b] w fun r w' => ∃ ev, r = .returned ev ∧ EK u ev (n1 || n2) (b1 || b2) ∧ Below w.heap.size w w' := by
  have CI := hid (fun w' h => inv_any hb w' h)
  have HB := hid hb
  clear hb
  cases ha with
  | no =>
    go_enter Tryz.func133, Tryz.ntmps133
    go_wp2
    go_ret
    exact ⟨b, rfl, by simpa using HB.out, (by repeat (first | exact bz0 _ _ | refine bz1 ?_ | refine bz2 ?_ _ | refine bz3 ?_ _ | refine bz5 ?_ _ | refine bz6 ?_ _))⟩
  | quiet =>
    cases b2
    · have HE : Hid (EK u (.iface 170 (.agg #[.iface 209 u])) (true || n2) (false || false)) := hid EK.quiet
      go_enter Tryz.func133, Tryz.ntmps133
      go_wp2_with fail
      refine (CI.out _ hg).mono ?_
      rintro r w1 ⟨rfl, hb1⟩
      go_wp2
      go_ret
      exact ⟨_, rfl, HE.out, (by repeat (first | exact bz0 _ _ | refine bz1 ?_ | refine bz2 ?_ _ | refine bz3 ?_ _ | refine bz4 ?_ hb1 | refine bz5 ?_ _ | refine bz6 ?_ _ | refine bz7 ?_ hb1))⟩
    · have hn : n2 = true := by have h := HB.out; cases h; rfl
      subst hn
      go_enter Tryz.func133, Tryz.ntmps133
      go_wp2_with fail
      refine (CI.out _ hg).mono ?_
      rintro r w1 ⟨rfl, hb1⟩
      go_wp2
      go_ret
      exact ⟨b, rfl, HB.out, (by repeat (first | exact bz0 _ _ | refine bz1 ?_ | refine bz2 ?_ _ | refine bz3 ?_ _ | refine bz4 ?_ hb1 | refine bz5 ?_ _ | refine bz6 ?_ _ | refine bz7 ?_ hb1))⟩
  | bad s =>
    cases b2
    · have HE : Hid (EK u (.iface 170 (.agg #[.iface 172 (.agg #[.string s])])) (true || n2) (true || false)) := hid (EK.bad s)
      go_enter Tryz.func133, Tryz.ntmps133
      go_wp2_with fail
      refine (CI.out _ hg).mono ?_
      rintro r w1 ⟨rfl, hb1⟩
      go_wp2
      go_ret
      exact ⟨_, rfl, HE.out, (by repeat (first | exact bz0 _ _ | refine bz1 ?_ | refine bz2 ?_ _ | refine bz3 ?_ _ | refine bz4 ?_ hb1 | refine bz5 ?_ _ | refine bz6 ?_ _ | refine bz7 ?_ hb1))⟩
    · have hn : n2 = true := by have h := HB.out; cases h; rfl
      subst hn
      go_enter Tryz.func133, Tryz.ntmps133
      go_wp2_with fail
      refine (CI.out _ hg).mono ?_
      rintro r w1 ⟨rfl, hb1⟩
      go_wp2
      go_ret
      exact ⟨b, rfl, HB.out, (by repeat (first | exact bz0 _ _ | refine bz1 ?_ | refine bz2 ?_ _ | refine bz3 ?_ _ | refine bz4 ?_ hb1 | refine bz5 ?_ _ | refine bz6 ?_ _ | refine bz7 ?_ hb1))⟩
theorem with_s (fm x : Int) (ng : Bool) (w : World) (h : fmtB fm = true) (x0 : 0 ≤ x) (x1 : x < 2147483648 ∨ (fm = 64 ∧ x < 9223372036854775808)) : Calls Tryz.prog 138 #[.int .i64 fm, .int .u64 x, .bool ng] w fun e w' => e = .returned (.int .u64 (sgn (sgOf fm) x ng)) ∧ Below w.heap.size w w' := by
  rcases fmt_cases h with rfl | rfl
  · exact with_32 x ng w (fun _ => ⟨x0, by rcases x1 with h' | ⟨h', _⟩; exact h'; exact absurd h' (by decide)⟩)
  · exact with_64 x ng w (fun _ => ⟨x0, by omega⟩)
theorem keepQ2 {w : World} {B b b' : Nat} {v0 v1 v2 v3 v4 y0 y1 y2 y3 y4 : Value} (h : Q5 w b v0 v1 v2 v3 v4) (h' : Q5 w b' y0 y1 y2 y3 y4) (n : b ≠ B) (n' : b' ≠ B) (u0 u1 u2 u3 u4 : Value) (W : World) (hW : W = (((((w.setCell ⟨B, 0, none⟩ u0).setCell ⟨B, 1, none⟩ u1).setCell ⟨B, 2, none⟩ u2).setCell ⟨B, 3, none⟩ u3).setCell ⟨B, 4, none⟩ u4)) :
    (W.cell? ⟨b, 0, none⟩ = some v0 ∧ W.cell? ⟨b, 1, none⟩ = some v1 ∧ W.cell? ⟨b, 2, none⟩ = some v2 ∧ W.cell? ⟨b, 3, none⟩ = some v3 ∧ W.cell? ⟨b, 4, none⟩ = some v4) ∧ (W.cell? ⟨b', 0, none⟩ = some y0 ∧ W.cell? ⟨b', 1, none⟩ = some y1 ∧ W.cell? ⟨b', 2, none⟩ = some y2 ∧ W.cell? ⟨b', 3, none⟩ = some y3 ∧ W.cell? ⟨b', 4, none⟩ = some y4) := by
  subst hW
  exact ⟨(h.of_block (heap5 w B b n u0 u1 u2 u3 u4)).cs, (h'.of_block (heap5 w B b' n' u0 u1 u2 u3 u4)).cs⟩
theorem keepQ4 {w : World} {B C b b' : Nat} {v0 v1 v2 v3 v4 y0 y1 y2 y3 y4 : Value} (h : Q5 w b v0 v1 v2 v3 v4) (h' : Q5 w b' y0 y1 y2 y3 y4) (n : b ≠ B) (n' : b' ≠ B) (m : b ≠ C) (m' : b' ≠ C) (u0 u1 u2 u3 u4 t0 t1 t2 t3 t4 : Value) (W : World) (hW : W = ((((((((((w.setCell ⟨B, 0, none⟩ u0).setCell ⟨B, 1, none⟩ u1).setCell ⟨B, 2, none⟩ u2).setCell ⟨B, 3, none⟩ u3).setCell ⟨B, 4, none⟩ u4).setCell ⟨C, 0, none⟩ t0).setCell ⟨C, 1, none⟩ t1).setCell ⟨C, 2, none⟩ t2).setCell ⟨C, 3, none⟩ t3).setCell ⟨C, 4, none⟩ t4)) :
    (W.cell? ⟨b, 0, none⟩ = some v0 ∧ W.cell? ⟨b, 1, none⟩ = some v1 ∧ W.cell? ⟨b, 2, none⟩ = some v2 ∧ W.cell? ⟨b, 3, none⟩ = some v3 ∧ W.cell? ⟨b, 4, none⟩ = some v4) ∧ (W.cell? ⟨b', 0, none⟩ = some y0 ∧ W.cell? ⟨b', 1, none⟩ = some y1 ∧ W.cell? ⟨b', 2, none⟩ = some y2 ∧ W.cell? ⟨b', 3, none⟩ = some y3 ∧ W.cell? ⟨b', 4, none⟩ = some y4) := by
  subst hW
  exact ⟨((h.of_block (heap5 w B b n u0 u1 u2 u3 u4)).of_block (heap5 _ C b m t0 t1 t2 t3 t4)).cs, ((h'.of_block (heap5 w B b' n' u0 u1 u2 u3 u4)).of_block (heap5 _ C b' m' t0 t1 t2 t3 t4)).cs⟩
theorem Q5.nw2 (w : World) (o : Obj) (v0 v1 v2 v3 v4 : Value) (t : TypeId) : Q5 ((w.alloc o).alloc (.cells #[v0, v1, v2, v3, v4] t)) (w.heap.size + 1) v0 v1 v2 v3 v4 := by simpa using Q5.new (w.alloc o) v0 v1 v2 v3 v4 t
theorem Q5.nw3 (w : World) (o o' : Obj) (v0 v1 v2 v3 v4 : Value) (t : TypeId) : Q5 (((w.alloc o).alloc o').alloc (.cells #[v0, v1, v2, v3, v4] t)) (w.heap.size + 2) v0 v1 v2 v3 v4 := by simpa using Q5.new ((w.alloc o).alloc o') v0 v1 v2 v3 v4 t
theorem two_nums (fm x y : Int) (u : Value) (sg1 inf1 G1 : Bool) (L1 : List Int) (E1 : Int) (n1 b1 : Bool) (sg2 inf2 G2 : Bool) (L2 : List Int) (E2 : Int) (n2 b2 : Bool) (hx : NumAt u fm x sg1 inf1 G1 L1 E1 n1 b1) (hy : NumAt u fm y sg2 inf2 G2 L2 E2 n2 b2) (w : World) (hE : EE u w) :
    Calls Tryz.prog 168 #[.int .i64 fm, .int .u64 x, .int .u64 y] w fun r w' => ∃ a1 c1 a2 c2 ev, r = .returned (.tuple #[.agg #[.bool sg1, .bool inf1, .bool G1, .slice a1 L1.length c1, .int .i64 E1], .agg #[.bool sg2, .bool inf2, .bool G2, .slice a2 L2.length c2, .int .i64 E2], ev]) ∧ EK u ev (n1 || n2) (b1 || b2) ∧ Own w' w.heap.size a1 c1 L1 ∧ Own w' w.heap.size a2 c2 L2 ∧ Below w.heap.size w w' := by
  have CX := hid hx
  have CY := hid hy
  clear hx hy
  have R1 := (Q5.new w (.bool false) (.bool false) (.bool false) (.slice none 0 0) (.int .i64 0) 91).alloc (.cells #[.bool false, .bool false, .bool false, .slice none 0 0, .int .i64 0] 91)
  have R2 := Q5.nw2 w (.cells #[.bool false, .bool false, .bool false, .slice none 0 0, .int .i64 0] 91) (.bool false) (.bool false) (.bool false) (.slice none 0 0) (.int .i64 0) 91
  have bel0 : Below w.heap.size w ((w.alloc (.cells #[.bool false, .bool false, .bool false, .slice none 0 0, .int .i64 0] 91)).alloc (.cells #[.bool false, .bool false, .bool false, .slice none 0 0, .int .i64 0] 91)) := (by repeat (first | exact bz0 _ _ | refine bz1 ?_ | refine bz2 ?_ _ | refine bz3 ?_ _ | refine bz5 ?_ _ | refine bz6 ?_ _))
  go_enter Tryz.func168, Tryz.ntmps168
  go_wp2_with fail
  refine (CX.out _ (hE.below bel0)).mono ?_
  rintro r w1 ⟨a1, c1, e1, rfl, k1, o1, hb1⟩
  have bel1 := bel_go bel0 hb1
  replace R1 := (R1.below hb1).alloc (.cells #[.bool sg1, .bool inf1, .bool G1, .slice a1 L1.length c1, .int .i64 E1] 91)
  replace R2 := (R2.below hb1).alloc (.cells #[.bool sg1, .bool inf1, .bool G1, .slice a1 L1.length c1, .int .i64 E1] 91)
  have X := Q5.new w1 (.bool sg1) (.bool inf1) (.bool G1) (.slice a1 L1.length c1) (.int .i64 E1) 91
  have o1' := o1.alloc (.cells #[.bool sg1, .bool inf1, .bool G1, .slice a1 L1.length c1, .int .i64 E1] 91)
  have bel1' := bel_al bel1 (.cells #[.bool sg1, .bool inf1, .bool G1, .slice a1 L1.length c1, .int .i64 E1] 91)
  have l1 := R2.lt
  have z1 : w1.heap.size < (w1.alloc (.cells #[.bool sg1, .bool inf1, .bool G1, .slice a1 L1.length c1, .int .i64 E1] 91)).heap.size := by simp
  have lw1 : w.heap.size + 1 < w1.heap.size := by have := hb1.size; simp at this; omega
  clear hb1 o1 bel1 bel0
  go_wp2_with fail
  refine (CY.out _ (hE.below bel1')).mono ?_
  rintro r w2 ⟨a2, c2, e2, rfl, k2, o2, hb2⟩
  have bel2w := bel_go bel1' hb2
  have bel2 := bel_al (bel_go bel1' hb2) (.cells #[.bool sg2, .bool inf2, .bool G2, .slice a2 L2.length c2, .int .i64 E2] 91)
  replace R1 := (R1.below hb2).alloc (.cells #[.bool sg2, .bool inf2, .bool G2, .slice a2 L2.length c2, .int .i64 E2] 91)
  replace R2 := (R2.below hb2).alloc (.cells #[.bool sg2, .bool inf2, .bool G2, .slice a2 L2.length c2, .int .i64 E2] 91)
  replace X := (X.below hb2).alloc (.cells #[.bool sg2, .bool inf2, .bool G2, .slice a2 L2.length c2, .int .i64 E2] 91)
  have Y := Q5.new w2 (.bool sg2) (.bool inf2) (.bool G2) (.slice a2 L2.length c2) (.int .i64 E2) 91
  have p1 := (o1'.below hb2).alloc (.cells #[.bool sg2, .bool inf2, .bool G2, .slice a2 L2.length c2, .int .i64 E2] 91)
  have p2 := o2.alloc (.cells #[.bool sg2, .bool inf2, .bool G2, .slice a2 L2.length c2, .int .i64 E2] 91)
  have lw2 : w1.heap.size < w2.heap.size := by have := hb2.size; simp at this; omega
  have CW := hid (fun w' h => worse_any k1 k2 w' h)
  have g2 : EA.ErrT (w2.alloc (.cells #[.bool sg2, .bool inf2, .bool G2, .slice a2 L2.length c2, .int .i64 E2] 91)).drew := (hE.below (Below.drew bel2)).g
  clear hb2 o2 o1' bel1' k1 k2 CX CY l1 z1
  have xd := X.drew.cs
  have yd := Y.drew.cs
  go_wp2_with fail
  refine wp_region_held_drew (S := (fun w' => (w'.cell? ⟨w1.heap.size, 0, none⟩ = some (.bool sg1) ∧ w'.cell? ⟨w1.heap.size, 1, none⟩ = some (.bool inf1) ∧ w'.cell? ⟨w1.heap.size, 2, none⟩ = some (.bool G1) ∧ w'.cell? ⟨w1.heap.size, 3, none⟩ = some (.slice a1 L1.length c1) ∧ w'.cell? ⟨w1.heap.size, 4, none⟩ = some (.int .i64 E1)) ∧ (w'.cell? ⟨w2.heap.size, 0, none⟩ = some (.bool sg2) ∧ w'.cell? ⟨w2.heap.size, 1, none⟩ = some (.bool inf2) ∧ w'.cell? ⟨w2.heap.size, 2, none⟩ = some (.bool G2) ∧ w'.cell? ⟨w2.heap.size, 3, none⟩ = some (.slice a2 L2.length c2) ∧ w'.cell? ⟨w2.heap.size, 4, none⟩ = some (.int .i64 E2)))) (by kernel_rfl) ?_ (fun hHeld => ?_)
  · exact ⟨xd, yd⟩
  refine tk 0 ?_ rfl (Or.inl ⟨by rfl, ?_⟩) ?_
  rotate_left
  · (intro w hSw; (try dsimp only at hSw); go_simp; try (with_reducible rfl))
  try simp only [Act.put, Ls]
  refine tk 1 ?_ rfl (Or.inl ⟨by rfl, ?_⟩) ?_
  rotate_left
  · (intro w hSw; (try dsimp only at hSw); go_simp; try (with_reducible rfl))
  try simp only [Act.put, Ls]
  refine tk 2 ?_ rfl (Or.inl ⟨by rfl, ?_⟩) ?_
  rotate_left
  · (intro w hSw; (try dsimp only at hSw); go_simp; try (with_reducible rfl))
  try simp only [Act.put, Ls]
  refine tk 3 ?_ rfl (Or.inl ⟨by rfl, ?_⟩) ?_
  rotate_left
  · (intro w hSw; (try dsimp only at hSw); go_simp; try (with_reducible rfl))
  try simp only [Act.put, Ls]
  refine rdy 4 rfl (fun K hK => ?_)
  go_simp
  go_at_call 133; refine (CW.out _ g2).mono ?_; rintro r q1 ⟨ev, rfl, kv, hq1⟩
  have X1 := X.drew.below hq1
  have Y1 := Y.drew.below hq1
  have S1 := R1.drew.below hq1
  have S2 := R2.drew.below hq1
  have s1 := p1.drew.below hq1
  have s2 := p2.drew.below hq1
  obtain ⟨r0, r1, r2, r3, r4, f0, f1, f2, f3, f4⟩ := S1
  obtain ⟨q0, q1', q2, q3, q4, g0, g1, g2', g3, g4⟩ := S2
  refine hK.out _ _ ?_ (fun hHeld => ?_)
  · exact ⟨X1.cs, Y1.cs⟩
  clear hK K
  try simp only [Act.put, Ls]
  refine rdy 5 rfl (fun K hK => ?_)
  go_simp
  refine hK.out _ _ ?_ (fun hHeld => ?_)
  · exact keepQ2 X1 Y1 (by omega) (by omega) _ _ _ _ _ _ rfl
  clear hK K
  try simp only [Act.put, Ls]
  refine rdy 6 rfl (fun K hK => ?_)
  go_simp
  refine hK.out _ _ ?_ (fun hHeld => ?_)
  · exact keepQ4 X1 Y1 (by omega) (by omega) (by omega) (by omega) _ _ _ _ _ _ _ _ _ _ _ rfl
  clear hK K
  try simp only [Act.put, Ls]
  refine rdy 7 rfl (fun K hK => ?_)
  go_simp
  refine hK.out _ _ ?_ (fun hHeld => ?_)
  · exact keepQ4 X1 Y1 (by omega) (by omega) (by omega) (by omega) _ _ _ _ _ _ _ _ _ _ _ rfl
  clear hK K
  try simp only [Act.put, Ls]
  refine wpAnyH_done (by kernel_rfl) ?_ _
  go_wp2
  refine bodyPost_ret (v := .tuple #[.agg #[.bool sg1, .bool inf1, .bool G1, .slice a1 L1.length c1, .int .i64 E1], .agg #[.bool sg2, .bool inf2, .bool G2, .slice a2 L2.length c2, .int .i64 E2], ev]) (by simp [results, Tryz.results168, go_sem, r0, r1, r2, r3, r4, q0, q1', q2, q3, q4]) rfl ⟨a1, c1, a2, c2, ev, rfl, kv, ?_, ?_, ?_⟩
  · refine Own.base (B := w.heap.size + 2) ?_ (by omega)
    have s1' := s1.base (B' := w.heap.size + 2) (by simp <;> omega)
    repeat (first | with_reducible exact s1' | (with_reducible refine Own.setBelow ?_ ?_ _; rotate_left; (simp; try omega)))
  · refine Own.base (B := w.heap.size + 2) ?_ (by omega)
    have s2' := s2.base (B' := w.heap.size + 2) (by simp <;> omega)
    repeat (first | with_reducible exact s2' | (with_reducible refine Own.setBelow ?_ ?_ _; rotate_left; (simp; try omega)))
  · exact (by (repeat with_reducible first | refine Below.setCell ?_ ?_ _ | exact bz0 _ _ | refine bz1 ?_ | refine bz2 ?_ _ | refine bz3 ?_ _ | refine bz4 ?_ hq1 | refine bz4 ?_ bel2w | refine Below.alloc ?_ ?_ _ | refine Below.trans ?_ (Below.mono hq1 ?_) | refine Below.trans ?_ (Below.mono bel2w ?_)) <;> first | omega | (simp; done) | (simp; omega))
theorem sl64_2 (w : World) (x y : Int) (t : TypeId) : Sl .u64 (w.alloc (.cells #[.int .u64 x, .int .u64 y] t)) (.slice (some ⟨w.heap.size, 0, none⟩) [x, y].length 2) [x, y] :=
  ⟨_, 2, rfl, Nat.le_refl _, by unfold maxLen; simp, .inr ⟨w.heap.size, 0, rfl, fun i hi => by
    have h2 : i < 2 := by simpa using hi
    match i, h2 with
    | 0, _ => simp
    | 1, _ => simp⟩⟩
theorem d64_2 {x y : Int} (x0 : 0 ≤ x) (x1 : x < 18446744073709551616) (y0 : 0 ≤ y) (y1 : y < 18446744073709551616) : D64 [x, y] := fun z hz => by
  simp only [List.mem_cons, List.not_mem_nil, or_false] at hz; rcases hz with rfl | rfl
  · exact ⟨x0, x1⟩
  · exact ⟨y0, y1⟩
/-- A product, of all floats. -/
def muO (fm mode x y : Int) : Bool := modeB mode && allB fm [x, y]
theorem all2 {fm x y : Int} (h : allB fm [x, y] = true) : okF fm x = true ∧ okF fm y = true := by
  unfold allB at h; simpa using h
theorem all2_fmt {fm mode x y : Int} : (allB fm [x, y] && fmtB fm && modeB mode) = (modeB mode && allB fm [x, y]) := by
  cases h : allB fm [x, y]
  · simp
  · rw [ok_fmt (all2 h).1]; simp
theorem unq_bd (fm : Int) : -1074 ≤ unQ fm ∧ unQ fm ≤ -149 := by unfold unQ; split <;> omega
theorem sign_s (fm : Int) (w : World) (h : fmtB fm = true) :
    Calls Tryz.prog 111 #[.int .i64 fm] w fun e w' => e = .returned (.int .u64 (sgOf fm)) ∧ Below w.heap.size w w' := by
  rcases fmt_cases h with rfl | rfl
  all_goals
    go_enter Tryz.func111, Tryz.ntmps111
    go_wp2
    go_ret
    exact ⟨rfl, (by repeat (first | exact bz0 _ _ | refine bz1 ?_ | refine bz2 ?_ _ | refine bz3 ?_ _ | refine bz5 ?_ _ | refine bz6 ?_ _))⟩
namespace Fd
theorem xor_bd (x y : Int) : 0 ≤ bits .xor .u64 x y ∧ bits .xor .u64 x y < 18446744073709551616 := by
  have lo := bits_lo_u64 .xor x y
  have hi := bits_hi_u64 .xor x y
  omega
theorem near2_x (fm : Int) (hf : fmtB fm = true) (x : Int) (hx : okF fm x = true) (x0 : 0 ≤ x) (x1 : x < 18446744073709551616) (rb : Nat) (ca : Option Addr) (cc : Nat) (cs : List Int) (w : World) (hr : RD w rb ca cc cs) :
    Calls Tryz.prog 89 #[.pointer (some ⟨rb, 0, none⟩), .int .i64 fm, .int .u64 x] w fun e w' => ∃ y : Int, e = .returned (.int .u64 y) ∧ 0 ≤ y ∧ y < 18446744073709551616 ∧ RD w' rb ca cc cs ∧ w.grownBy w' (some rb) := by
  have CF := hid (fun w' h => float_any fm hf rb ca cc cs w' h)
  have CS := hid (fun w' => sign_s fm w' hf)
  have CU := hid (fun w' => spec_up fm x w' x0 x1)
  have CI := hid (fun w' => spec_fin fm x w' x0 x1)
  have SB := hid (fun n => scB_bd fm 0 x n x0 x1)
  have SC := hid (fun n w' => sc_spec fm 0 x n w' x0 x1 _ _ _ rfl rfl rfl)
  clear hf hx
  have b1 := xor_bd x (sgOf fm)
  have b2 := xor_bd (upF fm x) (sgOf fm)
  obtain ⟨S, hS⟩ : ∃ q, q = sgOf fm := ⟨_, rfl⟩
  obtain ⟨U, hU⟩ : ∃ q, q = upF fm x := ⟨_, rfl⟩
  rw [← hS] at CS b1 b2
  rw [← hU] at CU b2
  clear hS hU
  go_enter Tryz.func89, Tryz.ntmps89
  go_wp2_with fail
  refine (below_any rb ca cc cs 6 _ hr (by decide) (by decide)).mono ?_
  rintro e w1 ⟨v, rfl, v0, v1, hr1, hg1⟩
  rcases (show v = 0 ∨ v = 1 ∨ v = 2 ∨ 2 < v by omega) with rfl | rfl | rfl | hv
  · go_wp2_with fail
    refine (CS.out _).mono ?_
    rintro e w2 ⟨rfl, hb2⟩
    go_wp2
    go_ret
    exact ⟨_, rfl, b1.1, b1.2, hr1.below hb2, grown_trans hg1 (grown_below hb2 _)⟩
  · go_wp2_with fail
    refine (CU.out _).mono ?_
    rintro e w2 ⟨rfl, hb2⟩
    go_wp2_with fail
    refine (CS.out _).mono ?_
    rintro e w3 ⟨rfl, hb3⟩
    go_wp2
    go_ret
    exact ⟨_, rfl, b2.1, b2.2, (hr1.below hb2).below hb3, grown_trans (grown_trans hg1 (grown_below hb2 _)) (grown_below hb3 _)⟩
  · go_wp2_with fail
    refine (CI.out _).mono ?_
    rintro e w2 ⟨rfl, hb2⟩
    have hr2 := hr1.below hb2
    have hg2 := grown_trans hg1 (grown_below hb2 (some rb))
    clear hr1 hb2 hg1
    cases hfin : finB fm x
    · go_wp2_with fail
      refine (CF.out _ hr2).mono ?_
      rintro e w3 ⟨y, rfl, y0, y1, hr3, hg3⟩
      go_wp2
      go_ret
      exact ⟨_, rfl, y0, y1, hr3, grown_trans hg2 hg3⟩
    · go_wp2_with fail
      refine (below_any rb ca cc cs 60 _ hr2 (by decide) (by decide)).mono ?_
      rintro e w3 ⟨n, rfl, n0, n1, hr3, hg3⟩
      have W1 : IntKind.i64.wrap (n - 55) = n - 55 := by rw [IntKind.wrap_i64]; omega
      have SCn := hid (fun w' => SC.out (n - 55) w')
      have hB := SB.out (n - 55)
      obtain ⟨B, hBe⟩ : ∃ q, q = scB fm 0 x (n - 55) := ⟨_, rfl⟩
      obtain ⟨F, hFe⟩ : ∃ q, q = scF fm 0 x (n - 55) := ⟨_, rfl⟩
      obtain ⟨O, hOe⟩ : ∃ q, q = scO fm 0 x (n - 55) := ⟨_, rfl⟩
      rw [← hBe] at hB
      rw [← hBe, ← hFe, ← hOe] at SCn
      clear hBe hFe hOe SC SB
      go_wp2_with fail
      refine (SCn.out _).mono ?_
      rintro e w4 ⟨rfl, hb4⟩
      go_wp2
      go_ret
      exact ⟨_, rfl, hB.1, hB.2, hr3.below hb4, grown_trans (grown_trans hg2 hg3) (grown_below hb4 _)⟩
  · have e0 : (v == 0) = false := by simp; omega
    have e1 : (v == 1) = false := by simp; omega
    have e2 : (v == 2) = false := by simp; omega
    go_wp2_with fail
    refine (CF.out _ hr1).mono ?_
    rintro e w3 ⟨y, rfl, y0, y1, hr3, hg3⟩
    go_wp2
    go_ret
    exact ⟨_, rfl, y0, y1, hr3, grown_trans hg1 hg3⟩
/-- A format, a mode and two floats, as they are drawn. -/
def DrQ (w w' : World) (e : Ending) : Prop := ∃ fm mode a b : Int, e = .returned (.tuple #[.int .i64 fm, .int .i64 mode, .int .u64 a, .int .u64 b]) ∧ 0 ≤ a ∧ a < 18446744073709551616 ∧ 0 ≤ b ∧ b < 18446744073709551616 ∧ Below w.heap.size w w'
theorem drawAdd_x (ca : Option Addr) (cc : Nat) (cs : List Int) (w : World) (hs : Sl .u8 w (.slice ca cs.length cc) cs) (hby : ∀ i, 0 ≤ cs.getD i 0 ∧ cs.getD i 0 ≤ 255) (hl : cs.length ≤ 1048576) :
    Calls Tryz.prog 25 #[.slice ca cs.length cc] w fun e w' => DrQ w w' e := by
  go_enter Tryz.func25, Tryz.ntmps25
  go_wp2_with fail
  refine (open_any ca cc cs _ hs hby hl).mono ?_
  rintro e w1 ⟨rfl, hr1, hb1⟩
  go_wp2_with fail
  refine (some_any w.heap.size ca cc cs _ hr1).mono ?_
  rintro e w2 ⟨fm, x, rfl, x0, x1, hr2, hg2⟩
  have bel := bel_rd hb1 hg2 (Nat.le_refl _)
  clear hb1 hg2
  go_wp2_with fail
  refine (spec_ok fm x _).mono ?_
  rintro e w3 ⟨rfl, hb3⟩
  have hr3 := hr2.below hb3
  replace bel := bel_go bel hb3
  clear hb3 hr2
  cases hok : okF fm x
  · go_wp2
    ((try simp only [Exit.inBlock, Exit.then]); refine bodyPost_ret (res4 rfl _ _ _) rfl ?_)
    exact ⟨fm, 0, x, x, rfl, x0, x1, x0, x1, bel⟩
  · have NE := hid (fun w' h => near2_x fm (ok_fmt hok) x hok x0 x1 w.heap.size ca cc cs w' h)
    clear hok
    go_wp2_with fail
    refine (off_z w.heap.size ca cc cs 0 5 _ hr3 (by decide) (by decide) (by decide)).mono ?_
    rintro e w4 ⟨m, rfl, hr4, hg4⟩
    go_wp2_with fail
    refine (NE.out _ hr4).mono ?_
    rintro e w5 ⟨y, rfl, y0, y1, hr5, hg5⟩
    go_wp2
    ((try simp only [Exit.inBlock, Exit.then]); refine bodyPost_ret (res4 rfl _ _ _) rfl ?_)
    exact ⟨fm, m, x, y, rfl, x0, x1, y0, y1, bel_rd (bel_rd bel hg4 (Nat.le_refl _)) hg5 (Nat.le_refl _)⟩
end Fd
end Go.Proofs.YtbhfbaogmkgmiaaGreatDoor
