/-
  What is needed of AccN, AccO, BW.
-/
import Derived.Test.YtkfjmcdniohljaaGreatDoorE53
set_option maxHeartbeats 16000000
set_option maxRecDepth 1000000
namespace Go.Proofs.YtkfjmcdniohljaaGreatDoor
set_option linter.unusedVariables false
set_option linter.unusedSimpArgs false
open Go.RowKit Go.Deep
theorem merge_spec_no (fm : Int) (ng : Bool) (T : Int) (nn bd pl mi am : Bool) (fmq : Int) (ngq : Bool) (Tq : Int) (nnq bdq plq miq amq : Bool) (p pq : Option Addr) (cap capq : Nat) (zs ys : List Int) (w : World) (hs : Sl .u32 w (.slice p zs.length cap) zs) (hy : Sl .u32 w (.slice pq ys.length capq) ys) (hl : zs.length ≤ 1048576) (hl' : ys.length ≤ 1048576) (c : Int) (hc : mgNo fm (accB fm ng zs T nn bd pl mi am) (accB fmq ngq ys Tq nnq bdq plq miq amq) fmq T Tq c) :
    Calls Tryz.prog 44 #[.agg #[.int .i64 fm, .bool ng, .slice p zs.length cap, .int .i64 T, .bool nn, .bool bd, .bool pl, .bool mi, .bool am], .agg #[.int .i64 fmq, .bool ngq, .slice pq ys.length capq, .int .i64 Tq, .bool nnq, .bool bdq, .bool plq, .bool miq, .bool amq]] w fun e w' => e = .returned (.tuple #[A0, .int .i64 c]) ∧ Below w.heap.size w w' := by
  have C1 := hid (accok_spec fm ng T nn bd pl mi am p cap zs (((w.alloc (.cells #[.int .i64 fm, .bool ng, .slice p zs.length cap, .int .i64 T, .bool nn, .bool bd, .bool pl, .bool mi, .bool am] 50)).alloc (.cells #[.int .i64 fmq, .bool ngq, .slice pq ys.length capq, .int .i64 Tq, .bool nnq, .bool bdq, .bool plq, .bool miq, .bool amq] 50)).alloc (.cells #[.int .i64 0, .bool false, .slice none 0 0, .int .i64 0, .bool false, .bool false, .bool false, .bool false, .bool false] 50)) (((hs.alloc _).alloc _).alloc _) hl)
  have Q1 := (((Q9.new w (.int .i64 fm) (.bool ng) (.slice p zs.length cap) (.int .i64 T) (.bool nn) (.bool bd) (.bool pl) (.bool mi) (.bool am) 50).alloc (.cells #[.int .i64 fmq, .bool ngq, .slice pq ys.length capq, .int .i64 Tq, .bool nnq, .bool bdq, .bool plq, .bool miq, .bool amq] 50)).alloc (.cells #[.int .i64 0, .bool false, .slice none 0 0, .int .i64 0, .bool false, .bool false, .bool false, .bool false, .bool false] 50))
  have Q2 := ((Q9.nw2 w (.cells #[.int .i64 fm, .bool ng, .slice p zs.length cap, .int .i64 T, .bool nn, .bool bd, .bool pl, .bool mi, .bool am] 50) (.int .i64 fmq) (.bool ngq) (.slice pq ys.length capq) (.int .i64 Tq) (.bool nnq) (.bool bdq) (.bool plq) (.bool miq) (.bool amq) 50).alloc (.cells #[.int .i64 0, .bool false, .slice none 0 0, .int .i64 0, .bool false, .bool false, .bool false, .bool false, .bool false] 50))
  have Q3 := Q9.new3 w (.cells #[.int .i64 fm, .bool ng, .slice p zs.length cap, .int .i64 T, .bool nn, .bool bd, .bool pl, .bool mi, .bool am] 50) (.cells #[.int .i64 fmq, .bool ngq, .slice pq ys.length capq, .int .i64 Tq, .bool nnq, .bool bdq, .bool plq, .bool miq, .bool amq] 50) (.int .i64 0) (.bool false) (.slice none 0 0) (.int .i64 0) (.bool false) (.bool false) (.bool false) (.bool false) (.bool false) 50
  rcases hc with ⟨h1, rfl⟩ | ⟨h1, h2, rfl⟩ | ⟨h1, h2, h3, rfl⟩ | ⟨h1, h2, h3, h4, rfl⟩
  · rw [h1] at C1
    clear h1
    go_enter Tryz.func44, Tryz.ntmps44
    go_wp2_with fail
    refine C1.out.mono ?_
    rintro e w1 ⟨rfl, hb1⟩
    obtain ⟨r0, r1, r2, r3, r4, r5, r6, r7, r8, f0, f1, f2, f3, f4, f5, f6, f7, f8⟩ := Q3.below hb1
    clear Q1 Q2 Q3
    go_wp2
    refine bodyPost_ret (v := .tuple #[A0, .int .i64 1]) (by simp [results, Tryz.results44, go_sem, r0, r1, r2, r3, r4, r5, r6, r7, r8, A0]) rfl ⟨rfl, ?_⟩
    exact (by (repeat with_reducible first | refine Below.setCell ?_ ?_ _ | exact bz0 _ _ | refine bz1 ?_ | refine bz2 ?_ _ | refine bz3 ?_ _ | refine bz4 ?_ hb1 | refine Below.alloc ?_ ?_ _ | refine Below.trans ?_ (Below.mono hb1 ?_)) <;> first | omega | (simp; done) | (simp; omega))
  all_goals
    rw [h1] at C1
    have C2 := hid (fun w' (hB : Below (((w.alloc (.cells #[.int .i64 fm, .bool ng, .slice p zs.length cap, .int .i64 T, .bool nn, .bool bd, .bool pl, .bool mi, .bool am] 50)).alloc (.cells #[.int .i64 fmq, .bool ngq, .slice pq ys.length capq, .int .i64 Tq, .bool nnq, .bool bdq, .bool plq, .bool miq, .bool amq] 50)).alloc (.cells #[.int .i64 0, .bool false, .slice none 0 0, .int .i64 0, .bool false, .bool false, .bool false, .bool false, .bool false] 50)).heap.size (((w.alloc (.cells #[.int .i64 fm, .bool ng, .slice p zs.length cap, .int .i64 T, .bool nn, .bool bd, .bool pl, .bool mi, .bool am] 50)).alloc (.cells #[.int .i64 fmq, .bool ngq, .slice pq ys.length capq, .int .i64 Tq, .bool nnq, .bool bdq, .bool plq, .bool miq, .bool amq] 50)).alloc (.cells #[.int .i64 0, .bool false, .slice none 0 0, .int .i64 0, .bool false, .bool false, .bool false, .bool false, .bool false] 50)) w') => accok_spec fmq ngq Tq nnq bdq plq miq amq pq capq ys w'  ((((hy.alloc _).alloc _).alloc _).below hB) hl')
    rw [h2] at C2
  · clear h1 h2
    go_enter Tryz.func44, Tryz.ntmps44
    go_wp2_with fail
    refine C1.out.mono ?_
    rintro e w1 ⟨rfl, hb1⟩
    replace Q2 := Q2.below hb1
    replace Q3 := Q3.below hb1
    clear Q1
    obtain ⟨c0, c1, c2, c3, c4, c5, c6, c7, c8⟩ := Q2.cs
    go_wp2_with fail
    refine (C2.out _ hb1).mono ?_
    rintro e w2 ⟨rfl, hb2⟩
    clear c0 c1 c2 c3 c4 c5 c6 c7 c8 Q2
    obtain ⟨r0, r1, r2, r3, r4, r5, r6, r7, r8, f0, f1, f2, f3, f4, f5, f6, f7, f8⟩ := Q3.below hb2
    clear Q3
    go_wp2
    refine bodyPost_ret (v := .tuple #[A0, .int .i64 1]) (by simp [results, Tryz.results44, go_sem, r0, r1, r2, r3, r4, r5, r6, r7, r8, A0]) rfl ⟨rfl, ?_⟩
    exact (by (repeat with_reducible first | refine Below.setCell ?_ ?_ _ | exact bz0 _ _ | refine bz1 ?_ | refine bz2 ?_ _ | refine bz3 ?_ _ | refine bz4 ?_ hb2 | refine bz4 ?_ hb1 | refine Below.alloc ?_ ?_ _ | refine Below.trans ?_ (Below.mono hb2 ?_) | refine Below.trans ?_ (Below.mono hb1 ?_)) <;> first | omega | (simp; done) | (simp; omega))
  · clear h1 h2
    have hne : (fm != fmq) = true := by simpa using h3
    go_enter Tryz.func44, Tryz.ntmps44
    go_wp2_with fail
    refine C1.out.mono ?_
    rintro e w1 ⟨rfl, hb1⟩
    replace Q1 := Q1.below hb1
    replace Q2 := Q2.below hb1
    replace Q3 := Q3.below hb1
    obtain ⟨c0, c1, c2, c3, c4, c5, c6, c7, c8⟩ := Q2.cs
    go_wp2_with fail
    refine (C2.out _ hb1).mono ?_
    rintro e w2 ⟨rfl, hb2⟩
    clear c0 c1 c2 c3 c4 c5 c6 c7 c8
    have k1 := (Q1.below hb2).c0
    have k2 := (Q2.below hb2).c0
    obtain ⟨r0, r1, r2, r3, r4, r5, r6, r7, r8, f0, f1, f2, f3, f4, f5, f6, f7, f8⟩ := Q3.below hb2
    clear Q1 Q2 Q3
    go_wp2
    refine bodyPost_ret (v := .tuple #[A0, .int .i64 2]) (by simp [results, Tryz.results44, go_sem, r0, r1, r2, r3, r4, r5, r6, r7, r8, A0]) rfl ⟨rfl, ?_⟩
    exact (by (repeat with_reducible first | refine Below.setCell ?_ ?_ _ | exact bz0 _ _ | refine bz1 ?_ | refine bz2 ?_ _ | refine bz3 ?_ _ | refine bz4 ?_ hb2 | refine bz4 ?_ hb1 | refine Below.alloc ?_ ?_ _ | refine Below.trans ?_ (Below.mono hb2 ?_) | refine Below.trans ?_ (Below.mono hb1 ?_)) <;> first | omega | (simp; done) | (simp; omega))
  · have t1 := mkB_T (acc_parts h1).2.1
    have t2 := mkB_T (acc_parts h2).2.1
    obtain ⟨t10, t11⟩ := t1
    obtain ⟨t20, t21⟩ := t2
    clear h1 h2
    have hne : (fm != fmq) = false := by simpa using h3
    clear h3
    go_enter Tryz.func44, Tryz.ntmps44
    go_wp2_with fail
    refine C1.out.mono ?_
    rintro e w1 ⟨rfl, hb1⟩
    replace Q1 := Q1.below hb1
    replace Q2 := Q2.below hb1
    replace Q3 := Q3.below hb1
    obtain ⟨c0, c1, c2, c3, c4, c5, c6, c7, c8⟩ := Q2.cs
    go_wp2_with fail
    refine (C2.out _ hb1).mono ?_
    rintro e w2 ⟨rfl, hb2⟩
    clear c0 c1 c2 c3 c4 c5 c6 c7 c8
    have k1 := (Q1.below hb2).c0
    have k2 := (Q2.below hb2).c0
    have m1 := (Q1.below hb2).c3
    have m2 := (Q2.below hb2).c3
    obtain ⟨r0, r1, r2, r3, r4, r5, r6, r7, r8, f0, f1, f2, f3, f4, f5, f6, f7, f8⟩ := Q3.below hb2
    clear Q1 Q2 Q3
    go_wp2
    refine bodyPost_ret (v := .tuple #[A0, .int .i64 3]) (by simp [results, Tryz.results44, go_sem, r0, r1, r2, r3, r4, r5, r6, r7, r8, A0]) rfl ⟨rfl, ?_⟩
    exact (by (repeat with_reducible first | refine Below.setCell ?_ ?_ _ | exact bz0 _ _ | refine bz1 ?_ | refine bz2 ?_ _ | refine bz3 ?_ _ | refine bz4 ?_ hb2 | refine bz4 ?_ hb1 | refine Below.alloc ?_ ?_ _ | refine Below.trans ?_ (Below.mono hb2 ?_) | refine Below.trans ?_ (Below.mono hb1 ?_)) <;> first | omega | (simp; done) | (simp; omega))
theorem amW_eq {T Tq : Int} {nn bd pl mi am nnq bdq plq miq amq : Bool} (h : mkB T nn bd pl mi am = true) (h' : mkB Tq nnq bdq plq miq amq = true) :
    ((am || decide (T = 0)) && (amq || decide (Tq = 0)) && decide (T + Tq > 0)) = amW T am Tq amq := by
  obtain ⟨t0, -⟩ := mkB_T h
  obtain ⟨q0, -⟩ := mkB_T h'
  have e1 := (mk_am h).2.2
  have e2 := (mk_am h').2.2
  unfold amW
  by_cases a1 : T = 0
  · obtain rfl := (e1 a1).2.2.2.2
    by_cases a2 : Tq = 0
    · obtain rfl := (e2 a2).2.2.2.2
      rw [decide_eq_true a1, decide_eq_true a2, decide_eq_false (by omega)]; rfl
    · rw [decide_eq_true a1, decide_eq_false a2, decide_eq_true (by omega)]; cases amq <;> rfl
  · by_cases a2 : Tq = 0
    · obtain rfl := (e2 a2).2.2.2.2
      rw [decide_eq_false a1, decide_eq_true a2, decide_eq_true (by omega)]; cases am <;> rfl
    · rw [decide_eq_false a1, decide_eq_false a2, decide_eq_true (by omega)]; cases am <;> cases amq <;> rfl
theorem Q9.set4 {w : World} {b : Nat} {v0 v1 v2 v3 v4 v5 v6 v7 v8 : Value} (h : Q9 w b v0 v1 v2 v3 v4 v5 v6 v7 v8) (u : Value) : Q9 (w.setCell ⟨b, 4, none⟩ u) b v0 v1 v2 v3 u v5 v6 v7 v8 := by
  obtain ⟨c0, c1, c2, c3, c4, c5, c6, c7, c8, f0, f1, f2, f3, f4, f5, f6, f7, f8⟩ := h
  exact ⟨by simp [go_sem, c0, c4], by simp [go_sem, c1, c4], by simp [go_sem, c2, c4], by simp [go_sem, c3, c4], by simp [go_sem, c4, c4], by simp [go_sem, c5, c4], by simp [go_sem, c6, c4], by simp [go_sem, c7, c4], by simp [go_sem, c8, c4], by simp [go_sem, f0], by simp [go_sem, f1], by simp [go_sem, f2], by simp [go_sem, f3], by simp [go_sem, f4], by simp [go_sem, f5], by simp [go_sem, f6], by simp [go_sem, f7], by simp [go_sem, f8]⟩
theorem Q9.set5 {w : World} {b : Nat} {v0 v1 v2 v3 v4 v5 v6 v7 v8 : Value} (h : Q9 w b v0 v1 v2 v3 v4 v5 v6 v7 v8) (u : Value) : Q9 (w.setCell ⟨b, 5, none⟩ u) b v0 v1 v2 v3 v4 u v6 v7 v8 := by
  obtain ⟨c0, c1, c2, c3, c4, c5, c6, c7, c8, f0, f1, f2, f3, f4, f5, f6, f7, f8⟩ := h
  exact ⟨by simp [go_sem, c0, c5], by simp [go_sem, c1, c5], by simp [go_sem, c2, c5], by simp [go_sem, c3, c5], by simp [go_sem, c4, c5], by simp [go_sem, c5, c5], by simp [go_sem, c6, c5], by simp [go_sem, c7, c5], by simp [go_sem, c8, c5], by simp [go_sem, f0], by simp [go_sem, f1], by simp [go_sem, f2], by simp [go_sem, f3], by simp [go_sem, f4], by simp [go_sem, f5], by simp [go_sem, f6], by simp [go_sem, f7], by simp [go_sem, f8]⟩
theorem Q9.set6 {w : World} {b : Nat} {v0 v1 v2 v3 v4 v5 v6 v7 v8 : Value} (h : Q9 w b v0 v1 v2 v3 v4 v5 v6 v7 v8) (u : Value) : Q9 (w.setCell ⟨b, 6, none⟩ u) b v0 v1 v2 v3 v4 v5 u v7 v8 := by
  obtain ⟨c0, c1, c2, c3, c4, c5, c6, c7, c8, f0, f1, f2, f3, f4, f5, f6, f7, f8⟩ := h
  exact ⟨by simp [go_sem, c0, c6], by simp [go_sem, c1, c6], by simp [go_sem, c2, c6], by simp [go_sem, c3, c6], by simp [go_sem, c4, c6], by simp [go_sem, c5, c6], by simp [go_sem, c6, c6], by simp [go_sem, c7, c6], by simp [go_sem, c8, c6], by simp [go_sem, f0], by simp [go_sem, f1], by simp [go_sem, f2], by simp [go_sem, f3], by simp [go_sem, f4], by simp [go_sem, f5], by simp [go_sem, f6], by simp [go_sem, f7], by simp [go_sem, f8]⟩
theorem Q9.set7 {w : World} {b : Nat} {v0 v1 v2 v3 v4 v5 v6 v7 v8 : Value} (h : Q9 w b v0 v1 v2 v3 v4 v5 v6 v7 v8) (u : Value) : Q9 (w.setCell ⟨b, 7, none⟩ u) b v0 v1 v2 v3 v4 v5 v6 u v8 := by
  obtain ⟨c0, c1, c2, c3, c4, c5, c6, c7, c8, f0, f1, f2, f3, f4, f5, f6, f7, f8⟩ := h
  exact ⟨by simp [go_sem, c0, c7], by simp [go_sem, c1, c7], by simp [go_sem, c2, c7], by simp [go_sem, c3, c7], by simp [go_sem, c4, c7], by simp [go_sem, c5, c7], by simp [go_sem, c6, c7], by simp [go_sem, c7, c7], by simp [go_sem, c8, c7], by simp [go_sem, f0], by simp [go_sem, f1], by simp [go_sem, f2], by simp [go_sem, f3], by simp [go_sem, f4], by simp [go_sem, f5], by simp [go_sem, f6], by simp [go_sem, f7], by simp [go_sem, f8]⟩
theorem Q9.set8 {w : World} {b : Nat} {v0 v1 v2 v3 v4 v5 v6 v7 v8 : Value} (h : Q9 w b v0 v1 v2 v3 v4 v5 v6 v7 v8) (u : Value) : Q9 (w.setCell ⟨b, 8, none⟩ u) b v0 v1 v2 v3 v4 v5 v6 v7 u := by
  obtain ⟨c0, c1, c2, c3, c4, c5, c6, c7, c8, f0, f1, f2, f3, f4, f5, f6, f7, f8⟩ := h
  exact ⟨by simp [go_sem, c0, c8], by simp [go_sem, c1, c8], by simp [go_sem, c2, c8], by simp [go_sem, c3, c8], by simp [go_sem, c4, c8], by simp [go_sem, c5, c8], by simp [go_sem, c6, c8], by simp [go_sem, c7, c8], by simp [go_sem, c8, c8], by simp [go_sem, f0], by simp [go_sem, f1], by simp [go_sem, f2], by simp [go_sem, f3], by simp [go_sem, f4], by simp [go_sem, f5], by simp [go_sem, f6], by simp [go_sem, f7], by simp [go_sem, f8]⟩
theorem merge_spec_yes (fm : Int) (ng : Bool) (T : Int) (nn bd pl mi am : Bool) (fmq : Int) (ngq : Bool) (Tq : Int) (nnq bdq plq miq amq : Bool) (p pq : Option Addr) (cap capq : Nat) (zs ys : List Int) (w : World) (hs : Sl .u32 w (.slice p zs.length cap) zs) (hy : Sl .u32 w (.slice pq ys.length capq) ys) (dz : Nm.Dg zs) (dy : Nm.Dg ys) (h1 : accB fm ng zs T nn bd pl mi am = true) (h2 : accB fmq ngq ys Tq nnq bdq plq miq amq = true) (h3 : fm = fmq) (h4 : T + Tq ≤ 1000000) (x : Int) (hx : x = Nm.wv ng zs + Nm.wv ngq ys) :
    Calls Tryz.prog 44 #[.agg #[.int .i64 fm, .bool ng, .slice p zs.length cap, .int .i64 T, .bool nn, .bool bd, .bool pl, .bool mi, .bool am], .agg #[.int .i64 fmq, .bool ngq, .slice pq ys.length capq, .int .i64 Tq, .bool nnq, .bool bdq, .bool plq, .bool miq, .bool amq]] w fun e w' => ∃ a' c', e = .returned (.tuple #[.agg #[.int .i64 fm, .bool (Nm.wn x), .slice a' (Nm.wl x).length c', .int .i64 (T + Tq), .bool (nn || nnq), .bool (bd || bdq), .bool (pl || plq), .bool (mi || miq), .bool (amW T am Tq amq)], .int .i64 0]) ∧ Own w' w.heap.size a' c' (Nm.wl x) ∧ Below w.heap.size w w' := by
  obtain ⟨-, hk1, ho1, -⟩ := acc_parts h1
  obtain ⟨-, hk2, ho2, -⟩ := acc_parts h2
  obtain ⟨nz, hl⟩ := okB_nz ho1
  obtain ⟨ny, hl'⟩ := okB_nz ho2
  obtain ⟨t10, t11⟩ := mkB_T hk1
  obtain ⟨t20, t21⟩ := mkB_T hk2
  have C1 := hid (fun w' h => accok_spec fm ng T nn bd pl mi am p cap zs w' h (by omega))
  have C2 := hid (fun w' h => accok_spec fmq ngq Tq nnq bdq plq miq amq pq capq ys w' h (by omega))
  have CA := hid (fun w' h h' => l1add_any ng ngq p pq cap capq zs ys w' h h' dz dy nz ny (by omega) (by omega) x hx)
  have HAM := hid (amW_eq hk1 hk2)
  rw [h1] at C1
  rw [h2] at C2
  obtain ⟨T2, hT2⟩ : ∃ T2, T2 = T + Tq := ⟨_, rfl⟩
  obtain ⟨a2, ha2⟩ : ∃ a2, a2 = amW T am Tq amq := ⟨_, rfl⟩
  obtain ⟨n2, hn2⟩ : ∃ n2, n2 = (nn || nnq) := ⟨_, rfl⟩
  obtain ⟨b2, hb2'⟩ : ∃ b2, b2 = (bd || bdq) := ⟨_, rfl⟩
  obtain ⟨p2, hp2⟩ : ∃ p2, p2 = (pl || plq) := ⟨_, rfl⟩
  obtain ⟨m2, hm2⟩ : ∃ m2, m2 = (mi || miq) := ⟨_, rfl⟩
  obtain ⟨G, hG⟩ : ∃ G, G = Nm.wn x := ⟨_, rfl⟩
  obtain ⟨L, hL⟩ : ∃ L, L = Nm.wl x := ⟨_, rfl⟩
  rw [← hG, ← hL] at CA
  rw [← hT2, ← ha2] at HAM
  rw [← hT2, ← hn2, ← hb2', ← hp2, ← hm2, ← ha2, ← hG, ← hL]
  have HT2 := hid hT2
  have HN4 := hid hn2
  have HN5 := hid hb2'
  have HN6 := hid hp2
  have HN7 := hid hm2
  clear hn2 hb2' hp2 hm2
  clear hT2 ha2 hG hL hk1 hk2 ho1 ho2 hx dz dy h1 h2 hl hl' nz ny
  have hne : (fm != fmq) = false := by simpa using h3
  clear h3
  have Q1 := (((Q9.new w (.int .i64 fm) (.bool ng) (.slice p zs.length cap) (.int .i64 T) (.bool nn) (.bool bd) (.bool pl) (.bool mi) (.bool am) 50).alloc (.cells #[.int .i64 fmq, .bool ngq, .slice pq ys.length capq, .int .i64 Tq, .bool nnq, .bool bdq, .bool plq, .bool miq, .bool amq] 50)).alloc (.cells #[.int .i64 0, .bool false, .slice none 0 0, .int .i64 0, .bool false, .bool false, .bool false, .bool false, .bool false] 50))
  have Q2 := ((Q9.nw2 w (.cells #[.int .i64 fm, .bool ng, .slice p zs.length cap, .int .i64 T, .bool nn, .bool bd, .bool pl, .bool mi, .bool am] 50) (.int .i64 fmq) (.bool ngq) (.slice pq ys.length capq) (.int .i64 Tq) (.bool nnq) (.bool bdq) (.bool plq) (.bool miq) (.bool amq) 50).alloc (.cells #[.int .i64 0, .bool false, .slice none 0 0, .int .i64 0, .bool false, .bool false, .bool false, .bool false, .bool false] 50))
  have Q3 := Q9.new3 w (.cells #[.int .i64 fm, .bool ng, .slice p zs.length cap, .int .i64 T, .bool nn, .bool bd, .bool pl, .bool mi, .bool am] 50) (.cells #[.int .i64 fmq, .bool ngq, .slice pq ys.length capq, .int .i64 Tq, .bool nnq, .bool bdq, .bool plq, .bool miq, .bool amq] 50) (.int .i64 0) (.bool false) (.slice none 0 0) (.int .i64 0) (.bool false) (.bool false) (.bool false) (.bool false) (.bool false) 50
  have bel0 : Below w.heap.size w (((w.alloc (.cells #[.int .i64 fm, .bool ng, .slice p zs.length cap, .int .i64 T, .bool nn, .bool bd, .bool pl, .bool mi, .bool am] 50)).alloc (.cells #[.int .i64 fmq, .bool ngq, .slice pq ys.length capq, .int .i64 Tq, .bool nnq, .bool bdq, .bool plq, .bool miq, .bool amq] 50)).alloc (.cells #[.int .i64 0, .bool false, .slice none 0 0, .int .i64 0, .bool false, .bool false, .bool false, .bool false, .bool false] 50)) := (by repeat (first | exact bz0 _ _ | refine bz1 ?_ | refine bz2 ?_ _ | refine bz3 ?_ _ | refine bz5 ?_ _ | refine bz6 ?_ _))
  go_enter Tryz.func44, Tryz.ntmps44
  go_wp2_with fail
  refine (C1.out _ (hs.below bel0)).mono ?_
  rintro e w1 ⟨rfl, hb1⟩
  replace Q1 := Q1.below hb1
  replace Q2 := Q2.below hb1
  replace Q3 := Q3.below hb1
  have bel1 := bel_go bel0 hb1
  clear bel0 hb1 C1
  obtain ⟨c0, c1, c2, c3, c4, c5, c6, c7, c8⟩ := Q2.cs
  go_wp2_with fail
  refine (C2.out _ (hy.below bel1)).mono ?_
  rintro e W ⟨rfl, hb2⟩
  clear c0 c1 c2 c3 c4 c5 c6 c7 c8
  replace Q1 := Q1.below hb2
  replace Q2 := Q2.below hb2
  replace Q3 := Q3.below hb2
  have bel2 := bel_go bel1 hb2
  clear bel1 hb2 C2
  have k1 := Q1.c0
  have k2 := Q2.c0
  have m1 := Q1.c3
  have m2' := Q2.c3
  go_upto_region 7 with fail
  clear k1 k2 m1 m2'
  have lr := Q3.lt
  have s2 := hs.below bel2
  have y2 := hy.below bel2
  go_cut [6] (fun v6 wx => ∃ (o : Nat) (a1 : Option Addr) (k1 : Nat), v6 = .pointer (some ⟨o, 0, none⟩) ∧ Q9 wx o (.int .i64 fm) (.bool G) (.slice a1 L.length k1) (.int .i64 T2) (.bool false) (.bool false) (.bool false) (.bool false) (.bool false) ∧ Q9 wx w.heap.size (.int .i64 fm) (.bool ng) (.slice p zs.length cap) (.int .i64 T) (.bool nn) (.bool bd) (.bool pl) (.bool mi) (.bool am) ∧ Q9 wx (w.heap.size + 1) (.int .i64 fmq) (.bool ngq) (.slice pq ys.length capq) (.int .i64 Tq) (.bool nnq) (.bool bdq) (.bool plq) (.bool miq) (.bool amq) ∧ Q9 wx (w.heap.size + 1 + 1) (.int .i64 0) (.bool false) (.slice none 0 0) (.int .i64 0) (.bool false) (.bool false) (.bool false) (.bool false) (.bool false) ∧ MS w wx o a1 k1 L)
  case first =>
    have ctd := Q1.drew.cs
    have cod := Q2.drew.cs
    have alQ1 := ((Q1.alloc (.cells #[.int .i64 0, .bool false, .slice none 0 0, .int .i64 0, .bool false, .bool false, .bool false, .bool false, .bool false] 50)).drew).cs
    have alQ2 := ((Q2.alloc (.cells #[.int .i64 0, .bool false, .slice none 0 0, .int .i64 0, .bool false, .bool false, .bool false, .bool false, .bool false] 50)).drew).cs
    have lW : w.heap.size + 1 + 1 < W.heap.size := lr
    go_region_held3 (fun w' => (w'.cell? ⟨w.heap.size, 0, none⟩ = some (.int .i64 fm) ∧ w'.cell? ⟨w.heap.size, 1, none⟩ = some (.bool ng) ∧ w'.cell? ⟨w.heap.size, 2, none⟩ = some (.slice p zs.length cap) ∧ w'.cell? ⟨w.heap.size, 3, none⟩ = some (.int .i64 T) ∧ w'.cell? ⟨w.heap.size, 4, none⟩ = some (.bool nn) ∧ w'.cell? ⟨w.heap.size, 5, none⟩ = some (.bool bd) ∧ w'.cell? ⟨w.heap.size, 6, none⟩ = some (.bool pl) ∧ w'.cell? ⟨w.heap.size, 7, none⟩ = some (.bool mi) ∧ w'.cell? ⟨w.heap.size, 8, none⟩ = some (.bool am)) ∧ (w'.cell? ⟨w.heap.size + 1, 0, none⟩ = some (.int .i64 fmq) ∧ w'.cell? ⟨w.heap.size + 1, 1, none⟩ = some (.bool ngq) ∧ w'.cell? ⟨w.heap.size + 1, 2, none⟩ = some (.slice pq ys.length capq) ∧ w'.cell? ⟨w.heap.size + 1, 3, none⟩ = some (.int .i64 Tq) ∧ w'.cell? ⟨w.heap.size + 1, 4, none⟩ = some (.bool nnq) ∧ w'.cell? ⟨w.heap.size + 1, 5, none⟩ = some (.bool bdq) ∧ w'.cell? ⟨w.heap.size + 1, 6, none⟩ = some (.bool plq) ∧ w'.cell? ⟨w.heap.size + 1, 7, none⟩ = some (.bool miq) ∧ w'.cell? ⟨w.heap.size + 1, 8, none⟩ = some (.bool amq)))
      (first | with_reducible assumption | with_reducible exact ⟨ctd, cod⟩ | with_reducible exact ⟨alQ1, alQ2⟩ | with_reducible exact ⟨(Q1a.alloc _).cs, (Q2a.alloc _).cs⟩ | with_reducible exact keep9b Q1a Q2a (by omega) (by omega) _ _ _ _ _ _ _ _ _ _ rfl | (with_reducible exact keep9b (Q1a.alloc _) (Q2a.alloc _) (by simp; omega) (by simp; omega) _ _ _ _ _ _ _ _ _ _ rfl) | fail)
      (first
        | (go_at_call 81; refine (CA.out _ (by first | with_reducible exact s2.drew | with_reducible exact (s2.alloc _).drew) (by first | with_reducible exact y2.drew | with_reducible exact (y2.alloc _).drew)).mono ?_; rintro e q1 ⟨a1, k1, rfl, hp1, hq1⟩; (first | (have Q1a := Q1.drew.below hq1; have Q2a := Q2.drew.below hq1; have Q3a := Q3.drew.below hq1) | (have Q1a := (Q1.alloc _).drew.below hq1; have Q2a := (Q2.alloc _).drew.below hq1; have Q3a := (Q3.alloc _).drew.below hq1; have ob := (Q9.new W (.int .i64 0) (.bool false) (.slice none 0 0) (.int .i64 0) (.bool false) (.bool false) (.bool false) (.bool false) (.bool false) 50).drew.below hq1; have ob' := ob; obtain ⟨o0, o1, o2, o3, o4, o5, o6, o7, o8, g0, g1, g2, g3, g4, g5, g6, g7, g8⟩ := ob')); have f1 := And.intro Q1a.cs Q2a.cs))
    all_goals (go_wp2_with fail; go_meet)
    · have lq := hq1.size
      have l0 : W.heap.size ≤ q1.heap.size := lq
      have hbk := hp1.block
      rw [HT2.out, show IntKind.i64.wrap (T + Tq) = T + Tq by rw [IntKind.wrap_i64]; omega]
      refine ⟨q1.heap.size, a1, k1, rfl, Q9.new q1 _ _ _ _ _ _ _ _ _ _, Q1a.alloc _, Q2a.alloc _, Q3a.alloc _, ⟨Own.base (hp1.alloc _) bel2.size, ?_, bel_al (bel_go (Below.drew bel2) hq1) _, by omega⟩⟩
      intro g hg
      rcases hbk with ⟨e, _⟩ | ⟨g', e, h5, h6⟩
      · rw [e] at hg; cases hg
      · rw [e] at hg; cases hg
        have h5 : W.heap.size ≤ g := h5
        omega
    · have lq := hq1.size
      have l0 : W.heap.size + 1 ≤ q1.heap.size := by simpa using lq
      have hbk := hp1.block
      rw [HT2.out, show IntKind.i64.wrap (T + Tq) = T + Tq by rw [IntKind.wrap_i64]; omega]
      refine ⟨W.heap.size, a1, k1, rfl, Q9.set9 ob _ _ _ _ _ _ _ _ _, Q1a.of_block (heap9 q1 W.heap.size _ (by omega) _ _ _ _ _ _ _ _ _), Q2a.of_block (heap9 q1 W.heap.size _ (by omega) _ _ _ _ _ _ _ _ _), Q3a.of_block (heap9 q1 W.heap.size _ (by omega) _ _ _ _ _ _ _ _ _), ⟨?_, ?_, ?_, lW⟩⟩
      · have hp5 : Own q1 (W.heap.size + 1) a1 k1 L := by simpa using hp1
        refine Own.base (B := W.heap.size + 1) ?_ (by have := bel2.size; omega)
        repeat (first | with_reducible exact hp5 | (with_reducible refine Own.setBelow ?_ ?_ _; rotate_left; simp))
      · intro g hg
        rcases hbk with ⟨e, _⟩ | ⟨g', e, h5, h6⟩
        · rw [e] at hg; cases hg
        · rw [e] at hg; cases hg
          have h5 : W.heap.size + 1 ≤ g := by simpa using h5
          omega
      · have bq : Below w.heap.size w q1 := bel_go (Below.drew (bel_al bel2 _)) hq1
        have lb2 := bel2.size
        refine Below.setCell (Below.setCell (Below.setCell (Below.setCell (Below.setCell (Below.setCell (Below.setCell (Below.setCell (Below.setCell bq ?_ _) ?_ _) ?_ _) ?_ _) ?_ _) ?_ _) ?_ _) ?_ _) ?_ _ <;> exact lb2
  case rest =>
  clear Q1 Q2 Q3
  rename World => wx7
  obtain ⟨o, a1, k1, rfl, O, Q1, Q2, Q3, M⟩ := hcut
  clear s2 y2 bel2 lr CA
  go_upto_region 8 with fail
  go_cut [] (fun wx => Q9 wx o (.int .i64 fm) (.bool G) (.slice a1 L.length k1) (.int .i64 T2) (.bool n2) (.bool false) (.bool false) (.bool false) (.bool false) ∧ Q9 wx w.heap.size (.int .i64 fm) (.bool ng) (.slice p zs.length cap) (.int .i64 T) (.bool nn) (.bool bd) (.bool pl) (.bool mi) (.bool am) ∧ Q9 wx (w.heap.size + 1) (.int .i64 fmq) (.bool ngq) (.slice pq ys.length capq) (.int .i64 Tq) (.bool nnq) (.bool bdq) (.bool plq) (.bool miq) (.bool amq) ∧ Q9 wx (w.heap.size + 1 + 1) (.int .i64 0) (.bool false) (.slice none 0 0) (.int .i64 0) (.bool false) (.bool false) (.bool false) (.bool false) (.bool false) ∧ MS w wx o a1 k1 L)
  case first =>
    have e1 := Q1.c4
    have e2 := Q2.c4
    have e3 := O.c4
    have e4 := O.f4
    have hlo := M.lo
    cases nn with
    | true =>
      go_wp2_with fail
      go_meet
      have hh := HN4.out
      simp at hh
      subst hh
      exact ⟨O.set4 _, Q1.other (by simp; omega) _, Q2.other (by simp; omega) _, Q3.other (by simp; omega) _, M.set 4 _⟩
    | false =>
      go_wp2_with fail
      go_meet
      have hh := HN4.out
      simp at hh
      subst hh
      exact ⟨O.set4 _, Q1.other (by simp; omega) _, Q2.other (by simp; omega) _, Q3.other (by simp; omega) _, M.set 4 _⟩
  case rest =>
  clear O Q1 Q2 Q3 M
  rename World => wx8
  obtain ⟨O, Q1, Q2, Q3, M⟩ := hcut
  go_upto_region 9 with fail
  go_cut [] (fun wx => Q9 wx o (.int .i64 fm) (.bool G) (.slice a1 L.length k1) (.int .i64 T2) (.bool n2) (.bool b2) (.bool false) (.bool false) (.bool false) ∧ Q9 wx w.heap.size (.int .i64 fm) (.bool ng) (.slice p zs.length cap) (.int .i64 T) (.bool nn) (.bool bd) (.bool pl) (.bool mi) (.bool am) ∧ Q9 wx (w.heap.size + 1) (.int .i64 fmq) (.bool ngq) (.slice pq ys.length capq) (.int .i64 Tq) (.bool nnq) (.bool bdq) (.bool plq) (.bool miq) (.bool amq) ∧ Q9 wx (w.heap.size + 1 + 1) (.int .i64 0) (.bool false) (.slice none 0 0) (.int .i64 0) (.bool false) (.bool false) (.bool false) (.bool false) (.bool false) ∧ MS w wx o a1 k1 L)
  case first =>
    have e1 := Q1.c5
    have e2 := Q2.c5
    have e3 := O.c5
    have e4 := O.f5
    have hlo := M.lo
    cases bd with
    | true =>
      go_wp2_with fail
      go_meet
      have hh := HN5.out
      simp at hh
      subst hh
      exact ⟨O.set5 _, Q1.other (by simp; omega) _, Q2.other (by simp; omega) _, Q3.other (by simp; omega) _, M.set 5 _⟩
    | false =>
      go_wp2_with fail
      go_meet
      have hh := HN5.out
      simp at hh
      subst hh
      exact ⟨O.set5 _, Q1.other (by simp; omega) _, Q2.other (by simp; omega) _, Q3.other (by simp; omega) _, M.set 5 _⟩
  case rest =>
  clear O Q1 Q2 Q3 M
  rename World => wx9
  obtain ⟨O, Q1, Q2, Q3, M⟩ := hcut
  go_upto_region 10 with fail
  go_cut [] (fun wx => Q9 wx o (.int .i64 fm) (.bool G) (.slice a1 L.length k1) (.int .i64 T2) (.bool n2) (.bool b2) (.bool p2) (.bool false) (.bool false) ∧ Q9 wx w.heap.size (.int .i64 fm) (.bool ng) (.slice p zs.length cap) (.int .i64 T) (.bool nn) (.bool bd) (.bool pl) (.bool mi) (.bool am) ∧ Q9 wx (w.heap.size + 1) (.int .i64 fmq) (.bool ngq) (.slice pq ys.length capq) (.int .i64 Tq) (.bool nnq) (.bool bdq) (.bool plq) (.bool miq) (.bool amq) ∧ Q9 wx (w.heap.size + 1 + 1) (.int .i64 0) (.bool false) (.slice none 0 0) (.int .i64 0) (.bool false) (.bool false) (.bool false) (.bool false) (.bool false) ∧ MS w wx o a1 k1 L)
  case first =>
    have e1 := Q1.c6
    have e2 := Q2.c6
    have e3 := O.c6
    have e4 := O.f6
    have hlo := M.lo
    cases pl with
    | true =>
      go_wp2_with fail
      go_meet
      have hh := HN6.out
      simp at hh
      subst hh
      exact ⟨O.set6 _, Q1.other (by simp; omega) _, Q2.other (by simp; omega) _, Q3.other (by simp; omega) _, M.set 6 _⟩
    | false =>
      go_wp2_with fail
      go_meet
      have hh := HN6.out
      simp at hh
      subst hh
      exact ⟨O.set6 _, Q1.other (by simp; omega) _, Q2.other (by simp; omega) _, Q3.other (by simp; omega) _, M.set 6 _⟩
  case rest =>
  clear O Q1 Q2 Q3 M
  rename World => wx10
  obtain ⟨O, Q1, Q2, Q3, M⟩ := hcut
  go_upto_region 11 with fail
  go_cut [] (fun wx => Q9 wx o (.int .i64 fm) (.bool G) (.slice a1 L.length k1) (.int .i64 T2) (.bool n2) (.bool b2) (.bool p2) (.bool m2) (.bool false) ∧ Q9 wx w.heap.size (.int .i64 fm) (.bool ng) (.slice p zs.length cap) (.int .i64 T) (.bool nn) (.bool bd) (.bool pl) (.bool mi) (.bool am) ∧ Q9 wx (w.heap.size + 1) (.int .i64 fmq) (.bool ngq) (.slice pq ys.length capq) (.int .i64 Tq) (.bool nnq) (.bool bdq) (.bool plq) (.bool miq) (.bool amq) ∧ Q9 wx (w.heap.size + 1 + 1) (.int .i64 0) (.bool false) (.slice none 0 0) (.int .i64 0) (.bool false) (.bool false) (.bool false) (.bool false) (.bool false) ∧ MS w wx o a1 k1 L)
  case first =>
    have e1 := Q1.c7
    have e2 := Q2.c7
    have e3 := O.c7
    have e4 := O.f7
    have hlo := M.lo
    cases mi with
    | true =>
      go_wp2_with fail
      go_meet
      have hh := HN7.out
      simp at hh
      subst hh
      exact ⟨O.set7 _, Q1.other (by simp; omega) _, Q2.other (by simp; omega) _, Q3.other (by simp; omega) _, M.set 7 _⟩
    | false =>
      go_wp2_with fail
      go_meet
      have hh := HN7.out
      simp at hh
      subst hh
      exact ⟨O.set7 _, Q1.other (by simp; omega) _, Q2.other (by simp; omega) _, Q3.other (by simp; omega) _, M.set 7 _⟩
  case rest =>
  clear O Q1 Q2 Q3 M
  rename World => wx11
  obtain ⟨O, Q1, Q2, Q3, M⟩ := hcut
  have hd1 : (T == 0) = decide (T = 0) := by rw [Bool.eq_iff_iff, beq_iff_eq, decide_eq_true_eq]
  have hd2 : (Tq == 0) = decide (Tq = 0) := by rw [Bool.eq_iff_iff, beq_iff_eq, decide_eq_true_eq]
  obtain ⟨d1, e1'⟩ : ∃ d1, d1 = decide (T = 0) := ⟨_, rfl⟩
  obtain ⟨d2, e2'⟩ : ∃ d2, d2 = decide (Tq = 0) := ⟨_, rfl⟩
  rw [← e1'] at hd1 HAM
  rw [← e2'] at hd2 HAM
  clear e1' e2' HT2
  go_upto_region 12 with fail
  go_cut [] (fun wx => Q9 wx o (.int .i64 fm) (.bool G) (.slice a1 L.length k1) (.int .i64 T2) (.bool n2) (.bool b2) (.bool p2) (.bool m2) (.bool a2) ∧ Q9 wx (w.heap.size + 1 + 1) (.int .i64 0) (.bool false) (.slice none 0 0) (.int .i64 0) (.bool false) (.bool false) (.bool false) (.bool false) (.bool false) ∧ MS w wx o a1 k1 L)
  case first =>
    have e1 := Q1.c3
    have e2 := Q2.c3
    have e3 := Q1.c8
    have e4 := Q2.c8
    have e5 := O.c3
    have e6 := O.c8
    have e7 := O.f8
    have hlo := M.lo
    cases am with
    | true =>
      cases amq with
      | true => go_wp2_with fail; go_meet; (have hh := HAM.out; simp at hh; subst hh; exact ⟨O.set8 _, Q3.other (by simp; omega) _, M.set 8 _⟩)
      | false => cases d2 <;> (go_wp2_with fail; go_meet; (have hh := HAM.out; simp at hh; subst hh; exact ⟨O.set8 _, Q3.other (by simp; omega) _, M.set 8 _⟩))
    | false =>
      cases d1 with
      | true =>
        cases amq with
        | true => go_wp2_with fail; go_meet; (have hh := HAM.out; simp at hh; subst hh; exact ⟨O.set8 _, Q3.other (by simp; omega) _, M.set 8 _⟩)
        | false => cases d2 <;> (go_wp2_with fail; go_meet; (have hh := HAM.out; simp at hh; subst hh; exact ⟨O.set8 _, Q3.other (by simp; omega) _, M.set 8 _⟩))
      | false => go_wp2_with fail; go_meet; (have hh := HAM.out; simp at hh; subst hh; exact ⟨O.set8 _, Q3.other (by simp; omega) _, M.set 8 _⟩)
  case rest =>
  clear O Q1 Q2 Q3 M hd1 hd2 HAM
  rename World => wx12
  obtain ⟨O, Q3, M⟩ := hcut
  obtain ⟨o0, o1, o2, o3, o4, o5, o6, o7, o8⟩ := O.cs
  obtain ⟨r0, r1, r2, r3, r4, r5, r6, r7, r8, f0, f1, f2, f3, f4, f5, f6, f7, f8⟩ := Q3
  clear O
  go_wp2
  refine bodyPost_ret (v := .tuple #[.agg #[.int .i64 fm, .bool G, .slice a1 L.length k1, .int .i64 T2, .bool n2, .bool b2, .bool p2, .bool m2, .bool a2], .int .i64 0]) (by simp [results, Tryz.results44, go_sem, r0, r1, r2, r3, r4, r5, r6, r7, r8]) rfl ⟨a1, k1, rfl, ?_, ?_⟩
  · have hap := M.apart
    have own := M.own
    repeat (first | with_reducible exact own | (with_reducible refine Own.setOther ?_ ?_ _; rotate_left; (intro g hg; exact (hap g hg).2)))
  · have bel := M.bel
    exact (by (repeat with_reducible first | refine Below.setCell ?_ ?_ _ | exact bz0 _ _ | refine bz1 ?_ | refine bz2 ?_ _ | refine bz3 ?_ _ | refine bz4 ?_ bel | refine Below.alloc ?_ ?_ _ | refine Below.trans ?_ (Below.mono bel ?_)) <;> first | omega | (simp; done) | (simp; omega))
namespace Fd
theorem WZ.two {W : World} {rb b : Nat} (h : WZ W rb b) {q : Nat} (hq : b ≠ q) (u v : Value) : WZ ((W.setCell ⟨q, 0, none⟩ u).setCell ⟨q, 1, none⟩ v) rb b := ⟨(h.r.other hq _).other hq _, h.lt⟩
end Fd
end Go.Proofs.YtkfjmcdniohljaaGreatDoor
