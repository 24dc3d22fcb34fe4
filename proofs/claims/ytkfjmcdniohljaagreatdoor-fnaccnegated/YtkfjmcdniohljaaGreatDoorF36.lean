/-
  What is needed of AE.
-/
import Derived.Test.YtkfjmcdniohljaaGreatDoorF12
import Derived.Test.YtkfjmcdniohljaaGreatDoorF29
import Derived.Test.YtkfjmcdniohljaaGreatDoorF32
set_option maxHeartbeats 16000000
set_option maxRecDepth 1000000
namespace Go.Proofs.YtkfjmcdniohljaaGreatDoor
set_option linter.unusedVariables false
set_option linter.unusedSimpArgs false
open Go.RowKit Go.Deep
theorem acc_parts' {fm : Int} {ng : Bool} {zs : List Int} {T : Int} {nn bd pl mi am : Bool} (h : accB fm ng zs T nn bd pl mi am = true) : fmtB fm = true ∧ mkB T nn bd pl mi am = true ∧ okB ng zs = true ∧ cmpL zs (Nm.lim (far fm T)) ≤ 0 := by
 unfold accB at h
 simp only [Bool.and_eq_true, decide_eq_true_eq] at h
 exact ⟨h.1.1.1.1, h.1.1.1.2, h.1.1.2, h.1.2⟩
theorem Q9.set1 {w : World} {b : Nat} {v0 v1 v2 v3 v4 v5 v6 v7 v8 : Value} (h : Q9 w b v0 v1 v2 v3 v4 v5 v6 v7 v8) (u : Value) : Q9 (w.setCell ⟨b, 1, none⟩ u) b v0 u v2 v3 v4 v5 v6 v7 v8 := by
 obtain ⟨c0, c1, c2, c3, c4, c5, c6, c7, c8, f0, f1, f2, f3, f4, f5, f6, f7, f8⟩ := h
 exact ⟨by simp [go_sem, c0, c1], by simp [go_sem, c1, c1], by simp [go_sem, c2, c1], by simp [go_sem, c3, c1], by simp [go_sem, c4, c1], by simp [go_sem, c5, c1], by simp [go_sem, c6, c1], by simp [go_sem, c7, c1], by simp [go_sem, c8, c1], by simp [go_sem, f0], by simp [go_sem, f1], by simp [go_sem, f2], by simp [go_sem, f3], by simp [go_sem, f4], by simp [go_sem, f5], by simp [go_sem, f6], by simp [go_sem, f7], by simp [go_sem, f8]⟩
theorem Q9.set2 {w : World} {b : Nat} {v0 v1 v2 v3 v4 v5 v6 v7 v8 : Value} (h : Q9 w b v0 v1 v2 v3 v4 v5 v6 v7 v8) (u : Value) : Q9 (w.setCell ⟨b, 2, none⟩ u) b v0 v1 u v3 v4 v5 v6 v7 v8 := by
 obtain ⟨c0, c1, c2, c3, c4, c5, c6, c7, c8, f0, f1, f2, f3, f4, f5, f6, f7, f8⟩ := h
 exact ⟨by simp [go_sem, c0, c2], by simp [go_sem, c1, c2], by simp [go_sem, c2, c2], by simp [go_sem, c3, c2], by simp [go_sem, c4, c2], by simp [go_sem, c5, c2], by simp [go_sem, c6, c2], by simp [go_sem, c7, c2], by simp [go_sem, c8, c2], by simp [go_sem, f0], by simp [go_sem, f1], by simp [go_sem, f2], by simp [go_sem, f3], by simp [go_sem, f4], by simp [go_sem, f5], by simp [go_sem, f6], by simp [go_sem, f7], by simp [go_sem, f8]⟩
theorem heap9e (w : World) (B b : Nat) (h : b ≠ B) (u0 u1 u2 u3 u4 u5 u6 u7 u8 : Value) : (((((((((w.setCell ⟨B, 0, none⟩ u0).setCell ⟨B, 1, none⟩ u1).setCell ⟨B, 2, none⟩ u2).setCell ⟨B, 3, none⟩ u3).setCell ⟨B, 4, none⟩ u4).setCell ⟨B, 5, none⟩ u5).setCell ⟨B, 6, none⟩ u6).setCell ⟨B, 7, none⟩ u7).setCell ⟨B, 8, none⟩ u8).heap[b]? = w.heap[b]? := by
 rw [Below.heap_setCell _ _ _ _ h, Below.heap_setCell _ _ _ _ h, Below.heap_setCell _ _ _ _ h, Below.heap_setCell _ _ _ _ h, Below.heap_setCell _ _ _ _ h, Below.heap_setCell _ _ _ _ h, Below.heap_setCell _ _ _ _ h, Below.heap_setCell _ _ _ _ h, Below.heap_setCell _ _ _ _ h]
theorem keep91 {w : World} {B b b' : Nat} {v0 v1 v2 v3 v4 v5 v6 v7 v8 y0 y1 y2 y3 y4 y5 y6 y7 y8 : Value} (h : Q9 w b v0 v1 v2 v3 v4 v5 v6 v7 v8) (h' : Q9 w b' y0 y1 y2 y3 y4 y5 y6 y7 y8) (n : b ≠ B) (n' : b' ≠ B) (u0 u1 u2 u3 u4 u5 u6 u7 u8 : Value) (W : World) (hW : W = (((((((((w.setCell ⟨B, 0, none⟩ u0).setCell ⟨B, 1, none⟩ u1).setCell ⟨B, 2, none⟩ u2).setCell ⟨B, 3, none⟩ u3).setCell ⟨B, 4, none⟩ u4).setCell ⟨B, 5, none⟩ u5).setCell ⟨B, 6, none⟩ u6).setCell ⟨B, 7, none⟩ u7).setCell ⟨B, 8, none⟩ u8)) :
  (W.cell? ⟨b, 0, none⟩ = some v0 ∧ W.cell? ⟨b, 1, none⟩ = some v1 ∧ W.cell? ⟨b, 2, none⟩ = some v2 ∧ W.cell? ⟨b, 3, none⟩ = some v3 ∧ W.cell? ⟨b, 4, none⟩ = some v4 ∧ W.cell? ⟨b, 5, none⟩ = some v5 ∧ W.cell? ⟨b, 6, none⟩ = some v6 ∧ W.cell? ⟨b, 7, none⟩ = some v7 ∧ W.cell? ⟨b, 8, none⟩ = some v8) ∧ W.cell? ⟨b', 0, none⟩ = some y0 := by
 subst hW
 exact ⟨(h.of_block (heap9e w B b n u0 u1 u2 u3 u4 u5 u6 u7 u8)).cs, (h'.of_block (heap9e w B b' n' u0 u1 u2 u3 u4 u5 u6 u7 u8)).c0⟩
theorem zero4 (fm x : Int) (w : World) (h : okF fm x = true) (h0 : 0 ≤ x) (h1 : x < 18446744073709551616) :
  Calls Tryz.prog 135 #[.int .i64 fm, .int .u64 x] w fun e w' => e = .returned (.bool (absF fm x == 0)) ∧ Below w.heap.size w w' := by
 have C := hid (fun w' => spec_l2abs fm x w' h h0 h1)
 obtain ⟨a, ha⟩ : ∃ a, a = absF fm x := ⟨_, rfl⟩
 rw [← ha] at C ⊢
 clear ha
 go_enter Tryz.func135, Tryz.ntmps135
 go_wp2_with fail
 refine (C.out _).mono ?_
 rintro r w1 ⟨rfl, hb1⟩
 go_wp2
 go_ret
 exact ⟨rfl, (by repeat (first | exact bz0 _ _ | refine bz1 ?_ | refine bz2 ?_ _ | refine bz3 ?_ _ | refine bz4 ?_ hb1 | refine bz5 ?_ _ | refine bz6 ?_ _ | refine bz7 ?_ hb1))⟩
theorem sQb (fm : Int) (w : World) (h : fmtB fm = true) : Calls Tryz.prog 133 #[.int .i64 fm] w fun e w' => e = .returned (.int .i64 (unQ fm)) ∧ Below w.heap.size w w' :=
 (sQ_any fm w h).mono fun e w' ⟨a, b⟩ => ⟨a, b ▸ Below.refl _ _⟩
theorem add_spec_fin (fm : Int) (ng : Bool) (T : Int) (nn bd pl mi am : Bool) (p : Option Addr) (cap : Nat) (zs : List Int) (x : Int) (w : World) (hs : Sl .u32 w (.slice p zs.length cap) zs) (hz : Nm.Dg zs) (hk : accB fm ng zs T nn bd pl mi am = true) (hx : okF fm x = true) (x0 : 0 ≤ x) (x1 : x < 18446744073709551616) (hTm : T ≠ 1000000) (hfin : finB fm x = true) (V : Int) (hV : V = Nm.shV (Nm.wn (unI fm x)) (Nm.val (Nm.wl (unI fm x))) (-unQ fm)) (hVl : (Nm.wl V).length ≤ 200) (y : Int) (hy : y = Nm.wv ng zs + V) :
  Calls Tryz.prog 34 #[.agg #[.int .i64 fm, .bool ng, .slice p zs.length cap, .int .i64 T, .bool nn, .bool bd, .bool pl, .bool mi, .bool am], .int .u64 x] w fun r w' => ∃ a' c', r = .returned (.tuple #[.agg #[.int .i64 fm, .bool (Nm.wn y), .slice a' (Nm.wl y).length c', .int .i64 (T + 1), .bool nn, .bool bd, .bool pl, .bool mi, .bool ((absF fm x == 0) && sigB fm x && (am || decide (T = 0)))], .int .i64 0]) ∧ Own w' w.heap.size a' c' (Nm.wl y) ∧ Below w.heap.size w w' := by
 obtain ⟨-, hk1, ho1, -⟩ := acc_parts' hk
 obtain ⟨nz, hl⟩ := okB_nz ho1
 obtain ⟨t0, t1⟩ := mkB_T hk1
 have C1 := hid (fun w' h => accok_spec fm ng T nn bd pl mi am p cap zs w' h (by omega))
 have C2 := hid (fun w' => spec_ok fm x w')
 have C3 := hid (fun w' => spec_l2neg fm x w' hx x0 x1)
 have C4 := hid (fun w' => spec_fin fm x w' x0 x1)
 have CC := hid (fun w' h => copy_any fm ng T nn bd pl mi am p cap zs w' h hz (by omega) ho1)
 rw [hk] at C1
 rw [hx] at C2
 rw [hfin] at C4
 have hT' : (T == 1000000) = false := by simpa using hTm
 obtain ⟨sg, hsg⟩ : ∃ sg, sg = sigB fm x := ⟨_, rfl⟩
 rw [← hsg] at C3
 have hfm := fin_fmt hfin
 have hq : -1074 ≤ unQ fm ∧ unQ fm ≤ -149 := by unfold unQ; split <;> omega
 have CU := hid (fun w' => l2units_any fm x w' hfin x0 x1)
 have CQ := hid (fun w' => sQb fm w' hfm)
 have CZ := hid (fun w' => zero4 fm x w' hx x0 x1)
 have hUl : (Nm.wl (unI fm x)).length ≤ 200 := by obtain ⟨G, L, z, E, Q, _, _, _, _, _, _, _, _, _, _, _, _, _, _, _, _, _, hl200⟩ := un_parts hfin; exact hl200
 have hwv : Nm.wv (Nm.wn V) (Nm.wl V) = V := Nm.wv_out V
 have CS := hid (fun a c w' h => l1shift_any (Nm.wn (unI fm x)) a c (Nm.wl (unI fm x)) (-unQ fm) w' h (Nm.wl_dg _) (by omega) (by omega) (by omega) V hV)
 have CA := hid (fun a0 k0 a c w' h h' => l1add_any ng (Nm.wn V) a0 a k0 c zs (Nm.wl V) w' h h' hz (Nm.wl_dg _) nz (Nm.wl_nz _) (by omega) (by omega) y (by rw [hwv]; exact hy))
 obtain ⟨zr, hzr⟩ : ∃ zr, zr = (absF fm x == 0) := ⟨_, rfl⟩
 obtain ⟨a2, ha2⟩ : ∃ a2, a2 = (zr && sg && (am || decide (T = 0))) := ⟨_, rfl⟩
 obtain ⟨T2, hT2⟩ : ∃ T2, T2 = T + 1 := ⟨_, rfl⟩
 obtain ⟨GU, hGU⟩ : ∃ G, G = Nm.wn (unI fm x) := ⟨_, rfl⟩
 obtain ⟨LU, hLU⟩ : ∃ L, L = Nm.wl (unI fm x) := ⟨_, rfl⟩
 obtain ⟨GV, hGV⟩ : ∃ G, G = Nm.wn V := ⟨_, rfl⟩
 obtain ⟨LV, hLV⟩ : ∃ L, L = Nm.wl V := ⟨_, rfl⟩
 obtain ⟨GG, hGG⟩ : ∃ G, G = Nm.wn y := ⟨_, rfl⟩
 obtain ⟨LL, hLL⟩ : ∃ L, L = Nm.wl y := ⟨_, rfl⟩
 obtain ⟨Qn, hQn⟩ : ∃ Qn, Qn = unQ fm := ⟨_, rfl⟩
 rw [← hQn] at CQ hq
 simp only [← hQn] at CS
 rw [← hGU, ← hLU] at CU
 simp only [← hGU, ← hLU, ← hGV, ← hLV] at CS
 simp only [← hGV, ← hLV, ← hGG, ← hLL] at CA
 rw [← hzr] at CZ
 rw [← hzr, ← hsg, ← ha2, ← hT2, ← hGG, ← hLL]
 have C7 := hid (fun p' c' w' => zero7 fm GG T nn bd pl mi am p' LL.length c' zr sg w' t0 t1 T2 hT2 a2 ha2)
 have hwq : IntKind.i64.wrap (-Qn) = -Qn := by rw [IntKind.wrap_i64]; omega
 clear hsg hzr ha2 hT2 hGU hLU hGV hLV hGG hLL hQn hV hVl hy hwv hUl hk hx hfin hz nz ho1 hk1 hfm hTm
 have A := (Q9.new w (.int .i64 fm) (.bool ng) (.slice p zs.length cap) (.int .i64 T) (.bool nn) (.bool bd) (.bool pl) (.bool mi) (.bool am) 50).alloc (.cells #[.int .i64 0, .bool false, .slice none 0 0, .int .i64 0, .bool false, .bool false, .bool false, .bool false, .bool false] 50)
 have R := Q9.nw2b w (.cells #[.int .i64 fm, .bool ng, .slice p zs.length cap, .int .i64 T, .bool nn, .bool bd, .bool pl, .bool mi, .bool am] 50) (.int .i64 0) (.bool false) (.slice none 0 0) (.int .i64 0) (.bool false) (.bool false) (.bool false) (.bool false) (.bool false) 50
 have bel0 : Below w.heap.size w ((w.alloc (.cells #[.int .i64 fm, .bool ng, .slice p zs.length cap, .int .i64 T, .bool nn, .bool bd, .bool pl, .bool mi, .bool am] 50)).alloc (.cells #[.int .i64 0, .bool false, .slice none 0 0, .int .i64 0, .bool false, .bool false, .bool false, .bool false, .bool false] 50)) := (by repeat (first | exact bz0 _ _ | refine bz1 ?_ | refine bz2 ?_ _ | refine bz3 ?_ _ | refine bz5 ?_ _ | refine bz6 ?_ _))
 go_enter Tryz.func34, Tryz.ntmps34
 go_wp2_with fail
 refine (C1.out _ (hs.below bel0)).mono ?_
 rintro r w1 ⟨rfl, hb1⟩
 replace A := A.below hb1
 replace R := R.below hb1
 have bel1 := bel_go bel0 hb1
 clear bel0 hb1
 have c0 := A.c0
 go_wp2_with fail
 refine (C2.out _).mono ?_
 rintro r w2 ⟨rfl, hb2⟩
 clear c0
 replace A := A.below hb2
 replace R := R.below hb2
 have bel2 := bel_go bel1 hb2
 clear bel1 hb2
 obtain ⟨c0, c1, c2, c3, c4, c5, c6, c7, c8⟩ := A.cs
 go_wp2_with fail
 refine (CC.out _ (hs.below bel2)).mono ?_
 rintro r w3 ⟨a0, k0, rfl, hp0, hb3⟩
 clear c0 c1 c2 c3 c4 c5 c6 c7 c8
 have lr := R.lt
 have z3 := hb3.size
 have z2 := bel2.size
 have hp0' := hp0.alloc (.cells #[.int .i64 fm, .bool ng, .slice a0 zs.length k0, .int .i64 T, .bool nn, .bool bd, .bool pl, .bool mi, .bool am] 50)
 replace A := (A.below hb3).alloc (.cells #[.int .i64 fm, .bool ng, .slice a0 zs.length k0, .int .i64 T, .bool nn, .bool bd, .bool pl, .bool mi, .bool am] 50)
 replace R := (R.below hb3).alloc (.cells #[.int .i64 fm, .bool ng, .slice a0 zs.length k0, .int .i64 T, .bool nn, .bool bd, .bool pl, .bool mi, .bool am] 50)
 have O := Q9.new w3 (.int .i64 fm) (.bool ng) (.slice a0 zs.length k0) (.int .i64 T) (.bool nn) (.bool bd) (.bool pl) (.bool mi) (.bool am) 50
 have bel3 := bel_al (bel_go bel2 hb3) (.cells #[.int .i64 fm, .bool ng, .slice a0 zs.length k0, .int .i64 T, .bool nn, .bool bd, .bool pl, .bool mi, .bool am] 50)
 clear hp0 hb3 bel2
 have c0 := A.c0
 go_wp2_with fail
 refine (C3.out _).mono ?_
 rintro r w4 ⟨rfl, hb4⟩
 clear c0
 replace A := A.below hb4
 replace R := R.below hb4
 replace O := O.below hb4
 replace hp0' := hp0'.below hb4
 have bel4 := bel_go bel3 hb4
 clear hb4 bel3
 have c0 := A.c0
 go_wp2_with fail
 refine (C4.out _).mono ?_
 rintro r W ⟨rfl, hb5⟩
 clear c0
 replace A := A.below hb5
 replace R := R.below hb5
 replace O := O.below hb5
 replace hp0' := hp0'.below hb5
 have bel5 := bel_go bel4 hb5
 have lO := O.lt
 clear hb5 bel4
 have sO := hp0'.sl
 have hbk := hp0'.block
 go_upto_region 11 with fail
 go_cut [] (fun wx => ∃ (a4 : Option Addr) (k4 : Nat), Q9 wx w3.heap.size (.int .i64 fm) (.bool GG) (.slice a4 LL.length k4) (.int .i64 T) (.bool nn) (.bool bd) (.bool pl) (.bool mi) (.bool am) ∧ Q9 wx w.heap.size (.int .i64 fm) (.bool ng) (.slice p zs.length cap) (.int .i64 T) (.bool nn) (.bool bd) (.bool pl) (.bool mi) (.bool am) ∧ Q9 wx (w.heap.size + 1) (.int .i64 0) (.bool false) (.slice none 0 0) (.int .i64 0) (.bool false) (.bool false) (.bool false) (.bool false) (.bool false) ∧ Own wx W.heap.size a4 k4 LL ∧ Below w.heap.size w wx)
 case first =>
  have CA := hid (fun a c w' h h' => CA.out a0 k0 a c w' h h')
  refine wp_region_held_drew (S := fun w' => w'.cell? ⟨w.heap.size, 0, none⟩ = some (.int .i64 fm)) (by kernel_rfl) ?_ (fun hHeld => ?_)
  ·exact A.drew.c0
  refine tk 0 ?_ rfl (Or.inl ⟨by rfl, ?_⟩) ?_
  rotate_left
  ·(intro w hSw; (try dsimp only at hSw); go_simp; try (with_reducible rfl))
  try simp only [Act.put, Ls]
  refine tk 2 ?_ rfl (Or.inl ⟨by rfl, ?_⟩) ?_
  rotate_left
  ·(intro w hSw; (try dsimp only at hSw); go_simp; try (with_reducible rfl))
  try simp only [Act.put, Ls]
  refine tk 3 ?_ rfl (Or.inl ⟨by rfl, ?_⟩) ?_
  rotate_left
  ·(intro w hSw; (try dsimp only at hSw); go_simp; try (with_reducible rfl))
  try simp only [Act.put, Ls]
  refine tk 4 ?_ rfl (Or.inl ⟨by rfl, ?_⟩) ?_
  rotate_left
  ·(intro w hSw; (try dsimp only at hSw); go_simp; try (with_reducible rfl))
  try simp only [Act.put, Ls]
  refine tk 6 ?_ rfl (Or.inl ⟨by rfl, ?_⟩) ?_
  rotate_left
  ·(intro w hSw; (try dsimp only at hSw); go_simp; try (with_reducible rfl))
  try simp only [Act.put, Ls]
  refine tk 7 ?_ rfl (Or.inl ⟨by rfl, ?_⟩) ?_
  rotate_left
  ·(intro w hSw; (try dsimp only at hSw); go_simp; try (with_reducible rfl))
  try simp only [Act.put, Ls]
  refine wpAnyH_ready (rs := [1, 5]) (by kernel_rfl) (by simp) ?_
  refine AllReadyH.cons (o := _) rfl (fun K hK => ?_) (AllReadyH.cons (o := _) rfl (fun K hK => ?_) AllReadyH.nil)
  ·have l1 := O.drew.c1
   have l2 := O.drew.c2
   go_simp
   refine hK.out _ _ ?_ (fun hHeld => ?_)
   ·exact A.drew.c0
   clear hK K
   try simp only [Act.put, Ls]
   clear l1 l2
   refine rdy 5 rfl (fun K hK => ?_)
   go_simp
   go_at_call 132; refine (CU.out _).mono ?_; rintro r q1 ⟨a1, k1, rfl, hp1, hq1⟩
   have O1 := O.drew.below hq1
   have A1 := A.drew.below hq1
   have s1 := sO.drew.below hq1
   refine hK.out _ _ ?_ (fun hHeld => ?_)
   ·exact A1.c0
   clear hK K
   try simp only [Act.put, Ls]
   refine rdy 8 rfl (fun K hK => ?_)
   go_simp
   go_at_call 133; refine (CQ.out _).mono ?_; rintro r q2 ⟨rfl, hq2⟩
   have O2 := O1.below hq2
   have A2 := A1.below hq2
   have s2 := s1.below hq2
   have hp2 := hp1.below hq2
   refine hK.out _ _ ?_ (fun hHeld => ?_)
   ·exact A2.c0
   clear hK K
   try simp only [Act.put, Ls]
   refine tk 9 ?_ rfl (Or.inl ⟨by rfl, ?_⟩) ?_
   rotate_left
   ·(intro w hSw; (try dsimp only at hSw); go_simp; try (with_reducible rfl))
   try simp only [Act.put, Ls]
   refine rdy 10 rfl (fun K hK => ?_)
   go_simp
   go_at_call 80; refine (CS.out a1 k1 _ hp2.sl).mono ?_; rintro r q3 ⟨a3, k3, rfl, hp3, hq3⟩
   have O3 := O2.below hq3
   have A3 := A2.below hq3
   have s3 := s2.below hq3
   refine hK.out _ _ ?_ (fun hHeld => ?_)
   ·exact A3.c0
   clear hK K
   try simp only [Act.put, Ls]
   refine rdy 11 rfl (fun K hK => ?_)
   go_simp
   go_at_call 81; refine (CA.out a3 k3 _ s3 hp3.sl).mono ?_; rintro r q4 ⟨a4, k4, rfl, hp4, hq4⟩
   have O4 := O3.below hq4
   have A4 := A3.below hq4
   have o1 := O4.c1
   have o2 := O4.c2
   have g1 := O4.f1
   have g2 := O4.f2
   refine hK.out _ _ ?_ (fun hHeld => ?_)
   ·exact A4.c0
   clear hK K
   try simp only [Act.put, Ls]
   refine tk 12 ?_ rfl (Or.inl ⟨by rfl, ?_⟩) ?_
   rotate_left
   ·(intro w hSw; (try dsimp only at hSw); go_simp; try (with_reducible rfl))
   try simp only [Act.put, Ls]
   refine rdy 13 rfl (fun K hK => ?_)
   go_simp
   refine hK.out _ _ ?_ (fun hHeld => ?_)
   ·exact (A4.other (by simp; omega) _).other (by simp; omega) _ |>.c0
   clear hK K
   try simp only [Act.put, Ls]
   refine wpAnyH_done (by kernel_rfl) ?_ _
   go_wp2_with fail
   go_meet
   exact ⟨a4, k4, ((O4.set1 _).set2 _), (A4.other (by simp; omega) _).other (by simp; omega) _, (((R.drew.below hq1).below hq2).below hq3).below hq4 |>.other (by simp; omega) _ |>.other (by simp; omega) _, (by refine Own.base (B := q3.heap.size) ?_ (by have := hq1.size; have := hq2.size; have := hq3.size; have e : W.drew.heap.size = W.heap.size := rfl; omega); exact (hp4.setBelow (by have := hq1.size; have := hq2.size; have := hq3.size; have e : W.drew.heap.size = W.heap.size := rfl; simp; omega) _).setBelow (by have := hq1.size; have := hq2.size; have := hq3.size; have e : W.drew.heap.size = W.heap.size := rfl; simp; omega) _), (by have b4 := bel_go (bel_go (bel_go (bel_go (Below.drew bel5) hq1) hq2) hq3) hq4; exact (b4.setCell (by simp; omega) _).setCell (by simp; omega) _)⟩
  ·go_simp
   go_at_call 132; refine (CU.out _).mono ?_; rintro r q1 ⟨a1, k1, rfl, hp1, hq1⟩
   have O1 := O.drew.below hq1
   have A1 := A.drew.below hq1
   have s1 := sO.drew.below hq1
   refine hK.out _ _ ?_ (fun hHeld => ?_)
   ·exact A1.c0
   clear hK K
   try simp only [Act.put, Ls]
   refine wpAnyH_ready (rs := [1, 8]) (by kernel_rfl) (by simp) ?_
   refine AllReadyH.cons (o := _) rfl (fun K hK => ?_) (AllReadyH.cons (o := _) rfl (fun K hK => ?_) AllReadyH.nil)
   ·have l1 := O1.c1
    have l2 := O1.c2
    go_simp
    refine hK.out _ _ ?_ (fun hHeld => ?_)
    ·exact A1.c0
    clear hK K
    try simp only [Act.put, Ls]
    clear l1 l2
    refine rdy 8 rfl (fun K hK => ?_)
    go_simp
    go_at_call 133; refine (CQ.out _).mono ?_; rintro r q2 ⟨rfl, hq2⟩
    have O2 := O1.below hq2
    have A2 := A1.below hq2
    have s2 := s1.below hq2
    have hp2 := hp1.below hq2
    refine hK.out _ _ ?_ (fun hHeld => ?_)
    ·exact A2.c0
    clear hK K
    try simp only [Act.put, Ls]
    refine tk 9 ?_ rfl (Or.inl ⟨by rfl, ?_⟩) ?_
    rotate_left
    ·(intro w hSw; (try dsimp only at hSw); go_simp; try (with_reducible rfl))
    try simp only [Act.put, Ls]
    refine rdy 10 rfl (fun K hK => ?_)
    go_simp
    go_at_call 80; refine (CS.out a1 k1 _ hp2.sl).mono ?_; rintro r q3 ⟨a3, k3, rfl, hp3, hq3⟩
    have O3 := O2.below hq3
    have A3 := A2.below hq3
    have s3 := s2.below hq3
    refine hK.out _ _ ?_ (fun hHeld => ?_)
    ·exact A3.c0
    clear hK K
    try simp only [Act.put, Ls]
    refine rdy 11 rfl (fun K hK => ?_)
    go_simp
    go_at_call 81; refine (CA.out a3 k3 _ s3 hp3.sl).mono ?_; rintro r q4 ⟨a4, k4, rfl, hp4, hq4⟩
    have O4 := O3.below hq4
    have A4 := A3.below hq4
    have o1 := O4.c1
    have o2 := O4.c2
    have g1 := O4.f1
    have g2 := O4.f2
    refine hK.out _ _ ?_ (fun hHeld => ?_)
    ·exact A4.c0
    clear hK K
    try simp only [Act.put, Ls]
    refine tk 12 ?_ rfl (Or.inl ⟨by rfl, ?_⟩) ?_
    rotate_left
    ·(intro w hSw; (try dsimp only at hSw); go_simp; try (with_reducible rfl))
    try simp only [Act.put, Ls]
    refine rdy 13 rfl (fun K hK => ?_)
    go_simp
    refine hK.out _ _ ?_ (fun hHeld => ?_)
    ·exact (A4.other (by simp; omega) _).other (by simp; omega) _ |>.c0
    clear hK K
    try simp only [Act.put, Ls]
    refine wpAnyH_done (by kernel_rfl) ?_ _
    go_wp2_with fail
    go_meet
    exact ⟨a4, k4, ((O4.set1 _).set2 _), (A4.other (by simp; omega) _).other (by simp; omega) _, (((R.drew.below hq1).below hq2).below hq3).below hq4 |>.other (by simp; omega) _ |>.other (by simp; omega) _, (by refine Own.base (B := q3.heap.size) ?_ (by have := hq1.size; have := hq2.size; have := hq3.size; have e : W.drew.heap.size = W.heap.size := rfl; omega); exact (hp4.setBelow (by have := hq1.size; have := hq2.size; have := hq3.size; have e : W.drew.heap.size = W.heap.size := rfl; simp; omega) _).setBelow (by have := hq1.size; have := hq2.size; have := hq3.size; have e : W.drew.heap.size = W.heap.size := rfl; simp; omega) _), (by have b4 := bel_go (bel_go (bel_go (bel_go (Below.drew bel5) hq1) hq2) hq3) hq4; exact (b4.setCell (by simp; omega) _).setCell (by simp; omega) _)⟩
   ·go_simp
    go_at_call 133; refine (CQ.out _).mono ?_; rintro r q2 ⟨rfl, hq2⟩
    have O2 := O1.below hq2
    have A2 := A1.below hq2
    have s2 := s1.below hq2
    have hp2 := hp1.below hq2
    refine hK.out _ _ ?_ (fun hHeld => ?_)
    ·exact A2.c0
    clear hK K
    try simp only [Act.put, Ls]
    refine tk 9 ?_ rfl (Or.inl ⟨by rfl, ?_⟩) ?_
    rotate_left
    ·(intro w hSw; (try dsimp only at hSw); go_simp; try (with_reducible rfl))
    try simp only [Act.put, Ls]
    refine wpAnyH_ready (rs := [1, 10]) (by kernel_rfl) (by simp) ?_
    refine AllReadyH.cons (o := _) rfl (fun K hK => ?_) (AllReadyH.cons (o := _) rfl (fun K hK => ?_) AllReadyH.nil)
    ·have l1 := O2.c1
     have l2 := O2.c2
     go_simp
     refine hK.out _ _ ?_ (fun hHeld => ?_)
     ·exact A2.c0
     clear hK K
     try simp only [Act.put, Ls]
     clear l1 l2
     refine rdy 10 rfl (fun K hK => ?_)
     go_simp
     go_at_call 80; refine (CS.out a1 k1 _ hp2.sl).mono ?_; rintro r q3 ⟨a3, k3, rfl, hp3, hq3⟩
     have O3 := O2.below hq3
     have A3 := A2.below hq3
     have s3 := s2.below hq3
     refine hK.out _ _ ?_ (fun hHeld => ?_)
     ·exact A3.c0
     clear hK K
     try simp only [Act.put, Ls]
     refine rdy 11 rfl (fun K hK => ?_)
     go_simp
     go_at_call 81; refine (CA.out a3 k3 _ s3 hp3.sl).mono ?_; rintro r q4 ⟨a4, k4, rfl, hp4, hq4⟩
     have O4 := O3.below hq4
     have A4 := A3.below hq4
     have o1 := O4.c1
     have o2 := O4.c2
     have g1 := O4.f1
     have g2 := O4.f2
     refine hK.out _ _ ?_ (fun hHeld => ?_)
     ·exact A4.c0
     clear hK K
     try simp only [Act.put, Ls]
     refine tk 12 ?_ rfl (Or.inl ⟨by rfl, ?_⟩) ?_
     rotate_left
     ·(intro w hSw; (try dsimp only at hSw); go_simp; try (with_reducible rfl))
     try simp only [Act.put, Ls]
     refine rdy 13 rfl (fun K hK => ?_)
     go_simp
     refine hK.out _ _ ?_ (fun hHeld => ?_)
     ·exact (A4.other (by simp; omega) _).other (by simp; omega) _ |>.c0
     clear hK K
     try simp only [Act.put, Ls]
     refine wpAnyH_done (by kernel_rfl) ?_ _
     go_wp2_with fail
     go_meet
     exact ⟨a4, k4, ((O4.set1 _).set2 _), (A4.other (by simp; omega) _).other (by simp; omega) _, (((R.drew.below hq1).below hq2).below hq3).below hq4 |>.other (by simp; omega) _ |>.other (by simp; omega) _, (by refine Own.base (B := q3.heap.size) ?_ (by have := hq1.size; have := hq2.size; have := hq3.size; have e : W.drew.heap.size = W.heap.size := rfl; omega); exact (hp4.setBelow (by have := hq1.size; have := hq2.size; have := hq3.size; have e : W.drew.heap.size = W.heap.size := rfl; simp; omega) _).setBelow (by have := hq1.size; have := hq2.size; have := hq3.size; have e : W.drew.heap.size = W.heap.size := rfl; simp; omega) _), (by have b4 := bel_go (bel_go (bel_go (bel_go (Below.drew bel5) hq1) hq2) hq3) hq4; exact (b4.setCell (by simp; omega) _).setCell (by simp; omega) _)⟩
    ·go_simp
     go_at_call 80; refine (CS.out a1 k1 _ hp2.sl).mono ?_; rintro r q3 ⟨a3, k3, rfl, hp3, hq3⟩
     have O3 := O2.below hq3
     have A3 := A2.below hq3
     have s3 := s2.below hq3
     refine hK.out _ _ ?_ (fun hHeld => ?_)
     ·exact A3.c0
     clear hK K
     try simp only [Act.put, Ls]
     refine rdy 1 rfl (fun K hK => ?_)
     have l1 := O3.c1
     have l2 := O3.c2
     go_simp
     refine hK.out _ _ ?_ (fun hHeld => ?_)
     ·exact A3.c0
     clear hK K
     try simp only [Act.put, Ls]
     clear l1 l2
     refine rdy 11 rfl (fun K hK => ?_)
     go_simp
     go_at_call 81; refine (CA.out a3 k3 _ s3 hp3.sl).mono ?_; rintro r q4 ⟨a4, k4, rfl, hp4, hq4⟩
     have O4 := O3.below hq4
     have A4 := A3.below hq4
     have o1 := O4.c1
     have o2 := O4.c2
     have g1 := O4.f1
     have g2 := O4.f2
     refine hK.out _ _ ?_ (fun hHeld => ?_)
     ·exact A4.c0
     clear hK K
     try simp only [Act.put, Ls]
     refine tk 12 ?_ rfl (Or.inl ⟨by rfl, ?_⟩) ?_
     rotate_left
     ·(intro w hSw; (try dsimp only at hSw); go_simp; try (with_reducible rfl))
     try simp only [Act.put, Ls]
     refine rdy 13 rfl (fun K hK => ?_)
     go_simp
     refine hK.out _ _ ?_ (fun hHeld => ?_)
     ·exact (A4.other (by simp; omega) _).other (by simp; omega) _ |>.c0
     clear hK K
     try simp only [Act.put, Ls]
     refine wpAnyH_done (by kernel_rfl) ?_ _
     go_wp2_with fail
     go_meet
     exact ⟨a4, k4, ((O4.set1 _).set2 _), (A4.other (by simp; omega) _).other (by simp; omega) _, (((R.drew.below hq1).below hq2).below hq3).below hq4 |>.other (by simp; omega) _ |>.other (by simp; omega) _, (by refine Own.base (B := q3.heap.size) ?_ (by have := hq1.size; have := hq2.size; have := hq3.size; have e : W.drew.heap.size = W.heap.size := rfl; omega); exact (hp4.setBelow (by have := hq1.size; have := hq2.size; have := hq3.size; have e : W.drew.heap.size = W.heap.size := rfl; simp; omega) _).setBelow (by have := hq1.size; have := hq2.size; have := hq3.size; have e : W.drew.heap.size = W.heap.size := rfl; simp; omega) _), (by have b4 := bel_go (bel_go (bel_go (bel_go (Below.drew bel5) hq1) hq2) hq3) hq4; exact (b4.setCell (by simp; omega) _).setCell (by simp; omega) _)⟩
 case rest =>
 clear O A R
 rename World => wx11
 obtain ⟨a4, k4, O, A, R, own4, bel6⟩ := hcut
 have lO3 : w.heap.size + 1 < w3.heap.size := by omega
 have lW := own4
 have ctd := O.drew.cs
 have cod := A.drew.c0
 go_wp2_with fail
 go_region_held3 (fun w' => (w'.cell? ⟨w3.heap.size, 0, none⟩ = some (.int .i64 fm) ∧ w'.cell? ⟨w3.heap.size, 1, none⟩ = some (.bool GG) ∧ w'.cell? ⟨w3.heap.size, 2, none⟩ = some (.slice a4 LL.length k4) ∧ w'.cell? ⟨w3.heap.size, 3, none⟩ = some (.int .i64 T) ∧ w'.cell? ⟨w3.heap.size, 4, none⟩ = some (.bool nn) ∧ w'.cell? ⟨w3.heap.size, 5, none⟩ = some (.bool bd) ∧ w'.cell? ⟨w3.heap.size, 6, none⟩ = some (.bool pl) ∧ w'.cell? ⟨w3.heap.size, 7, none⟩ = some (.bool mi) ∧ w'.cell? ⟨w3.heap.size, 8, none⟩ = some (.bool am)) ∧ w'.cell? ⟨w.heap.size, 0, none⟩ = some (.int .i64 fm))
  (first | with_reducible assumption | with_reducible exact ⟨ctd, cod⟩ | with_reducible exact keep91 O2 A2 (by omega) (by omega) _ _ _ _ _ _ _ _ _ _ rfl | fail)
  (first
   | (go_at_call 135; refine (CZ.out _).mono ?_; rintro r q1 ⟨rfl, hq1⟩; have O1 := O.drew.below hq1; have A1 := A.drew.below hq1; have R1 := R.drew.below hq1; have u1 := And.intro O1.cs A1.c0; have own5 := own4.drew.below hq1)
   | (go_at_call 134; refine (C7.out a4 k4 _).mono ?_; rintro r q2 ⟨rfl, hq2⟩; have O2 := O1.below hq2; have A2 := A1.below hq2; have u2 := And.intro O2.cs A2.c0; have own6 := own5.below hq2; obtain ⟨r0, r1, r2, r3, r4, r5, r6, r7, r8, g0, g1, g2, g3, g4, g5, g6, g7, g8⟩ := R1.below hq2))
 have bel7 : Below w.heap.size w q2 := bel_go (bel_go (Below.drew bel6) hq1) hq2
 have lW2 : w.heap.size + 1 < W.heap.size := by omega
 go_wp2
 refine bodyPost_ret (v := .tuple #[.agg #[.int .i64 fm, .bool GG, .slice a4 LL.length k4, .int .i64 T2, .bool nn, .bool bd, .bool pl, .bool mi, .bool a2], .int .i64 0]) (by simp [results, Tryz.results34, go_sem, r0, r1, r2, r3, r4, r5, r6, r7, r8]) rfl ⟨a4, k4, rfl, ?_, ?_⟩
 ·refine Own.base (B := W.heap.size) ?_ (by omega)
  repeat (first | with_reducible exact own6 | (with_reducible refine Own.setBelow ?_ ?_ _; rotate_left; (simp; try omega)))
 ·exact (by (repeat with_reducible first | refine Below.setCell ?_ ?_ _ | exact bz0 _ _ | refine bz1 ?_ | refine bz2 ?_ _ | refine bz3 ?_ _ | refine bz4 ?_ bel7 | refine Below.alloc ?_ ?_ _ | refine Below.trans ?_ (Below.mono bel7 ?_)) <;> first | omega | (simp; done) | (simp; omega))
theorem add_spec_odd (fm : Int) (ng : Bool) (T : Int) (nn bd pl mi am : Bool) (p : Option Addr) (cap : Nat) (zs : List Int) (x : Int) (w : World) (hs : Sl .u32 w (.slice p zs.length cap) zs) (hz : Nm.Dg zs) (hk : accB fm ng zs T nn bd pl mi am = true) (hx : okF fm x = true) (x0 : 0 ≤ x) (x1 : x < 18446744073709551616) (hTm : T ≠ 1000000) (hfin : finB fm x = false) (n2 b2 p2 m2 : Bool) (hn2 : n2 = (nn || nanB fm x)) (hb2 : b2 = (bd || (cls fm x == 5))) (hp2 : p2 = (pl || (!nanB fm x && !sigB fm x))) (hm2 : m2 = (mi || (!nanB fm x && sigB fm x))) :
  Calls Tryz.prog 34 #[.agg #[.int .i64 fm, .bool ng, .slice p zs.length cap, .int .i64 T, .bool nn, .bool bd, .bool pl, .bool mi, .bool am], .int .u64 x] w fun r w' => ∃ a' c', r = .returned (.tuple #[.agg #[.int .i64 fm, .bool ng, .slice a' zs.length c', .int .i64 (T + 1), .bool n2, .bool b2, .bool p2, .bool m2, .bool false], .int .i64 0]) ∧ Own w' w.heap.size a' c' zs ∧ Below w.heap.size w w' := by
 obtain ⟨-, hk1, ho1, -⟩ := acc_parts' hk
 obtain ⟨nz, hl⟩ := okB_nz ho1
 obtain ⟨t0, t1⟩ := mkB_T hk1
 have C1 := hid (fun w' h => accok_spec fm ng T nn bd pl mi am p cap zs w' h (by omega))
 have C2 := hid (fun w' => spec_ok fm x w')
 have C3 := hid (fun w' => spec_l2neg fm x w' hx x0 x1)
 have C4 := hid (fun w' => spec_fin fm x w' x0 x1)
 have CC := hid (fun w' h => copy_any fm ng T nn bd pl mi am p cap zs w' h hz (by omega) ho1)
 rw [hk] at C1
 rw [hx] at C2
 rw [hfin] at C4
 have hT' : (T == 1000000) = false := by simpa using hTm
 obtain ⟨sg, hsg⟩ : ∃ sg, sg = sigB fm x := ⟨_, rfl⟩
 rw [← hsg] at C3
 have CN := hid (fun w' => spec_nan fm x w' hx x0 x1)
 have CK := hid (fun w' => spec_cls fm x w' x0 x1)
 obtain ⟨na, hna⟩ : ∃ na, na = nanB fm x := ⟨_, rfl⟩
 obtain ⟨cc, hcc⟩ : ∃ cc, cc = cls fm x := ⟨_, rfl⟩
 obtain ⟨T2, hT2⟩ : ∃ T2, T2 = T + 1 := ⟨_, rfl⟩
 obtain ⟨sl, hsl⟩ : ∃ sl, sl = (cc == 5) := ⟨_, rfl⟩
 rw [← hna] at CN hn2 hp2 hm2
 rw [← hcc] at CK hb2
 rw [← hsg] at hp2 hm2
 rw [← hsl] at hb2
 rw [← hT2]
 have C7 := hid (fun p' c' w' => special7 fm ng T nn bd pl mi am p' zs.length c' na sl sg w' t0 t1 T2 hT2 n2 b2 p2 m2 hn2 hb2 hp2 hm2)
 have hsl' := hsl.symm
 clear hsl hsg hna hcc hT2 hn2 hb2 hp2 hm2 hk hx hfin hz nz ho1 hk1 hTm
 have A := (Q9.new w (.int .i64 fm) (.bool ng) (.slice p zs.length cap) (.int .i64 T) (.bool nn) (.bool bd) (.bool pl) (.bool mi) (.bool am) 50).alloc (.cells #[.int .i64 0, .bool false, .slice none 0 0, .int .i64 0, .bool false, .bool false, .bool false, .bool false, .bool false] 50)
 have R := Q9.nw2b w (.cells #[.int .i64 fm, .bool ng, .slice p zs.length cap, .int .i64 T, .bool nn, .bool bd, .bool pl, .bool mi, .bool am] 50) (.int .i64 0) (.bool false) (.slice none 0 0) (.int .i64 0) (.bool false) (.bool false) (.bool false) (.bool false) (.bool false) 50
 have bel0 : Below w.heap.size w ((w.alloc (.cells #[.int .i64 fm, .bool ng, .slice p zs.length cap, .int .i64 T, .bool nn, .bool bd, .bool pl, .bool mi, .bool am] 50)).alloc (.cells #[.int .i64 0, .bool false, .slice none 0 0, .int .i64 0, .bool false, .bool false, .bool false, .bool false, .bool false] 50)) := (by repeat (first | exact bz0 _ _ | refine bz1 ?_ | refine bz2 ?_ _ | refine bz3 ?_ _ | refine bz5 ?_ _ | refine bz6 ?_ _))
 go_enter Tryz.func34, Tryz.ntmps34
 go_wp2_with fail
 refine (C1.out _ (hs.below bel0)).mono ?_
 rintro r w1 ⟨rfl, hb1⟩
 replace A := A.below hb1
 replace R := R.below hb1
 have bel1 := bel_go bel0 hb1
 clear bel0 hb1
 have c0 := A.c0
 go_wp2_with fail
 refine (C2.out _).mono ?_
 rintro r w2 ⟨rfl, hb2⟩
 clear c0
 replace A := A.below hb2
 replace R := R.below hb2
 have bel2 := bel_go bel1 hb2
 clear bel1 hb2
 obtain ⟨c0, c1, c2, c3, c4, c5, c6, c7, c8⟩ := A.cs
 go_wp2_with fail
 refine (CC.out _ (hs.below bel2)).mono ?_
 rintro r w3 ⟨a0, k0, rfl, hp0, hb3⟩
 clear c0 c1 c2 c3 c4 c5 c6 c7 c8
 have lr := R.lt
 have z3 := hb3.size
 have z2 := bel2.size
 have hp0' := hp0.alloc (.cells #[.int .i64 fm, .bool ng, .slice a0 zs.length k0, .int .i64 T, .bool nn, .bool bd, .bool pl, .bool mi, .bool am] 50)
 replace A := (A.below hb3).alloc (.cells #[.int .i64 fm, .bool ng, .slice a0 zs.length k0, .int .i64 T, .bool nn, .bool bd, .bool pl, .bool mi, .bool am] 50)
 replace R := (R.below hb3).alloc (.cells #[.int .i64 fm, .bool ng, .slice a0 zs.length k0, .int .i64 T, .bool nn, .bool bd, .bool pl, .bool mi, .bool am] 50)
 have O := Q9.new w3 (.int .i64 fm) (.bool ng) (.slice a0 zs.length k0) (.int .i64 T) (.bool nn) (.bool bd) (.bool pl) (.bool mi) (.bool am) 50
 have bel3 := bel_al (bel_go bel2 hb3) (.cells #[.int .i64 fm, .bool ng, .slice a0 zs.length k0, .int .i64 T, .bool nn, .bool bd, .bool pl, .bool mi, .bool am] 50)
 clear hp0 hb3 bel2
 have c0 := A.c0
 go_wp2_with fail
 refine (C3.out _).mono ?_
 rintro r w4 ⟨rfl, hb4⟩
 clear c0
 replace A := A.below hb4
 replace R := R.below hb4
 replace O := O.below hb4
 replace hp0' := hp0'.below hb4
 have bel4 := bel_go bel3 hb4
 clear hb4 bel3
 have c0 := A.c0
 go_wp2_with fail
 refine (C4.out _).mono ?_
 rintro r W ⟨rfl, hb5⟩
 clear c0
 replace A := A.below hb5
 replace R := R.below hb5
 replace O := O.below hb5
 replace hp0' := hp0'.below hb5
 have bel5 := bel_go bel4 hb5
 have lO := O.lt
 clear hb5 bel4
 have ctd := O.drew.cs
 have cod := A.drew.c0
 have lO3 : w.heap.size + 1 < w3.heap.size := by omega
 go_wp2_with fail
 go_region_held3 (fun w' => (w'.cell? ⟨w3.heap.size, 0, none⟩ = some (.int .i64 fm) ∧ w'.cell? ⟨w3.heap.size, 1, none⟩ = some (.bool ng) ∧ w'.cell? ⟨w3.heap.size, 2, none⟩ = some (.slice a0 zs.length k0) ∧ w'.cell? ⟨w3.heap.size, 3, none⟩ = some (.int .i64 T) ∧ w'.cell? ⟨w3.heap.size, 4, none⟩ = some (.bool nn) ∧ w'.cell? ⟨w3.heap.size, 5, none⟩ = some (.bool bd) ∧ w'.cell? ⟨w3.heap.size, 6, none⟩ = some (.bool pl) ∧ w'.cell? ⟨w3.heap.size, 7, none⟩ = some (.bool mi) ∧ w'.cell? ⟨w3.heap.size, 8, none⟩ = some (.bool am)) ∧ w'.cell? ⟨w.heap.size, 0, none⟩ = some (.int .i64 fm))
  (first | with_reducible assumption | with_reducible exact ⟨ctd, cod⟩ | with_reducible exact keep91 O3 A3 (by omega) (by omega) _ _ _ _ _ _ _ _ _ _ rfl | fail)
  (first
   | (go_at_call 131; refine (CN.out _).mono ?_; rintro r q1 ⟨rfl, hq1⟩; have O1 := O.drew.below hq1; have A1 := A.drew.below hq1; have R1 := R.drew.below hq1; have u1 := And.intro O1.cs A1.c0; have own5 := hp0'.drew.below hq1)
   | (go_at_call 62; refine (CK.out _).mono ?_; rintro r q2 ⟨rfl, hq2⟩; have O2 := O1.below hq2; have A2 := A1.below hq2; have R2' := R1.below hq2; have u2 := And.intro O2.cs A2.c0; have own6 := own5.below hq2)
   | (go_at_call 130; refine (C7.out a0 k0 _).mono ?_; rintro r q3 ⟨rfl, hq3⟩; have O3 := O2.below hq3; have A3 := A2.below hq3; have u3 := And.intro O3.cs A3.c0; have own7 := own6.below hq3; obtain ⟨r0, r1, r2, r3, r4, r5, r6, r7, r8, g0, g1, g2, g3, g4, g5, g6, g7, g8⟩ := R2'.below hq3))
 have bel7 : Below w.heap.size w q3 := bel_go (bel_go (bel_go (Below.drew bel5) hq1) hq2) hq3
 go_wp2
 refine bodyPost_ret (v := .tuple #[.agg #[.int .i64 fm, .bool ng, .slice a0 zs.length k0, .int .i64 T2, .bool n2, .bool b2, .bool p2, .bool m2, .bool false], .int .i64 0]) (by simp [results, Tryz.results34, go_sem, r0, r1, r2, r3, r4, r5, r6, r7, r8]) rfl ⟨a0, k0, rfl, ?_, ?_⟩
 ·refine Own.base (B := w2.heap.size) ?_ (by omega)
  repeat (first | with_reducible exact own7 | (with_reducible refine Own.setBelow ?_ ?_ _; rotate_left; (simp; try omega)))
 ·exact (by (repeat with_reducible first | refine Below.setCell ?_ ?_ _ | exact bz0 _ _ | refine bz1 ?_ | refine bz2 ?_ _ | refine bz3 ?_ _ | refine bz4 ?_ bel7 | refine Below.alloc ?_ ?_ _ | refine Below.trans ?_ (Below.mono bel7 ?_)) <;> first | omega | (simp; done) | (simp; omega))
end Go.Proofs.YtkfjmcdniohljaaGreatDoor
