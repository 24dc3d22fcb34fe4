/-
  What is needed of AccC.
-/
import Derived.Test.YtkfjmcdniohljaaGreatDoorF27
set_option maxHeartbeats 16000000
set_option maxRecDepth 1000000
namespace Go.Proofs.YtkfjmcdniohljaaGreatDoor
set_option linter.unusedVariables false
set_option linter.unusedSimpArgs false
open Go.RowKit Go.Deep
def far (fm T : Int) : Nat := Nm.sh T.toNat (if fm = 32 then 554 else 4196)
def accB (fm : Int) (ng : Bool) (zs : List Int) (T : Int) (nn bd pl mi am : Bool) : Bool :=
 fmtB fm && mkB T nn bd pl mi am && okB ng zs && decide (cmpL zs (Nm.lim (far fm T)) ≤ 0) && (!am || decide (zs.length = 0))
theorem mkB_T {T : Int} {nn bd pl mi am : Bool} (h : mkB T nn bd pl mi am = true) : 0 ≤ T ∧ T ≤ 1000000 := by
 unfold mkB at h; simp only [Bool.and_eq_true, decide_eq_true_eq] at h; exact h.1.1.1
theorem ok_lim0 {a : Nat} (hl : bitLen a ≤ 6400) : okB false (Nm.lim a) = true := by
 by_cases h : a = 0
 ·subst h; rw [Nm.lim_zero]; rfl
 ·exact ok_lim h hl false
theorem T_bl {T : Int} (h1 : T ≤ 1000000) : bitLen T.toNat ≤ 20 := (Nm.bl_le_iff _ 20).2 (by omega)
theorem far_bl (fm : Int) {T : Int} (h1 : T ≤ 1000000) : bitLen (far fm T) ≤ 4216 := by
 have h := T_bl h1
 unfold far Nm.sh
 by_cases h0 : T.toNat = 0
 ·rw [h0]; split <;> rw [if_neg (by decide), Nat.zero_mul] <;> decide
 ·by_cases hf : fm = 32
  ·rw [if_pos hf, if_neg (by decide), Nm.bl_mul h0]; have : (554 : Int).toNat = 554 := rfl; omega
  ·rw [if_neg hf, if_neg (by decide), Nm.bl_mul h0]; have : (4196 : Int).toNat = 4196 := rfl; omega
theorem wsh_far (T : Int) (fm : Int) (n : Int) (p : Option Addr) (c : Nat) (w : World) (hs : Sl .u32 w (.slice p (Nm.lim T.toNat).length c) (Nm.lim T.toNat)) (h1 : T ≤ 1000000) (hn : n = if fm = 32 then 554 else 4196) :
  Calls Tryz.prog 21 #[.agg #[.bool false, .slice p (Nm.lim T.toNat).length c], .int .i64 n] w fun e w' => ∃ a' c', e = .returned (.tuple #[.agg #[.bool false, .slice a' (Nm.lim (far fm T)).length c'], .bool true]) ∧ Own w' w.heap.size a' c' (Nm.lim (far fm T)) ∧ Below w.heap.size w w' := by
 have hb := T_bl h1
 have h := wsh_impl false p c (Nm.lim T.toNat) n w hs (Nm.lim_dg _) (by have := lim_len (x := T.toNat) (k := 200) (by omega); omega)
 have e1 : (okB false (Nm.lim T.toNat) && inZ n (-10000) 10000) = true := by
  rw [ok_lim0 (by omega)]; simp [inZ]; subst hn; split <;> decide
 have e2 : Nm.shV false (Nm.val (Nm.lim T.toNat)) n = ((far fm T : Nat) : Int) := by rw [Nm.lim_val, Nm.shV_sh, hn]; rfl
 rw [e1, e2] at h
 have e3 := fits_nat (x := far fm T) (by have := far_bl fm h1; omega)
 have e4 := out_fits e3
 rw [(op_yes _).1, (op_yes _).2.1, (op_yes _).2.2, e3, e4.1, e4.2, wn_nat, wl_nat] at h
 exact h
theorem wof_T (T : Int) (w : World) (h0 : 0 ≤ T) (h1 : T ≤ 1000000) :
  Calls Tryz.prog 22 #[.int .i64 T] w fun e w' => ∃ a' c', e = .returned (.agg #[.bool false, .slice a' (Nm.lim T.toNat).length c']) ∧ Own w' w.heap.size a' c' (Nm.lim T.toNat) ∧ Below w.heap.size w w' := by
 have h := wof_impl T w (by omega) (by omega)
 rw [show Nm.wn T = false by unfold Nm.wn; exact decide_eq_false (by omega), show Nm.wl T = Nm.lim T.toNat by unfold Nm.wl; congr 1; omega] at h
 exact h
theorem okB_f {ng : Bool} {zs : List Int} (h : okB ng zs = true) : okB false zs = true := by
 unfold okB at *
 by_cases h0 : zs.length = 0
 ·rw [if_pos h0]; rfl
 ·rw [if_neg h0] at h ⊢; exact h
theorem wcmp_f {ng : Bool} {zs ys : List Int} (h : okB ng zs = true) (h' : okB false ys = true) : wcmp false false zs ys = cmpL zs ys := by
 rw [wcmp_yes (okB_f h) h']; rfl
theorem one3 {W W' : World} {b b' : Nat} {u v0 v1 v2 : Value} (h : W.cell? ⟨b, 0, none⟩ = some u) (k : Z3 W b' v0 v1 v2) (hb : Below W.heap.size W W') :
  W'.cell? ⟨b, 0, none⟩ = some u ∧ W'.cell? ⟨b', 0, none⟩ = some v0 ∧ W'.cell? ⟨b', 1, none⟩ = some v1 ∧ W'.cell? ⟨b', 2, none⟩ = some v2 :=
 ⟨(hb.cell (p := ⟨b, 0, none⟩) (World.block_lt_of_cell? W _ h)).trans h, Z3.below k hb⟩
theorem tab_al {w : World} (h : Tab w) (o : Obj) : Tab (w.alloc o) := h.below ((Below.refl _ _).alloc (Nat.le_refl _) _)
theorem right_no (fm : Int) (ng : Bool) (T : Int) (nn bd pl mi am : Bool) (v : Value) (w : World) (hT : Tab w) (h1 : fm ≠ 32) (h2 : fm ≠ 64) :
  Calls Tryz.prog 137 #[.agg #[.int .i64 T, .bool nn, .bool bd, .bool pl, .bool mi, .bool am, .int .i64 fm, .bool ng, v]] w fun e w' => e = .returned (.bool false) ∧ Below w.heap.size w w' := by
 go_enter Tryz.func137, Tryz.ntmps137
 go_wp2_with fail
 refine (sizes0 fm _ (tab_al hT _) h1 h2).mono ?_
 rintro e w1 ⟨rfl, hb1⟩
 go_wp2
 go_ret
 exact ⟨rfl, (by repeat (first | exact bz0 _ _ | refine bz1 ?_ | refine bz2 ?_ _ | refine bz3 ?_ _ | refine bz4 ?_ hb1 | refine bz5 ?_ _ | refine bz6 ?_ _ | refine bz7 ?_ hb1))⟩
theorem right_32 (fm : Int) (ng : Bool) (T : Int) (nn bd pl mi am : Bool) (p : Option Addr) (cap : Nat) (zs : List Int) (w : World) (hT : Tab w) (hf : fm = 32) (hs : Sl .u32 w (.slice p zs.length cap) zs) (hl : zs.length ≤ 1048576) :
  Calls Tryz.prog 137 #[.agg #[.int .i64 T, .bool nn, .bool bd, .bool pl, .bool mi, .bool am, .int .i64 fm, .bool ng, .slice p zs.length cap]] w fun e w' => e = .returned (.bool (accB fm ng zs T nn bd pl mi am)) ∧ Below w.heap.size w w' := by
 subst hf
 have hl' : zs.length ≤ 140737488355328 := by omega
 have C1 := hid (fun w' => marks_impl T nn bd pl mi am w')
 have C2 := hid (fun w' h => ok_impl ng p cap zs w' h hl')
 have HA : Hid (accB 32 ng zs T nn bd pl mi am = (mkB T nn bd pl mi am && okB ng zs && decide (cmpL zs (Nm.lim (far 32 T)) ≤ 0) && (!am || decide (zs.length = 0)))) := hid (by unfold accB; rw [show fmtB 32 = true from rfl, Bool.true_and])
 cases hm : mkB T nn bd pl mi am
 ·rw [hm] at C1 HA
  clear hm
  go_enter Tryz.func137, Tryz.ntmps137
  go_wp2_with fail
  refine (sizes32 _ (tab_al hT _)).mono ?_
  rintro e w1 ⟨rfl, hb1⟩
  have q1 := ((Q9.new w (.int .i64 T) (.bool nn) (.bool bd) (.bool pl) (.bool mi) (.bool am) (.int .i64 32) (.bool ng) (.slice p zs.length cap) 145).below hb1).alloc (.cells #[.int .u64 23, .int .u64 255, .int .i64 (-149)] 121)
  obtain ⟨c0, c1, c2, c3, c4, c5, c6, c7, c8⟩ := q1.cs
  go_wp2_with fail
  refine (C1.out _).mono ?_
  rintro e w2 ⟨rfl, hb2⟩
  go_wp2
  go_ret
  exact ⟨ret_bool HA.out.symm, (by repeat (first | exact bz0 _ _ | refine bz1 ?_ | refine bz2 ?_ _ | refine bz3 ?_ _ | refine bz4 ?_ hb2 | refine bz4 ?_ hb1 | refine bz5 ?_ _ | refine bz6 ?_ _ | refine bz7 ?_ hb2 | refine bz7 ?_ hb1))⟩
 rw [hm] at C1 HA
 cases ho : okB ng zs
 ·rw [ho] at C2 HA
  clear ho hm
  go_enter Tryz.func137, Tryz.ntmps137
  go_wp2_with fail
  refine (sizes32 _ (tab_al hT _)).mono ?_
  rintro e w1 ⟨rfl, hb1⟩
  have q1 := ((Q9.new w (.int .i64 T) (.bool nn) (.bool bd) (.bool pl) (.bool mi) (.bool am) (.int .i64 32) (.bool ng) (.slice p zs.length cap) 145).below hb1).alloc (.cells #[.int .u64 23, .int .u64 255, .int .i64 (-149)] 121)
  have s1 := ((hs.alloc _).below hb1).alloc (.cells #[.int .u64 23, .int .u64 255, .int .i64 (-149)] 121)
  have q1' := q1
  obtain ⟨c0, c1, c2, c3, c4, c5, c6, c7, c8⟩ := q1'.cs
  go_wp2_with fail
  refine (C1.out _).mono ?_
  rintro e w2 ⟨rfl, hb2⟩
  clear c0 c1 c2 c3 c4 c5 c6 c7 c8
  obtain ⟨c0, c1, c2, c3, c4, c5, c6, c7, c8⟩ := (q1.below hb2).cs
  go_wp2_with fail
  refine (C2.out _ (s1.below hb2)).mono ?_
  rintro e w3 ⟨rfl, hb3⟩
  go_wp2
  go_ret
  exact ⟨ret_bool HA.out.symm, (by repeat (first | exact bz0 _ _ | refine bz1 ?_ | refine bz2 ?_ _ | refine bz3 ?_ _ | refine bz4 ?_ hb3 | refine bz4 ?_ hb2 | refine bz4 ?_ hb1 | refine bz5 ?_ _ | refine bz6 ?_ _ | refine bz7 ?_ hb3 | refine bz7 ?_ hb2 | refine bz7 ?_ hb1))⟩
 rw [ho] at C2 HA
 obtain ⟨t0, t1⟩ := mkB_T hm
 have CO := hid (fun w' => wof_T T w' t0 t1)
 have CW := hid (fun a c w' h => wsh_far T 32 554 a c w' h t1 rfl)
 have CC := hid (fun a' c' w' h h' => wcmp_impl false false p a' cap c' zs (Nm.lim (far 32 T)) w' h h' hl' (by have := lim_len (x := far 32 T) (k := 200) (by have := far_bl 32 t1; omega); omega))
 rw [wcmp_f ho (ok_lim0 (by have := far_bl 32 t1; omega))] at CC
 obtain ⟨L, hL⟩ : ∃ L, L = Nm.lim T.toNat := ⟨_, rfl⟩
 obtain ⟨F, hF⟩ : ∃ F, F = Nm.lim (far 32 T) := ⟨_, rfl⟩
 obtain ⟨m, hM⟩ : ∃ m, m = cmpL zs F := ⟨_, rfl⟩
 rw [← hF] at CW CC HA
 rw [← hL] at CO CW
 rw [← hM] at CC HA
 clear hM hF hL hm ho
 go_enter Tryz.func137, Tryz.ntmps137
 go_wp2_with fail
 refine (sizes32 _ (tab_al hT _)).mono ?_
 rintro e w1 ⟨rfl, hb1⟩
 have q1 := ((Q9.new w (.int .i64 T) (.bool nn) (.bool bd) (.bool pl) (.bool mi) (.bool am) (.int .i64 32) (.bool ng) (.slice p zs.length cap) 145).below hb1).alloc (.cells #[.int .u64 23, .int .u64 255, .int .i64 (-149)] 121)
 have s1 := ((hs.alloc _).below hb1).alloc (.cells #[.int .u64 23, .int .u64 255, .int .i64 (-149)] 121)
 have z1 := Z3.new w1 (.int .u64 23) (.int .u64 255) (.int .i64 (-149)) 121
 have bel1 : Below w.heap.size w (w1.alloc (.cells #[.int .u64 23, .int .u64 255, .int .i64 (-149)] 121)) := (by repeat (first | exact bz0 _ _ | refine bz1 ?_ | refine bz2 ?_ _ | refine bz3 ?_ _ | refine bz4 ?_ hb1 | refine bz5 ?_ _ | refine bz6 ?_ _ | refine bz7 ?_ hb1))
 have q1' := q1
 obtain ⟨c0, c1, c2, c3, c4, c5, c6, c7, c8⟩ := q1'.cs
 go_wp2_with fail
 refine (C1.out _).mono ?_
 rintro e w2 ⟨rfl, hb2⟩
 clear c0 c1 c2 c3 c4 c5 c6 c7 c8
 have q2 := q1.below hb2
 have s2 := s1.below hb2
 have z2 := Z3.below z1 hb2
 have bel2 := bel_go bel1 hb2
 clear q1 s1 z1 bel1 hb2
 have q2' := q2
 obtain ⟨c0, c1, c2, c3, c4, c5, c6, c7, c8⟩ := q2'.cs
 go_wp2_with fail
 refine (C2.out _ s2).mono ?_
 rintro e W ⟨rfl, hb3⟩
 clear c0 c1 c2 c3 c4 c5 c6 c7 c8
 have q3 := q2.below hb3
 have s3 := s2.below hb3
 have z3 := Z3.below z2 hb3
 have bel3 := bel_go bel2 hb3
 clear q2 s2 z2 bel2 hb3
 go_upto_region 4 with fail
 go_cut [5, 6] (fun v5 v6 wx => ∃ (g : Nat) (a' : Option Addr) (c' : Nat), v5 = .pointer (some ⟨g, 0, none⟩) ∧ v6 = .bool true ∧ Box wx g (.bool false) (.slice a' F.length c') ∧ Sl .u32 wx (.slice a' F.length c') F ∧ Below W.heap.size W wx)
 case first =>
  have t0c := q3.c0
  have lt0 := q3.lt
  have lt1 : w1.heap.size < W.heap.size := World.block_lt_of_cell? W _ z3.1
  go_region_held3 (fun w' => w'.cell? ⟨w.heap.size, 0, none⟩ = some (.int .i64 T) ∧ w'.cell? ⟨w1.heap.size, 0, none⟩ = some (.int .u64 23) ∧ w'.cell? ⟨w1.heap.size, 1, none⟩ = some (.int .u64 255) ∧ w'.cell? ⟨w1.heap.size, 2, none⟩ = some (.int .i64 (-149)))
   (first
    | assumption
    | exact ⟨t0c, z3⟩
    | exact one3 t0c z3 (bel_al (Below.drew (Below.refl _ _)) _)
    | exact one3 t0c z3 hB3
    | exact one3 t0c z3 hB2
    | exact one3 t0c z3 hB1
    | exact one3 t0c z3 (bel_al hB3 _)
    | exact one3 t0c z3 (bel_al hB2 _)
    | exact one3 t0c z3 (bel_al hB1 _)
    | (refine one3 t0c z3 ?_; refine Below.setCell (Below.setCell hB3 ?_ _) ?_ _ <;> (simp; try omega)))
   (first
    | (go_at_call 22; refine (CO.out _).mono ?_; rintro e q1 ⟨d1, f1, rfl, hp1, hq1⟩; have hB1 : Below W.heap.size W q1 := (by first | exact bel_go (Below.drew (Below.refl _ _)) hq1 | exact bel_go (bel_al (Below.drew (Below.refl _ _)) _) hq1); have y1 := hB1.size; (first | (have rb1 : R2 q1 W.heap.size (.bool false) (.slice none 0 0) := R2.below (R2.new W.drew (.bool false) (.slice none 0 0) 32) hq1) | skip))
    | (go_at_call 205; refine (reach32 _).mono ?_; rintro e q2 ⟨rfl, hq2⟩; have hB12 : Below q1.heap.size q1 q2 := (by first | exact hq2 | exact bel_go (bel_al (Below.refl _ _) _) hq2); have hB2 : Below W.heap.size W q2 := bel_go hB1 hB12; have y2 := hB12.size; (first | (have rb2 := R2.below rb1 hq2) | (have rb2 : R2 q2 q1.heap.size (.bool false) (.slice none 0 0) := R2.below (R2.new q1 (.bool false) (.slice none 0 0) 32) hq2) | skip))
    | (go_at_call 21; refine (CW.out d1 f1 _ (by first | exact (Own.below hp1 hB12).sl | exact Sl.alloc (Own.below hp1 hB12).sl _)).mono ?_; rintro e q3 ⟨d3, f3, rfl, hp3, hq3⟩; have hB23 : Below q2.heap.size q2 q3 := (by first | exact hq3 | exact bel_go (bel_al (Below.refl _ _) _) hq3); have hB3 : Below W.heap.size W q3 := bel_go hB2 hB23; have y3 := hB23.size; (first | (have rb3 := R2.below rb2 hq3; obtain ⟨k0, k1, g0, g1⟩ := rb3) | (have rb3 : R2 q3 q2.heap.size (.bool false) (.slice none 0 0) := R2.below (R2.new q2 (.bool false) (.slice none 0 0) 32) hq3; obtain ⟨k0, k1, g0, g1⟩ := rb3) | skip)))
  all_goals (go_wp2_with fail; go_meet)
  ·exact ⟨q3.heap.size, d3, f3, rfl, rfl, Box.new q3 _ _ _, hp3.sl.alloc _, bel_al hB3 _⟩
  ·have hp4 : Own q3 (q2.heap.size + 1) d3 f3 F := (by simpa using hp3)
   have rs := R2.set ⟨k0, k1, g0, g1⟩ (.bool false) (.slice d3 F.length f3)
   exact ⟨q2.heap.size, d3, f3, rfl, rfl, ⟨rs.c0, rs.c1⟩, ((hp4.setBelow (by simp) _).setBelow (by simp) _).sl, (hB3.setCell (by simp; omega) _).setCell (by simp; omega) _⟩
  ·have rs := R2.set ⟨k0, k1, g0, g1⟩ (.bool false) (.slice d3 F.length f3)
   have hlt := World.block_lt_of_cell? q2 _ rb2.c0
   simp at hlt
   exact ⟨q1.heap.size, d3, f3, rfl, rfl, ⟨rs.c0, rs.c1⟩, ((hp3.setBelow (by simp; omega) _).setBelow (by simp; omega) _).sl, (hB3.setCell (by simp; omega) _).setCell (by simp; omega) _⟩
  ·have rs := R2.set ⟨k0, k1, g0, g1⟩ (.bool false) (.slice d3 F.length f3)
   have hlt := World.block_lt_of_cell? q1 _ rb1.c0
   simp at hlt
   exact ⟨W.heap.size, d3, f3, rfl, rfl, ⟨rs.c0, rs.c1⟩, ((hp3.setBelow (by simp; omega) _).setBelow (by simp; omega) _).sl, (hB3.setCell (by simp) _).setCell (by simp) _⟩
 case rest =>
 rename World => w4
 obtain ⟨g, af, cf, rfl, rfl, ⟨e0, e1⟩, sf, hb4⟩ := hcut
 have s4 := s3.below hb4
 have bel4 := bel_go bel3 hb4
 obtain ⟨c0, c1, c2, c3, c4, c5, c6, c7, c8⟩ := (q3.below hb4).cs
 clear q3 s3 z3 bel3 hb4
 go_wp2_with fail
 refine (CC.out af cf _ s4 sf).mono ?_
 rintro e w5 ⟨rfl, hb5⟩
 obtain ⟨hc, -⟩ := bcell hb5
 have k5 := (hc _ _ (World.block_lt_of_cell? w4 _ c5)).trans c5
 have k8 := (hc _ _ (World.block_lt_of_cell? w4 _ c8)).trans c8
 clear c0 c1 c2 c3 c4 c5 c6 c7 c8 hc
 by_cases hm0 : m ≤ 0
 ·have HA : Hid (accB 32 ng zs T nn bd pl mi am = (!am || decide (zs.length = 0))) := hid (by rw [HA.out, decide_eq_true hm0]; rfl)
  cases am with
  | false =>
   go_wp2
   go_ret
   exact ⟨ret_bool HA.out.symm, (by repeat (first | exact bz0 _ _ | refine bz1 ?_ | refine bz2 ?_ _ | refine bz3 ?_ _ | refine bz4 ?_ hb5 | refine bz4 ?_ bel4 | refine bz5 ?_ _ | refine bz6 ?_ _ | refine bz7 ?_ hb5 | refine bz7 ?_ bel4))⟩
  | true =>
   by_cases hz0 : zs.length = 0
   ·have hb0 : ((zs.length : Int) == 0) = true := by rw [beq_iff_eq]; omega
    have HA : Hid (accB 32 ng zs T nn bd pl mi true = true) := hid (by rw [HA.out, decide_eq_true hz0]; rfl)
    clear hz0
    go_wp2
    go_ret
    exact ⟨ret_bool HA.out.symm, (by repeat (first | exact bz0 _ _ | refine bz1 ?_ | refine bz2 ?_ _ | refine bz3 ?_ _ | refine bz4 ?_ hb5 | refine bz4 ?_ bel4 | refine bz5 ?_ _ | refine bz6 ?_ _ | refine bz7 ?_ hb5 | refine bz7 ?_ bel4))⟩
   ·have hb0 : ((zs.length : Int) == 0) = false := by rw [beq_eq_false_iff_ne]; omega
    have HA : Hid (accB 32 ng zs T nn bd pl mi true = false) := hid (by rw [HA.out, decide_eq_false hz0]; rfl)
    clear hz0
    go_wp2
    go_ret
    exact ⟨ret_bool HA.out.symm, (by repeat (first | exact bz0 _ _ | refine bz1 ?_ | refine bz2 ?_ _ | refine bz3 ?_ _ | refine bz4 ?_ hb5 | refine bz4 ?_ bel4 | refine bz5 ?_ _ | refine bz6 ?_ _ | refine bz7 ?_ hb5 | refine bz7 ?_ bel4))⟩
 ·have HA : Hid (accB 32 ng zs T nn bd pl mi am = false) := hid (by rw [HA.out, decide_eq_false hm0]; rfl)
  go_wp2
  go_ret
  exact ⟨ret_bool HA.out.symm, (by repeat (first | exact bz0 _ _ | refine bz1 ?_ | refine bz2 ?_ _ | refine bz3 ?_ _ | refine bz4 ?_ hb5 | refine bz4 ?_ bel4 | refine bz5 ?_ _ | refine bz6 ?_ _ | refine bz7 ?_ hb5 | refine bz7 ?_ bel4))⟩
theorem right_64 (fm : Int) (ng : Bool) (T : Int) (nn bd pl mi am : Bool) (p : Option Addr) (cap : Nat) (zs : List Int) (w : World) (hT : Tab w) (hf : fm = 64) (hs : Sl .u32 w (.slice p zs.length cap) zs) (hl : zs.length ≤ 1048576) :
  Calls Tryz.prog 137 #[.agg #[.int .i64 T, .bool nn, .bool bd, .bool pl, .bool mi, .bool am, .int .i64 fm, .bool ng, .slice p zs.length cap]] w fun e w' => e = .returned (.bool (accB fm ng zs T nn bd pl mi am)) ∧ Below w.heap.size w w' := by
 subst hf
 have hl' : zs.length ≤ 140737488355328 := by omega
 have C1 := hid (fun w' => marks_impl T nn bd pl mi am w')
 have C2 := hid (fun w' h => ok_impl ng p cap zs w' h hl')
 have HA : Hid (accB 64 ng zs T nn bd pl mi am = (mkB T nn bd pl mi am && okB ng zs && decide (cmpL zs (Nm.lim (far 64 T)) ≤ 0) && (!am || decide (zs.length = 0)))) := hid (by unfold accB; rw [show fmtB 64 = true from rfl, Bool.true_and])
 cases hm : mkB T nn bd pl mi am
 ·rw [hm] at C1 HA
  clear hm
  go_enter Tryz.func137, Tryz.ntmps137
  go_wp2_with fail
  refine (sizes64 _ (tab_al hT _)).mono ?_
  rintro e w1 ⟨rfl, hb1⟩
  have q1 := ((Q9.new w (.int .i64 T) (.bool nn) (.bool bd) (.bool pl) (.bool mi) (.bool am) (.int .i64 64) (.bool ng) (.slice p zs.length cap) 145).below hb1).alloc (.cells #[.int .u64 52, .int .u64 2047, .int .i64 (-1074)] 121)
  obtain ⟨c0, c1, c2, c3, c4, c5, c6, c7, c8⟩ := q1.cs
  go_wp2_with fail
  refine (C1.out _).mono ?_
  rintro e w2 ⟨rfl, hb2⟩
  go_wp2
  go_ret
  exact ⟨ret_bool HA.out.symm, (by repeat (first | exact bz0 _ _ | refine bz1 ?_ | refine bz2 ?_ _ | refine bz3 ?_ _ | refine bz4 ?_ hb2 | refine bz4 ?_ hb1 | refine bz5 ?_ _ | refine bz6 ?_ _ | refine bz7 ?_ hb2 | refine bz7 ?_ hb1))⟩
 rw [hm] at C1 HA
 cases ho : okB ng zs
 ·rw [ho] at C2 HA
  clear ho hm
  go_enter Tryz.func137, Tryz.ntmps137
  go_wp2_with fail
  refine (sizes64 _ (tab_al hT _)).mono ?_
  rintro e w1 ⟨rfl, hb1⟩
  have q1 := ((Q9.new w (.int .i64 T) (.bool nn) (.bool bd) (.bool pl) (.bool mi) (.bool am) (.int .i64 64) (.bool ng) (.slice p zs.length cap) 145).below hb1).alloc (.cells #[.int .u64 52, .int .u64 2047, .int .i64 (-1074)] 121)
  have s1 := ((hs.alloc _).below hb1).alloc (.cells #[.int .u64 52, .int .u64 2047, .int .i64 (-1074)] 121)
  have q1' := q1
  obtain ⟨c0, c1, c2, c3, c4, c5, c6, c7, c8⟩ := q1'.cs
  go_wp2_with fail
  refine (C1.out _).mono ?_
  rintro e w2 ⟨rfl, hb2⟩
  clear c0 c1 c2 c3 c4 c5 c6 c7 c8
  obtain ⟨c0, c1, c2, c3, c4, c5, c6, c7, c8⟩ := (q1.below hb2).cs
  go_wp2_with fail
  refine (C2.out _ (s1.below hb2)).mono ?_
  rintro e w3 ⟨rfl, hb3⟩
  go_wp2
  go_ret
  exact ⟨ret_bool HA.out.symm, (by repeat (first | exact bz0 _ _ | refine bz1 ?_ | refine bz2 ?_ _ | refine bz3 ?_ _ | refine bz4 ?_ hb3 | refine bz4 ?_ hb2 | refine bz4 ?_ hb1 | refine bz5 ?_ _ | refine bz6 ?_ _ | refine bz7 ?_ hb3 | refine bz7 ?_ hb2 | refine bz7 ?_ hb1))⟩
 rw [ho] at C2 HA
 obtain ⟨t0, t1⟩ := mkB_T hm
 have CO := hid (fun w' => wof_T T w' t0 t1)
 have CW := hid (fun a c w' h => wsh_far T 64 4196 a c w' h t1 rfl)
 have CC := hid (fun a' c' w' h h' => wcmp_impl false false p a' cap c' zs (Nm.lim (far 64 T)) w' h h' hl' (by have := lim_len (x := far 64 T) (k := 200) (by have := far_bl 64 t1; omega); omega))
 rw [wcmp_f ho (ok_lim0 (by have := far_bl 64 t1; omega))] at CC
 obtain ⟨L, hL⟩ : ∃ L, L = Nm.lim T.toNat := ⟨_, rfl⟩
 obtain ⟨F, hF⟩ : ∃ F, F = Nm.lim (far 64 T) := ⟨_, rfl⟩
 obtain ⟨m, hM⟩ : ∃ m, m = cmpL zs F := ⟨_, rfl⟩
 rw [← hF] at CW CC HA
 rw [← hL] at CO CW
 rw [← hM] at CC HA
 clear hM hF hL hm ho
 go_enter Tryz.func137, Tryz.ntmps137
 go_wp2_with fail
 refine (sizes64 _ (tab_al hT _)).mono ?_
 rintro e w1 ⟨rfl, hb1⟩
 have q1 := ((Q9.new w (.int .i64 T) (.bool nn) (.bool bd) (.bool pl) (.bool mi) (.bool am) (.int .i64 64) (.bool ng) (.slice p zs.length cap) 145).below hb1).alloc (.cells #[.int .u64 52, .int .u64 2047, .int .i64 (-1074)] 121)
 have s1 := ((hs.alloc _).below hb1).alloc (.cells #[.int .u64 52, .int .u64 2047, .int .i64 (-1074)] 121)
 have z1 := Z3.new w1 (.int .u64 52) (.int .u64 2047) (.int .i64 (-1074)) 121
 have bel1 : Below w.heap.size w (w1.alloc (.cells #[.int .u64 52, .int .u64 2047, .int .i64 (-1074)] 121)) := (by repeat (first | exact bz0 _ _ | refine bz1 ?_ | refine bz2 ?_ _ | refine bz3 ?_ _ | refine bz4 ?_ hb1 | refine bz5 ?_ _ | refine bz6 ?_ _ | refine bz7 ?_ hb1))
 have q1' := q1
 obtain ⟨c0, c1, c2, c3, c4, c5, c6, c7, c8⟩ := q1'.cs
 go_wp2_with fail
 refine (C1.out _).mono ?_
 rintro e w2 ⟨rfl, hb2⟩
 clear c0 c1 c2 c3 c4 c5 c6 c7 c8
 have q2 := q1.below hb2
 have s2 := s1.below hb2
 have z2 := Z3.below z1 hb2
 have bel2 := bel_go bel1 hb2
 clear q1 s1 z1 bel1 hb2
 have q2' := q2
 obtain ⟨c0, c1, c2, c3, c4, c5, c6, c7, c8⟩ := q2'.cs
 go_wp2_with fail
 refine (C2.out _ s2).mono ?_
 rintro e W ⟨rfl, hb3⟩
 clear c0 c1 c2 c3 c4 c5 c6 c7 c8
 have q3 := q2.below hb3
 have s3 := s2.below hb3
 have z3 := Z3.below z2 hb3
 have bel3 := bel_go bel2 hb3
 clear q2 s2 z2 bel2 hb3
 go_upto_region 4 with fail
 go_cut [5, 6] (fun v5 v6 wx => ∃ (g : Nat) (a' : Option Addr) (c' : Nat), v5 = .pointer (some ⟨g, 0, none⟩) ∧ v6 = .bool true ∧ Box wx g (.bool false) (.slice a' F.length c') ∧ Sl .u32 wx (.slice a' F.length c') F ∧ Below W.heap.size W wx)
 case first =>
  have t0c := q3.c0
  have lt0 := q3.lt
  have lt1 : w1.heap.size < W.heap.size := World.block_lt_of_cell? W _ z3.1
  go_region_held3 (fun w' => w'.cell? ⟨w.heap.size, 0, none⟩ = some (.int .i64 T) ∧ w'.cell? ⟨w1.heap.size, 0, none⟩ = some (.int .u64 52) ∧ w'.cell? ⟨w1.heap.size, 1, none⟩ = some (.int .u64 2047) ∧ w'.cell? ⟨w1.heap.size, 2, none⟩ = some (.int .i64 (-1074)))
   (first
    | assumption
    | exact ⟨t0c, z3⟩
    | exact one3 t0c z3 (bel_al (Below.drew (Below.refl _ _)) _)
    | exact one3 t0c z3 hB3
    | exact one3 t0c z3 hB2
    | exact one3 t0c z3 hB1
    | exact one3 t0c z3 (bel_al hB3 _)
    | exact one3 t0c z3 (bel_al hB2 _)
    | exact one3 t0c z3 (bel_al hB1 _)
    | (refine one3 t0c z3 ?_; refine Below.setCell (Below.setCell hB3 ?_ _) ?_ _ <;> (simp; try omega)))
   (first
    | (go_at_call 22; refine (CO.out _).mono ?_; rintro e q1 ⟨d1, f1, rfl, hp1, hq1⟩; have hB1 : Below W.heap.size W q1 := (by first | exact bel_go (Below.drew (Below.refl _ _)) hq1 | exact bel_go (bel_al (Below.drew (Below.refl _ _)) _) hq1); have y1 := hB1.size; (first | (have rb1 : R2 q1 W.heap.size (.bool false) (.slice none 0 0) := R2.below (R2.new W.drew (.bool false) (.slice none 0 0) 32) hq1) | skip))
    | (go_at_call 205; refine (reach64 _).mono ?_; rintro e q2 ⟨rfl, hq2⟩; have hB12 : Below q1.heap.size q1 q2 := (by first | exact hq2 | exact bel_go (bel_al (Below.refl _ _) _) hq2); have hB2 : Below W.heap.size W q2 := bel_go hB1 hB12; have y2 := hB12.size; (first | (have rb2 := R2.below rb1 hq2) | (have rb2 : R2 q2 q1.heap.size (.bool false) (.slice none 0 0) := R2.below (R2.new q1 (.bool false) (.slice none 0 0) 32) hq2) | skip))
    | (go_at_call 21; refine (CW.out d1 f1 _ (by first | exact (Own.below hp1 hB12).sl | exact Sl.alloc (Own.below hp1 hB12).sl _)).mono ?_; rintro e q3 ⟨d3, f3, rfl, hp3, hq3⟩; have hB23 : Below q2.heap.size q2 q3 := (by first | exact hq3 | exact bel_go (bel_al (Below.refl _ _) _) hq3); have hB3 : Below W.heap.size W q3 := bel_go hB2 hB23; have y3 := hB23.size; (first | (have rb3 := R2.below rb2 hq3; obtain ⟨k0, k1, g0, g1⟩ := rb3) | (have rb3 : R2 q3 q2.heap.size (.bool false) (.slice none 0 0) := R2.below (R2.new q2 (.bool false) (.slice none 0 0) 32) hq3; obtain ⟨k0, k1, g0, g1⟩ := rb3) | skip)))
  all_goals (go_wp2_with fail; go_meet)
  ·exact ⟨q3.heap.size, d3, f3, rfl, rfl, Box.new q3 _ _ _, hp3.sl.alloc _, bel_al hB3 _⟩
  ·have hp4 : Own q3 (q2.heap.size + 1) d3 f3 F := (by simpa using hp3)
   have rs := R2.set ⟨k0, k1, g0, g1⟩ (.bool false) (.slice d3 F.length f3)
   exact ⟨q2.heap.size, d3, f3, rfl, rfl, ⟨rs.c0, rs.c1⟩, ((hp4.setBelow (by simp) _).setBelow (by simp) _).sl, (hB3.setCell (by simp; omega) _).setCell (by simp; omega) _⟩
  ·have rs := R2.set ⟨k0, k1, g0, g1⟩ (.bool false) (.slice d3 F.length f3)
   have hlt := World.block_lt_of_cell? q2 _ rb2.c0
   simp at hlt
   exact ⟨q1.heap.size, d3, f3, rfl, rfl, ⟨rs.c0, rs.c1⟩, ((hp3.setBelow (by simp; omega) _).setBelow (by simp; omega) _).sl, (hB3.setCell (by simp; omega) _).setCell (by simp; omega) _⟩
  ·have rs := R2.set ⟨k0, k1, g0, g1⟩ (.bool false) (.slice d3 F.length f3)
   have hlt := World.block_lt_of_cell? q1 _ rb1.c0
   simp at hlt
   exact ⟨W.heap.size, d3, f3, rfl, rfl, ⟨rs.c0, rs.c1⟩, ((hp3.setBelow (by simp; omega) _).setBelow (by simp; omega) _).sl, (hB3.setCell (by simp) _).setCell (by simp) _⟩
 case rest =>
 rename World => w4
 obtain ⟨g, af, cf, rfl, rfl, ⟨e0, e1⟩, sf, hb4⟩ := hcut
 have s4 := s3.below hb4
 have bel4 := bel_go bel3 hb4
 obtain ⟨c0, c1, c2, c3, c4, c5, c6, c7, c8⟩ := (q3.below hb4).cs
 clear q3 s3 z3 bel3 hb4
 go_wp2_with fail
 refine (CC.out af cf _ s4 sf).mono ?_
 rintro e w5 ⟨rfl, hb5⟩
 obtain ⟨hc, -⟩ := bcell hb5
 have k5 := (hc _ _ (World.block_lt_of_cell? w4 _ c5)).trans c5
 have k8 := (hc _ _ (World.block_lt_of_cell? w4 _ c8)).trans c8
 clear c0 c1 c2 c3 c4 c5 c6 c7 c8 hc
 by_cases hm0 : m ≤ 0
 ·have HA : Hid (accB 64 ng zs T nn bd pl mi am = (!am || decide (zs.length = 0))) := hid (by rw [HA.out, decide_eq_true hm0]; rfl)
  cases am with
  | false =>
   go_wp2
   go_ret
   exact ⟨ret_bool HA.out.symm, (by repeat (first | exact bz0 _ _ | refine bz1 ?_ | refine bz2 ?_ _ | refine bz3 ?_ _ | refine bz4 ?_ hb5 | refine bz4 ?_ bel4 | refine bz5 ?_ _ | refine bz6 ?_ _ | refine bz7 ?_ hb5 | refine bz7 ?_ bel4))⟩
  | true =>
   by_cases hz0 : zs.length = 0
   ·have hb0 : ((zs.length : Int) == 0) = true := by rw [beq_iff_eq]; omega
    have HA : Hid (accB 64 ng zs T nn bd pl mi true = true) := hid (by rw [HA.out, decide_eq_true hz0]; rfl)
    clear hz0
    go_wp2
    go_ret
    exact ⟨ret_bool HA.out.symm, (by repeat (first | exact bz0 _ _ | refine bz1 ?_ | refine bz2 ?_ _ | refine bz3 ?_ _ | refine bz4 ?_ hb5 | refine bz4 ?_ bel4 | refine bz5 ?_ _ | refine bz6 ?_ _ | refine bz7 ?_ hb5 | refine bz7 ?_ bel4))⟩
   ·have hb0 : ((zs.length : Int) == 0) = false := by rw [beq_eq_false_iff_ne]; omega
    have HA : Hid (accB 64 ng zs T nn bd pl mi true = false) := hid (by rw [HA.out, decide_eq_false hz0]; rfl)
    clear hz0
    go_wp2
    go_ret
    exact ⟨ret_bool HA.out.symm, (by repeat (first | exact bz0 _ _ | refine bz1 ?_ | refine bz2 ?_ _ | refine bz3 ?_ _ | refine bz4 ?_ hb5 | refine bz4 ?_ bel4 | refine bz5 ?_ _ | refine bz6 ?_ _ | refine bz7 ?_ hb5 | refine bz7 ?_ bel4))⟩
 ·have HA : Hid (accB 64 ng zs T nn bd pl mi am = false) := hid (by rw [HA.out, decide_eq_false hm0]; rfl)
  go_wp2
  go_ret
  exact ⟨ret_bool HA.out.symm, (by repeat (first | exact bz0 _ _ | refine bz1 ?_ | refine bz2 ?_ _ | refine bz3 ?_ _ | refine bz4 ?_ hb5 | refine bz4 ?_ bel4 | refine bz5 ?_ _ | refine bz6 ?_ _ | refine bz7 ?_ hb5 | refine bz7 ?_ bel4))⟩
theorem right_any (fm : Int) (ng : Bool) (T : Int) (nn bd pl mi am : Bool) (p : Option Addr) (cap : Nat) (zs : List Int) (w : World) (hT : Tab w) (hs : Sl .u32 w (.slice p zs.length cap) zs) (hl : zs.length ≤ 1048576) :
  Calls Tryz.prog 137 #[.agg #[.int .i64 T, .bool nn, .bool bd, .bool pl, .bool mi, .bool am, .int .i64 fm, .bool ng, .slice p zs.length cap]] w fun e w' => e = .returned (.bool (accB fm ng zs T nn bd pl mi am)) ∧ Below w.heap.size w w' := by
 by_cases h1 : fm = 32
 ·exact right_32 fm ng T nn bd pl mi am p cap zs w hT h1 hs hl
 ·by_cases h2 : fm = 64
  ·exact right_64 fm ng T nn bd pl mi am p cap zs w hT h2 hs hl
  ·rw [show accB fm ng zs T nn bd pl mi am = false by unfold accB fmtB; rw [decide_eq_false h1, decide_eq_false h2]; rfl]
   exact right_no fm ng T nn bd pl mi am _ w hT h1 h2
end Go.Proofs.YtkfjmcdniohljaaGreatDoor
