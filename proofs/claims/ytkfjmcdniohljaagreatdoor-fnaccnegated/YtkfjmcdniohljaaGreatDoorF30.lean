/-
  What is needed of AccD.
-/
import Derived.Test.YtkfjmcdniohljaaGreatDoorF28
set_option maxHeartbeats 16000000
set_option maxRecDepth 1000000
namespace Go.Proofs.YtkfjmcdniohljaaGreatDoor
set_option linter.unusedVariables false
set_option linter.unusedSimpArgs false
open Go.RowKit Go.Deep
theorem wof_Ts (T : Int) (w : World) (h0 : 0 ≤ T) (h1 : T ≤ 1000000) :
  Calls Tryz.prog 86 #[.int .i64 T] w fun e w' => ∃ a' c', e = .returned (.agg #[.bool false, .slice a' (Nm.lim T.toNat).length c']) ∧ Own w' w.heap.size a' c' (Nm.lim T.toNat) ∧ Below w.heap.size w w' := by
 have h := wof_spec T w (by omega) (by omega)
 rw [show Nm.wn T = false by unfold Nm.wn; exact decide_eq_false (by omega), show Nm.wl T = Nm.lim T.toNat by unfold Nm.wl; congr 1; omega] at h
 exact h
theorem sh_far (T : Int) (fm : Int) (n : Int) (p : Option Addr) (c : Nat) (w : World) (hs : Sl .u32 w (.slice p (Nm.lim T.toNat).length c) (Nm.lim T.toNat)) (h1 : T ≤ 1000000) (hn : n = if fm = 32 then 554 else 4196) :
  Calls Tryz.prog 80 #[.agg #[.bool false, .slice p (Nm.lim T.toNat).length c], .int .i64 n] w fun e w' => ∃ a' c', e = .returned (.agg #[.bool false, .slice a' (Nm.lim (far fm T)).length c']) ∧ Own w' w.heap.size a' c' (Nm.lim (far fm T)) ∧ Below w.heap.size w w' := by
 have h := shift_n T.toNat n p c w hs (by have := T_bl h1; omega) (by subst hn; split <;> omega) (by subst hn; split <;> omega)
 rw [hn] at h ⊢
 exact h
theorem two03 {W W' : World} {b : Nat} {u v : Value} (h : W.cell? ⟨b, 0, none⟩ = some u) (k : W.cell? ⟨b, 3, none⟩ = some v) (hb : Below W.heap.size W W') :
  W'.cell? ⟨b, 0, none⟩ = some u ∧ W'.cell? ⟨b, 3, none⟩ = some v :=
 ⟨(hb.cell (p := ⟨b, 0, none⟩) (World.block_lt_of_cell? W _ h)).trans h, (hb.cell (p := ⟨b, 3, none⟩) (World.block_lt_of_cell? W _ k)).trans k⟩
theorem acc_nf {fm : Int} {ng : Bool} {zs : List Int} {T : Int} {nn bd pl mi am : Bool} (h : fmtB fm = false) : accB fm ng zs T nn bd pl mi am = false := by unfold accB; rw [h]; rfl
theorem acc_no {fm : Int} {ng : Bool} {zs : List Int} {T : Int} {nn bd pl mi am : Bool} (h : okB ng zs = false) : accB fm ng zs T nn bd pl mi am = false := by unfold accB; rw [h]; simp
theorem acc_nt {fm : Int} {ng : Bool} {zs : List Int} {T : Int} {nn bd pl mi am : Bool} (h : inZ T 0 1000000 = false) : accB fm ng zs T nn bd pl mi am = false := by
 have : mkB T nn bd pl mi am = false := by
  unfold inZ at h; unfold mkB
  rw [h]; rfl
 unfold accB; rw [this]; simp
theorem acc_main {fm : Int} {ng : Bool} {zs : List Int} {T : Int} {nn bd pl mi am : Bool} (h : fmtB fm = true) (ho : okB ng zs = true) (ht : inZ T 0 1000000 = true) :
  accB fm ng zs T nn bd pl mi am = (!(decide (0 < cmpL zs (Nm.lim (far fm T))) || bd && !nn || ((nn || bd || pl || mi) || am) && decide (T = 0)) && (!am || !(nn || bd || pl || mi) && decide (zs.length = 0))) := by
 unfold inZ at ht
 unfold accB mkB
 rw [h, ho, ht]
 obtain ⟨d, hd⟩ : ∃ d, d = decide (T = 0) := ⟨_, rfl⟩
 obtain ⟨l, hl⟩ : ∃ l, l = decide (zs.length = 0) := ⟨_, rfl⟩
 rw [← hd, ← hl]
 have e : decide (cmpL zs (Nm.lim (far fm T)) ≤ 0) = !decide (0 < cmpL zs (Nm.lim (far fm T))) := by
  by_cases hc : cmpL zs (Nm.lim (far fm T)) ≤ 0
  ·rw [decide_eq_true hc, decide_eq_false (by omega)]; rfl
  ·rw [decide_eq_false hc, decide_eq_true (by omega)]; rfl
 rw [e]
 obtain ⟨q, hq⟩ : ∃ q, q = decide (0 < cmpL zs (Nm.lim (far fm T))) := ⟨_, rfl⟩
 rw [← hq]
 clear e hd hl hq
 cases nn <;> cases bd <;> cases pl <;> cases mi <;> cases am <;> cases d <;> cases l <;> cases q <;> rfl
theorem accok_spec (fm : Int) (ng : Bool) (T : Int) (nn bd pl mi am : Bool) (p : Option Addr) (cap : Nat) (zs : List Int) (w : World) (hs : Sl .u32 w (.slice p zs.length cap) zs) (hl : zs.length ≤ 1048576) :
  Calls Tryz.prog 48 #[.agg #[.int .i64 fm, .bool ng, .slice p zs.length cap, .int .i64 T, .bool nn, .bool bd, .bool pl, .bool mi, .bool am]] w fun e w' => e = .returned (.bool (accB fm ng zs T nn bd pl mi am)) ∧ Below w.heap.size w w' := by
 have hl' : zs.length ≤ 140737488355328 := by omega
 have C1 := hid (fun w' => fmt_spec fm w')
 have C2 := hid (fun w' h => ok_spec ng p cap zs w' h hl')
 have C3 := hid (fun w' => in_any T 0 1000000 w')
 cases h1 : fmtB fm
 ·rw [h1] at C1
  have HA := hid (acc_nf (ng := ng) (zs := zs) (T := T) (nn := nn) (bd := bd) (pl := pl) (mi := mi) (am := am) h1)
  clear h1
  go_enter Tryz.func48, Tryz.ntmps48
  go_wp2_with fail
  refine (C1.out _).mono ?_
  rintro e w1 ⟨rfl, rfl⟩
  go_wp2
  go_ret
  exact ⟨ret_bool HA.out.symm, (by repeat (first | exact bz0 _ _ | refine bz1 ?_ | refine bz2 ?_ _ | refine bz3 ?_ _ | refine bz5 ?_ _ | refine bz6 ?_ _))⟩
 rw [h1] at C1
 cases h2 : okB ng zs
 ·rw [h2] at C2
  have HA := hid (acc_no (fm := fm) (T := T) (nn := nn) (bd := bd) (pl := pl) (mi := mi) (am := am) h2)
  clear h1 h2
  go_enter Tryz.func48, Tryz.ntmps48
  go_wp2_with fail
  refine (C1.out _).mono ?_
  rintro e w1 ⟨rfl, rfl⟩
  go_wp2_with fail
  refine (C2.out _ (hs.alloc _)).mono ?_
  rintro e w2 ⟨rfl, hb2⟩
  go_wp2
  go_ret
  exact ⟨ret_bool HA.out.symm, (by repeat (first | exact bz0 _ _ | refine bz1 ?_ | refine bz2 ?_ _ | refine bz3 ?_ _ | refine bz4 ?_ hb2 | refine bz5 ?_ _ | refine bz6 ?_ _ | refine bz7 ?_ hb2))⟩
 rw [h2] at C2
 cases h3 : inZ T 0 1000000
 ·rw [h3] at C3
  have HA := hid (acc_nt (fm := fm) (ng := ng) (zs := zs) (nn := nn) (bd := bd) (pl := pl) (mi := mi) (am := am) h3)
  clear h1 h2 h3
  go_enter Tryz.func48, Tryz.ntmps48
  go_wp2_with fail
  refine (C1.out _).mono ?_
  rintro e w1 ⟨rfl, rfl⟩
  go_wp2_with fail
  refine (C2.out _ (hs.alloc _)).mono ?_
  rintro e w2 ⟨rfl, hb2⟩
  have q2 := (Q9.new w (.int .i64 fm) (.bool ng) (.slice p zs.length cap) (.int .i64 T) (.bool nn) (.bool bd) (.bool pl) (.bool mi) (.bool am) 50).below hb2
  obtain ⟨c0, c1, c2, c3, c4, c5, c6, c7, c8⟩ := q2.cs
  go_wp2_with fail
  refine (C3.out _).mono ?_
  rintro e w3 ⟨rfl, rfl⟩
  go_wp2
  go_ret
  exact ⟨ret_bool HA.out.symm, (by repeat (first | exact bz0 _ _ | refine bz1 ?_ | refine bz2 ?_ _ | refine bz3 ?_ _ | refine bz4 ?_ hb2 | refine bz5 ?_ _ | refine bz6 ?_ _ | refine bz7 ?_ hb2))⟩
 rw [h3] at C3
 have HA := hid (acc_main (nn := nn) (bd := bd) (pl := pl) (mi := mi) (am := am) h1 h2 h3)
 obtain ⟨t0, t1⟩ := inZ_yes h3
 have CO := hid (fun w' => wof_Ts T w' t0 t1)
 have CM := hid (fun a' c' w' h h' => mag_any p a' cap c' zs (Nm.lim (far fm T)) w' h h' hl' (by have := lim_len (x := far fm T) (k := 200) (by have := far_bl fm t1; omega); omega))
 have CW := hid (fun n hn a c w' h => sh_far T fm n a c w' h t1 hn)
 obtain ⟨L, hL⟩ : ∃ L, L = Nm.lim T.toNat := ⟨_, rfl⟩
 obtain ⟨F, hF⟩ : ∃ F, F = Nm.lim (far fm T) := ⟨_, rfl⟩
 obtain ⟨m, hM⟩ : ∃ m, m = cmpL zs F := ⟨_, rfl⟩
 rw [← hF] at CM HA
 simp only [← hF, ← hL] at CW
 rw [← hL] at CO
 rw [← hM] at CM HA
 have hfm := fmt_cases h1
 clear hM hF hL h1 h2 h3
 obtain ⟨n, hn, CN⟩ : ∃ n : Int, (n = if fm = 32 then 554 else 4196) ∧ Hid (∀ w', Calls Tryz.prog 143 #[.int .i64 fm] w' fun e w'' => e = .returned (.int .i64 n) ∧ Below w'.heap.size w' w'') := by
  rcases hfm with rfl | rfl
  ·exact ⟨554, rfl, hid (fun w' => (most32 w').mono fun e w'' ⟨h, h'⟩ => ⟨h, h' ▸ Below.refl _ _⟩)⟩
  ·exact ⟨4196, rfl, hid (fun w' => (most64 w').mono fun e w'' ⟨h, h'⟩ => ⟨h, h' ▸ Below.refl _ _⟩)⟩
 have CW := hid (fun a c w' h => CW.out n hn a c w' h)
 clear hn hfm
 go_enter Tryz.func48, Tryz.ntmps48
 go_wp2_with fail
 refine (C1.out _).mono ?_
 rintro e w1 ⟨rfl, rfl⟩
 go_wp2_with fail
 refine (C2.out _ (hs.alloc _)).mono ?_
 rintro e w2 ⟨rfl, hb2⟩
 have q2 := (Q9.new w (.int .i64 fm) (.bool ng) (.slice p zs.length cap) (.int .i64 T) (.bool nn) (.bool bd) (.bool pl) (.bool mi) (.bool am) 50).below hb2
 have s2 := (hs.alloc _).below hb2
 have bel2 : Below w.heap.size w w2 := (by repeat (first | exact bz0 _ _ | refine bz1 ?_ | refine bz2 ?_ _ | refine bz3 ?_ _ | refine bz4 ?_ hb2 | refine bz5 ?_ _ | refine bz6 ?_ _ | refine bz7 ?_ hb2))
 clear hb2
 have q2' := q2
 obtain ⟨c0, c1, c2, c3, c4, c5, c6, c7, c8⟩ := q2'.cs
 go_wp2_with fail
 refine (C3.out _).mono ?_
 rintro e w3 ⟨rfl, rfl⟩
 clear c0 c1 c2 c3 c4 c5 c6 c7 c8
 go_upto_region 3 with fail
 go_cut [3] (fun v3 wx => ∃ (g : Nat) (a' : Option Addr) (c' : Nat), v3 = .pointer (some ⟨g, 0, none⟩) ∧ Box wx g (.bool false) (.slice a' F.length c') ∧ Sl .u32 wx (.slice a' F.length c') F ∧ Below w3.heap.size w3 wx)
 case first =>
  have k0 := q2.c0
  have k3 := q2.c3
  have lt0 := q2.lt
  go_region_held3 (fun w' => w'.cell? ⟨w.heap.size, 0, none⟩ = some (.int .i64 fm) ∧ w'.cell? ⟨w.heap.size, 3, none⟩ = some (.int .i64 T))
   (first
    | assumption
    | exact ⟨k0, k3⟩
    | exact two03 k0 k3 (bel_al (Below.drew (Below.refl _ _)) _)
    | exact two03 k0 k3 hB3
    | exact two03 k0 k3 hB2
    | exact two03 k0 k3 hB1
    | exact two03 k0 k3 (bel_al hB3 _)
    | exact two03 k0 k3 (bel_al hB2 _)
    | exact two03 k0 k3 (bel_al hB1 _)
    | (refine two03 k0 k3 ?_; refine Below.setCell (Below.setCell hB3 ?_ _) ?_ _ <;> (simp; try omega)))
   (first
    | (go_at_call 86; refine (CO.out _).mono ?_; rintro e q1 ⟨d1, f1, rfl, hp1, hq1⟩; have hB1 : Below w3.heap.size w3 q1 := (by first | exact bel_go (Below.drew (Below.refl _ _)) hq1 | exact bel_go (bel_al (Below.drew (Below.refl _ _)) _) hq1); have y1 := hB1.size; (first | (have rb1 : R2 q1 w3.heap.size (.bool false) (.slice none 0 0) := R2.below (R2.new w3.drew (.bool false) (.slice none 0 0) 32) hq1) | skip))
    | (go_at_call 143; refine (CN.out _).mono ?_; rintro e q2 ⟨rfl, hq2⟩; have hB12 : Below q1.heap.size q1 q2 := (by first | exact hq2 | exact bel_go (bel_al (Below.refl _ _) _) hq2); have hB2 : Below w3.heap.size w3 q2 := bel_go hB1 hB12; have y2 := hB12.size; (first | (have rb2 := R2.below rb1 hq2) | (have rb2 : R2 q2 q1.heap.size (.bool false) (.slice none 0 0) := R2.below (R2.new q1 (.bool false) (.slice none 0 0) 32) hq2) | skip))
    | (go_at_call 80; refine (CW.out d1 f1 _ (by first | exact (Own.below hp1 hB12).sl | exact Sl.alloc (Own.below hp1 hB12).sl _)).mono ?_; rintro e q3 ⟨d3, f3, rfl, hp3, hq3⟩; have hB23 : Below q2.heap.size q2 q3 := (by first | exact hq3 | exact bel_go (bel_al (Below.refl _ _) _) hq3); have hB3 : Below w3.heap.size w3 q3 := bel_go hB2 hB23; have y3 := hB23.size; (first | (have rb3 := R2.below rb2 hq3; obtain ⟨x0, x1, g0, g1⟩ := rb3) | (have rb3 : R2 q3 q2.heap.size (.bool false) (.slice none 0 0) := R2.below (R2.new q2 (.bool false) (.slice none 0 0) 32) hq3; obtain ⟨x0, x1, g0, g1⟩ := rb3) | skip)))
  all_goals (go_wp2_with fail; go_meet)
  ·exact ⟨q3.heap.size, d3, f3, rfl, Box.new q3 _ _ _, hp3.sl.alloc _, bel_al hB3 _⟩
  ·have hp4 : Own q3 (q2.heap.size + 1) d3 f3 F := (by simpa using hp3)
   have rs := R2.set ⟨x0, x1, g0, g1⟩ (.bool false) (.slice d3 F.length f3)
   exact ⟨q2.heap.size, d3, f3, rfl, ⟨rs.c0, rs.c1⟩, ((hp4.setBelow (by simp) _).setBelow (by simp) _).sl, (hB3.setCell (by simp; omega) _).setCell (by simp; omega) _⟩
  ·have rs := R2.set ⟨x0, x1, g0, g1⟩ (.bool false) (.slice d3 F.length f3)
   have hlt := World.block_lt_of_cell? q2 _ rb2.c0
   simp at hlt
   exact ⟨q1.heap.size, d3, f3, rfl, ⟨rs.c0, rs.c1⟩, ((hp3.setBelow (by simp; omega) _).setBelow (by simp; omega) _).sl, (hB3.setCell (by simp; omega) _).setCell (by simp; omega) _⟩
  ·have rs := R2.set ⟨x0, x1, g0, g1⟩ (.bool false) (.slice d3 F.length f3)
   have hlt := World.block_lt_of_cell? q1 _ rb1.c0
   simp at hlt
   exact ⟨w3.heap.size, d3, f3, rfl, ⟨rs.c0, rs.c1⟩, ((hp3.setBelow (by simp; omega) _).setBelow (by simp; omega) _).sl, (hB3.setCell (by simp) _).setCell (by simp) _⟩
 case rest =>
 rename World => w4
 obtain ⟨g, af, cf, rfl, ⟨e0, e1⟩, sf, hb4⟩ := hcut
 have s4 := s2.below hb4
 have bel4 := bel_go bel2 hb4
 have q4 := q2.below hb4
 clear q2 s2 bel2 hb4
 obtain ⟨fl, hfl⟩ : ∃ fl, fl = (nn || bd || pl || mi) := ⟨_, rfl⟩
 rw [← hfl] at HA
 go_upto_region 4 with fail
 go_cut [4] (fun v4 wx => v4 = .bool fl ∧ wx = w4)
 case first =>
  obtain ⟨c0, c1, c2, c3, c4, c5, c6, c7, c8⟩ := q4.cs
  cases nn with
  | true => go_wp2_with fail; go_meet; exact ⟨by rw [hfl]; rfl, rfl⟩
  | false =>
  cases bd with
  | true => go_wp2_with fail; go_meet; exact ⟨by rw [hfl]; rfl, rfl⟩
  | false =>
  cases pl <;> (go_wp2_with fail; go_meet; exact ⟨by rw [hfl]; rfl, rfl⟩)
 case rest =>
 obtain ⟨rfl, rfl⟩ := hcut
 clear hfl
 have q4' := q4
 obtain ⟨c0, c1, c2, c3, c4, c5, c6, c7, c8⟩ := q4'.cs
 go_wp2_with fail
 refine (CM.out af cf _ s4 sf).mono ?_
 rintro e w5 ⟨rfl, hb5⟩
 clear c0 c1 c2 c3 c4 c5 c6 c7 c8
 have q5 := q4.below hb5
 obtain ⟨c0, c1, c2, c3, c4, c5, c6, c7, c8⟩ := q5.cs
 have bel5 := bel_go bel4 hb5
 clear q4 s4 sf e0 e1 hb5 bel4
 by_cases hm0 : 0 < m
 ·have HA : Hid (accB fm ng zs T nn bd pl mi am = false) := hid (by rw [HA.out, decide_eq_true hm0]; rfl)
  go_wp2
  go_ret
  exact ⟨ret_bool HA.out.symm, (by repeat (first | exact bz0 _ _ | refine bz1 ?_ | refine bz2 ?_ _ | refine bz3 ?_ _ | refine bz4 ?_ bel5 | refine bz5 ?_ _ | refine bz6 ?_ _ | refine bz7 ?_ bel5))⟩
 have HA : Hid (accB fm ng zs T nn bd pl mi am = (!(bd && !nn || (fl || am) && decide (T = 0)) && (!am || !fl && decide (zs.length = 0)))) := hid (by rw [HA.out, decide_eq_false hm0]; rfl)
 clear C1 C2 C3 CO CM CW CN
 cases bd with
 | true =>
  cases nn with
  | false => go_wp2; go_ret; exact ⟨ret_bool HA.out.symm, (by repeat (first | exact bz0 _ _ | refine bz1 ?_ | refine bz2 ?_ _ | refine bz3 ?_ _ | refine bz4 ?_ bel5 | refine bz5 ?_ _ | refine bz6 ?_ _ | refine bz7 ?_ bel5))⟩
  | true =>
   have HA : Hid (accB fm ng zs T true true pl mi am = (!((fl || am) && decide (T = 0)) && (!am || !fl && decide (zs.length = 0)))) := HA
   by_cases ht : T = 0
   ·have hb0 : (T == 0) = true := by rw [beq_iff_eq]; exact ht
    rw [decide_eq_true ht] at HA
    clear ht
    cases fl with
    | true => go_wp2; go_ret; exact ⟨ret_bool HA.out.symm, (by repeat (first | exact bz0 _ _ | refine bz1 ?_ | refine bz2 ?_ _ | refine bz3 ?_ _ | refine bz4 ?_ bel5 | refine bz5 ?_ _ | refine bz6 ?_ _ | refine bz7 ?_ bel5))⟩
    | false =>
     cases am with
     | true => go_wp2; go_ret; exact ⟨ret_bool HA.out.symm, (by repeat (first | exact bz0 _ _ | refine bz1 ?_ | refine bz2 ?_ _ | refine bz3 ?_ _ | refine bz4 ?_ bel5 | refine bz5 ?_ _ | refine bz6 ?_ _ | refine bz7 ?_ bel5))⟩
     | false => go_wp2; go_ret; exact ⟨ret_bool HA.out.symm, (by repeat (first | exact bz0 _ _ | refine bz1 ?_ | refine bz2 ?_ _ | refine bz3 ?_ _ | refine bz4 ?_ bel5 | refine bz5 ?_ _ | refine bz6 ?_ _ | refine bz7 ?_ bel5))⟩
   ·have hb0 : (T == 0) = false := by rw [beq_eq_false_iff_ne]; exact ht
    rw [decide_eq_false ht] at HA
    clear ht
    cases am with
    | false => cases fl <;> (go_wp2; go_ret; exact ⟨ret_bool HA.out.symm, (by repeat (first | exact bz0 _ _ | refine bz1 ?_ | refine bz2 ?_ _ | refine bz3 ?_ _ | refine bz4 ?_ bel5 | refine bz5 ?_ _ | refine bz6 ?_ _ | refine bz7 ?_ bel5))⟩)
    | true =>
     cases fl with
     | true => go_wp2; go_ret; exact ⟨ret_bool HA.out.symm, (by repeat (first | exact bz0 _ _ | refine bz1 ?_ | refine bz2 ?_ _ | refine bz3 ?_ _ | refine bz4 ?_ bel5 | refine bz5 ?_ _ | refine bz6 ?_ _ | refine bz7 ?_ bel5))⟩
     | false =>
      by_cases hz0 : zs.length = 0
      ·have hb1 : ((zs.length : Int) == 0) = true := by rw [beq_iff_eq]; omega
       rw [decide_eq_true hz0] at HA
       clear hz0
       go_wp2; go_ret; exact ⟨ret_bool HA.out.symm, (by repeat (first | exact bz0 _ _ | refine bz1 ?_ | refine bz2 ?_ _ | refine bz3 ?_ _ | refine bz4 ?_ bel5 | refine bz5 ?_ _ | refine bz6 ?_ _ | refine bz7 ?_ bel5))⟩
      ·have hb1 : ((zs.length : Int) == 0) = false := by rw [beq_eq_false_iff_ne]; omega
       rw [decide_eq_false hz0] at HA
       clear hz0
       go_wp2; go_ret; exact ⟨ret_bool HA.out.symm, (by repeat (first | exact bz0 _ _ | refine bz1 ?_ | refine bz2 ?_ _ | refine bz3 ?_ _ | refine bz4 ?_ bel5 | refine bz5 ?_ _ | refine bz6 ?_ _ | refine bz7 ?_ bel5))⟩
 | false =>
  have HA : Hid (accB fm ng zs T nn false pl mi am = (!((fl || am) && decide (T = 0)) && (!am || !fl && decide (zs.length = 0)))) := HA
  by_cases ht : T = 0
  ·have hb0 : (T == 0) = true := by rw [beq_iff_eq]; exact ht
   rw [decide_eq_true ht] at HA
   clear ht
   cases fl with
   | true => go_wp2; go_ret; exact ⟨ret_bool HA.out.symm, (by repeat (first | exact bz0 _ _ | refine bz1 ?_ | refine bz2 ?_ _ | refine bz3 ?_ _ | refine bz4 ?_ bel5 | refine bz5 ?_ _ | refine bz6 ?_ _ | refine bz7 ?_ bel5))⟩
   | false =>
    cases am with
    | true => go_wp2; go_ret; exact ⟨ret_bool HA.out.symm, (by repeat (first | exact bz0 _ _ | refine bz1 ?_ | refine bz2 ?_ _ | refine bz3 ?_ _ | refine bz4 ?_ bel5 | refine bz5 ?_ _ | refine bz6 ?_ _ | refine bz7 ?_ bel5))⟩
    | false => go_wp2; go_ret; exact ⟨ret_bool HA.out.symm, (by repeat (first | exact bz0 _ _ | refine bz1 ?_ | refine bz2 ?_ _ | refine bz3 ?_ _ | refine bz4 ?_ bel5 | refine bz5 ?_ _ | refine bz6 ?_ _ | refine bz7 ?_ bel5))⟩
  ·have hb0 : (T == 0) = false := by rw [beq_eq_false_iff_ne]; exact ht
   rw [decide_eq_false ht] at HA
   clear ht
   cases am with
   | false => cases fl <;> (go_wp2; go_ret; exact ⟨ret_bool HA.out.symm, (by repeat (first | exact bz0 _ _ | refine bz1 ?_ | refine bz2 ?_ _ | refine bz3 ?_ _ | refine bz4 ?_ bel5 | refine bz5 ?_ _ | refine bz6 ?_ _ | refine bz7 ?_ bel5))⟩)
   | true =>
    cases fl with
    | true => go_wp2; go_ret; exact ⟨ret_bool HA.out.symm, (by repeat (first | exact bz0 _ _ | refine bz1 ?_ | refine bz2 ?_ _ | refine bz3 ?_ _ | refine bz4 ?_ bel5 | refine bz5 ?_ _ | refine bz6 ?_ _ | refine bz7 ?_ bel5))⟩
    | false =>
     by_cases hz0 : zs.length = 0
     ·have hb1 : ((zs.length : Int) == 0) = true := by rw [beq_iff_eq]; omega
      rw [decide_eq_true hz0] at HA
      clear hz0
      go_wp2; go_ret; exact ⟨ret_bool HA.out.symm, (by repeat (first | exact bz0 _ _ | refine bz1 ?_ | refine bz2 ?_ _ | refine bz3 ?_ _ | refine bz4 ?_ bel5 | refine bz5 ?_ _ | refine bz6 ?_ _ | refine bz7 ?_ bel5))⟩
     ·have hb1 : ((zs.length : Int) == 0) = false := by rw [beq_eq_false_iff_ne]; omega
      rw [decide_eq_false hz0] at HA
      clear hz0
      go_wp2; go_ret; exact ⟨ret_bool HA.out.symm, (by repeat (first | exact bz0 _ _ | refine bz1 ?_ | refine bz2 ?_ _ | refine bz3 ?_ _ | refine bz4 ?_ bel5 | refine bz5 ?_ _ | refine bz6 ?_ _ | refine bz7 ?_ bel5))⟩
end Go.Proofs.YtkfjmcdniohljaaGreatDoor
