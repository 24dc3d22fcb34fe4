/-
  What is needed of RD.
-/
import Derived.Test.YtkfjmcdniohljaaGreatDoorF20
set_option maxHeartbeats 16000000
set_option maxRecDepth 1000000
namespace Go.Proofs.YtkfjmcdniohljaaGreatDoor
set_option linter.unusedVariables false
set_option linter.unusedSimpArgs false
open Go.RowKit Go.Deep
def rdU (P : Nat) (q : Int) (mode : Int) (ng : Bool) (a : Nat) (e : Int) : Nat := Nm.rU P q a e (upB mode (((Nm.rm P q a e : Nat) : Int) % 2 == 1) (Nm.rh P q a e) ng)
def rdB (P : Nat) (q : Int) (I : Nat) (S : Int) (mode : Int) (ng : Bool) (a : Nat) (e : Int) : Int :=
 if Nm.flo P I (rdU P q mode ng a e) then sgn S (Nm.flb P (rdU P q mode ng a e) : Nat) ng else if ovB mode ng then sgn S ((I : Int) - 1) ng else sgn S I ng
def rdF (P : Nat) (q : Int) (I : Nat) (mode : Int) (ng : Bool) (a : Nat) (e : Int) : Int :=
 if Nm.flo P I (rdU P q mode ng a e) then (if Nm.rr P q a e = 0 then 0 else if (bitLen a : Int) + e ≤ (P : Int) - 1 + q then 3 else 1) else 5
def WB (w : World) (b : Nat) (a : Option Addr) (c : Nat) (x : Nat) : Prop := R2 w b (.bool false) (.slice a (Nm.lim x).length c) ∧ Sl .u32 w (.slice a (Nm.lim x).length c) (Nm.lim x)
theorem WB.below {w w' : World} {b : Nat} {a : Option Addr} {c x : Nat} (h : WB w b a c x) (hb : Below w.heap.size w w') : WB w' b a c x := ⟨h.1.below hb, h.2.below hb⟩
theorem WB.new {w : World} {a : Option Addr} {c x : Nat} (h : Sl .u32 w (.slice a (Nm.lim x).length c) (Nm.lim x)) (t : TypeId) : WB (w.alloc (.cells #[.bool false, .slice a (Nm.lim x).length c] t)) w.heap.size a c x := ⟨R2.new w _ _ t, h.alloc _⟩
theorem WB.alloc {w : World} {b : Nat} {a : Option Addr} {c x : Nat} (h : WB w b a c x) (o : Obj) : WB (w.alloc o) b a c x := ⟨h.1.alloc o, h.2.alloc o⟩
theorem WB.drew {w : World} {b : Nat} {a : Option Addr} {c x : Nat} (h : WB w b a c x) : WB w.drew b a c x := ⟨h.1.drew, h.2.drew⟩
theorem WB.lt {w : World} {b : Nat} {a : Option Addr} {c x : Nat} (h : WB w b a c x) : b < w.heap.size := World.block_lt_of_cell? w _ h.1.c0
theorem Box.lt {w : World} {b : Nat} {v0 v1 : Value} (h : Box w b v0 v1) : b < w.heap.size := World.block_lt_of_cell? w _ h.1
theorem R2.box {w : World} {b : Nat} {v0 v1 : Value} (h : R2 w b v0 v1) : Box w b v0 v1 := ⟨h.c0, h.c1⟩
theorem four_b {W W' : World} {b b' : Nat} {v0 v1 u0 u1 : Value} (h0 : W.cell? ⟨b, 0, none⟩ = some v0) (h1 : W.cell? ⟨b, 1, none⟩ = some v1) (k0 : W.cell? ⟨b', 0, none⟩ = some u0) (k1 : W.cell? ⟨b', 1, none⟩ = some u1) (hb : Below W.heap.size W W') :
  W'.cell? ⟨b, 0, none⟩ = some v0 ∧ W'.cell? ⟨b, 1, none⟩ = some v1 ∧ W'.cell? ⟨b', 0, none⟩ = some u0 ∧ W'.cell? ⟨b', 1, none⟩ = some u1 := ⟨(Box.below ⟨h0, h1⟩ hb).1, (Box.below ⟨h0, h1⟩ hb).2, (Box.below ⟨k0, k1⟩ hb).1, (Box.below ⟨k0, k1⟩ hb).2⟩
attribute [local go_sem ↓] Go.wp_at_zero Go.wp_at_succ
theorem ret_ui {a a' b b' : Int} (h : a = a') (k : b = b') : Ending.returned (.tuple #[.int .u64 a, .int .i64 b]) = .returned (.tuple #[.int .u64 a', .int .i64 b']) := by rw [h, k]
theorem Nm.bl_sh (x : Nat) (n : Int) : bitLen (Nm.sh x n) ≤ bitLen x + n.toNat := by
 unfold Nm.sh
 split
 ·have := Nm.bl_mono (Nat.div_le_self x (2 ^ (-n).toNat)); omega
 ·by_cases h : x = 0
  ·subst h; simp [Nm.bl_zero]
  ·rw [Nm.bl_mul h]; omega
theorem l3r_32 (mode : Int) (ng : Bool) (a : Nat) (e : Int) (p : Option Addr) (c : Nat) (w : World) (hs : Sl .u32 w (.slice p (Nm.lim a).length c) (Nm.lim a)) (hmode : modeB mode = true) (ha : a ≠ 0) (hl : bitLen a ≤ 20000) (h0 : -20000 ≤ e) (h1 : e ≤ 20000) :
  Calls Tryz.prog 209 #[.int .i64 32, .int .i64 mode, .agg #[.bool ng, .slice p (Nm.lim a).length c], .int .i64 e] w fun x w' => x = .returned (.tuple #[.int .u64 (rdB 24 (-149) 2139095040 2147483648 mode ng a e), .int .i64 (rdF 24 (-149) 2139095040 mode ng a e)]) ∧ Below w.heap.size w w' := by
 obtain ⟨lo, hlo⟩ : ∃ lo, lo = min e (-149) := ⟨_, rfl⟩
 have lo0 : -20000 ≤ lo := by omega
 have lo1 : lo ≤ (-149) := by omega
 have lo2 : lo ≤ e := by omega
 obtain ⟨X, hX⟩ : ∃ X, X = Nm.sh a (e - lo) := ⟨_, rfl⟩
 have hXb : bitLen X ≤ 60020 := by rw [hX, hlo, (Nm.spec_x ha).1]; omega
 obtain ⟨C, hC⟩ : ∃ C : Int, C = max ((bitLen X : Int) - 24) ((-149) - lo) := ⟨_, rfl⟩
 have C0 : 0 ≤ C := by omega
 have C1 : C ≤ 70000 := by omega
 have C2 : (-149) - lo ≤ C := by omega
 obtain ⟨M, hM⟩ : ∃ M, M = Nm.sh X (-C) := ⟨_, rfl⟩
 obtain ⟨Bk, hBk⟩ : ∃ Bk, Bk = Nm.sh M C := ⟨_, rfl⟩
 obtain ⟨R, hR⟩ : ∃ R, R = X - Bk := ⟨_, rfl⟩
 have hCr : C = Nm.rn 24 (-149) a e + (e - lo) := by rw [hC, hX, hlo]; exact Nm.spec_cut ha 24 e (-149)
 have hMr : M = Nm.rm 24 (-149) a e := by rw [hM, hX, hCr, hlo]; exact Nm.spec_m ha 24 e (-149)
 have hback := Nm.spec_back ha 24 e (-149)
 rw [← hlo, ← hX, ← hCr, ← hMr, ← hBk, ← hR] at hback
 have hRB : R + Bk = X := by omega
 have hMlt : M < 16777216 := by have := Nm.rm_lt (P := 24) (q := (-149)) (a := a) (e := e); rw [← hMr] at this; omega
 have hR0 : R = 0 ↔ Nm.rr 24 (-149) a e = 0 := by
  have hp := Nm.pw_pos2 (e - lo).toNat
  rw [hback.2]
  constructor
  ·intro h; exact (Nat.mul_eq_zero.1 h).resolve_right (by omega)
  ·intro h; rw [h]; simp
 have hbu : ((bitLen X : Nat) : Int) = bitLen a + (e - lo) := by rw [hX, hlo, (Nm.spec_x ha).1]; omega
 have hHf : Nm.rr 24 (-149) a e ≠ 0 → Nm.cmp2 (Nm.sh R 1) (Nm.sh 1 C) = Nm.rh 24 (-149) a e := fun hr => by
  have := Nm.spec_half ha hr
  rw [← hlo, ← hCr, ← hback.2] at this; exact this
 obtain ⟨U, hU⟩ : ∃ U, U = rdU 24 (-149) mode ng a e := ⟨_, rfl⟩
 obtain ⟨ok, hok⟩ : ∃ ok, ok = Nm.flo 24 2139095040 U := ⟨_, rfl⟩
 obtain ⟨ov, hov⟩ : ∃ ov : Int, ov = (if ovB mode ng then sgn 2147483648 2139095039 ng else sgn 2147483648 2139095040 ng) := ⟨_, rfl⟩
 have HOV := hid hov
 have HFB : Hid (ok = true → Nm.flb 24 U < 2139095040) := hid (fun h => by rw [hok] at h; unfold Nm.flo at h; simp at h; exact h.2)
 have HD0 : Hid (ok = false → rdB 24 (-149) 2139095040 2147483648 mode ng a e = ov ∧ rdF 24 (-149) 2139095040 mode ng a e = 5) := hid (fun h => by
  unfold rdB rdF; rw [← hU, ← hok, h, hov]; exact ⟨rfl, rfl⟩)
 have HD1 : Hid (ok = true → rdB 24 (-149) 2139095040 2147483648 mode ng a e = sgn 2147483648 (Nm.flb 24 U : Nat) ng ∧ rdF 24 (-149) 2139095040 mode ng a e = if Nm.rr 24 (-149) a e = 0 then 0 else if (bitLen a : Int) + e ≤ (24 : Int) - 1 + (-149) then 3 else 1) := hid (fun h => by
  unfold rdB rdF; rw [← hU, ← hok, h]; exact ⟨rfl, rfl⟩)
 have HUU := hid hU; have HOK := hid hok
 clear hU hok hov
 have HLO := hid hlo; have HX := hid hX; have HC := hid hC; have HXB := hid hXb; have HL := hid hl; have HM := hid hM; have HBk := hid hBk; have HRB := hid hRB
 have HCR := hid hCr; have HMR := hid hMr; have HMLT := hid hMlt; have HR0 := hid hR0; have HBU := hid hbu; have HHF := hid hHf
 have HA := hid ha; have HBK := hid hback
 clear hlo hX hC hXb hl hM hBk hRB hCr hMr hMlt hR0 hbu hHf ha hback hR
 go_enter Tryz.func209, Tryz.ntmps209
 go_wp2_with fail
 refine (sQ_32 _).mono ?_
 rintro x w1 ⟨rfl, rfl⟩
 go_upto_region 3 with fail
 go_cut [12] (fun s wx => s = .int .i64 lo ∧ wx = ((w.alloc (.cells #[.bool ng, .slice p (Nm.lim a).length c] 32)).alloc (.cells #[.bool false, .slice p (Nm.lim a).length c] 32)))
 case first =>
  by_cases hc : e < (-149)
  all_goals go_wp2_with fail
  all_goals go_meet
  all_goals exact ⟨by rw [HLO.out]; congr 1; omega, rfl⟩
 case rest =>
 obtain ⟨rfl, rfl⟩ := hcut
 go_wp2_with fail
 have hsh := shift_n a (e - lo) p c _ ((hs.alloc (.cells #[.bool ng, .slice p (Nm.lim a).length c] 32)).alloc (.cells #[.bool false, .slice p (Nm.lim a).length c] 32)) (by have := HL.out; omega) (by omega) (by omega)
 rw [← HX.out] at hsh
 refine hsh.mono ?_
 clear hsh
 rintro x w2 ⟨a2, c2, rfl, o2, hb2⟩
 have g2 := (((Box.new w (.bool ng) (.slice p (Nm.lim a).length c) 32).alloc (.cells #[.bool false, .slice p (Nm.lim a).length c] 32)).below hb2).alloc (.cells #[.bool false, .slice a2 (Nm.lim X).length c2] 32)
 have X2 := WB.new o2.sl 32
 have bel2 : Below w.heap.size w (w2.alloc (.cells #[.bool false, .slice a2 (Nm.lim X).length c2] 32)) := (by repeat (first | exact bz0 _ _ | refine bz1 ?_ | refine bz2 ?_ _ | refine bz3 ?_ _ | refine bz4 ?_ hb2 | refine bz5 ?_ _ | refine bz6 ?_ _ | refine bz7 ?_ hb2))
 clear hb2 o2
 go_upto_region 5 with fail
 go_cut [14] (fun s wx => s = .int .i64 C ∧ Below (w2.alloc (.cells #[.bool false, .slice a2 (Nm.lim X).length c2] 32)).heap.size (w2.alloc (.cells #[.bool false, .slice a2 (Nm.lim X).length c2] 32)) wx)
 case first =>
  have hxs := X2.2
  obtain ⟨x20, x21, x22, x23⟩ := X2.1
  have hbits := fun w' h => bits_n X false a2 c2 w' h (by have := HXB.out; omega)
  obtain ⟨B, hB⟩ : ∃ B : Int, B = ((bitLen X : Nat) : Int) := ⟨_, rfl⟩
  have B0 : 0 ≤ B := by omega
  have B1 : B ≤ 60020 := by have := HXB.out; omega
  rw [← hB] at hbits
  have HB := hid hB
  have hcc : C = max (B - 24) ((-149) - lo) := by rw [HC.out, ← HB.out]
  have HCC := hid hcc
  clear hcc hB
  by_cases hcx : B - 24 < (-149) - lo
  all_goals
   go_wp2_with fail
   refine (hbits _ hxs).mono ?_
   rintro x w3 ⟨rfl, hb3⟩
   go_wp2_with fail
   refine (sP_32 _).mono ?_
   rintro x w4 ⟨rfl, rfl⟩
   go_wp2_with fail
  all_goals go_meet
  all_goals exact ⟨by rw [HCC.out]; congr 1; omega, hb3⟩
 case rest =>
 obtain ⟨rfl, hb3⟩ := hcut
 have g3 := g2.below hb3
 have X3 := X2.below hb3
 have bel3 := bel_go bel2 hb3
 clear g2 X2 bel2 hb3
 obtain ⟨x30, x31, x32, x33⟩ := X3.1
 go_wp2_with fail
 have hsh := shift_n X (-C) a2 c2 _ X3.2 (by have := HXB.out; omega) (by omega) (by omega)
 rw [← HM.out] at hsh
 refine hsh.mono ?_
 clear hsh
 rintro x w4 ⟨a4, c4, rfl, o4, hb4⟩
 have g4 := g3.below hb4
 have X4 := X3.below hb4
 have bel4 := bel_go bel3 hb4
 clear g3 X3 bel3 hb4 x30 x31 x32 x33
 have M5 := WB.new o4.sl 32
 have g5 := g4.alloc (.cells #[.bool false, .slice a4 (Nm.lim M).length c4] 32)
 have X5 := X4.alloc (.cells #[.bool false, .slice a4 (Nm.lim M).length c4] 32)
 have bel5 := bel_al bel4 (.cells #[.bool false, .slice a4 (Nm.lim M).length c4] 32)
 have l4 := g4.lt
 have l4x := X4.lt
 clear o4
 obtain ⟨m50, m51, m52, m53⟩ := M5.1
 go_wp2_with fail
 have hsh := shift_n M C a4 c4 _ M5.2 (by have := (Nm.bl_le_iff M 60).2 (by have := HMLT.out; omega); omega) (by omega) (by omega)
 rw [← HBk.out] at hsh
 refine hsh.mono ?_
 clear hsh
 rintro x w6 ⟨a6, c6, rfl, o6, hb6⟩
 have B7 := WB.new o6.sl 32
 have g7 := (g5.below hb6).alloc (.cells #[.bool false, .slice a6 (Nm.lim Bk).length c6] 32)
 have X7 := (X5.below hb6).alloc (.cells #[.bool false, .slice a6 (Nm.lim Bk).length c6] 32)
 have M7 := (M5.below hb6).alloc (.cells #[.bool false, .slice a6 (Nm.lim Bk).length c6] 32)
 have bel7 := bel_al (bel_go bel5 hb6) (.cells #[.bool false, .slice a6 (Nm.lim Bk).length c6] 32)
 have bl7 : Below w4.heap.size w4 (w6.alloc (.cells #[.bool false, .slice a6 (Nm.lim Bk).length c6] 32)) := (by repeat (first | exact bz0 _ _ | refine bz1 ?_ | refine bz2 ?_ _ | refine bz3 ?_ _ | refine bz4 ?_ hb6 | refine bz5 ?_ _ | refine bz6 ?_ _ | refine bz7 ?_ hb6))
 clear m50 m51 m52 m53 g5 X5 M5 bel5 hb6 o6
 go_upto_region 8 with fail
 obtain ⟨W, hW⟩ : ∃ W, W = w6.alloc (.cells #[.bool false, .slice a6 (Nm.lim Bk).length c6] 32) := ⟨_, rfl⟩
 have lM7 := M7.lt
 have lX7 := X7.lt
 have lB7 := B7.lt
 rw [← hW] at B7 g7 X7 M7 bel7 bl7 lM7 lX7 lB7 ⊢
 clear hW
 go_cut [17] (fun s wx => ∃ g ar cr, s = .pointer (some ⟨g, 0, none⟩) ∧ Box wx g (.bool false) (.slice ar (Nm.lim R).length cr) ∧ Sl .u32 wx (.slice ar (Nm.lim R).length cr) (Nm.lim R) ∧ Below W.heap.size W wx)
 case first =>
  have xs := X7.2
  have bs := B7.2
  have X7' := X7.1.box
  have B7' := B7.1.box
  obtain ⟨x70, x71⟩ := X7'
  obtain ⟨b70, b71⟩ := B7'
  have hbb : bitLen Bk ≤ 60020 := by have := Nm.bl_mono (show Bk ≤ X by have := HRB.out; omega); have := HXB.out; omega
  have HNG := hid (fun w' h => neg_n Bk a6 c6 w' h (by omega))
  have HAD := hid (fun a1 c1 w' h h' => add_n X Bk R _ rfl HRB.out a2 a1 c2 c1 w' h h' (by have := HXB.out; omega))
  clear hbb
  go_region_held3 (fun w' => w'.cell? ⟨w2.heap.size, 0, none⟩ = some (.bool false) ∧ w'.cell? ⟨w2.heap.size, 1, none⟩ = some (.slice a2 (Nm.lim X).length c2) ∧ w'.cell? ⟨w6.heap.size, 0, none⟩ = some (.bool false) ∧ w'.cell? ⟨w6.heap.size, 1, none⟩ = some (.slice a6 (Nm.lim Bk).length c6))
   (first
    | assumption
    | exact ⟨x70, x71, b70, b71⟩
    | exact four_b x70 x71 b70 b71 (bel_al (Below.drew (Below.refl _ _)) _)
    | exact four_b x70 x71 b70 b71 hB2
    | exact four_b x70 x71 b70 b71 hB1
    | exact four_b x70 x71 b70 b71 (bel_al hB2 _)
    | exact four_b x70 x71 b70 b71 (bel_al hB1 _)
    | (refine four_b x70 x71 b70 b71 ?_; refine Below.setCell (Below.setCell hB2 ?_ _) ?_ _ <;> (simp; try omega)))
   (first
    | (go_at_call 82; refine (HNG.out _ (by first | exact bs.drew | exact Sl.alloc bs.drew _)).mono ?_; rintro x q1 ⟨d1, f1, rfl, hp1, hq1⟩; have hB1 : Below W.heap.size W q1 := (by first | exact bel_go (Below.drew (Below.refl _ _)) hq1 | exact bel_go (bel_al (Below.drew (Below.refl _ _)) _) hq1); have z1 := hB1.size; (first | (have rb1 : R2 q1 W.heap.size (.bool false) (.slice none 0 0) := R2.below (R2.new W.drew (.bool false) (.slice none 0 0) 32) hq1) | skip))
    | (go_at_call 81; refine (HAD.out d1 f1 _ (by first | exact Sl.below xs hB1 | exact Sl.alloc (Sl.below xs hB1) _) (by first | exact hp1.sl | exact Sl.alloc hp1.sl _)).mono ?_; rintro x q2 ⟨d2, f2, rfl, hp2, hq2⟩; have hB12 : Below q1.heap.size q1 q2 := (by first | exact hq2 | exact bel_go (bel_al (Below.refl _ _) _) hq2); have hB2 : Below W.heap.size W q2 := bel_go hB1 hB12; have z2 := hB12.size; (first | (have rb2 := R2.below rb1 hq2; obtain ⟨k0, k1, g0, g1⟩ := rb2) | (have rb2 : R2 q2 q1.heap.size (.bool false) (.slice none 0 0) := R2.below (R2.new q1 (.bool false) (.slice none 0 0) 32) hq2; obtain ⟨k0, k1, g0, g1⟩ := rb2) | skip)))
  all_goals (go_wp2_with fail; go_meet)
  ·exact ⟨q2.heap.size, d2, f2, rfl, Box.new q2 _ _ _, hp2.sl.alloc _, bel_al hB2 _⟩
  ·have hp3 : Own q2 (q1.heap.size + 1) d2 f2 (Nm.lim R) := (by simpa using hp2)
   have rs := R2.set ⟨k0, k1, g0, g1⟩ (.bool false) (.slice d2 (Nm.lim R).length f2)
   exact ⟨q1.heap.size, d2, f2, rfl, rs.box, ((hp3.setBelow (by simp) _).setBelow (by simp) _).sl, (hB2.setCell (by simp; omega) _).setCell (by simp; omega) _⟩
  ·have rs := R2.set ⟨k0, k1, g0, g1⟩ (.bool false) (.slice d2 (Nm.lim R).length f2)
   have hlt := World.block_lt_of_cell? q1 _ rb1.c0
   simp at hlt
   exact ⟨W.heap.size, d2, f2, rfl, rs.box, ((hp2.setBelow (by simp; omega) _).setBelow (by simp; omega) _).sl, (hB2.setCell (by simp) _).setCell (by simp) _⟩
 case rest =>
 obtain ⟨g, ar, cr, rfl, hbox, hsr, hb8⟩ := hcut
 have g8 := g7.below hb8
 have X8 := X7.below hb8
 have M8 := M7.below hb8
 have bel8 := bel_go bel7 hb8
 have bl8 := bl7.trans (hb8.mono bl7.size)
 clear g7 X7 M7 B7 bel7 bl7 hb8
 obtain ⟨r80, r81⟩ := hbox
 by_cases hr : R = 0
 ·have hl0 : (Nm.lim R).length = 0 := by rw [hr]; rw [Nm.lim_zero]; rfl
  have HRR := hid (HR0.out.1 hr)
  clear hr
  have HU : Hid (Nm.sh (M) (C - ((-149) - lo)) = U) := hid (by rw [HUU.out]; unfold rdU Nm.rU Nm.r1; rw [if_neg (by rw [HRR.out]; simp), ← HMR.out]; unfold Nm.sh; rw [if_neg (by omega)]; congr 2; have := HCR.out; omega)
  obtain ⟨q0, q1, q2, q3⟩ := M8.1
  obtain ⟨n0, n1⟩ := g8
  go_wp2_with fail
  have hbM : bitLen (M) ≤ 60 := (Nm.bl_le_iff _ 60).2 (by have := HMLT.out; omega)
  have HBM := hid hbM
  clear hbM
  have hsh := shift_n (M) (C - ((-149) - lo)) a4 c4 _ M8.2 (by have := HBM.out; omega) (by omega) (by omega)
  rw [HU.out] at hsh
  refine hsh.mono ?_
  clear hsh
  rintro x wA ⟨aA, cA, rfl, oA, hbA⟩
  have gA := (Box.below ⟨n0, n1⟩ hbA).alloc (.cells #[.bool false, .slice aA (Nm.lim U).length cA] 32)
  have UA := WB.new oA.sl 32
  obtain ⟨u0, u1, u2, u3⟩ := UA.1
  obtain ⟨nA0, nA1⟩ := gA
  go_wp2_with fail
  have hlf := l2f_32 U aA cA _ UA.2 (by have h1 := Nm.bl_sh (M) (C - ((-149) - lo)); rw [HU.out] at h1; have := HBM.out; omega)
  rw [← HOK.out] at hlf
  refine hlf.mono ?_
  clear hlf
  rintro x wB ⟨⟨b, rfl, hbv⟩, hbB⟩
  obtain ⟨nB0, nB1⟩ := Box.below ⟨nA0, nA1⟩ hbB
  have HBV := hid hbv
  clear hbv
  cases ok with
  | false =>
   go_wp2_with fail
   have hovr := fun w' => l3over_32 mode ng w' hmode
   rw [← HOV.out] at hovr
   refine (hovr _).mono ?_
   clear hovr
   rintro x wC ⟨rfl, hbC⟩
   go_wp2
   go_ret2
   exact ⟨ret_ui (HD0.out (by first | rfl | trivial)).1.symm (HD0.out (by first | rfl | trivial)).2.symm, (by repeat (first | exact bz0 _ _ | refine bz1 ?_ | refine bz2 ?_ _ | refine bz3 ?_ _ | refine bz4 ?_ hbC | refine bz4 ?_ hbB | refine bz4 ?_ hbA | refine bz4 ?_ bel8 | refine bz5 ?_ _ | refine bz6 ?_ _ | refine bz7 ?_ hbC | refine bz7 ?_ hbB | refine bz7 ?_ hbA | refine bz7 ?_ bel8))⟩
  | true =>
   have hbb : b = (Nm.flb 24 U : Nat) := HBV.out (by first | rfl | trivial)
   have hb0 : 0 ≤ b ∧ b < 2147483648 := by have := HFB.out (by first | rfl | trivial); omega
   have HBB := hid hbb
   clear hbb
   go_wp2_with fail
   refine (with_32 b ng _ (fun _ => hb0)).mono ?_
   rintro x wC ⟨rfl, hbC⟩
   go_wp2
   go_ret2
   exact ⟨ret_ui (by rw [(HD1.out (by first | rfl | trivial)).1, HBB.out]) (by rw [(HD1.out (by first | rfl | trivial)).2]; rw [if_pos HRR.out]), (by repeat (first | exact bz0 _ _ | refine bz1 ?_ | refine bz2 ?_ _ | refine bz3 ?_ _ | refine bz4 ?_ hbC | refine bz4 ?_ hbB | refine bz4 ?_ hbA | refine bz4 ?_ bel8 | refine bz5 ?_ _ | refine bz6 ?_ _ | refine bz7 ?_ hbC | refine bz7 ?_ hbB | refine bz7 ?_ hbA | refine bz7 ?_ bel8))⟩
 ·have HRR : Hid (Nm.rr 24 (-149) a e ≠ 0) := hid (fun h => hr (HR0.out.2 h))
  have hl1 : 0 < ((Nm.lim R).length : Int) := by
   have : (Nm.lim R).length ≠ 0 := fun h => hr ((Nm.lim_length_zero R).1 h)
   omega
  clear hr
  have hxs := X8.2
  obtain ⟨x80, x81, x82, x83⟩ := X8.1
  have hbits := fun w' h => bits_n X false a2 c2 w' h (by have := HXB.out; omega)
  obtain ⟨B, hB⟩ : ∃ B : Int, B = ((bitLen X : Nat) : Int) := ⟨_, rfl⟩
  have B0 : 0 ≤ B := by omega
  have B1 : B ≤ 60020 := by have := HXB.out; omega
  rw [← hB] at hbits
  have HBL : Hid (B = bitLen a + (e - lo)) := hid (by rw [hB]; exact HBU.out)
  clear hB
  go_wp2_with fail
  refine (hbits _ hxs).mono ?_
  rintro x w12 ⟨rfl, hb12⟩
  clear hbits hxs
  go_wp2_with fail
  refine (sP_32 _).mono ?_
  rintro x w12' ⟨rfl, rfl⟩
  obtain ⟨r90, r91⟩ := Box.below ⟨r80, r81⟩ hb12
  clear r80 r81 x80 x81 x82 x83
  have hor : bits .or .i64 1 2 = 3 := by decide +kernel
  by_cases hu : B ≤ (-126) - lo
  ·go_wp2_with fail
   have hsh := shift_n R 1 ar cr _ (hsr.below hb12) (by have := Nm.bl_mono (show R ≤ X by have := HRB.out; omega); have := HXB.out; omega) (by omega) (by omega)
   refine hsh.mono ?_
   clear hsh
   rintro x w13 ⟨a13, c13, rfl, o13, hb13⟩
   go_wp2_with fail
   refine (one_n _).mono ?_
   rintro x w14 ⟨a14, c14, rfl, o14, hb14⟩
   go_wp2_with fail
   have hsh := shift_n 1 C a14 c14 _ o14.sl (by decide) (by omega) (by omega)
   refine hsh.mono ?_
   clear hsh
   rintro x w15 ⟨a15, c15, rfl, o15, hb15⟩
   go_wp2_with fail
   have hcm := cmp_n (Nm.sh R 1) (Nm.sh 1 C) a13 a15 c13 c15 _ ((o13.sl.below hb14).below hb15) o15.sl (by have h1 := Nm.bl_sh R 1; have := Nm.bl_mono (show R ≤ X by have := HRB.out; omega); have := HXB.out; omega) (by have h1 := Nm.bl_sh 1 C; have : bitLen 1 = 1 := rfl; omega)
   rw [HHF.out HRR.out] at hcm
   refine hcm.mono ?_
   clear hcm
   rintro x w16 ⟨rfl, hb16⟩
   have bC : Below w12'.heap.size w12' w16 := ((hb13.trans (hb14.mono hb13.size)).trans (hb15.mono (Nat.le_trans hb13.size hb14.size))).trans (hb16.mono (Nat.le_trans (Nat.le_trans hb13.size hb14.size) hb15.size))
   have gC := (Box.below g8 hb12).below bC
   have MC := (M8.below hb12).below bC
   have blC := (bl8.trans (hb12.mono bl8.size)).trans (bC.mono (Nat.le_trans bl8.size hb12.size))
   have belC := bel_go (bel_go bel8 hb12) bC
   clear hb13 hb14 hb15 hb16 bC o13 o14 o15 hsr
   obtain ⟨hf, hhf⟩ : ∃ hf, hf = Nm.rh 24 (-149) a e := ⟨_, rfl⟩
   rw [← hhf]
   obtain ⟨up, hup⟩ : ∃ up, up = upB mode (((M : Nat) : Int) % 2 == 1) hf ng := ⟨_, rfl⟩
   have HUP := hid hup; have HHH := hid hhf
   clear hup hhf
   go_upto_region 15 with fail
   go_cut [86] (fun s wx => s = .bool up ∧ Below w16.heap.size w16 wx)
   case first =>
    have HLW := hid (fun w' h => low_n M false a4 c4 w' h (by have := HMLT.out; omega))
    have mcs := MC.2
    obtain ⟨mc0, mc1, mc2, mc3⟩ := MC.1
    obtain ⟨nc0, nc1⟩ := gC
    go_region_held3 (fun w' => w'.cell? ⟨w4.heap.size, 0, none⟩ = some (.bool false) ∧ w'.cell? ⟨w4.heap.size, 1, none⟩ = some (.slice a4 (Nm.lim M).length c4) ∧ w'.cell? ⟨w.heap.size, 0, none⟩ = some (.bool ng) ∧ w'.cell? ⟨w.heap.size, 1, none⟩ = some (.slice p (Nm.lim a).length c))
     (first
      | assumption
      | exact ⟨mc0, mc1, nc0, nc1⟩
      | exact four_b mc0 mc1 nc0 nc1 hB1)
     (first
      | (go_at_call 84; refine (HLW.out _ mcs.drew).mono ?_; rintro x wD ⟨rfl, hbD⟩; have hB1 : Below w16.heap.size w16 wD := bel_go (Below.drew (Below.refl _ _)) hbD)
      | (go_at_call 83; refine (l3up_any mode _ hf ng _ hmode).mono ?_; rintro x wF ⟨rfl, rfl⟩))
    all_goals (go_wp2_with fail; go_meet)
    all_goals exact ⟨by rw [HUP.out]; rfl, hB1⟩
   case rest =>
   obtain ⟨rfl, hbE⟩ := hcut
   have gE := gC.below hbE
   have ME := MC.below hbE
   have blE := blC.trans (hbE.mono blC.size)
   have belE := bel_go belC hbE
   clear gC MC blC belC hbE
   cases up with
   | false =>
    have HUF : Hid (upB mode (((M : Nat) : Int) % 2 == 1) (Nm.rh 24 (-149) a e) ng = false) := hid (by rw [← HHH.out, ← HUP.out])
    have HU : Hid (Nm.sh (M) (C - ((-149) - lo)) = U) := hid (by rw [HUU.out]; unfold rdU; rw [← HMR.out, HUF.out]; unfold Nm.rU Nm.r1; rw [if_neg (by simp), ← HMR.out]; unfold Nm.sh; rw [if_neg (by omega)]; congr 2; have := HCR.out; omega)
    obtain ⟨q0, q1, q2, q3⟩ := ME.1
    obtain ⟨n0, n1⟩ := gE
    go_wp2_with fail
    have hbM : bitLen (M) ≤ 60 := (Nm.bl_le_iff _ 60).2 (by have := HMLT.out; omega)
    have HBM := hid hbM
    clear hbM
    have hsh := shift_n (M) (C - ((-149) - lo)) a4 c4 _ ME.2 (by have := HBM.out; omega) (by omega) (by omega)
    rw [HU.out] at hsh
    refine hsh.mono ?_
    clear hsh
    rintro x wA ⟨aA, cA, rfl, oA, hbA⟩
    have gA := (Box.below ⟨n0, n1⟩ hbA).alloc (.cells #[.bool false, .slice aA (Nm.lim U).length cA] 32)
    have UA := WB.new oA.sl 32
    obtain ⟨u0, u1, u2, u3⟩ := UA.1
    obtain ⟨nA0, nA1⟩ := gA
    go_wp2_with fail
    have hlf := l2f_32 U aA cA _ UA.2 (by have h1 := Nm.bl_sh (M) (C - ((-149) - lo)); rw [HU.out] at h1; have := HBM.out; omega)
    rw [← HOK.out] at hlf
    refine hlf.mono ?_
    clear hlf
    rintro x wB ⟨⟨b, rfl, hbv⟩, hbB⟩
    obtain ⟨nB0, nB1⟩ := Box.below ⟨nA0, nA1⟩ hbB
    have HBV := hid hbv
    clear hbv
    cases ok with
    | false =>
     go_wp2_with fail
     have hovr := fun w' => l3over_32 mode ng w' hmode
     rw [← HOV.out] at hovr
     refine (hovr _).mono ?_
     clear hovr
     rintro x wC ⟨rfl, hbC⟩
     go_wp2
     go_ret2
     exact ⟨ret_ui (HD0.out (by first | rfl | trivial)).1.symm (HD0.out (by first | rfl | trivial)).2.symm, (by repeat (first | exact bz0 _ _ | refine bz1 ?_ | refine bz2 ?_ _ | refine bz3 ?_ _ | refine bz4 ?_ hbC | refine bz4 ?_ hbB | refine bz4 ?_ hbA | refine bz4 ?_ belE | refine bz5 ?_ _ | refine bz6 ?_ _ | refine bz7 ?_ hbC | refine bz7 ?_ hbB | refine bz7 ?_ hbA | refine bz7 ?_ belE))⟩
    | true =>
     have hbb : b = (Nm.flb 24 U : Nat) := HBV.out (by first | rfl | trivial)
     have hb0 : 0 ≤ b ∧ b < 2147483648 := by have := HFB.out (by first | rfl | trivial); omega
     have HBB := hid hbb
     clear hbb
     go_wp2_with fail
     refine (with_32 b ng _ (fun _ => hb0)).mono ?_
     rintro x wC ⟨rfl, hbC⟩
     go_wp2
     go_ret2
     exact ⟨ret_ui (by rw [(HD1.out (by first | rfl | trivial)).1, HBB.out]) (by rw [(HD1.out (by first | rfl | trivial)).2]; rw [if_neg HRR.out, if_pos (by have := HBL.out; omega)]), (by repeat (first | exact bz0 _ _ | refine bz1 ?_ | refine bz2 ?_ _ | refine bz3 ?_ _ | refine bz4 ?_ hbC | refine bz4 ?_ hbB | refine bz4 ?_ hbA | refine bz4 ?_ belE | refine bz5 ?_ _ | refine bz6 ?_ _ | refine bz7 ?_ hbC | refine bz7 ?_ hbB | refine bz7 ?_ hbA | refine bz7 ?_ belE))⟩
   | true =>
    have HUF : Hid (upB mode (((M : Nat) : Int) % 2 == 1) (Nm.rh 24 (-149) a e) ng = true) := hid (by rw [← HHH.out, ← HUP.out])
    obtain ⟨m0, m1, mf0, mf1⟩ := ME.1
    go_upto_region 16 with fail
    go_cut [] (fun wx => ∃ an cn, WB wx w4.heap.size an cn (M + 1) ∧ Below w4.heap.size w4 wx)
    case first =>
     have mes := ME.2
     have HPL := hid (fun a1 c1 w' h h' => plus_n M 1 a4 a1 c4 c1 w' h h' (by have := (Nm.bl_le_iff M 60).2 (by have := HMLT.out; omega); omega) (by decide))
     have lM := ME.lt
     obtain ⟨W, hW⟩ : ∃ W, W = wc := ⟨_, rfl⟩
     go_region_with (first
      | (go_at_call 86; refine (one_n _).mono ?_; rintro x q1 ⟨d1, f1, rfl, hp1, hq1⟩; have mes1 := mes.drew.below hq1; obtain ⟨k0, k1, kf0, kf1⟩ := R2.below (R2.drew ⟨m0, m1, mf0, mf1⟩) hq1; have hB1 : Below wc.heap.size wc q1 := bel_go (Below.drew (Below.refl _ _)) hq1)
      | (go_at_call 81; refine (HPL.out d1 f1 _ mes1 hp1.sl).mono ?_; rintro x q2 ⟨d2, f2, rfl, hp2, hq2⟩; have rr2 := R2.below ⟨k0, k1, kf0, kf1⟩ hq2; obtain ⟨j0, j1, jf0, jf1⟩ := rr2))
     all_goals (go_wp2_with fail; go_meet)
     all_goals
      have l1 : wc.heap.size ≤ q1.heap.size := hB1.size
      have l2 : q1.heap.size ≤ q2.heap.size := hq2.size
      exact ⟨d2, f2, ⟨R2.set ⟨j0, j1, jf0, jf1⟩ _ _, ((hp2.setBelow (by simp; omega) _).setBelow (by simp; omega) _).sl⟩, Below.setCell (Below.setCell (blE.trans ((bel_go hB1 hq2).mono blE.size)) (by simp) _) (by simp) _⟩
    case rest =>
    obtain ⟨an, cn, MG, blG⟩ := hcut
    have gG := g4.below blG
    have belG := bel_go bel4 blG
    have HU : Hid (Nm.sh (M + 1) (C - ((-149) - lo)) = U) := hid (by rw [HUU.out]; unfold rdU; rw [← HMR.out, HUF.out]; unfold Nm.rU Nm.r1; rw [if_pos ⟨HRR.out, rfl⟩, ← HMR.out]; unfold Nm.sh; rw [if_neg (by omega)]; congr 2; have := HCR.out; omega)
    obtain ⟨q0, q1, q2, q3⟩ := MG.1
    obtain ⟨n0, n1⟩ := gG
    go_wp2_with fail
    have hbM : bitLen (M + 1) ≤ 60 := (Nm.bl_le_iff _ 60).2 (by have := HMLT.out; omega)
    have HBM := hid hbM
    clear hbM
    have hsh := shift_n (M + 1) (C - ((-149) - lo)) an cn _ MG.2 (by have := HBM.out; omega) (by omega) (by omega)
    rw [HU.out] at hsh
    refine hsh.mono ?_
    clear hsh
    rintro x wA ⟨aA, cA, rfl, oA, hbA⟩
    have gA := (Box.below ⟨n0, n1⟩ hbA).alloc (.cells #[.bool false, .slice aA (Nm.lim U).length cA] 32)
    have UA := WB.new oA.sl 32
    obtain ⟨u0, u1, u2, u3⟩ := UA.1
    obtain ⟨nA0, nA1⟩ := gA
    go_wp2_with fail
    have hlf := l2f_32 U aA cA _ UA.2 (by have h1 := Nm.bl_sh (M + 1) (C - ((-149) - lo)); rw [HU.out] at h1; have := HBM.out; omega)
    rw [← HOK.out] at hlf
    refine hlf.mono ?_
    clear hlf
    rintro x wB ⟨⟨b, rfl, hbv⟩, hbB⟩
    obtain ⟨nB0, nB1⟩ := Box.below ⟨nA0, nA1⟩ hbB
    have HBV := hid hbv
    clear hbv
    cases ok with
    | false =>
     go_wp2_with fail
     have hovr := fun w' => l3over_32 mode ng w' hmode
     rw [← HOV.out] at hovr
     refine (hovr _).mono ?_
     clear hovr
     rintro x wC ⟨rfl, hbC⟩
     go_wp2
     go_ret2
     exact ⟨ret_ui (HD0.out (by first | rfl | trivial)).1.symm (HD0.out (by first | rfl | trivial)).2.symm, (by repeat (first | exact bz0 _ _ | refine bz1 ?_ | refine bz2 ?_ _ | refine bz3 ?_ _ | refine bz4 ?_ hbC | refine bz4 ?_ hbB | refine bz4 ?_ hbA | refine bz4 ?_ belG | refine bz5 ?_ _ | refine bz6 ?_ _ | refine bz7 ?_ hbC | refine bz7 ?_ hbB | refine bz7 ?_ hbA | refine bz7 ?_ belG))⟩
    | true =>
     have hbb : b = (Nm.flb 24 U : Nat) := HBV.out (by first | rfl | trivial)
     have hb0 : 0 ≤ b ∧ b < 2147483648 := by have := HFB.out (by first | rfl | trivial); omega
     have HBB := hid hbb
     clear hbb
     go_wp2_with fail
     refine (with_32 b ng _ (fun _ => hb0)).mono ?_
     rintro x wC ⟨rfl, hbC⟩
     go_wp2
     go_ret2
     exact ⟨ret_ui (by rw [(HD1.out (by first | rfl | trivial)).1, HBB.out]) (by rw [(HD1.out (by first | rfl | trivial)).2]; rw [if_neg HRR.out, if_pos (by have := HBL.out; omega)]), (by repeat (first | exact bz0 _ _ | refine bz1 ?_ | refine bz2 ?_ _ | refine bz3 ?_ _ | refine bz4 ?_ hbC | refine bz4 ?_ hbB | refine bz4 ?_ hbA | refine bz4 ?_ belG | refine bz5 ?_ _ | refine bz6 ?_ _ | refine bz7 ?_ hbC | refine bz7 ?_ hbB | refine bz7 ?_ hbA | refine bz7 ?_ belG))⟩
  ·go_wp2_with fail
   have hsh := shift_n R 1 ar cr _ (hsr.below hb12) (by have := Nm.bl_mono (show R ≤ X by have := HRB.out; omega); have := HXB.out; omega) (by omega) (by omega)
   refine hsh.mono ?_
   clear hsh
   rintro x w13 ⟨a13, c13, rfl, o13, hb13⟩
   go_wp2_with fail
   refine (one_n _).mono ?_
   rintro x w14 ⟨a14, c14, rfl, o14, hb14⟩
   go_wp2_with fail
   have hsh := shift_n 1 C a14 c14 _ o14.sl (by decide) (by omega) (by omega)
   refine hsh.mono ?_
   clear hsh
   rintro x w15 ⟨a15, c15, rfl, o15, hb15⟩
   go_wp2_with fail
   have hcm := cmp_n (Nm.sh R 1) (Nm.sh 1 C) a13 a15 c13 c15 _ ((o13.sl.below hb14).below hb15) o15.sl (by have h1 := Nm.bl_sh R 1; have := Nm.bl_mono (show R ≤ X by have := HRB.out; omega); have := HXB.out; omega) (by have h1 := Nm.bl_sh 1 C; have : bitLen 1 = 1 := rfl; omega)
   rw [HHF.out HRR.out] at hcm
   refine hcm.mono ?_
   clear hcm
   rintro x w16 ⟨rfl, hb16⟩
   have bC : Below w12'.heap.size w12' w16 := ((hb13.trans (hb14.mono hb13.size)).trans (hb15.mono (Nat.le_trans hb13.size hb14.size))).trans (hb16.mono (Nat.le_trans (Nat.le_trans hb13.size hb14.size) hb15.size))
   have gC := (Box.below g8 hb12).below bC
   have MC := (M8.below hb12).below bC
   have blC := (bl8.trans (hb12.mono bl8.size)).trans (bC.mono (Nat.le_trans bl8.size hb12.size))
   have belC := bel_go (bel_go bel8 hb12) bC
   clear hb13 hb14 hb15 hb16 bC o13 o14 o15 hsr
   obtain ⟨hf, hhf⟩ : ∃ hf, hf = Nm.rh 24 (-149) a e := ⟨_, rfl⟩
   rw [← hhf]
   obtain ⟨up, hup⟩ : ∃ up, up = upB mode (((M : Nat) : Int) % 2 == 1) hf ng := ⟨_, rfl⟩
   have HUP := hid hup; have HHH := hid hhf
   clear hup hhf
   go_upto_region 15 with fail
   go_cut [86] (fun s wx => s = .bool up ∧ Below w16.heap.size w16 wx)
   case first =>
    have HLW := hid (fun w' h => low_n M false a4 c4 w' h (by have := HMLT.out; omega))
    have mcs := MC.2
    obtain ⟨mc0, mc1, mc2, mc3⟩ := MC.1
    obtain ⟨nc0, nc1⟩ := gC
    go_region_held3 (fun w' => w'.cell? ⟨w4.heap.size, 0, none⟩ = some (.bool false) ∧ w'.cell? ⟨w4.heap.size, 1, none⟩ = some (.slice a4 (Nm.lim M).length c4) ∧ w'.cell? ⟨w.heap.size, 0, none⟩ = some (.bool ng) ∧ w'.cell? ⟨w.heap.size, 1, none⟩ = some (.slice p (Nm.lim a).length c))
     (first
      | assumption
      | exact ⟨mc0, mc1, nc0, nc1⟩
      | exact four_b mc0 mc1 nc0 nc1 hB1)
     (first
      | (go_at_call 84; refine (HLW.out _ mcs.drew).mono ?_; rintro x wD ⟨rfl, hbD⟩; have hB1 : Below w16.heap.size w16 wD := bel_go (Below.drew (Below.refl _ _)) hbD)
      | (go_at_call 83; refine (l3up_any mode _ hf ng _ hmode).mono ?_; rintro x wF ⟨rfl, rfl⟩))
    all_goals (go_wp2_with fail; go_meet)
    all_goals exact ⟨by rw [HUP.out]; rfl, hB1⟩
   case rest =>
   obtain ⟨rfl, hbE⟩ := hcut
   have gE := gC.below hbE
   have ME := MC.below hbE
   have blE := blC.trans (hbE.mono blC.size)
   have belE := bel_go belC hbE
   clear gC MC blC belC hbE
   cases up with
   | false =>
    have HUF : Hid (upB mode (((M : Nat) : Int) % 2 == 1) (Nm.rh 24 (-149) a e) ng = false) := hid (by rw [← HHH.out, ← HUP.out])
    have HU : Hid (Nm.sh (M) (C - ((-149) - lo)) = U) := hid (by rw [HUU.out]; unfold rdU; rw [← HMR.out, HUF.out]; unfold Nm.rU Nm.r1; rw [if_neg (by simp), ← HMR.out]; unfold Nm.sh; rw [if_neg (by omega)]; congr 2; have := HCR.out; omega)
    obtain ⟨q0, q1, q2, q3⟩ := ME.1
    obtain ⟨n0, n1⟩ := gE
    go_wp2_with fail
    have hbM : bitLen (M) ≤ 60 := (Nm.bl_le_iff _ 60).2 (by have := HMLT.out; omega)
    have HBM := hid hbM
    clear hbM
    have hsh := shift_n (M) (C - ((-149) - lo)) a4 c4 _ ME.2 (by have := HBM.out; omega) (by omega) (by omega)
    rw [HU.out] at hsh
    refine hsh.mono ?_
    clear hsh
    rintro x wA ⟨aA, cA, rfl, oA, hbA⟩
    have gA := (Box.below ⟨n0, n1⟩ hbA).alloc (.cells #[.bool false, .slice aA (Nm.lim U).length cA] 32)
    have UA := WB.new oA.sl 32
    obtain ⟨u0, u1, u2, u3⟩ := UA.1
    obtain ⟨nA0, nA1⟩ := gA
    go_wp2_with fail
    have hlf := l2f_32 U aA cA _ UA.2 (by have h1 := Nm.bl_sh (M) (C - ((-149) - lo)); rw [HU.out] at h1; have := HBM.out; omega)
    rw [← HOK.out] at hlf
    refine hlf.mono ?_
    clear hlf
    rintro x wB ⟨⟨b, rfl, hbv⟩, hbB⟩
    obtain ⟨nB0, nB1⟩ := Box.below ⟨nA0, nA1⟩ hbB
    have HBV := hid hbv
    clear hbv
    cases ok with
    | false =>
     go_wp2_with fail
     have hovr := fun w' => l3over_32 mode ng w' hmode
     rw [← HOV.out] at hovr
     refine (hovr _).mono ?_
     clear hovr
     rintro x wC ⟨rfl, hbC⟩
     go_wp2
     go_ret2
     exact ⟨ret_ui (HD0.out (by first | rfl | trivial)).1.symm (HD0.out (by first | rfl | trivial)).2.symm, (by repeat (first | exact bz0 _ _ | refine bz1 ?_ | refine bz2 ?_ _ | refine bz3 ?_ _ | refine bz4 ?_ hbC | refine bz4 ?_ hbB | refine bz4 ?_ hbA | refine bz4 ?_ belE | refine bz5 ?_ _ | refine bz6 ?_ _ | refine bz7 ?_ hbC | refine bz7 ?_ hbB | refine bz7 ?_ hbA | refine bz7 ?_ belE))⟩
    | true =>
     have hbb : b = (Nm.flb 24 U : Nat) := HBV.out (by first | rfl | trivial)
     have hb0 : 0 ≤ b ∧ b < 2147483648 := by have := HFB.out (by first | rfl | trivial); omega
     have HBB := hid hbb
     clear hbb
     go_wp2_with fail
     refine (with_32 b ng _ (fun _ => hb0)).mono ?_
     rintro x wC ⟨rfl, hbC⟩
     go_wp2
     go_ret2
     exact ⟨ret_ui (by rw [(HD1.out (by first | rfl | trivial)).1, HBB.out]) (by rw [(HD1.out (by first | rfl | trivial)).2]; rw [if_neg HRR.out, if_neg (by have := HBL.out; omega)]), (by repeat (first | exact bz0 _ _ | refine bz1 ?_ | refine bz2 ?_ _ | refine bz3 ?_ _ | refine bz4 ?_ hbC | refine bz4 ?_ hbB | refine bz4 ?_ hbA | refine bz4 ?_ belE | refine bz5 ?_ _ | refine bz6 ?_ _ | refine bz7 ?_ hbC | refine bz7 ?_ hbB | refine bz7 ?_ hbA | refine bz7 ?_ belE))⟩
   | true =>
    have HUF : Hid (upB mode (((M : Nat) : Int) % 2 == 1) (Nm.rh 24 (-149) a e) ng = true) := hid (by rw [← HHH.out, ← HUP.out])
    obtain ⟨m0, m1, mf0, mf1⟩ := ME.1
    go_upto_region 16 with fail
    go_cut [] (fun wx => ∃ an cn, WB wx w4.heap.size an cn (M + 1) ∧ Below w4.heap.size w4 wx)
    case first =>
     have mes := ME.2
     have HPL := hid (fun a1 c1 w' h h' => plus_n M 1 a4 a1 c4 c1 w' h h' (by have := (Nm.bl_le_iff M 60).2 (by have := HMLT.out; omega); omega) (by decide))
     have lM := ME.lt
     obtain ⟨W, hW⟩ : ∃ W, W = wc := ⟨_, rfl⟩
     go_region_with (first
      | (go_at_call 86; refine (one_n _).mono ?_; rintro x q1 ⟨d1, f1, rfl, hp1, hq1⟩; have mes1 := mes.drew.below hq1; obtain ⟨k0, k1, kf0, kf1⟩ := R2.below (R2.drew ⟨m0, m1, mf0, mf1⟩) hq1; have hB1 : Below wc.heap.size wc q1 := bel_go (Below.drew (Below.refl _ _)) hq1)
      | (go_at_call 81; refine (HPL.out d1 f1 _ mes1 hp1.sl).mono ?_; rintro x q2 ⟨d2, f2, rfl, hp2, hq2⟩; have rr2 := R2.below ⟨k0, k1, kf0, kf1⟩ hq2; obtain ⟨j0, j1, jf0, jf1⟩ := rr2))
     all_goals (go_wp2_with fail; go_meet)
     all_goals
      have l1 : wc.heap.size ≤ q1.heap.size := hB1.size
      have l2 : q1.heap.size ≤ q2.heap.size := hq2.size
      exact ⟨d2, f2, ⟨R2.set ⟨j0, j1, jf0, jf1⟩ _ _, ((hp2.setBelow (by simp; omega) _).setBelow (by simp; omega) _).sl⟩, Below.setCell (Below.setCell (blE.trans ((bel_go hB1 hq2).mono blE.size)) (by simp) _) (by simp) _⟩
    case rest =>
    obtain ⟨an, cn, MG, blG⟩ := hcut
    have gG := g4.below blG
    have belG := bel_go bel4 blG
    have HU : Hid (Nm.sh (M + 1) (C - ((-149) - lo)) = U) := hid (by rw [HUU.out]; unfold rdU; rw [← HMR.out, HUF.out]; unfold Nm.rU Nm.r1; rw [if_pos ⟨HRR.out, rfl⟩, ← HMR.out]; unfold Nm.sh; rw [if_neg (by omega)]; congr 2; have := HCR.out; omega)
    obtain ⟨q0, q1, q2, q3⟩ := MG.1
    obtain ⟨n0, n1⟩ := gG
    go_wp2_with fail
    have hbM : bitLen (M + 1) ≤ 60 := (Nm.bl_le_iff _ 60).2 (by have := HMLT.out; omega)
    have HBM := hid hbM
    clear hbM
    have hsh := shift_n (M + 1) (C - ((-149) - lo)) an cn _ MG.2 (by have := HBM.out; omega) (by omega) (by omega)
    rw [HU.out] at hsh
    refine hsh.mono ?_
    clear hsh
    rintro x wA ⟨aA, cA, rfl, oA, hbA⟩
    have gA := (Box.below ⟨n0, n1⟩ hbA).alloc (.cells #[.bool false, .slice aA (Nm.lim U).length cA] 32)
    have UA := WB.new oA.sl 32
    obtain ⟨u0, u1, u2, u3⟩ := UA.1
    obtain ⟨nA0, nA1⟩ := gA
    go_wp2_with fail
    have hlf := l2f_32 U aA cA _ UA.2 (by have h1 := Nm.bl_sh (M + 1) (C - ((-149) - lo)); rw [HU.out] at h1; have := HBM.out; omega)
    rw [← HOK.out] at hlf
    refine hlf.mono ?_
    clear hlf
    rintro x wB ⟨⟨b, rfl, hbv⟩, hbB⟩
    obtain ⟨nB0, nB1⟩ := Box.below ⟨nA0, nA1⟩ hbB
    have HBV := hid hbv
    clear hbv
    cases ok with
    | false =>
     go_wp2_with fail
     have hovr := fun w' => l3over_32 mode ng w' hmode
     rw [← HOV.out] at hovr
     refine (hovr _).mono ?_
     clear hovr
     rintro x wC ⟨rfl, hbC⟩
     go_wp2
     go_ret2
     exact ⟨ret_ui (HD0.out (by first | rfl | trivial)).1.symm (HD0.out (by first | rfl | trivial)).2.symm, (by repeat (first | exact bz0 _ _ | refine bz1 ?_ | refine bz2 ?_ _ | refine bz3 ?_ _ | refine bz4 ?_ hbC | refine bz4 ?_ hbB | refine bz4 ?_ hbA | refine bz4 ?_ belG | refine bz5 ?_ _ | refine bz6 ?_ _ | refine bz7 ?_ hbC | refine bz7 ?_ hbB | refine bz7 ?_ hbA | refine bz7 ?_ belG))⟩
    | true =>
     have hbb : b = (Nm.flb 24 U : Nat) := HBV.out (by first | rfl | trivial)
     have hb0 : 0 ≤ b ∧ b < 2147483648 := by have := HFB.out (by first | rfl | trivial); omega
     have HBB := hid hbb
     clear hbb
     go_wp2_with fail
     refine (with_32 b ng _ (fun _ => hb0)).mono ?_
     rintro x wC ⟨rfl, hbC⟩
     go_wp2
     go_ret2
     exact ⟨ret_ui (by rw [(HD1.out (by first | rfl | trivial)).1, HBB.out]) (by rw [(HD1.out (by first | rfl | trivial)).2]; rw [if_neg HRR.out, if_neg (by have := HBL.out; omega)]), (by repeat (first | exact bz0 _ _ | refine bz1 ?_ | refine bz2 ?_ _ | refine bz3 ?_ _ | refine bz4 ?_ hbC | refine bz4 ?_ hbB | refine bz4 ?_ hbA | refine bz4 ?_ belG | refine bz5 ?_ _ | refine bz6 ?_ _ | refine bz7 ?_ hbC | refine bz7 ?_ hbB | refine bz7 ?_ hbA | refine bz7 ?_ belG))⟩
theorem l3r_64 (mode : Int) (ng : Bool) (a : Nat) (e : Int) (p : Option Addr) (c : Nat) (w : World) (hs : Sl .u32 w (.slice p (Nm.lim a).length c) (Nm.lim a)) (hmode : modeB mode = true) (ha : a ≠ 0) (hl : bitLen a ≤ 20000) (h0 : -20000 ≤ e) (h1 : e ≤ 20000) :
  Calls Tryz.prog 209 #[.int .i64 64, .int .i64 mode, .agg #[.bool ng, .slice p (Nm.lim a).length c], .int .i64 e] w fun x w' => x = .returned (.tuple #[.int .u64 (rdB 53 (-1074) 9218868437227405312 9223372036854775808 mode ng a e), .int .i64 (rdF 53 (-1074) 9218868437227405312 mode ng a e)]) ∧ Below w.heap.size w w' := by
 obtain ⟨lo, hlo⟩ : ∃ lo, lo = min e (-1074) := ⟨_, rfl⟩
 have lo0 : -20000 ≤ lo := by omega
 have lo1 : lo ≤ (-1074) := by omega
 have lo2 : lo ≤ e := by omega
 obtain ⟨X, hX⟩ : ∃ X, X = Nm.sh a (e - lo) := ⟨_, rfl⟩
 have hXb : bitLen X ≤ 60020 := by rw [hX, hlo, (Nm.spec_x ha).1]; omega
 obtain ⟨C, hC⟩ : ∃ C : Int, C = max ((bitLen X : Int) - 53) ((-1074) - lo) := ⟨_, rfl⟩
 have C0 : 0 ≤ C := by omega
 have C1 : C ≤ 70000 := by omega
 have C2 : (-1074) - lo ≤ C := by omega
 obtain ⟨M, hM⟩ : ∃ M, M = Nm.sh X (-C) := ⟨_, rfl⟩
 obtain ⟨Bk, hBk⟩ : ∃ Bk, Bk = Nm.sh M C := ⟨_, rfl⟩
 obtain ⟨R, hR⟩ : ∃ R, R = X - Bk := ⟨_, rfl⟩
 have hCr : C = Nm.rn 53 (-1074) a e + (e - lo) := by rw [hC, hX, hlo]; exact Nm.spec_cut ha 53 e (-1074)
 have hMr : M = Nm.rm 53 (-1074) a e := by rw [hM, hX, hCr, hlo]; exact Nm.spec_m ha 53 e (-1074)
 have hback := Nm.spec_back ha 53 e (-1074)
 rw [← hlo, ← hX, ← hCr, ← hMr, ← hBk, ← hR] at hback
 have hRB : R + Bk = X := by omega
 have hMlt : M < 9007199254740992 := by have := Nm.rm_lt (P := 53) (q := (-1074)) (a := a) (e := e); rw [← hMr] at this; omega
 have hR0 : R = 0 ↔ Nm.rr 53 (-1074) a e = 0 := by
  have hp := Nm.pw_pos2 (e - lo).toNat
  rw [hback.2]
  constructor
  ·intro h; exact (Nat.mul_eq_zero.1 h).resolve_right (by omega)
  ·intro h; rw [h]; simp
 have hbu : ((bitLen X : Nat) : Int) = bitLen a + (e - lo) := by rw [hX, hlo, (Nm.spec_x ha).1]; omega
 have hHf : Nm.rr 53 (-1074) a e ≠ 0 → Nm.cmp2 (Nm.sh R 1) (Nm.sh 1 C) = Nm.rh 53 (-1074) a e := fun hr => by
  have := Nm.spec_half ha hr
  rw [← hlo, ← hCr, ← hback.2] at this; exact this
 obtain ⟨U, hU⟩ : ∃ U, U = rdU 53 (-1074) mode ng a e := ⟨_, rfl⟩
 obtain ⟨ok, hok⟩ : ∃ ok, ok = Nm.flo 53 9218868437227405312 U := ⟨_, rfl⟩
 obtain ⟨ov, hov⟩ : ∃ ov : Int, ov = (if ovB mode ng then sgn 9223372036854775808 9218868437227405311 ng else sgn 9223372036854775808 9218868437227405312 ng) := ⟨_, rfl⟩
 have HOV := hid hov
 have HFB : Hid (ok = true → Nm.flb 53 U < 9218868437227405312) := hid (fun h => by rw [hok] at h; unfold Nm.flo at h; simp at h; exact h.2)
 have HD0 : Hid (ok = false → rdB 53 (-1074) 9218868437227405312 9223372036854775808 mode ng a e = ov ∧ rdF 53 (-1074) 9218868437227405312 mode ng a e = 5) := hid (fun h => by
  unfold rdB rdF; rw [← hU, ← hok, h, hov]; exact ⟨rfl, rfl⟩)
 have HD1 : Hid (ok = true → rdB 53 (-1074) 9218868437227405312 9223372036854775808 mode ng a e = sgn 9223372036854775808 (Nm.flb 53 U : Nat) ng ∧ rdF 53 (-1074) 9218868437227405312 mode ng a e = if Nm.rr 53 (-1074) a e = 0 then 0 else if (bitLen a : Int) + e ≤ (53 : Int) - 1 + (-1074) then 3 else 1) := hid (fun h => by
  unfold rdB rdF; rw [← hU, ← hok, h]; exact ⟨rfl, rfl⟩)
 have HUU := hid hU; have HOK := hid hok
 clear hU hok hov
 have HLO := hid hlo; have HX := hid hX; have HC := hid hC; have HXB := hid hXb; have HL := hid hl; have HM := hid hM; have HBk := hid hBk; have HRB := hid hRB
 have HCR := hid hCr; have HMR := hid hMr; have HMLT := hid hMlt; have HR0 := hid hR0; have HBU := hid hbu; have HHF := hid hHf
 have HA := hid ha; have HBK := hid hback
 clear hlo hX hC hXb hl hM hBk hRB hCr hMr hMlt hR0 hbu hHf ha hback hR
 go_enter Tryz.func209, Tryz.ntmps209
 go_wp2_with fail
 refine (sQ_64 _).mono ?_
 rintro x w1 ⟨rfl, rfl⟩
 go_upto_region 3 with fail
 go_cut [12] (fun s wx => s = .int .i64 lo ∧ wx = ((w.alloc (.cells #[.bool ng, .slice p (Nm.lim a).length c] 32)).alloc (.cells #[.bool false, .slice p (Nm.lim a).length c] 32)))
 case first =>
  by_cases hc : e < (-1074)
  all_goals go_wp2_with fail
  all_goals go_meet
  all_goals exact ⟨by rw [HLO.out]; congr 1; omega, rfl⟩
 case rest =>
 obtain ⟨rfl, rfl⟩ := hcut
 go_wp2_with fail
 have hsh := shift_n a (e - lo) p c _ ((hs.alloc (.cells #[.bool ng, .slice p (Nm.lim a).length c] 32)).alloc (.cells #[.bool false, .slice p (Nm.lim a).length c] 32)) (by have := HL.out; omega) (by omega) (by omega)
 rw [← HX.out] at hsh
 refine hsh.mono ?_
 clear hsh
 rintro x w2 ⟨a2, c2, rfl, o2, hb2⟩
 have g2 := (((Box.new w (.bool ng) (.slice p (Nm.lim a).length c) 32).alloc (.cells #[.bool false, .slice p (Nm.lim a).length c] 32)).below hb2).alloc (.cells #[.bool false, .slice a2 (Nm.lim X).length c2] 32)
 have X2 := WB.new o2.sl 32
 have bel2 : Below w.heap.size w (w2.alloc (.cells #[.bool false, .slice a2 (Nm.lim X).length c2] 32)) := (by repeat (first | exact bz0 _ _ | refine bz1 ?_ | refine bz2 ?_ _ | refine bz3 ?_ _ | refine bz4 ?_ hb2 | refine bz5 ?_ _ | refine bz6 ?_ _ | refine bz7 ?_ hb2))
 clear hb2 o2
 go_upto_region 5 with fail
 go_cut [14] (fun s wx => s = .int .i64 C ∧ Below (w2.alloc (.cells #[.bool false, .slice a2 (Nm.lim X).length c2] 32)).heap.size (w2.alloc (.cells #[.bool false, .slice a2 (Nm.lim X).length c2] 32)) wx)
 case first =>
  have hxs := X2.2
  obtain ⟨x20, x21, x22, x23⟩ := X2.1
  have hbits := fun w' h => bits_n X false a2 c2 w' h (by have := HXB.out; omega)
  obtain ⟨B, hB⟩ : ∃ B : Int, B = ((bitLen X : Nat) : Int) := ⟨_, rfl⟩
  have B0 : 0 ≤ B := by omega
  have B1 : B ≤ 60020 := by have := HXB.out; omega
  rw [← hB] at hbits
  have HB := hid hB
  have hcc : C = max (B - 53) ((-1074) - lo) := by rw [HC.out, ← HB.out]
  have HCC := hid hcc
  clear hcc hB
  by_cases hcx : B - 53 < (-1074) - lo
  all_goals
   go_wp2_with fail
   refine (hbits _ hxs).mono ?_
   rintro x w3 ⟨rfl, hb3⟩
   go_wp2_with fail
   refine (sP_64 _).mono ?_
   rintro x w4 ⟨rfl, rfl⟩
   go_wp2_with fail
  all_goals go_meet
  all_goals exact ⟨by rw [HCC.out]; congr 1; omega, hb3⟩
 case rest =>
 obtain ⟨rfl, hb3⟩ := hcut
 have g3 := g2.below hb3
 have X3 := X2.below hb3
 have bel3 := bel_go bel2 hb3
 clear g2 X2 bel2 hb3
 obtain ⟨x30, x31, x32, x33⟩ := X3.1
 go_wp2_with fail
 have hsh := shift_n X (-C) a2 c2 _ X3.2 (by have := HXB.out; omega) (by omega) (by omega)
 rw [← HM.out] at hsh
 refine hsh.mono ?_
 clear hsh
 rintro x w4 ⟨a4, c4, rfl, o4, hb4⟩
 have g4 := g3.below hb4
 have X4 := X3.below hb4
 have bel4 := bel_go bel3 hb4
 clear g3 X3 bel3 hb4 x30 x31 x32 x33
 have M5 := WB.new o4.sl 32
 have g5 := g4.alloc (.cells #[.bool false, .slice a4 (Nm.lim M).length c4] 32)
 have X5 := X4.alloc (.cells #[.bool false, .slice a4 (Nm.lim M).length c4] 32)
 have bel5 := bel_al bel4 (.cells #[.bool false, .slice a4 (Nm.lim M).length c4] 32)
 have l4 := g4.lt
 have l4x := X4.lt
 clear o4
 obtain ⟨m50, m51, m52, m53⟩ := M5.1
 go_wp2_with fail
 have hsh := shift_n M C a4 c4 _ M5.2 (by have := (Nm.bl_le_iff M 60).2 (by have := HMLT.out; omega); omega) (by omega) (by omega)
 rw [← HBk.out] at hsh
 refine hsh.mono ?_
 clear hsh
 rintro x w6 ⟨a6, c6, rfl, o6, hb6⟩
 have B7 := WB.new o6.sl 32
 have g7 := (g5.below hb6).alloc (.cells #[.bool false, .slice a6 (Nm.lim Bk).length c6] 32)
 have X7 := (X5.below hb6).alloc (.cells #[.bool false, .slice a6 (Nm.lim Bk).length c6] 32)
 have M7 := (M5.below hb6).alloc (.cells #[.bool false, .slice a6 (Nm.lim Bk).length c6] 32)
 have bel7 := bel_al (bel_go bel5 hb6) (.cells #[.bool false, .slice a6 (Nm.lim Bk).length c6] 32)
 have bl7 : Below w4.heap.size w4 (w6.alloc (.cells #[.bool false, .slice a6 (Nm.lim Bk).length c6] 32)) := (by repeat (first | exact bz0 _ _ | refine bz1 ?_ | refine bz2 ?_ _ | refine bz3 ?_ _ | refine bz4 ?_ hb6 | refine bz5 ?_ _ | refine bz6 ?_ _ | refine bz7 ?_ hb6))
 clear m50 m51 m52 m53 g5 X5 M5 bel5 hb6 o6
 go_upto_region 8 with fail
 obtain ⟨W, hW⟩ : ∃ W, W = w6.alloc (.cells #[.bool false, .slice a6 (Nm.lim Bk).length c6] 32) := ⟨_, rfl⟩
 have lM7 := M7.lt
 have lX7 := X7.lt
 have lB7 := B7.lt
 rw [← hW] at B7 g7 X7 M7 bel7 bl7 lM7 lX7 lB7 ⊢
 clear hW
 go_cut [17] (fun s wx => ∃ g ar cr, s = .pointer (some ⟨g, 0, none⟩) ∧ Box wx g (.bool false) (.slice ar (Nm.lim R).length cr) ∧ Sl .u32 wx (.slice ar (Nm.lim R).length cr) (Nm.lim R) ∧ Below W.heap.size W wx)
 case first =>
  have xs := X7.2
  have bs := B7.2
  have X7' := X7.1.box
  have B7' := B7.1.box
  obtain ⟨x70, x71⟩ := X7'
  obtain ⟨b70, b71⟩ := B7'
  have hbb : bitLen Bk ≤ 60020 := by have := Nm.bl_mono (show Bk ≤ X by have := HRB.out; omega); have := HXB.out; omega
  have HNG := hid (fun w' h => neg_n Bk a6 c6 w' h (by omega))
  have HAD := hid (fun a1 c1 w' h h' => add_n X Bk R _ rfl HRB.out a2 a1 c2 c1 w' h h' (by have := HXB.out; omega))
  clear hbb
  go_region_held3 (fun w' => w'.cell? ⟨w2.heap.size, 0, none⟩ = some (.bool false) ∧ w'.cell? ⟨w2.heap.size, 1, none⟩ = some (.slice a2 (Nm.lim X).length c2) ∧ w'.cell? ⟨w6.heap.size, 0, none⟩ = some (.bool false) ∧ w'.cell? ⟨w6.heap.size, 1, none⟩ = some (.slice a6 (Nm.lim Bk).length c6))
   (first
    | assumption
    | exact ⟨x70, x71, b70, b71⟩
    | exact four_b x70 x71 b70 b71 (bel_al (Below.drew (Below.refl _ _)) _)
    | exact four_b x70 x71 b70 b71 hB2
    | exact four_b x70 x71 b70 b71 hB1
    | exact four_b x70 x71 b70 b71 (bel_al hB2 _)
    | exact four_b x70 x71 b70 b71 (bel_al hB1 _)
    | (refine four_b x70 x71 b70 b71 ?_; refine Below.setCell (Below.setCell hB2 ?_ _) ?_ _ <;> (simp; try omega)))
   (first
    | (go_at_call 82; refine (HNG.out _ (by first | exact bs.drew | exact Sl.alloc bs.drew _)).mono ?_; rintro x q1 ⟨d1, f1, rfl, hp1, hq1⟩; have hB1 : Below W.heap.size W q1 := (by first | exact bel_go (Below.drew (Below.refl _ _)) hq1 | exact bel_go (bel_al (Below.drew (Below.refl _ _)) _) hq1); have z1 := hB1.size; (first | (have rb1 : R2 q1 W.heap.size (.bool false) (.slice none 0 0) := R2.below (R2.new W.drew (.bool false) (.slice none 0 0) 32) hq1) | skip))
    | (go_at_call 81; refine (HAD.out d1 f1 _ (by first | exact Sl.below xs hB1 | exact Sl.alloc (Sl.below xs hB1) _) (by first | exact hp1.sl | exact Sl.alloc hp1.sl _)).mono ?_; rintro x q2 ⟨d2, f2, rfl, hp2, hq2⟩; have hB12 : Below q1.heap.size q1 q2 := (by first | exact hq2 | exact bel_go (bel_al (Below.refl _ _) _) hq2); have hB2 : Below W.heap.size W q2 := bel_go hB1 hB12; have z2 := hB12.size; (first | (have rb2 := R2.below rb1 hq2; obtain ⟨k0, k1, g0, g1⟩ := rb2) | (have rb2 : R2 q2 q1.heap.size (.bool false) (.slice none 0 0) := R2.below (R2.new q1 (.bool false) (.slice none 0 0) 32) hq2; obtain ⟨k0, k1, g0, g1⟩ := rb2) | skip)))
  all_goals (go_wp2_with fail; go_meet)
  ·exact ⟨q2.heap.size, d2, f2, rfl, Box.new q2 _ _ _, hp2.sl.alloc _, bel_al hB2 _⟩
  ·have hp3 : Own q2 (q1.heap.size + 1) d2 f2 (Nm.lim R) := (by simpa using hp2)
   have rs := R2.set ⟨k0, k1, g0, g1⟩ (.bool false) (.slice d2 (Nm.lim R).length f2)
   exact ⟨q1.heap.size, d2, f2, rfl, rs.box, ((hp3.setBelow (by simp) _).setBelow (by simp) _).sl, (hB2.setCell (by simp; omega) _).setCell (by simp; omega) _⟩
  ·have rs := R2.set ⟨k0, k1, g0, g1⟩ (.bool false) (.slice d2 (Nm.lim R).length f2)
   have hlt := World.block_lt_of_cell? q1 _ rb1.c0
   simp at hlt
   exact ⟨W.heap.size, d2, f2, rfl, rs.box, ((hp2.setBelow (by simp; omega) _).setBelow (by simp; omega) _).sl, (hB2.setCell (by simp) _).setCell (by simp) _⟩
 case rest =>
 obtain ⟨g, ar, cr, rfl, hbox, hsr, hb8⟩ := hcut
 have g8 := g7.below hb8
 have X8 := X7.below hb8
 have M8 := M7.below hb8
 have bel8 := bel_go bel7 hb8
 have bl8 := bl7.trans (hb8.mono bl7.size)
 clear g7 X7 M7 B7 bel7 bl7 hb8
 obtain ⟨r80, r81⟩ := hbox
 by_cases hr : R = 0
 ·have hl0 : (Nm.lim R).length = 0 := by rw [hr]; rw [Nm.lim_zero]; rfl
  have HRR := hid (HR0.out.1 hr)
  clear hr
  have HU : Hid (Nm.sh (M) (C - ((-1074) - lo)) = U) := hid (by rw [HUU.out]; unfold rdU Nm.rU Nm.r1; rw [if_neg (by rw [HRR.out]; simp), ← HMR.out]; unfold Nm.sh; rw [if_neg (by omega)]; congr 2; have := HCR.out; omega)
  obtain ⟨q0, q1, q2, q3⟩ := M8.1
  obtain ⟨n0, n1⟩ := g8
  go_wp2_with fail
  have hbM : bitLen (M) ≤ 60 := (Nm.bl_le_iff _ 60).2 (by have := HMLT.out; omega)
  have HBM := hid hbM
  clear hbM
  have hsh := shift_n (M) (C - ((-1074) - lo)) a4 c4 _ M8.2 (by have := HBM.out; omega) (by omega) (by omega)
  rw [HU.out] at hsh
  refine hsh.mono ?_
  clear hsh
  rintro x wA ⟨aA, cA, rfl, oA, hbA⟩
  have gA := (Box.below ⟨n0, n1⟩ hbA).alloc (.cells #[.bool false, .slice aA (Nm.lim U).length cA] 32)
  have UA := WB.new oA.sl 32
  obtain ⟨u0, u1, u2, u3⟩ := UA.1
  obtain ⟨nA0, nA1⟩ := gA
  go_wp2_with fail
  have hlf := l2f_64 U aA cA _ UA.2 (by have h1 := Nm.bl_sh (M) (C - ((-1074) - lo)); rw [HU.out] at h1; have := HBM.out; omega)
  rw [← HOK.out] at hlf
  refine hlf.mono ?_
  clear hlf
  rintro x wB ⟨⟨b, rfl, hbv⟩, hbB⟩
  obtain ⟨nB0, nB1⟩ := Box.below ⟨nA0, nA1⟩ hbB
  have HBV := hid hbv
  clear hbv
  cases ok with
  | false =>
   go_wp2_with fail
   have hovr := fun w' => l3over_64 mode ng w' hmode
   rw [← HOV.out] at hovr
   refine (hovr _).mono ?_
   clear hovr
   rintro x wC ⟨rfl, hbC⟩
   go_wp2
   go_ret2
   exact ⟨ret_ui (HD0.out (by first | rfl | trivial)).1.symm (HD0.out (by first | rfl | trivial)).2.symm, (by repeat (first | exact bz0 _ _ | refine bz1 ?_ | refine bz2 ?_ _ | refine bz3 ?_ _ | refine bz4 ?_ hbC | refine bz4 ?_ hbB | refine bz4 ?_ hbA | refine bz4 ?_ bel8 | refine bz5 ?_ _ | refine bz6 ?_ _ | refine bz7 ?_ hbC | refine bz7 ?_ hbB | refine bz7 ?_ hbA | refine bz7 ?_ bel8))⟩
  | true =>
   have hbb : b = (Nm.flb 53 U : Nat) := HBV.out (by first | rfl | trivial)
   have hb0 : 0 ≤ b ∧ b < 9223372036854775808 := by have := HFB.out (by first | rfl | trivial); omega
   have HBB := hid hbb
   clear hbb
   go_wp2_with fail
   refine (with_64 b ng _ (fun _ => hb0)).mono ?_
   rintro x wC ⟨rfl, hbC⟩
   go_wp2
   go_ret2
   exact ⟨ret_ui (by rw [(HD1.out (by first | rfl | trivial)).1, HBB.out]) (by rw [(HD1.out (by first | rfl | trivial)).2]; rw [if_pos HRR.out]), (by repeat (first | exact bz0 _ _ | refine bz1 ?_ | refine bz2 ?_ _ | refine bz3 ?_ _ | refine bz4 ?_ hbC | refine bz4 ?_ hbB | refine bz4 ?_ hbA | refine bz4 ?_ bel8 | refine bz5 ?_ _ | refine bz6 ?_ _ | refine bz7 ?_ hbC | refine bz7 ?_ hbB | refine bz7 ?_ hbA | refine bz7 ?_ bel8))⟩
 ·have HRR : Hid (Nm.rr 53 (-1074) a e ≠ 0) := hid (fun h => hr (HR0.out.2 h))
  have hl1 : 0 < ((Nm.lim R).length : Int) := by
   have : (Nm.lim R).length ≠ 0 := fun h => hr ((Nm.lim_length_zero R).1 h)
   omega
  clear hr
  have hxs := X8.2
  obtain ⟨x80, x81, x82, x83⟩ := X8.1
  have hbits := fun w' h => bits_n X false a2 c2 w' h (by have := HXB.out; omega)
  obtain ⟨B, hB⟩ : ∃ B : Int, B = ((bitLen X : Nat) : Int) := ⟨_, rfl⟩
  have B0 : 0 ≤ B := by omega
  have B1 : B ≤ 60020 := by have := HXB.out; omega
  rw [← hB] at hbits
  have HBL : Hid (B = bitLen a + (e - lo)) := hid (by rw [hB]; exact HBU.out)
  clear hB
  go_wp2_with fail
  refine (hbits _ hxs).mono ?_
  rintro x w12 ⟨rfl, hb12⟩
  clear hbits hxs
  go_wp2_with fail
  refine (sP_64 _).mono ?_
  rintro x w12' ⟨rfl, rfl⟩
  obtain ⟨r90, r91⟩ := Box.below ⟨r80, r81⟩ hb12
  clear r80 r81 x80 x81 x82 x83
  have hor : bits .or .i64 1 2 = 3 := by decide +kernel
  by_cases hu : B ≤ (-1022) - lo
  ·go_wp2_with fail
   have hsh := shift_n R 1 ar cr _ (hsr.below hb12) (by have := Nm.bl_mono (show R ≤ X by have := HRB.out; omega); have := HXB.out; omega) (by omega) (by omega)
   refine hsh.mono ?_
   clear hsh
   rintro x w13 ⟨a13, c13, rfl, o13, hb13⟩
   go_wp2_with fail
   refine (one_n _).mono ?_
   rintro x w14 ⟨a14, c14, rfl, o14, hb14⟩
   go_wp2_with fail
   have hsh := shift_n 1 C a14 c14 _ o14.sl (by decide) (by omega) (by omega)
   refine hsh.mono ?_
   clear hsh
   rintro x w15 ⟨a15, c15, rfl, o15, hb15⟩
   go_wp2_with fail
   have hcm := cmp_n (Nm.sh R 1) (Nm.sh 1 C) a13 a15 c13 c15 _ ((o13.sl.below hb14).below hb15) o15.sl (by have h1 := Nm.bl_sh R 1; have := Nm.bl_mono (show R ≤ X by have := HRB.out; omega); have := HXB.out; omega) (by have h1 := Nm.bl_sh 1 C; have : bitLen 1 = 1 := rfl; omega)
   rw [HHF.out HRR.out] at hcm
   refine hcm.mono ?_
   clear hcm
   rintro x w16 ⟨rfl, hb16⟩
   have bC : Below w12'.heap.size w12' w16 := ((hb13.trans (hb14.mono hb13.size)).trans (hb15.mono (Nat.le_trans hb13.size hb14.size))).trans (hb16.mono (Nat.le_trans (Nat.le_trans hb13.size hb14.size) hb15.size))
   have gC := (Box.below g8 hb12).below bC
   have MC := (M8.below hb12).below bC
   have blC := (bl8.trans (hb12.mono bl8.size)).trans (bC.mono (Nat.le_trans bl8.size hb12.size))
   have belC := bel_go (bel_go bel8 hb12) bC
   clear hb13 hb14 hb15 hb16 bC o13 o14 o15 hsr
   obtain ⟨hf, hhf⟩ : ∃ hf, hf = Nm.rh 53 (-1074) a e := ⟨_, rfl⟩
   rw [← hhf]
   obtain ⟨up, hup⟩ : ∃ up, up = upB mode (((M : Nat) : Int) % 2 == 1) hf ng := ⟨_, rfl⟩
   have HUP := hid hup; have HHH := hid hhf
   clear hup hhf
   go_upto_region 15 with fail
   go_cut [86] (fun s wx => s = .bool up ∧ Below w16.heap.size w16 wx)
   case first =>
    have HLW := hid (fun w' h => low_n M false a4 c4 w' h (by have := HMLT.out; omega))
    have mcs := MC.2
    obtain ⟨mc0, mc1, mc2, mc3⟩ := MC.1
    obtain ⟨nc0, nc1⟩ := gC
    go_region_held3 (fun w' => w'.cell? ⟨w4.heap.size, 0, none⟩ = some (.bool false) ∧ w'.cell? ⟨w4.heap.size, 1, none⟩ = some (.slice a4 (Nm.lim M).length c4) ∧ w'.cell? ⟨w.heap.size, 0, none⟩ = some (.bool ng) ∧ w'.cell? ⟨w.heap.size, 1, none⟩ = some (.slice p (Nm.lim a).length c))
     (first
      | assumption
      | exact ⟨mc0, mc1, nc0, nc1⟩
      | exact four_b mc0 mc1 nc0 nc1 hB1)
     (first
      | (go_at_call 84; refine (HLW.out _ mcs.drew).mono ?_; rintro x wD ⟨rfl, hbD⟩; have hB1 : Below w16.heap.size w16 wD := bel_go (Below.drew (Below.refl _ _)) hbD)
      | (go_at_call 83; refine (l3up_any mode _ hf ng _ hmode).mono ?_; rintro x wF ⟨rfl, rfl⟩))
    all_goals (go_wp2_with fail; go_meet)
    all_goals exact ⟨by rw [HUP.out]; rfl, hB1⟩
   case rest =>
   obtain ⟨rfl, hbE⟩ := hcut
   have gE := gC.below hbE
   have ME := MC.below hbE
   have blE := blC.trans (hbE.mono blC.size)
   have belE := bel_go belC hbE
   clear gC MC blC belC hbE
   cases up with
   | false =>
    have HUF : Hid (upB mode (((M : Nat) : Int) % 2 == 1) (Nm.rh 53 (-1074) a e) ng = false) := hid (by rw [← HHH.out, ← HUP.out])
    have HU : Hid (Nm.sh (M) (C - ((-1074) - lo)) = U) := hid (by rw [HUU.out]; unfold rdU; rw [← HMR.out, HUF.out]; unfold Nm.rU Nm.r1; rw [if_neg (by simp), ← HMR.out]; unfold Nm.sh; rw [if_neg (by omega)]; congr 2; have := HCR.out; omega)
    obtain ⟨q0, q1, q2, q3⟩ := ME.1
    obtain ⟨n0, n1⟩ := gE
    go_wp2_with fail
    have hbM : bitLen (M) ≤ 60 := (Nm.bl_le_iff _ 60).2 (by have := HMLT.out; omega)
    have HBM := hid hbM
    clear hbM
    have hsh := shift_n (M) (C - ((-1074) - lo)) a4 c4 _ ME.2 (by have := HBM.out; omega) (by omega) (by omega)
    rw [HU.out] at hsh
    refine hsh.mono ?_
    clear hsh
    rintro x wA ⟨aA, cA, rfl, oA, hbA⟩
    have gA := (Box.below ⟨n0, n1⟩ hbA).alloc (.cells #[.bool false, .slice aA (Nm.lim U).length cA] 32)
    have UA := WB.new oA.sl 32
    obtain ⟨u0, u1, u2, u3⟩ := UA.1
    obtain ⟨nA0, nA1⟩ := gA
    go_wp2_with fail
    have hlf := l2f_64 U aA cA _ UA.2 (by have h1 := Nm.bl_sh (M) (C - ((-1074) - lo)); rw [HU.out] at h1; have := HBM.out; omega)
    rw [← HOK.out] at hlf
    refine hlf.mono ?_
    clear hlf
    rintro x wB ⟨⟨b, rfl, hbv⟩, hbB⟩
    obtain ⟨nB0, nB1⟩ := Box.below ⟨nA0, nA1⟩ hbB
    have HBV := hid hbv
    clear hbv
    cases ok with
    | false =>
     go_wp2_with fail
     have hovr := fun w' => l3over_64 mode ng w' hmode
     rw [← HOV.out] at hovr
     refine (hovr _).mono ?_
     clear hovr
     rintro x wC ⟨rfl, hbC⟩
     go_wp2
     go_ret2
     exact ⟨ret_ui (HD0.out (by first | rfl | trivial)).1.symm (HD0.out (by first | rfl | trivial)).2.symm, (by repeat (first | exact bz0 _ _ | refine bz1 ?_ | refine bz2 ?_ _ | refine bz3 ?_ _ | refine bz4 ?_ hbC | refine bz4 ?_ hbB | refine bz4 ?_ hbA | refine bz4 ?_ belE | refine bz5 ?_ _ | refine bz6 ?_ _ | refine bz7 ?_ hbC | refine bz7 ?_ hbB | refine bz7 ?_ hbA | refine bz7 ?_ belE))⟩
    | true =>
     have hbb : b = (Nm.flb 53 U : Nat) := HBV.out (by first | rfl | trivial)
     have hb0 : 0 ≤ b ∧ b < 9223372036854775808 := by have := HFB.out (by first | rfl | trivial); omega
     have HBB := hid hbb
     clear hbb
     go_wp2_with fail
     refine (with_64 b ng _ (fun _ => hb0)).mono ?_
     rintro x wC ⟨rfl, hbC⟩
     go_wp2
     go_ret2
     exact ⟨ret_ui (by rw [(HD1.out (by first | rfl | trivial)).1, HBB.out]) (by rw [(HD1.out (by first | rfl | trivial)).2]; rw [if_neg HRR.out, if_pos (by have := HBL.out; omega)]), (by repeat (first | exact bz0 _ _ | refine bz1 ?_ | refine bz2 ?_ _ | refine bz3 ?_ _ | refine bz4 ?_ hbC | refine bz4 ?_ hbB | refine bz4 ?_ hbA | refine bz4 ?_ belE | refine bz5 ?_ _ | refine bz6 ?_ _ | refine bz7 ?_ hbC | refine bz7 ?_ hbB | refine bz7 ?_ hbA | refine bz7 ?_ belE))⟩
   | true =>
    have HUF : Hid (upB mode (((M : Nat) : Int) % 2 == 1) (Nm.rh 53 (-1074) a e) ng = true) := hid (by rw [← HHH.out, ← HUP.out])
    obtain ⟨m0, m1, mf0, mf1⟩ := ME.1
    go_upto_region 16 with fail
    go_cut [] (fun wx => ∃ an cn, WB wx w4.heap.size an cn (M + 1) ∧ Below w4.heap.size w4 wx)
    case first =>
     have mes := ME.2
     have HPL := hid (fun a1 c1 w' h h' => plus_n M 1 a4 a1 c4 c1 w' h h' (by have := (Nm.bl_le_iff M 60).2 (by have := HMLT.out; omega); omega) (by decide))
     have lM := ME.lt
     obtain ⟨W, hW⟩ : ∃ W, W = wc := ⟨_, rfl⟩
     go_region_with (first
      | (go_at_call 86; refine (one_n _).mono ?_; rintro x q1 ⟨d1, f1, rfl, hp1, hq1⟩; have mes1 := mes.drew.below hq1; obtain ⟨k0, k1, kf0, kf1⟩ := R2.below (R2.drew ⟨m0, m1, mf0, mf1⟩) hq1; have hB1 : Below wc.heap.size wc q1 := bel_go (Below.drew (Below.refl _ _)) hq1)
      | (go_at_call 81; refine (HPL.out d1 f1 _ mes1 hp1.sl).mono ?_; rintro x q2 ⟨d2, f2, rfl, hp2, hq2⟩; have rr2 := R2.below ⟨k0, k1, kf0, kf1⟩ hq2; obtain ⟨j0, j1, jf0, jf1⟩ := rr2))
     all_goals (go_wp2_with fail; go_meet)
     all_goals
      have l1 : wc.heap.size ≤ q1.heap.size := hB1.size
      have l2 : q1.heap.size ≤ q2.heap.size := hq2.size
      exact ⟨d2, f2, ⟨R2.set ⟨j0, j1, jf0, jf1⟩ _ _, ((hp2.setBelow (by simp; omega) _).setBelow (by simp; omega) _).sl⟩, Below.setCell (Below.setCell (blE.trans ((bel_go hB1 hq2).mono blE.size)) (by simp) _) (by simp) _⟩
    case rest =>
    obtain ⟨an, cn, MG, blG⟩ := hcut
    have gG := g4.below blG
    have belG := bel_go bel4 blG
    have HU : Hid (Nm.sh (M + 1) (C - ((-1074) - lo)) = U) := hid (by rw [HUU.out]; unfold rdU; rw [← HMR.out, HUF.out]; unfold Nm.rU Nm.r1; rw [if_pos ⟨HRR.out, rfl⟩, ← HMR.out]; unfold Nm.sh; rw [if_neg (by omega)]; congr 2; have := HCR.out; omega)
    obtain ⟨q0, q1, q2, q3⟩ := MG.1
    obtain ⟨n0, n1⟩ := gG
    go_wp2_with fail
    have hbM : bitLen (M + 1) ≤ 60 := (Nm.bl_le_iff _ 60).2 (by have := HMLT.out; omega)
    have HBM := hid hbM
    clear hbM
    have hsh := shift_n (M + 1) (C - ((-1074) - lo)) an cn _ MG.2 (by have := HBM.out; omega) (by omega) (by omega)
    rw [HU.out] at hsh
    refine hsh.mono ?_
    clear hsh
    rintro x wA ⟨aA, cA, rfl, oA, hbA⟩
    have gA := (Box.below ⟨n0, n1⟩ hbA).alloc (.cells #[.bool false, .slice aA (Nm.lim U).length cA] 32)
    have UA := WB.new oA.sl 32
    obtain ⟨u0, u1, u2, u3⟩ := UA.1
    obtain ⟨nA0, nA1⟩ := gA
    go_wp2_with fail
    have hlf := l2f_64 U aA cA _ UA.2 (by have h1 := Nm.bl_sh (M + 1) (C - ((-1074) - lo)); rw [HU.out] at h1; have := HBM.out; omega)
    rw [← HOK.out] at hlf
    refine hlf.mono ?_
    clear hlf
    rintro x wB ⟨⟨b, rfl, hbv⟩, hbB⟩
    obtain ⟨nB0, nB1⟩ := Box.below ⟨nA0, nA1⟩ hbB
    have HBV := hid hbv
    clear hbv
    cases ok with
    | false =>
     go_wp2_with fail
     have hovr := fun w' => l3over_64 mode ng w' hmode
     rw [← HOV.out] at hovr
     refine (hovr _).mono ?_
     clear hovr
     rintro x wC ⟨rfl, hbC⟩
     go_wp2
     go_ret2
     exact ⟨ret_ui (HD0.out (by first | rfl | trivial)).1.symm (HD0.out (by first | rfl | trivial)).2.symm, (by repeat (first | exact bz0 _ _ | refine bz1 ?_ | refine bz2 ?_ _ | refine bz3 ?_ _ | refine bz4 ?_ hbC | refine bz4 ?_ hbB | refine bz4 ?_ hbA | refine bz4 ?_ belG | refine bz5 ?_ _ | refine bz6 ?_ _ | refine bz7 ?_ hbC | refine bz7 ?_ hbB | refine bz7 ?_ hbA | refine bz7 ?_ belG))⟩
    | true =>
     have hbb : b = (Nm.flb 53 U : Nat) := HBV.out (by first | rfl | trivial)
     have hb0 : 0 ≤ b ∧ b < 9223372036854775808 := by have := HFB.out (by first | rfl | trivial); omega
     have HBB := hid hbb
     clear hbb
     go_wp2_with fail
     refine (with_64 b ng _ (fun _ => hb0)).mono ?_
     rintro x wC ⟨rfl, hbC⟩
     go_wp2
     go_ret2
     exact ⟨ret_ui (by rw [(HD1.out (by first | rfl | trivial)).1, HBB.out]) (by rw [(HD1.out (by first | rfl | trivial)).2]; rw [if_neg HRR.out, if_pos (by have := HBL.out; omega)]), (by repeat (first | exact bz0 _ _ | refine bz1 ?_ | refine bz2 ?_ _ | refine bz3 ?_ _ | refine bz4 ?_ hbC | refine bz4 ?_ hbB | refine bz4 ?_ hbA | refine bz4 ?_ belG | refine bz5 ?_ _ | refine bz6 ?_ _ | refine bz7 ?_ hbC | refine bz7 ?_ hbB | refine bz7 ?_ hbA | refine bz7 ?_ belG))⟩
  ·go_wp2_with fail
   have hsh := shift_n R 1 ar cr _ (hsr.below hb12) (by have := Nm.bl_mono (show R ≤ X by have := HRB.out; omega); have := HXB.out; omega) (by omega) (by omega)
   refine hsh.mono ?_
   clear hsh
   rintro x w13 ⟨a13, c13, rfl, o13, hb13⟩
   go_wp2_with fail
   refine (one_n _).mono ?_
   rintro x w14 ⟨a14, c14, rfl, o14, hb14⟩
   go_wp2_with fail
   have hsh := shift_n 1 C a14 c14 _ o14.sl (by decide) (by omega) (by omega)
   refine hsh.mono ?_
   clear hsh
   rintro x w15 ⟨a15, c15, rfl, o15, hb15⟩
   go_wp2_with fail
   have hcm := cmp_n (Nm.sh R 1) (Nm.sh 1 C) a13 a15 c13 c15 _ ((o13.sl.below hb14).below hb15) o15.sl (by have h1 := Nm.bl_sh R 1; have := Nm.bl_mono (show R ≤ X by have := HRB.out; omega); have := HXB.out; omega) (by have h1 := Nm.bl_sh 1 C; have : bitLen 1 = 1 := rfl; omega)
   rw [HHF.out HRR.out] at hcm
   refine hcm.mono ?_
   clear hcm
   rintro x w16 ⟨rfl, hb16⟩
   have bC : Below w12'.heap.size w12' w16 := ((hb13.trans (hb14.mono hb13.size)).trans (hb15.mono (Nat.le_trans hb13.size hb14.size))).trans (hb16.mono (Nat.le_trans (Nat.le_trans hb13.size hb14.size) hb15.size))
   have gC := (Box.below g8 hb12).below bC
   have MC := (M8.below hb12).below bC
   have blC := (bl8.trans (hb12.mono bl8.size)).trans (bC.mono (Nat.le_trans bl8.size hb12.size))
   have belC := bel_go (bel_go bel8 hb12) bC
   clear hb13 hb14 hb15 hb16 bC o13 o14 o15 hsr
   obtain ⟨hf, hhf⟩ : ∃ hf, hf = Nm.rh 53 (-1074) a e := ⟨_, rfl⟩
   rw [← hhf]
   obtain ⟨up, hup⟩ : ∃ up, up = upB mode (((M : Nat) : Int) % 2 == 1) hf ng := ⟨_, rfl⟩
   have HUP := hid hup; have HHH := hid hhf
   clear hup hhf
   go_upto_region 15 with fail
   go_cut [86] (fun s wx => s = .bool up ∧ Below w16.heap.size w16 wx)
   case first =>
    have HLW := hid (fun w' h => low_n M false a4 c4 w' h (by have := HMLT.out; omega))
    have mcs := MC.2
    obtain ⟨mc0, mc1, mc2, mc3⟩ := MC.1
    obtain ⟨nc0, nc1⟩ := gC
    go_region_held3 (fun w' => w'.cell? ⟨w4.heap.size, 0, none⟩ = some (.bool false) ∧ w'.cell? ⟨w4.heap.size, 1, none⟩ = some (.slice a4 (Nm.lim M).length c4) ∧ w'.cell? ⟨w.heap.size, 0, none⟩ = some (.bool ng) ∧ w'.cell? ⟨w.heap.size, 1, none⟩ = some (.slice p (Nm.lim a).length c))
     (first
      | assumption
      | exact ⟨mc0, mc1, nc0, nc1⟩
      | exact four_b mc0 mc1 nc0 nc1 hB1)
     (first
      | (go_at_call 84; refine (HLW.out _ mcs.drew).mono ?_; rintro x wD ⟨rfl, hbD⟩; have hB1 : Below w16.heap.size w16 wD := bel_go (Below.drew (Below.refl _ _)) hbD)
      | (go_at_call 83; refine (l3up_any mode _ hf ng _ hmode).mono ?_; rintro x wF ⟨rfl, rfl⟩))
    all_goals (go_wp2_with fail; go_meet)
    all_goals exact ⟨by rw [HUP.out]; rfl, hB1⟩
   case rest =>
   obtain ⟨rfl, hbE⟩ := hcut
   have gE := gC.below hbE
   have ME := MC.below hbE
   have blE := blC.trans (hbE.mono blC.size)
   have belE := bel_go belC hbE
   clear gC MC blC belC hbE
   cases up with
   | false =>
    have HUF : Hid (upB mode (((M : Nat) : Int) % 2 == 1) (Nm.rh 53 (-1074) a e) ng = false) := hid (by rw [← HHH.out, ← HUP.out])
    have HU : Hid (Nm.sh (M) (C - ((-1074) - lo)) = U) := hid (by rw [HUU.out]; unfold rdU; rw [← HMR.out, HUF.out]; unfold Nm.rU Nm.r1; rw [if_neg (by simp), ← HMR.out]; unfold Nm.sh; rw [if_neg (by omega)]; congr 2; have := HCR.out; omega)
    obtain ⟨q0, q1, q2, q3⟩ := ME.1
    obtain ⟨n0, n1⟩ := gE
    go_wp2_with fail
    have hbM : bitLen (M) ≤ 60 := (Nm.bl_le_iff _ 60).2 (by have := HMLT.out; omega)
    have HBM := hid hbM
    clear hbM
    have hsh := shift_n (M) (C - ((-1074) - lo)) a4 c4 _ ME.2 (by have := HBM.out; omega) (by omega) (by omega)
    rw [HU.out] at hsh
    refine hsh.mono ?_
    clear hsh
    rintro x wA ⟨aA, cA, rfl, oA, hbA⟩
    have gA := (Box.below ⟨n0, n1⟩ hbA).alloc (.cells #[.bool false, .slice aA (Nm.lim U).length cA] 32)
    have UA := WB.new oA.sl 32
    obtain ⟨u0, u1, u2, u3⟩ := UA.1
    obtain ⟨nA0, nA1⟩ := gA
    go_wp2_with fail
    have hlf := l2f_64 U aA cA _ UA.2 (by have h1 := Nm.bl_sh (M) (C - ((-1074) - lo)); rw [HU.out] at h1; have := HBM.out; omega)
    rw [← HOK.out] at hlf
    refine hlf.mono ?_
    clear hlf
    rintro x wB ⟨⟨b, rfl, hbv⟩, hbB⟩
    obtain ⟨nB0, nB1⟩ := Box.below ⟨nA0, nA1⟩ hbB
    have HBV := hid hbv
    clear hbv
    cases ok with
    | false =>
     go_wp2_with fail
     have hovr := fun w' => l3over_64 mode ng w' hmode
     rw [← HOV.out] at hovr
     refine (hovr _).mono ?_
     clear hovr
     rintro x wC ⟨rfl, hbC⟩
     go_wp2
     go_ret2
     exact ⟨ret_ui (HD0.out (by first | rfl | trivial)).1.symm (HD0.out (by first | rfl | trivial)).2.symm, (by repeat (first | exact bz0 _ _ | refine bz1 ?_ | refine bz2 ?_ _ | refine bz3 ?_ _ | refine bz4 ?_ hbC | refine bz4 ?_ hbB | refine bz4 ?_ hbA | refine bz4 ?_ belE | refine bz5 ?_ _ | refine bz6 ?_ _ | refine bz7 ?_ hbC | refine bz7 ?_ hbB | refine bz7 ?_ hbA | refine bz7 ?_ belE))⟩
    | true =>
     have hbb : b = (Nm.flb 53 U : Nat) := HBV.out (by first | rfl | trivial)
     have hb0 : 0 ≤ b ∧ b < 9223372036854775808 := by have := HFB.out (by first | rfl | trivial); omega
     have HBB := hid hbb
     clear hbb
     go_wp2_with fail
     refine (with_64 b ng _ (fun _ => hb0)).mono ?_
     rintro x wC ⟨rfl, hbC⟩
     go_wp2
     go_ret2
     exact ⟨ret_ui (by rw [(HD1.out (by first | rfl | trivial)).1, HBB.out]) (by rw [(HD1.out (by first | rfl | trivial)).2]; rw [if_neg HRR.out, if_neg (by have := HBL.out; omega)]), (by repeat (first | exact bz0 _ _ | refine bz1 ?_ | refine bz2 ?_ _ | refine bz3 ?_ _ | refine bz4 ?_ hbC | refine bz4 ?_ hbB | refine bz4 ?_ hbA | refine bz4 ?_ belE | refine bz5 ?_ _ | refine bz6 ?_ _ | refine bz7 ?_ hbC | refine bz7 ?_ hbB | refine bz7 ?_ hbA | refine bz7 ?_ belE))⟩
   | true =>
    have HUF : Hid (upB mode (((M : Nat) : Int) % 2 == 1) (Nm.rh 53 (-1074) a e) ng = true) := hid (by rw [← HHH.out, ← HUP.out])
    obtain ⟨m0, m1, mf0, mf1⟩ := ME.1
    go_upto_region 16 with fail
    go_cut [] (fun wx => ∃ an cn, WB wx w4.heap.size an cn (M + 1) ∧ Below w4.heap.size w4 wx)
    case first =>
     have mes := ME.2
     have HPL := hid (fun a1 c1 w' h h' => plus_n M 1 a4 a1 c4 c1 w' h h' (by have := (Nm.bl_le_iff M 60).2 (by have := HMLT.out; omega); omega) (by decide))
     have lM := ME.lt
     obtain ⟨W, hW⟩ : ∃ W, W = wc := ⟨_, rfl⟩
     go_region_with (first
      | (go_at_call 86; refine (one_n _).mono ?_; rintro x q1 ⟨d1, f1, rfl, hp1, hq1⟩; have mes1 := mes.drew.below hq1; obtain ⟨k0, k1, kf0, kf1⟩ := R2.below (R2.drew ⟨m0, m1, mf0, mf1⟩) hq1; have hB1 : Below wc.heap.size wc q1 := bel_go (Below.drew (Below.refl _ _)) hq1)
      | (go_at_call 81; refine (HPL.out d1 f1 _ mes1 hp1.sl).mono ?_; rintro x q2 ⟨d2, f2, rfl, hp2, hq2⟩; have rr2 := R2.below ⟨k0, k1, kf0, kf1⟩ hq2; obtain ⟨j0, j1, jf0, jf1⟩ := rr2))
     all_goals (go_wp2_with fail; go_meet)
     all_goals
      have l1 : wc.heap.size ≤ q1.heap.size := hB1.size
      have l2 : q1.heap.size ≤ q2.heap.size := hq2.size
      exact ⟨d2, f2, ⟨R2.set ⟨j0, j1, jf0, jf1⟩ _ _, ((hp2.setBelow (by simp; omega) _).setBelow (by simp; omega) _).sl⟩, Below.setCell (Below.setCell (blE.trans ((bel_go hB1 hq2).mono blE.size)) (by simp) _) (by simp) _⟩
    case rest =>
    obtain ⟨an, cn, MG, blG⟩ := hcut
    have gG := g4.below blG
    have belG := bel_go bel4 blG
    have HU : Hid (Nm.sh (M + 1) (C - ((-1074) - lo)) = U) := hid (by rw [HUU.out]; unfold rdU; rw [← HMR.out, HUF.out]; unfold Nm.rU Nm.r1; rw [if_pos ⟨HRR.out, rfl⟩, ← HMR.out]; unfold Nm.sh; rw [if_neg (by omega)]; congr 2; have := HCR.out; omega)
    obtain ⟨q0, q1, q2, q3⟩ := MG.1
    obtain ⟨n0, n1⟩ := gG
    go_wp2_with fail
    have hbM : bitLen (M + 1) ≤ 60 := (Nm.bl_le_iff _ 60).2 (by have := HMLT.out; omega)
    have HBM := hid hbM
    clear hbM
    have hsh := shift_n (M + 1) (C - ((-1074) - lo)) an cn _ MG.2 (by have := HBM.out; omega) (by omega) (by omega)
    rw [HU.out] at hsh
    refine hsh.mono ?_
    clear hsh
    rintro x wA ⟨aA, cA, rfl, oA, hbA⟩
    have gA := (Box.below ⟨n0, n1⟩ hbA).alloc (.cells #[.bool false, .slice aA (Nm.lim U).length cA] 32)
    have UA := WB.new oA.sl 32
    obtain ⟨u0, u1, u2, u3⟩ := UA.1
    obtain ⟨nA0, nA1⟩ := gA
    go_wp2_with fail
    have hlf := l2f_64 U aA cA _ UA.2 (by have h1 := Nm.bl_sh (M + 1) (C - ((-1074) - lo)); rw [HU.out] at h1; have := HBM.out; omega)
    rw [← HOK.out] at hlf
    refine hlf.mono ?_
    clear hlf
    rintro x wB ⟨⟨b, rfl, hbv⟩, hbB⟩
    obtain ⟨nB0, nB1⟩ := Box.below ⟨nA0, nA1⟩ hbB
    have HBV := hid hbv
    clear hbv
    cases ok with
    | false =>
     go_wp2_with fail
     have hovr := fun w' => l3over_64 mode ng w' hmode
     rw [← HOV.out] at hovr
     refine (hovr _).mono ?_
     clear hovr
     rintro x wC ⟨rfl, hbC⟩
     go_wp2
     go_ret2
     exact ⟨ret_ui (HD0.out (by first | rfl | trivial)).1.symm (HD0.out (by first | rfl | trivial)).2.symm, (by repeat (first | exact bz0 _ _ | refine bz1 ?_ | refine bz2 ?_ _ | refine bz3 ?_ _ | refine bz4 ?_ hbC | refine bz4 ?_ hbB | refine bz4 ?_ hbA | refine bz4 ?_ belG | refine bz5 ?_ _ | refine bz6 ?_ _ | refine bz7 ?_ hbC | refine bz7 ?_ hbB | refine bz7 ?_ hbA | refine bz7 ?_ belG))⟩
    | true =>
     have hbb : b = (Nm.flb 53 U : Nat) := HBV.out (by first | rfl | trivial)
     have hb0 : 0 ≤ b ∧ b < 9223372036854775808 := by have := HFB.out (by first | rfl | trivial); omega
     have HBB := hid hbb
     clear hbb
     go_wp2_with fail
     refine (with_64 b ng _ (fun _ => hb0)).mono ?_
     rintro x wC ⟨rfl, hbC⟩
     go_wp2
     go_ret2
     exact ⟨ret_ui (by rw [(HD1.out (by first | rfl | trivial)).1, HBB.out]) (by rw [(HD1.out (by first | rfl | trivial)).2]; rw [if_neg HRR.out, if_neg (by have := HBL.out; omega)]), (by repeat (first | exact bz0 _ _ | refine bz1 ?_ | refine bz2 ?_ _ | refine bz3 ?_ _ | refine bz4 ?_ hbC | refine bz4 ?_ hbB | refine bz4 ?_ hbA | refine bz4 ?_ belG | refine bz5 ?_ _ | refine bz6 ?_ _ | refine bz7 ?_ hbC | refine bz7 ?_ hbB | refine bz7 ?_ hbA | refine bz7 ?_ belG))⟩
end Go.Proofs.YtkfjmcdniohljaaGreatDoor
