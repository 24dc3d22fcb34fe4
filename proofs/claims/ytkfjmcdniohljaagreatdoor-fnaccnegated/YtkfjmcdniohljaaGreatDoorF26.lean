/-
  What is needed of RE, IH.
-/
import Derived.Test.YtkfjmcdniohljaaGreatDoorF22
import Derived.Test.YtkfjmcdniohljaaGreatDoorF25
set_option maxHeartbeats 16000000
set_option maxRecDepth 1000000
namespace Go.Proofs.YtkfjmcdniohljaaGreatDoor
set_option linter.unusedVariables false
set_option linter.unusedSimpArgs false
open Go.RowKit Go.Deep
theorem step_rn (P : Nat) (q : Int) (a : Nat) (e : Int) : max (e + (bitLen a : Int) - P) q - e = Nm.rn P q a e := by unfold Nm.rn; omega
theorem sM_r1 {P : Nat} {q : Int} {mode : Int} {ng : Bool} {a : Nat} {e : Int} (ha : a ≠ 0) :
  sM (fun od h ng => upB mode od h ng) ng a (Nm.rn P q a e) = (Nm.r1 P q a e (upB mode (((Nm.rm P q a e : Nat) : Int) % 2 == 1) (Nm.rh P q a e) ng) : Nat) := by
 unfold sM Nm.r1
 have hrm : Nm.sh a (-Nm.rn P q a e) = Nm.rm P q a e := rfl
 rw [hrm]
 by_cases hr : Nm.rr P q a e = 0
 ·rw [if_pos ((Nm.rr_tz ha).1 hr), if_neg (by simp [hr])]
 ·rw [if_neg (fun h => hr ((Nm.rr_tz ha).2 h))]
  have hh : hI a (Nm.rn P q a e) = Nm.rh P q a e := by
   unfold hI; rw [Nm.impl_half ha hr]
  rw [hh]
  cases hu : upB mode (((Nm.rm P q a e : Nat) : Int) % 2 == 1) (Nm.rh P q a e) ng
  ·show (if upB mode (((Nm.rm P q a e : Nat) : Int) % 2 == 1) (Nm.rh P q a e) ng = true then _ else _) = _
   rw [hu]; simp
  ·show (if upB mode (((Nm.rm P q a e : Nat) : Int) % 2 == 1) (Nm.rh P q a e) ng = true then _ else _) = _
   rw [hu, if_pos rfl, if_pos ⟨hr, rfl⟩]; simp
theorem fp_rd {P I : Nat} {q ones S : Int} {mode : Int} {ng : Bool} {a : Nat} {e : Int} (ha : a ≠ 0) (hP : 1 ≤ P) (hP2 : P ≤ 100) (hq : -2000 ≤ q) (hq0 : q ≤ 0) (hI : (I : Int) = ones * (2 ^ (P - 1) : Nat)) (ho : 3 ≤ ones) (ho2 : ones ≤ 2100) :
  fpO P q ones (Nm.r1 P q a e (upB mode (((Nm.rm P q a e : Nat) : Int) % 2 == 1) (Nm.rh P q a e) ng) : Nat) (Nm.rn P q a e + e) = Nm.flo P I (rdU P q mode ng a e) ∧
  (Nm.flo P I (rdU P q mode ng a e) = true → fpB P q ones S ng (Nm.r1 P q a e (upB mode (((Nm.rm P q a e : Nat) : Int) % 2 == 1) (Nm.rh P q a e) ng) : Nat) (Nm.rn P q a e + e) = sgn S (Nm.flb P (rdU P q mode ng a e) : Nat) ng) := by
 have hIp : 0 < I := by
  have hp := Nm.pw_pos2 (P - 1)
  have : (0 : Int) < ones * (2 ^ (P - 1) : Nat) := Int.mul_pos (by omega) (by omega)
  omega
 have hqn : q - e ≤ Nm.rn P q a e := by unfold Nm.rn; omega
 unfold rdU
 generalize upB mode (((Nm.rm P q a e : Nat) : Int) % 2 == 1) (Nm.rh P q a e) ng = up at *
 have key : fpO P q ones (Nm.r1 P q a e up : Nat) (Nm.rn P q a e + e) = Nm.flo P I (Nm.rU P q a e up) := by
  unfold fpO
  rw [decide_eq_true (show (0 : Int) ≤ (Nm.r1 P q a e up : Nat) by omega), decide_eq_true (show -5000 ≤ Nm.rn P q a e + e by omega)]
  by_cases hbig : 5000 < Nm.rn P q a e + e
  ·rw [decide_eq_false (show ¬ Nm.rn P q a e + e ≤ 5000 by omega), Nm.big_no ha hP hq hq0 hP2 hbig]; rfl
  ·rw [decide_eq_true (show Nm.rn P q a e + e ≤ 5000 by omega)]
   by_cases h1 : Nm.r1 P q a e up = 0
   ·rw [(Nm.r_zero h1 hIp).1, h1]; rfl
   ·rw [decide_eq_false (show ¬ ((Nm.r1 P q a e up : Nat) : Int) = 0 by omega), Nm.r_U h1]
    have hin := Nm.r_in (P := P) (q := q) (a := a) (e := e) (up := up) hP h1
    rw [Nm.st_o h1 hin hP hI ho ho2, Int.toNat_natCast]
    unfold Nm.stOk
    rw [hin]; simp
 refine ⟨key, fun hf => ?_⟩
 unfold fpB
 rw [key, hf, if_pos rfl]
 by_cases h1 : Nm.r1 P q a e up = 0
 ·rw [(Nm.r_zero h1 hIp).2, if_pos (by omega)]; rfl
 ·rw [if_neg (by omega), Nm.r_U h1, Int.toNat_natCast]
theorem ov_up {mode : Int} (h : modeB mode = true) (ng : Bool) : upB mode false 1 ng = !ovB mode ng := by
 rcases mode_cases h with rfl | rfl | rfl | rfl | rfl | rfl <;> cases ng <;> rfl
structure T3 (w : World) : Prop where
 s : Ts w
 t32 : Tb w 3 Lib.deBruijn32tab
theorem T3.below {w w' : World} (h : T3 w) (hb : Below w.heap.size w w') : T3 w' := ⟨h.s.below hb, h.t32.below (by decide) hb⟩
theorem T3.al {w : World} (h : T3 w) (o : Obj) : T3 (w.alloc o) := h.below ((Below.refl _ _).alloc (Nat.le_refl _) _)
theorem T3.dr {w : World} (h : T3 w) : T3 w.drew := ⟨h.s.dr, h.t32⟩
theorem ret_uib2 {a a' b b' : Int} {c c' : Bool} (h : a = a') (k : b = b') (l : c = c') : Ending.returned (.tuple #[.int .u64 a, .int .i64 b, .bool c]) = .returned (.tuple #[.int .u64 a', .int .i64 b', .bool c']) := by rw [h, k, l]
theorem beyond_32 (mode : Int) (ng : Bool) (w : World) (hT : Tab w) (h : modeB mode = true) :
  Calls Tryz.prog 159 #[.int .i64 32, .bool ng, .func (.func (ruleF mode)) #[] #[]] w fun e w' => e = .returned (.int .u64 (if ovB mode ng then sgn 2147483648 2139095039 ng else sgn 2147483648 2139095040 ng)) ∧ Below w.heap.size w w' := by
 have hby := rule_any mode h
 have HBY := hid (fun w' => hby.2 ng false 1 w' (by right; right; rfl))
 have hrun := hby.1
 obtain ⟨fid, hfid⟩ : ∃ fid, fid = ruleF mode := ⟨_, rfl⟩
 rw [← hfid] at hrun HBY ⊢
 have HOV := hid (ov_up h ng)
 clear hfid hby
 cases hv : ovB mode ng with
 | true =>
  have hu : Hid (upB mode false 1 ng = false) := hid (by rw [HOV.out, hv]; rfl)
  have C := HBY.out
  simp only [hu.out] at C
  have HC := hid C
  clear C hv
  go_enter Tryz.func159, Tryz.ntmps159
  go_wp2_with fail
  refine (HC.out _).mono ?_
  rintro e w1 ⟨rfl, hb1⟩
  go_wp2_with fail
  refine (impl_Greatest32 ng _ (hT.below hb1)).mono ?_
  rintro e w2 ⟨rfl, hb2⟩
  go_wp2
  go_ret
  exact ⟨rfl, (by repeat (first | exact bz0 _ _ | refine bz1 ?_ | refine bz2 ?_ _ | refine bz3 ?_ _ | refine bz4 ?_ hb2 | refine bz4 ?_ hb1 | refine bz5 ?_ _ | refine bz6 ?_ _ | refine bz7 ?_ hb2 | refine bz7 ?_ hb1))⟩
 | false =>
  have hu : Hid (upB mode false 1 ng = true) := hid (by rw [HOV.out, hv]; rfl)
  have C := HBY.out
  simp only [hu.out] at C
  have HC := hid C
  clear C hv
  go_enter Tryz.func159, Tryz.ntmps159
  go_wp2_with fail
  refine (HC.out _).mono ?_
  rintro e w1 ⟨rfl, hb1⟩
  go_wp2_with fail
  refine (impl_Inf32 ng _ (hT.below hb1)).mono ?_
  rintro e w2 ⟨rfl, hb2⟩
  go_wp2
  go_ret
  exact ⟨rfl, (by repeat (first | exact bz0 _ _ | refine bz1 ?_ | refine bz2 ?_ _ | refine bz3 ?_ _ | refine bz4 ?_ hb2 | refine bz4 ?_ hb1 | refine bz5 ?_ _ | refine bz6 ?_ _ | refine bz7 ?_ hb2 | refine bz7 ?_ hb1))⟩
theorem beyond_64 (mode : Int) (ng : Bool) (w : World) (hT : Tab w) (h : modeB mode = true) :
  Calls Tryz.prog 159 #[.int .i64 64, .bool ng, .func (.func (ruleF mode)) #[] #[]] w fun e w' => e = .returned (.int .u64 (if ovB mode ng then sgn 9223372036854775808 9218868437227405311 ng else sgn 9223372036854775808 9218868437227405312 ng)) ∧ Below w.heap.size w w' := by
 have hby := rule_any mode h
 have HBY := hid (fun w' => hby.2 ng false 1 w' (by right; right; rfl))
 have hrun := hby.1
 obtain ⟨fid, hfid⟩ : ∃ fid, fid = ruleF mode := ⟨_, rfl⟩
 rw [← hfid] at hrun HBY ⊢
 have HOV := hid (ov_up h ng)
 clear hfid hby
 cases hv : ovB mode ng with
 | true =>
  have hu : Hid (upB mode false 1 ng = false) := hid (by rw [HOV.out, hv]; rfl)
  have C := HBY.out
  simp only [hu.out] at C
  have HC := hid C
  clear C hv
  go_enter Tryz.func159, Tryz.ntmps159
  go_wp2_with fail
  refine (HC.out _).mono ?_
  rintro e w1 ⟨rfl, hb1⟩
  go_wp2_with fail
  refine (impl_Greatest64 ng _ (hT.below hb1)).mono ?_
  rintro e w2 ⟨rfl, hb2⟩
  go_wp2
  go_ret
  exact ⟨rfl, (by repeat (first | exact bz0 _ _ | refine bz1 ?_ | refine bz2 ?_ _ | refine bz3 ?_ _ | refine bz4 ?_ hb2 | refine bz4 ?_ hb1 | refine bz5 ?_ _ | refine bz6 ?_ _ | refine bz7 ?_ hb2 | refine bz7 ?_ hb1))⟩
 | false =>
  have hu : Hid (upB mode false 1 ng = true) := hid (by rw [HOV.out, hv]; rfl)
  have C := HBY.out
  simp only [hu.out] at C
  have HC := hid C
  clear C hv
  go_enter Tryz.func159, Tryz.ntmps159
  go_wp2_with fail
  refine (HC.out _).mono ?_
  rintro e w1 ⟨rfl, hb1⟩
  go_wp2_with fail
  refine (impl_Inf64 ng _ (hT.below hb1)).mono ?_
  rintro e w2 ⟨rfl, hb2⟩
  go_wp2
  go_ret
  exact ⟨rfl, (by repeat (first | exact bz0 _ _ | refine bz1 ?_ | refine bz2 ?_ _ | refine bz3 ?_ _ | refine bz4 ?_ hb2 | refine bz4 ?_ hb1 | refine bz5 ?_ _ | refine bz6 ?_ _ | refine bz7 ?_ hb2 | refine bz7 ?_ hb1))⟩
theorem five_b {W W' : World} {b b' : Nat} {v0 v1 u0 u1 u2 : Value} (h0 : W.cell? ⟨b, 0, none⟩ = some v0) (h1 : W.cell? ⟨b, 1, none⟩ = some v1) (k0 : W.cell? ⟨b', 0, none⟩ = some u0) (k1 : W.cell? ⟨b', 1, none⟩ = some u1) (k2 : W.cell? ⟨b', 2, none⟩ = some u2) (hb : Below W.heap.size W W') :
  W'.cell? ⟨b, 0, none⟩ = some v0 ∧ W'.cell? ⟨b, 1, none⟩ = some v1 ∧ W'.cell? ⟨b', 0, none⟩ = some u0 ∧ W'.cell? ⟨b', 1, none⟩ = some u1 ∧ W'.cell? ⟨b', 2, none⟩ = some u2 :=
 ⟨(Box.below ⟨h0, h1⟩ hb).1, (Box.below ⟨h0, h1⟩ hb).2, (Box.below ⟨k0, k1⟩ hb).1, (Box.below ⟨k0, k1⟩ hb).2, (hb.cell (p := ⟨b', 2, none⟩) (World.block_lt_of_cell? W ⟨b', 0, none⟩ k0)).trans k2⟩
attribute [local go_sem ↓] Go.wp_at_zero Go.wp_at_succ
theorem bl_n (ng : Bool) (x : Nat) (a : Option Addr) (c : Nat) (w : World) (hx : Sl .u32 w (.slice a (Nm.lim x).length c) (Nm.lim x)) (h0 : x ≠ 0) (hl : bitLen x ≤ 6400) :
  Calls Tryz.prog 155 #[.agg #[.bool ng, .slice a (Nm.lim x).length c]] w fun e w' => e = .returned (.int .i64 (bitLen x : Nat)) ∧ Below w.heap.size w w' := by
 have h := bl_impl ng a c (Nm.lim x) w hx (Nm.lim_dg x) (by have := lim_len (x := x) (k := 200) (by omega); omega)
 have e : blW ng (Nm.lim x) = (bitLen x : Int) := by unfold blW; rw [ok_lim h0 hl, if_pos rfl, blL_lim]
 rw [e] at h
 exact h
theorem rnd_32 (mode : Int) (ng : Bool) (a : Nat) (e : Int) (p : Option Addr) (c : Nat) (w : World) (hT : T3 w) (hs : Sl .u32 w (.slice p (Nm.lim a).length c) (Nm.lim a)) (hmode : modeB mode = true) (ha : a ≠ 0) (hl : bitLen a ≤ 6400) (h0 : -10000 ≤ e) (h1 : e ≤ 10000) :
  Calls Tryz.prog 57 #[.int .i64 32, .int .i64 mode, .agg #[.bool ng, .slice p (Nm.lim a).length c], .int .i64 e] w fun x w' => x = .returned (.tuple #[.int .u64 (rdB 24 (-149) 2139095040 2147483648 mode ng a e), .int .i64 (rdF 24 (-149) 2139095040 mode ng a e), .bool true]) ∧ Below w.heap.size w w' := by
 obtain ⟨B, hB⟩ : ∃ B : Int, B = ((bitLen a : Nat) : Int) := ⟨_, rfl⟩
 have B0 : 1 ≤ B := by have := Nm.bl_pos ha; omega
 have B1 : B ≤ 6400 := by omega
 obtain ⟨st, hst⟩ : ∃ st : Int, st = max (e + B - 24) (-149) := ⟨_, rfl⟩
 have hrn : st - e = Nm.rn 24 (-149) a e := by rw [hst, hB]; exact step_rn 24 (-149) a e
 have s0 : (-149) ≤ st := by omega
 have s1 : st ≤ 16400 := by omega
 have s2 : -10000 ≤ st - e := by omega
 have s3 : st - e ≤ 10000 := by omega
 have hok := ok_lim ha hl ng
 have hlen : (Nm.lim a).length ≤ 200 := lim_len (by omega)
 have hne : (Nm.lim a).length ≠ 0 := fun h => ha ((Nm.lim_length_zero a).1 h)
 obtain ⟨m, hm⟩ : ∃ m : Int, m = sM (fun od h ng => upB mode od h ng) ng a (st - e) := ⟨_, rfl⟩
 obtain ⟨ex, hex⟩ : ∃ ex, ex = decide (st - e ≤ Nm.tz a) := ⟨_, rfl⟩
 have hr1 := sM_r1 (P := 24) (q := (-149)) (mode := mode) (ng := ng) (e := e) ha
 rw [← hrn, ← hm] at hr1
 have hfp := fp_rd (P := 24) (I := 2139095040) (q := (-149)) (ones := 255) (S := 2147483648) (mode := mode) (ng := ng) (e := e) ha (by decide) (by decide) (by decide) (by decide) (by decide) (by decide) (by decide)
 have hr1b := Nm.r1_le (P := 24) (q := (-149)) (a := a) (e := e) (upB mode (((Nm.rm 24 (-149) a e : Nat) : Int) % 2 == 1) (Nm.rh 24 (-149) a e) ng)
 rw [← hr1, ← hrn, show st - e + e = st by omega] at hfp
 have m0 : 0 ≤ m := by omega
 have m1 : m < 9223372036854775808 := by omega
 obtain ⟨ok, hok2⟩ : ∃ ok, ok = Nm.flo 24 2139095040 (rdU 24 (-149) mode ng a e) := ⟨_, rfl⟩
 obtain ⟨y, hy⟩ : ∃ y, y = fpB 24 (-149) 255 2147483648 ng m st := ⟨_, rfl⟩
 obtain ⟨ov, hov⟩ : ∃ ov : Int, ov = (if ovB mode ng then sgn 2147483648 2139095039 ng else sgn 2147483648 2139095040 ng) := ⟨_, rfl⟩
 have C1 := hid (fun w' h h' => stepped_n (ruleF mode) _ (rule_any mode hmode) ng a (st - e) p c w' h h' ha hl s2 s3 (by
  have := Nm.rm_lt (P := 24) (q := (-149)) (a := a) (e := e)
  have e1 : Nm.sh a (-(st - e)) = Nm.rm 24 (-149) a e := by unfold Nm.rm; rw [hrn]
  rw [e1]; omega))
 rw [← hm, ← hex] at C1
 have C2 := hid (fun w' h => fp_32 ng m st w' h m1)
 rw [hfp.1, ← hok2, ← hy] at C2
 have C3 := hid (fun w' h => beyond_32 mode ng w' h hmode)
 rw [← hov] at C3
 have C4 := hid (fun w' h => bl_n ng a p c w' h ha hl)
 rw [← hB] at C4
 have HD0 : Hid (ok = false → rdB 24 (-149) 2139095040 2147483648 mode ng a e = ov ∧ rdF 24 (-149) 2139095040 mode ng a e = 5) := hid (fun h => by
  unfold rdB rdF; rw [← hok2, h, hov]; exact ⟨rfl, rfl⟩)
 have HD1 : Hid (ok = true → rdB 24 (-149) 2139095040 2147483648 mode ng a e = y ∧ rdF 24 (-149) 2139095040 mode ng a e = if ex then 0 else if e + B - 24 < (-149) then 3 else 1) := hid (fun h => by
  have h' : Nm.flo 24 2139095040 (rdU 24 (-149) mode ng a e) = true := by rw [← hok2]; exact h
  unfold rdB rdF; rw [h', hy, hfp.2 h', hex]
  refine ⟨rfl, ?_⟩
  have hz := Nm.rr_tz (P := 24) (q := (-149)) (a := a) (e := e) ha
  rw [← hrn] at hz
  rw [if_pos rfl]
  by_cases hr : Nm.rr 24 (-149) a e = 0
  ·rw [if_pos hr, decide_eq_true (hz.1 hr), if_pos rfl]
  ·rw [if_neg hr, decide_eq_false (fun h => hr (hz.2 h))]
   simp only [Bool.false_eq_true, if_false]
   split <;> split <;> first | rfl | (exfalso; omega))
 have HST := hid hst
 have C5 := hid (fun w' h => ok_impl ng p c (Nm.lim a) w' h (by omega))
 rw [hok] at C5
 have hnl : (((Nm.lim a).length : Int) == 0) = false := by rw [beq_eq_false_iff_ne]; omega
 have HMO := hid hmode
 clear hB hst hrn hok hne hm hex hr1 hfp hr1b hok2 hy hov ha hl hlen
 go_enter Tryz.func57, Tryz.ntmps57
 go_wp2_with fail
 refine (sizes32 _ (hT.s.f.al _)).mono ?_
 rintro x w1 ⟨rfl, hb1⟩
 have T1 := ((hT.al _).below hb1).al (.cells #[.int .u64 23, .int .u64 255, .int .i64 (-149)] 121)
 have g1 := ((Box.new w (.bool ng) (.slice p (Nm.lim a).length c) 32).below hb1).alloc (.cells #[.int .u64 23, .int .u64 255, .int .i64 (-149)] 121)
 have z1 := R3.new w1 (.int .u64 23) (.int .u64 255) (.int .i64 (-149)) 121
 have sl1 := ((hs.alloc _).below hb1).alloc (.cells #[.int .u64 23, .int .u64 255, .int .i64 (-149)] 121)
 have bel1 : Below w.heap.size w (w1.alloc (.cells #[.int .u64 23, .int .u64 255, .int .i64 (-149)] 121)) := (by repeat (first | exact bz0 _ _ | refine bz1 ?_ | refine bz2 ?_ _ | refine bz3 ?_ _ | refine bz4 ?_ hb1 | refine bz5 ?_ _ | refine bz6 ?_ _ | refine bz7 ?_ hb1))
 clear hb1
 go_wp2_with fail
 refine (mode_impl mode _).mono ?_
 rw [HMO.out]
 rintro x w2 ⟨rfl, rfl⟩
 have g1' := g1
 obtain ⟨g10, g11⟩ := g1'
 go_wp2_with fail
 refine (C5.out _ sl1).mono ?_
 rintro x w3 ⟨rfl, hb3⟩
 have T3' := T1.below hb3
 have g3 := g1.below hb3
 have z3 := z1.below hb3
 have sl3 := sl1.below hb3
 have bel3 := bel_go bel1 hb3
 clear T1 g1 z1 sl1 bel1 hb3 g10 g11
 have g3' := g3
 obtain ⟨g30, g31⟩ := g3'
 go_wp2_with fail
 refine (ruleOf_any mode _ hmode).mono ?_
 rintro x w4 ⟨rfl, hb4⟩
 have T4 := T3'.below hb4
 have g4 := g3.below hb4
 have z4 := z3.below hb4
 have sl4 := sl3.below hb4
 have bel4 := bel_go bel3 hb4
 clear T3' g3 z3 sl3 bel3 hb4 g30 g31
 go_upto_region 7 with fail
 go_cut [14] (fun s wx => s = .int .i64 (e + B - 24) ∧ Below w4.heap.size w4 wx)
 case first =>
  obtain ⟨g40, g41⟩ := g4
  obtain ⟨z40, z41, z42, y40, y41, y42⟩ := z4
  go_region_held3 (fun w' => w'.cell? ⟨w.heap.size, 0, none⟩ = some (.bool ng) ∧ w'.cell? ⟨w.heap.size, 1, none⟩ = some (.slice p (Nm.lim a).length c) ∧ w'.cell? ⟨w1.heap.size, 0, none⟩ = some (.int .u64 23) ∧ w'.cell? ⟨w1.heap.size, 1, none⟩ = some (.int .u64 255) ∧ w'.cell? ⟨w1.heap.size, 2, none⟩ = some (.int .i64 (-149)))
   (first
    | assumption
    | exact ⟨g40, g41, z40, z41, z42⟩
    | exact five_b g40 g41 z40 z41 z42 hB1
    | exact five_b g40 g41 z40 z41 z42 hB2)
   (first
    | (go_at_call 155; refine (C4.out _ (by first | exact sl4.drew | exact Sl.below sl4 hB2)).mono ?_; rintro x q1 ⟨rfl, hq1⟩; have hB1 : Below w4.heap.size w4 q1 := (by first | exact bel_go (Below.drew (Below.refl _ _)) hq1 | exact bel_go hB2 hq1))
    | (go_at_call 156; refine (prec_32 _).mono ?_; rintro x q2 ⟨rfl, hq2⟩; have hB2 : Below w4.heap.size w4 q2 := (by first | exact bel_go hB1 hq2 | exact bel_go (Below.drew (Below.refl _ _)) hq2)))
  all_goals (go_wp2_with fail; go_meet)
  all_goals refine ⟨?_, hB2⟩
  all_goals (congr 1; rw [IntKind.wrap_i64, IntKind.wrap_i64]; omega)
 case rest =>
 obtain ⟨rfl, hb5⟩ := hcut
 have T5 := T4.below hb5
 have g5 := g4.below hb5
 have z5 := z4.below hb5
 have sl5 := sl4.below hb5
 have bel5 := bel_go bel4 hb5
 clear T4 g4 z4 sl4 bel4 hb5
 have z5' := z5
 obtain ⟨z50, z51, z52, y50, y51, y52⟩ := z5'
 go_upto_region 8 with fail
 go_cut [15] (fun s wx => s = .int .i64 st ∧ wx = wc)
 case first =>
  by_cases hc : e + B - 24 < (-149)
  all_goals go_wp2_with fail
  all_goals go_meet
  all_goals exact ⟨by rw [HST.out]; congr 1; omega, rfl⟩
 case rest =>
 obtain ⟨rfl, rfl⟩ := hcut
 have g5' := g5
 obtain ⟨g50, g51⟩ := g5'
 go_wp2_with fail
 refine (C1.out _ T5.t32 sl5).mono ?_
 rintro x w6 ⟨rfl, hb6⟩
 have T6 := T5.below hb6
 have g6 := g5.below hb6
 have z6 := z5.below hb6
 have bel6 := bel_go bel5 hb6
 clear T5 g5 z5 sl5 bel5 hb6 g50 g51 z50 z51 z52 y50 y51 y52
 have g6' := g6
 obtain ⟨g60, g61⟩ := g6'
 go_wp2_with fail
 refine (C2.out _ T6.s).mono ?_
 rintro x w7 ⟨rfl, hb7⟩
 have T7 := T6.below hb7
 obtain ⟨g70, g71⟩ := g6.below hb7
 obtain ⟨z70, z71, z72, y70, y71, y72⟩ := z6.below hb7
 have bel7 := bel_go bel6 hb7
 clear T6 g6 z6 bel6 hb7 g60 g61
 cases ok with
 | false =>
  go_wp2_with fail
  refine (C3.out _ T7.s.f).mono ?_
  rintro x w8 ⟨rfl, hb8⟩
  go_wp2
  go_ret3
  exact ⟨ret_uib2 (HD0.out (by first | rfl | trivial)).1.symm (HD0.out (by first | rfl | trivial)).2.symm rfl, (by repeat (first | exact bz0 _ _ | refine bz1 ?_ | refine bz2 ?_ _ | refine bz3 ?_ _ | refine bz4 ?_ hb8 | refine bz4 ?_ bel7 | refine bz5 ?_ _ | refine bz6 ?_ _ | refine bz7 ?_ hb8 | refine bz7 ?_ bel7))⟩
 | true =>
  cases ex with
  | true =>
   go_wp2
   go_ret3
   exact ⟨ret_uib2 (HD1.out (by first | rfl | trivial)).1.symm (by rw [(HD1.out (by first | rfl | trivial)).2]; rfl) rfl, (by repeat (first | exact bz0 _ _ | refine bz1 ?_ | refine bz2 ?_ _ | refine bz3 ?_ _ | refine bz4 ?_ bel7 | refine bz5 ?_ _ | refine bz6 ?_ _ | refine bz7 ?_ bel7))⟩
  | false =>
   by_cases hu : e + B - 24 < (-149)
   ·go_wp2
    go_ret3
    exact ⟨ret_uib2 (HD1.out (by first | rfl | trivial)).1.symm (by rw [(HD1.out (by first | rfl | trivial)).2, if_neg (by decide), if_pos hu]) rfl, (by repeat (first | exact bz0 _ _ | refine bz1 ?_ | refine bz2 ?_ _ | refine bz3 ?_ _ | refine bz4 ?_ bel7 | refine bz5 ?_ _ | refine bz6 ?_ _ | refine bz7 ?_ bel7))⟩
   ·go_wp2
    go_ret3
    exact ⟨ret_uib2 (HD1.out (by first | rfl | trivial)).1.symm (by rw [(HD1.out (by first | rfl | trivial)).2, if_neg (by decide), if_neg (by omega)]) rfl, (by repeat (first | exact bz0 _ _ | refine bz1 ?_ | refine bz2 ?_ _ | refine bz3 ?_ _ | refine bz4 ?_ bel7 | refine bz5 ?_ _ | refine bz6 ?_ _ | refine bz7 ?_ bel7))⟩
theorem rnd_64 (mode : Int) (ng : Bool) (a : Nat) (e : Int) (p : Option Addr) (c : Nat) (w : World) (hT : T3 w) (hs : Sl .u32 w (.slice p (Nm.lim a).length c) (Nm.lim a)) (hmode : modeB mode = true) (ha : a ≠ 0) (hl : bitLen a ≤ 6400) (h0 : -10000 ≤ e) (h1 : e ≤ 10000) :
  Calls Tryz.prog 57 #[.int .i64 64, .int .i64 mode, .agg #[.bool ng, .slice p (Nm.lim a).length c], .int .i64 e] w fun x w' => x = .returned (.tuple #[.int .u64 (rdB 53 (-1074) 9218868437227405312 9223372036854775808 mode ng a e), .int .i64 (rdF 53 (-1074) 9218868437227405312 mode ng a e), .bool true]) ∧ Below w.heap.size w w' := by
 obtain ⟨B, hB⟩ : ∃ B : Int, B = ((bitLen a : Nat) : Int) := ⟨_, rfl⟩
 have B0 : 1 ≤ B := by have := Nm.bl_pos ha; omega
 have B1 : B ≤ 6400 := by omega
 obtain ⟨st, hst⟩ : ∃ st : Int, st = max (e + B - 53) (-1074) := ⟨_, rfl⟩
 have hrn : st - e = Nm.rn 53 (-1074) a e := by rw [hst, hB]; exact step_rn 53 (-1074) a e
 have s0 : (-1074) ≤ st := by omega
 have s1 : st ≤ 16400 := by omega
 have s2 : -10000 ≤ st - e := by omega
 have s3 : st - e ≤ 10000 := by omega
 have hok := ok_lim ha hl ng
 have hlen : (Nm.lim a).length ≤ 200 := lim_len (by omega)
 have hne : (Nm.lim a).length ≠ 0 := fun h => ha ((Nm.lim_length_zero a).1 h)
 obtain ⟨m, hm⟩ : ∃ m : Int, m = sM (fun od h ng => upB mode od h ng) ng a (st - e) := ⟨_, rfl⟩
 obtain ⟨ex, hex⟩ : ∃ ex, ex = decide (st - e ≤ Nm.tz a) := ⟨_, rfl⟩
 have hr1 := sM_r1 (P := 53) (q := (-1074)) (mode := mode) (ng := ng) (e := e) ha
 rw [← hrn, ← hm] at hr1
 have hfp := fp_rd (P := 53) (I := 9218868437227405312) (q := (-1074)) (ones := 2047) (S := 9223372036854775808) (mode := mode) (ng := ng) (e := e) ha (by decide) (by decide) (by decide) (by decide) (by decide) (by decide) (by decide)
 have hr1b := Nm.r1_le (P := 53) (q := (-1074)) (a := a) (e := e) (upB mode (((Nm.rm 53 (-1074) a e : Nat) : Int) % 2 == 1) (Nm.rh 53 (-1074) a e) ng)
 rw [← hr1, ← hrn, show st - e + e = st by omega] at hfp
 have m0 : 0 ≤ m := by omega
 have m1 : m < 9223372036854775808 := by omega
 obtain ⟨ok, hok2⟩ : ∃ ok, ok = Nm.flo 53 9218868437227405312 (rdU 53 (-1074) mode ng a e) := ⟨_, rfl⟩
 obtain ⟨y, hy⟩ : ∃ y, y = fpB 53 (-1074) 2047 9223372036854775808 ng m st := ⟨_, rfl⟩
 obtain ⟨ov, hov⟩ : ∃ ov : Int, ov = (if ovB mode ng then sgn 9223372036854775808 9218868437227405311 ng else sgn 9223372036854775808 9218868437227405312 ng) := ⟨_, rfl⟩
 have C1 := hid (fun w' h h' => stepped_n (ruleF mode) _ (rule_any mode hmode) ng a (st - e) p c w' h h' ha hl s2 s3 (by
  have := Nm.rm_lt (P := 53) (q := (-1074)) (a := a) (e := e)
  have e1 : Nm.sh a (-(st - e)) = Nm.rm 53 (-1074) a e := by unfold Nm.rm; rw [hrn]
  rw [e1]; omega))
 rw [← hm, ← hex] at C1
 have C2 := hid (fun w' h => fp_64 ng m st w' h m1)
 rw [hfp.1, ← hok2, ← hy] at C2
 have C3 := hid (fun w' h => beyond_64 mode ng w' h hmode)
 rw [← hov] at C3
 have C4 := hid (fun w' h => bl_n ng a p c w' h ha hl)
 rw [← hB] at C4
 have HD0 : Hid (ok = false → rdB 53 (-1074) 9218868437227405312 9223372036854775808 mode ng a e = ov ∧ rdF 53 (-1074) 9218868437227405312 mode ng a e = 5) := hid (fun h => by
  unfold rdB rdF; rw [← hok2, h, hov]; exact ⟨rfl, rfl⟩)
 have HD1 : Hid (ok = true → rdB 53 (-1074) 9218868437227405312 9223372036854775808 mode ng a e = y ∧ rdF 53 (-1074) 9218868437227405312 mode ng a e = if ex then 0 else if e + B - 53 < (-1074) then 3 else 1) := hid (fun h => by
  have h' : Nm.flo 53 9218868437227405312 (rdU 53 (-1074) mode ng a e) = true := by rw [← hok2]; exact h
  unfold rdB rdF; rw [h', hy, hfp.2 h', hex]
  refine ⟨rfl, ?_⟩
  have hz := Nm.rr_tz (P := 53) (q := (-1074)) (a := a) (e := e) ha
  rw [← hrn] at hz
  rw [if_pos rfl]
  by_cases hr : Nm.rr 53 (-1074) a e = 0
  ·rw [if_pos hr, decide_eq_true (hz.1 hr), if_pos rfl]
  ·rw [if_neg hr, decide_eq_false (fun h => hr (hz.2 h))]
   simp only [Bool.false_eq_true, if_false]
   split <;> split <;> first | rfl | (exfalso; omega))
 have HST := hid hst
 have C5 := hid (fun w' h => ok_impl ng p c (Nm.lim a) w' h (by omega))
 rw [hok] at C5
 have hnl : (((Nm.lim a).length : Int) == 0) = false := by rw [beq_eq_false_iff_ne]; omega
 have HMO := hid hmode
 clear hB hst hrn hok hne hm hex hr1 hfp hr1b hok2 hy hov ha hl hlen
 go_enter Tryz.func57, Tryz.ntmps57
 go_wp2_with fail
 refine (sizes64 _ (hT.s.f.al _)).mono ?_
 rintro x w1 ⟨rfl, hb1⟩
 have T1 := ((hT.al _).below hb1).al (.cells #[.int .u64 52, .int .u64 2047, .int .i64 (-1074)] 121)
 have g1 := ((Box.new w (.bool ng) (.slice p (Nm.lim a).length c) 32).below hb1).alloc (.cells #[.int .u64 52, .int .u64 2047, .int .i64 (-1074)] 121)
 have z1 := R3.new w1 (.int .u64 52) (.int .u64 2047) (.int .i64 (-1074)) 121
 have sl1 := ((hs.alloc _).below hb1).alloc (.cells #[.int .u64 52, .int .u64 2047, .int .i64 (-1074)] 121)
 have bel1 : Below w.heap.size w (w1.alloc (.cells #[.int .u64 52, .int .u64 2047, .int .i64 (-1074)] 121)) := (by repeat (first | exact bz0 _ _ | refine bz1 ?_ | refine bz2 ?_ _ | refine bz3 ?_ _ | refine bz4 ?_ hb1 | refine bz5 ?_ _ | refine bz6 ?_ _ | refine bz7 ?_ hb1))
 clear hb1
 go_wp2_with fail
 refine (mode_impl mode _).mono ?_
 rw [HMO.out]
 rintro x w2 ⟨rfl, rfl⟩
 have g1' := g1
 obtain ⟨g10, g11⟩ := g1'
 go_wp2_with fail
 refine (C5.out _ sl1).mono ?_
 rintro x w3 ⟨rfl, hb3⟩
 have T3' := T1.below hb3
 have g3 := g1.below hb3
 have z3 := z1.below hb3
 have sl3 := sl1.below hb3
 have bel3 := bel_go bel1 hb3
 clear T1 g1 z1 sl1 bel1 hb3 g10 g11
 have g3' := g3
 obtain ⟨g30, g31⟩ := g3'
 go_wp2_with fail
 refine (ruleOf_any mode _ hmode).mono ?_
 rintro x w4 ⟨rfl, hb4⟩
 have T4 := T3'.below hb4
 have g4 := g3.below hb4
 have z4 := z3.below hb4
 have sl4 := sl3.below hb4
 have bel4 := bel_go bel3 hb4
 clear T3' g3 z3 sl3 bel3 hb4 g30 g31
 go_upto_region 7 with fail
 go_cut [14] (fun s wx => s = .int .i64 (e + B - 53) ∧ Below w4.heap.size w4 wx)
 case first =>
  obtain ⟨g40, g41⟩ := g4
  obtain ⟨z40, z41, z42, y40, y41, y42⟩ := z4
  go_region_held3 (fun w' => w'.cell? ⟨w.heap.size, 0, none⟩ = some (.bool ng) ∧ w'.cell? ⟨w.heap.size, 1, none⟩ = some (.slice p (Nm.lim a).length c) ∧ w'.cell? ⟨w1.heap.size, 0, none⟩ = some (.int .u64 52) ∧ w'.cell? ⟨w1.heap.size, 1, none⟩ = some (.int .u64 2047) ∧ w'.cell? ⟨w1.heap.size, 2, none⟩ = some (.int .i64 (-1074)))
   (first
    | assumption
    | exact ⟨g40, g41, z40, z41, z42⟩
    | exact five_b g40 g41 z40 z41 z42 hB1
    | exact five_b g40 g41 z40 z41 z42 hB2)
   (first
    | (go_at_call 155; refine (C4.out _ (by first | exact sl4.drew | exact Sl.below sl4 hB2)).mono ?_; rintro x q1 ⟨rfl, hq1⟩; have hB1 : Below w4.heap.size w4 q1 := (by first | exact bel_go (Below.drew (Below.refl _ _)) hq1 | exact bel_go hB2 hq1))
    | (go_at_call 156; refine (prec_64 _).mono ?_; rintro x q2 ⟨rfl, hq2⟩; have hB2 : Below w4.heap.size w4 q2 := (by first | exact bel_go hB1 hq2 | exact bel_go (Below.drew (Below.refl _ _)) hq2)))
  all_goals (go_wp2_with fail; go_meet)
  all_goals refine ⟨?_, hB2⟩
  all_goals (congr 1; rw [IntKind.wrap_i64, IntKind.wrap_i64]; omega)
 case rest =>
 obtain ⟨rfl, hb5⟩ := hcut
 have T5 := T4.below hb5
 have g5 := g4.below hb5
 have z5 := z4.below hb5
 have sl5 := sl4.below hb5
 have bel5 := bel_go bel4 hb5
 clear T4 g4 z4 sl4 bel4 hb5
 have z5' := z5
 obtain ⟨z50, z51, z52, y50, y51, y52⟩ := z5'
 go_upto_region 8 with fail
 go_cut [15] (fun s wx => s = .int .i64 st ∧ wx = wc)
 case first =>
  by_cases hc : e + B - 53 < (-1074)
  all_goals go_wp2_with fail
  all_goals go_meet
  all_goals exact ⟨by rw [HST.out]; congr 1; omega, rfl⟩
 case rest =>
 obtain ⟨rfl, rfl⟩ := hcut
 have g5' := g5
 obtain ⟨g50, g51⟩ := g5'
 go_wp2_with fail
 refine (C1.out _ T5.t32 sl5).mono ?_
 rintro x w6 ⟨rfl, hb6⟩
 have T6 := T5.below hb6
 have g6 := g5.below hb6
 have z6 := z5.below hb6
 have bel6 := bel_go bel5 hb6
 clear T5 g5 z5 sl5 bel5 hb6 g50 g51 z50 z51 z52 y50 y51 y52
 have g6' := g6
 obtain ⟨g60, g61⟩ := g6'
 go_wp2_with fail
 refine (C2.out _ T6.s).mono ?_
 rintro x w7 ⟨rfl, hb7⟩
 have T7 := T6.below hb7
 obtain ⟨g70, g71⟩ := g6.below hb7
 obtain ⟨z70, z71, z72, y70, y71, y72⟩ := z6.below hb7
 have bel7 := bel_go bel6 hb7
 clear T6 g6 z6 bel6 hb7 g60 g61
 cases ok with
 | false =>
  go_wp2_with fail
  refine (C3.out _ T7.s.f).mono ?_
  rintro x w8 ⟨rfl, hb8⟩
  go_wp2
  go_ret3
  exact ⟨ret_uib2 (HD0.out (by first | rfl | trivial)).1.symm (HD0.out (by first | rfl | trivial)).2.symm rfl, (by repeat (first | exact bz0 _ _ | refine bz1 ?_ | refine bz2 ?_ _ | refine bz3 ?_ _ | refine bz4 ?_ hb8 | refine bz4 ?_ bel7 | refine bz5 ?_ _ | refine bz6 ?_ _ | refine bz7 ?_ hb8 | refine bz7 ?_ bel7))⟩
 | true =>
  cases ex with
  | true =>
   go_wp2
   go_ret3
   exact ⟨ret_uib2 (HD1.out (by first | rfl | trivial)).1.symm (by rw [(HD1.out (by first | rfl | trivial)).2]; rfl) rfl, (by repeat (first | exact bz0 _ _ | refine bz1 ?_ | refine bz2 ?_ _ | refine bz3 ?_ _ | refine bz4 ?_ bel7 | refine bz5 ?_ _ | refine bz6 ?_ _ | refine bz7 ?_ bel7))⟩
  | false =>
   by_cases hu : e + B - 53 < (-1074)
   ·go_wp2
    go_ret3
    exact ⟨ret_uib2 (HD1.out (by first | rfl | trivial)).1.symm (by rw [(HD1.out (by first | rfl | trivial)).2, if_neg (by decide), if_pos hu]) rfl, (by repeat (first | exact bz0 _ _ | refine bz1 ?_ | refine bz2 ?_ _ | refine bz3 ?_ _ | refine bz4 ?_ bel7 | refine bz5 ?_ _ | refine bz6 ?_ _ | refine bz7 ?_ bel7))⟩
   ·go_wp2
    go_ret3
    exact ⟨ret_uib2 (HD1.out (by first | rfl | trivial)).1.symm (by rw [(HD1.out (by first | rfl | trivial)).2, if_neg (by decide), if_neg (by omega)]) rfl, (by repeat (first | exact bz0 _ _ | refine bz1 ?_ | refine bz2 ?_ _ | refine bz3 ?_ _ | refine bz4 ?_ bel7 | refine bz5 ?_ _ | refine bz6 ?_ _ | refine bz7 ?_ bel7))⟩
end Go.Proofs.YtkfjmcdniohljaaGreatDoor
