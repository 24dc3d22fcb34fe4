/-
  What is needed of RG, RH, RI, RK.
-/
import Derived.Test.YtkfjmcdniohljaaGreatDoorF27
set_option maxHeartbeats 16000000
set_option maxRecDepth 1000000
namespace Go.Proofs.YtkfjmcdniohljaaGreatDoor
set_option linter.unusedVariables false
set_option linter.unusedSimpArgs false
open Go.RowKit Go.Deep
def EfO (fm : Int) (ng : Bool) (zs : List Int) (e : Int) : Bool := RdO fm 1 ng zs e && decide (RdF fm 1 ng zs e = 0)
def EfB (fm : Int) (ng : Bool) (zs : List Int) (e : Int) : Int := if EfO fm ng zs e then RdB fm 1 ng zs e else 0
theorem exact_spec (fm : Int) (ng : Bool) (zs : List Int) (e : Int) (p : Option Addr) (c : Nat) (w : World) (hs : Sl .u32 w (.slice p zs.length c) zs) (hz : Nm.Dg zs) (hl : zs.length ≤ 1048576) :
  Calls Tryz.prog 87 #[.int .i64 fm, .agg #[.bool ng, .slice p zs.length c], .int .i64 e] w fun x w' => x = .returned (.tuple #[.int .u64 (EfB fm ng zs e), .bool (EfO fm ng zs e)]) ∧ Below w.heap.size w w' := by
 obtain ⟨b, hb⟩ : ∃ b, b = RdB fm 1 ng zs e := ⟨_, rfl⟩
 obtain ⟨f, hf⟩ : ∃ f, f = RdF fm 1 ng zs e := ⟨_, rfl⟩
 obtain ⟨o, ho⟩ : ∃ o, o = RdO fm 1 ng zs e := ⟨_, rfl⟩
 have C := hid (rounded_spec fm 1 ng zs e p c (w.alloc (.cells #[.bool ng, .slice p zs.length c] 32)) (hs.alloc _) hz hl)
 rw [← hb, ← hf, ← ho] at C
 have HO : Hid (EfO fm ng zs e = (o && decide (f = 0))) := hid (by unfold EfO; rw [← ho, ← hf])
 have HB : Hid (EfB fm ng zs e = if (o && decide (f = 0)) then b else 0) := hid (by unfold EfB; rw [HO.out, ← hb])
 clear hb hf ho
 cases o with
 | false =>
  go_enter Tryz.func87, Tryz.ntmps87
  go_wp2_with fail
  refine C.out.mono ?_
  rintro x w1 ⟨rfl, hb1⟩
  go_wp2
  go_ret2
  exact ⟨ret_ub (by rw [HB.out]; rfl) (by rw [HO.out]; rfl), (by repeat (first | exact bz0 _ _ | refine bz1 ?_ | refine bz2 ?_ _ | refine bz3 ?_ _ | refine bz4 ?_ hb1 | refine bz5 ?_ _ | refine bz6 ?_ _ | refine bz7 ?_ hb1))⟩
 | true =>
  by_cases h0 : f = 0
  ·subst h0
   go_enter Tryz.func87, Tryz.ntmps87
   go_wp2_with fail
   refine C.out.mono ?_
   rintro x w1 ⟨rfl, hb1⟩
   go_wp2
   go_ret2
   exact ⟨ret_ub (by rw [HB.out]; rfl) (by rw [HO.out]; rfl), (by repeat (first | exact bz0 _ _ | refine bz1 ?_ | refine bz2 ?_ _ | refine bz3 ?_ _ | refine bz4 ?_ hb1 | refine bz5 ?_ _ | refine bz6 ?_ _ | refine bz7 ?_ hb1))⟩
  ·have hne : (f != 0) = true := by rw [bne_iff_ne]; exact h0
   have HD : Hid (decide (f = 0) = false) := hid (decide_eq_false h0)
   clear h0
   go_enter Tryz.func87, Tryz.ntmps87
   go_wp2_with fail
   refine C.out.mono ?_
   rintro x w1 ⟨rfl, hb1⟩
   go_wp2
   go_ret2
   exact ⟨ret_ub (by rw [HB.out, HD.out]; rfl) (by rw [HO.out, HD.out]; rfl), (by repeat (first | exact bz0 _ _ | refine bz1 ?_ | refine bz2 ?_ _ | refine bz3 ?_ _ | refine bz4 ?_ hb1 | refine bz5 ?_ _ | refine bz6 ?_ _ | refine bz7 ?_ hb1))⟩
theorem l1uint_v (m : Int) (ng : Bool) (w : World) (h0 : 0 ≤ m) (h1 : m < 18446744073709551616) (x : Int) (hx : x = if ng then -m else m) :
  Calls Tryz.prog 79 #[.int .u64 m, .bool ng] w fun e w' => ∃ a' c', e = .returned (.agg #[.bool (Nm.wn x), .slice a' (Nm.wl x).length c']) ∧ Own w' w.heap.size a' c' (Nm.wl x) ∧ Below w.heap.size w w' := by
 have HV : Hid (x = Nm.wv ng (two m)) := hid (by rw [two_wv ng h0]; exact hx)
 have HD := hid (two_dg h0 h1)
 clear hx
 go_enter Tryz.func79, Tryz.ntmps79
 go_wp2_with fail
 refine (made_v ng _ 2 (two m) _ (by refine Own.sl (own_two (B := 0) ?_ ?_ _ _) <;> simp) HD.out (by simp [two]) x HV.out).mono ?_
 rintro e w1 ⟨a', c', rfl, ho, hb⟩
 have r := (R2.new w (.bool false) (.slice none 0 0) 32).alloc (.cells #[.int .u32 (m % 4294967296), .int .u32 (m / 4294967296)] 128)
 obtain ⟨rc0, rc1, rf0, rf1⟩ := r.below hb
 have ho : Own w1 (w.heap.size + 1 + 1) a' c' (Nm.wl x) := by simpa using ho
 go_wp2
 refine bodyPost_ret (v := .agg #[.bool (Nm.wn x), .slice a' (Nm.wl x).length c']) (by simp [results, Tryz.results79, go_sem, rc0, rc1]) rfl ⟨a', c', rfl, ?_, (by repeat (first | exact bz0 _ _ | refine bz1 ?_ | refine bz2 ?_ _ | refine bz3 ?_ _ | refine bz4 ?_ hb | refine bz5 ?_ _ | refine bz6 ?_ _ | refine bz7 ?_ hb))⟩
 exact Own.base ((ho.setBelow (by simp; omega) _).setBelow (by simp; omega) _) (by omega)
theorem uint_n (m : Nat) (ng : Bool) (w : World) (h0 : m ≠ 0) (h1 : m < 18446744073709551616) :
  Calls Tryz.prog 79 #[.int .u64 (m : Nat), .bool ng] w fun e w' => ∃ a' c', e = .returned (.agg #[.bool ng, .slice a' (Nm.lim m).length c']) ∧ Own w' w.heap.size a' c' (Nm.lim m) ∧ Below w.heap.size w w' := by
 have h := l1uint_v (m : Int) ng w (by omega) (by omega) (if ng then -(m : Int) else m) rfl
 have e1 : Nm.wn (if ng then -(m : Int) else m) = ng := by unfold Nm.wn; cases ng <;> simp <;> omega
 have e2 : Nm.wl (if ng then -(m : Int) else m) = Nm.lim m := by unfold Nm.wl; cases ng <;> simp
 rw [e1, e2] at h
 exact h
theorem fp_ef {P I : Nat} {q ones S : Int} {ng : Bool} {m : Nat} {e : Int} (hm : m ≠ 0) (hP : 1 ≤ P) (hI : (I : Int) = ones * (2 ^ (P - 1) : Nat)) (ho : 3 ≤ ones) (ho2 : ones ≤ 2100) :
  Nm.stOk P q ones m e = decide (rdF P q I 1 ng m e = 0) ∧ (Nm.stOk P q ones m e = true → sgn S (Nm.flb P (Nm.stU q m e) : Nat) ng = rdB P q I S 1 ng m e) := by
 have hin := Nm.parts_in (P := P) (q := q) (e := e) hm
 by_cases hr : Nm.rr P q m e = 0
 ·have hin' : Nm.stIn P q m e = true := by rw [hin]; exact decide_eq_true hr
  have hU : rdU P q 1 ng m e = Nm.stU q m e := Nm.parts_U hm hr _
  have ho' := Nm.st_o hm hin' hP hI ho ho2
  have h1 : Nm.stOk P q ones m e = Nm.flo P I (rdU P q 1 ng m e) := by
   unfold Nm.stOk; rw [hin', hU, ho']; rfl
  refine ⟨?_, fun h => ?_⟩
  ·rw [h1]; unfold rdF; rw [if_pos hr]
   cases Nm.flo P I (rdU P q 1 ng m e) <;> rfl
  ·rw [h1] at h; unfold rdB; rw [h, if_pos rfl, hU]
 ·have hin' : Nm.stIn P q m e = false := by rw [hin]; exact decide_eq_false hr
  have h1 : Nm.stOk P q ones m e = false := by unfold Nm.stOk; rw [hin']; rfl
  refine ⟨?_, fun h => by rw [h1] at h; cases h⟩
  rw [h1]; unfold rdF; rw [if_neg hr]
  symm
  apply decide_eq_false
  split
  ·split <;> decide
  ·decide
def FpO (fm : Int) (M E : Int) : Bool := if fm = 32 then fpO 24 (-149) 255 M E else if fm = 64 then fpO 53 (-1074) 2047 M E else false
def FpB (fm : Int) (ng : Bool) (M E : Int) : Int := if fm = 32 then fpB 24 (-149) 255 2147483648 ng M E else if fm = 64 then fpB 53 (-1074) 2047 9223372036854775808 ng M E else 0
theorem parts_spec (fm : Int) (ng : Bool) (M E : Int) (w : World) (m1 : M < 9223372036854775808) :
  Calls Tryz.prog 98 #[.int .i64 fm, .agg #[.bool ng, .int .i64 M, .int .i64 E]] w fun x w' => x = .returned (.tuple #[.int .u64 (FpB fm ng M E), .bool (FpO fm M E)]) ∧ Below w.heap.size w w' := by
 have C1 := hid (fun w' => fmt_spec fm w')
 cases h : fmtB fm
 ·obtain ⟨h1, h2⟩ := fmt_no h
  have HO : Hid (FpO fm M E = false) := hid (by unfold FpO; rw [if_neg h1, if_neg h2])
  have HB : Hid (FpB fm ng M E = 0) := hid (by unfold FpB; rw [if_neg h1, if_neg h2])
  rw [h] at C1
  clear h h1 h2
  go_enter Tryz.func98, Tryz.ntmps98
  go_wp2_with fail
  refine (C1.out _).mono ?_
  rintro x w1 ⟨rfl, rfl⟩
  go_wp2
  go_ret2
  exact ⟨ret_ub HB.out.symm HO.out.symm, (by repeat (first | exact bz0 _ _ | refine bz1 ?_ | refine bz2 ?_ _ | refine bz3 ?_ _ | refine bz5 ?_ _ | refine bz6 ?_ _))⟩
 rw [h] at C1
 rcases fmt_cases h with rfl | rfl
 ·by_cases hM : M < 0
  ·have HO : Hid (FpO 32 M E = false) := hid (by show fpO 24 (-149) 255 M E = false; unfold fpO; rw [decide_eq_false (show ¬ 0 ≤ M by omega)]; rfl)
   have HB : Hid (FpB 32 ng M E = 0) := hid (by show fpB 24 (-149) 255 2147483648 ng M E = 0; unfold fpB; rw [show fpO 24 (-149) 255 M E = false from HO.out]; rfl)
   clear h
   go_enter Tryz.func98, Tryz.ntmps98
   go_wp2_with fail
   refine (C1.out _).mono ?_
   rintro x w1 ⟨rfl, rfl⟩
   go_wp2
   go_ret2
   exact ⟨ret_ub HB.out.symm HO.out.symm, (by repeat (first | exact bz0 _ _ | refine bz1 ?_ | refine bz2 ?_ _ | refine bz3 ?_ _ | refine bz5 ?_ _ | refine bz6 ?_ _))⟩
  have C2 := hid (fun w' => in_any E (-5000) 5000 w')
  have hM' : 0 ≤ M := by omega
  clear hM
  cases hE : inZ E (-5000) 5000
  ·have HO : Hid (FpO 32 M E = false) := hid (by
    show fpO 24 (-149) 255 M E = false
    unfold fpO; unfold inZ at hE
    cases hd : decide (-5000 ≤ E)
    ·simp
    ·rw [hd, Bool.true_and] at hE; rw [hE]; simp)
   have HB : Hid (FpB 32 ng M E = 0) := hid (by show fpB 24 (-149) 255 2147483648 ng M E = 0; unfold fpB; rw [show fpO 24 (-149) 255 M E = false from HO.out]; rfl)
   rw [hE] at C2
   clear h hE
   go_enter Tryz.func98, Tryz.ntmps98
   go_wp2_with fail
   refine (C1.out _).mono ?_
   rintro x w1 ⟨rfl, rfl⟩
   go_wp2_with fail
   refine (C2.out _).mono ?_
   rintro x w2 ⟨rfl, rfl⟩
   go_wp2
   go_ret2
   exact ⟨ret_ub HB.out.symm HO.out.symm, (by repeat (first | exact bz0 _ _ | refine bz1 ?_ | refine bz2 ?_ _ | refine bz3 ?_ _ | refine bz5 ?_ _ | refine bz6 ?_ _))⟩
  rw [hE] at C2
  have e0 := inZ_yes hE
  have HO0 : Hid (FpO 32 M E = (decide (M = 0) || Nm.stOk 24 (-149) 255 M.toNat E)) := hid (by
   show fpO 24 (-149) 255 M E = _
   unfold fpO; rw [decide_eq_true hM', decide_eq_true e0.1, decide_eq_true e0.2]; rfl)
  clear hE
  by_cases hz : M = 0
  ·subst hz
   have HO : Hid (FpO 32 0 E = true) := hid (by rw [HO0.out]; rfl)
   have HB : Hid (FpB 32 ng 0 E = sgn 2147483648 0 ng) := hid (by show fpB 24 (-149) 255 2147483648 ng 0 E = _; unfold fpB; rw [show fpO 24 (-149) 255 0 E = true from HO.out]; rfl)
   clear h
   go_enter Tryz.func98, Tryz.ntmps98
   go_wp2_with fail
   refine (C1.out _).mono ?_
   rintro x w1 ⟨rfl, rfl⟩
   go_wp2_with fail
   refine (C2.out _).mono ?_
   rintro x w2 ⟨rfl, rfl⟩
   go_wp2_with fail
   refine (with_32 0 ng _ (fun _ => ⟨by decide, by decide⟩)).mono ?_
   rintro x w3 ⟨rfl, hb3⟩
   go_wp2
   go_ret2
   exact ⟨ret_ub HB.out.symm HO.out.symm, (by repeat (first | exact bz0 _ _ | refine bz1 ?_ | refine bz2 ?_ _ | refine bz3 ?_ _ | refine bz4 ?_ hb3 | refine bz5 ?_ _ | refine bz6 ?_ _ | refine bz7 ?_ hb3))⟩
  ·obtain ⟨m, hm⟩ : ∃ m : Nat, M = m := ⟨M.toNat, by omega⟩
   have hm0 : m ≠ 0 := by omega
   have hzz : (M == 0) = false := by rw [beq_eq_false_iff_ne]; exact hz
   have hef := fp_ef (P := 24) (I := 2139095040) (q := (-149)) (ones := 255) (S := 2147483648) (ng := ng) (e := E) hm0 (by decide) (by decide) (by decide) (by decide)
   have hbl : bitLen m ≤ 64 := (Nm.bl_le_iff m 64).2 (by omega)
   have hokl := ok_lim hm0 (show bitLen m ≤ 6400 by omega) ng
   have hlen : (Nm.lim m).length ≠ 0 := fun h => hm0 ((Nm.lim_length_zero m).1 h)
   have hRO : RdO 32 1 ng (Nm.lim m) E = true := by
    unfold RdO; rw [hokl]
    have : inZ E (-10000) 10000 = true := by simp [inZ]; omega
    rw [this]; rfl
   have hRF : RdF 32 1 ng (Nm.lim m) E = rdF 24 (-149) 2139095040 1 ng m E := by
    unfold RdF; rw [hRO, if_pos rfl, if_neg hlen, Nm.lim_val, Int.toNat_natCast]; rfl
   have hRB : RdB 32 1 ng (Nm.lim m) E = rdB 24 (-149) 2139095040 2147483648 1 ng m E := by
    unfold RdB; rw [hRO, if_pos rfl, if_neg hlen, Nm.lim_val, Int.toNat_natCast]; rfl
   have HEO : Hid (EfO 32 ng (Nm.lim m) E = FpO 32 M E) := hid (by
    unfold EfO; rw [hRO, hRF, ← hef.1, HO0.out, decide_eq_false hz, hm]; simp)
   have HEB : Hid (EfB 32 ng (Nm.lim m) E = FpB 32 ng M E) := hid (by
    unfold EfB; rw [HEO.out]
    show _ = fpB 24 (-149) 255 2147483648 ng M E
    unfold fpB
    have e1 : fpO 24 (-149) 255 M E = Nm.stOk 24 (-149) 255 m E := by
     have := HO0.out; rw [decide_eq_false hz, hm] at this; rw [hm]; have t : FpO 32 ((m : Nat) : Int) E = Nm.stOk 24 (-149) 255 m E := (by simpa using this); exact t
    have e2 : FpO 32 M E = Nm.stOk 24 (-149) 255 m E := e1
    rw [e1, e2, if_neg hz]
    cases hst : Nm.stOk 24 (-149) 255 m E
    ·rfl
    ·rw [if_pos rfl, if_pos rfl, hRB, ← hef.2 hst, hm]; simp)
   have C3 := hid (fun w' => uint_n m ng w' hm0 (by omega))
   rw [← hm] at C3
   have C4 := hid (fun a c w' h => exact_spec 32 ng (Nm.lim m) E a c w' h (Nm.lim_dg m) (by have := lim_len (x := m) (k := 2) (by omega); omega))
   rw [HEO.out, HEB.out] at C4
   have hMw : IntKind.u64.wrap M = M := by rw [IntKind.wrap_u64]; omega
   clear h hz hm hef hbl hokl hlen hRO hRF hRB HO0
   go_enter Tryz.func98, Tryz.ntmps98
   go_wp2_with fail
   refine (C1.out _).mono ?_
   rintro x w1 ⟨rfl, rfl⟩
   go_wp2_with fail
   refine (C2.out _).mono ?_
   rintro x w2 ⟨rfl, rfl⟩
   have r2 := R3.new w (.bool ng) (.int .i64 M) (.int .i64 E) 89
   obtain ⟨r20, r21, r22, r2f, r2g, r2h⟩ := r2
   go_wp2_with fail
   go_region_held3 (fun w' => w'.cell? ⟨w.heap.size, 0, none⟩ = some (.bool ng) ∧ w'.cell? ⟨w.heap.size, 1, none⟩ = some (.int .i64 M) ∧ w'.cell? ⟨w.heap.size, 2, none⟩ = some (.int .i64 E))
    (first
     | assumption
     | exact ⟨r20, r21, r22⟩
     | exact ⟨rr1.c0, rr1.c1, rr1.c2⟩
     | exact ⟨rr2.c0, rr2.c1, rr2.c2⟩)
    (first
     | (go_at_call 79; refine (C3.out _).mono ?_; rintro x q1 ⟨d1, f1, rfl, hp1, hq1⟩; have rr1 := R3.below (R3.dr ⟨r20, r21, r22, r2f, r2g, r2h⟩) hq1)
     | (go_at_call 87; refine (C4.out d1 f1 _ hp1.sl).mono ?_; rintro x q2 ⟨rfl, hq2⟩; have rr2 := R3.below rr1 hq2))
   go_wp2
   go_ret2
   exact ⟨rfl, (by repeat (first | exact bz0 _ _ | refine bz1 ?_ | refine bz2 ?_ _ | refine bz3 ?_ _ | refine bz4 ?_ hq2 | refine bz4 ?_ hq1 | refine bz5 ?_ _ | refine bz6 ?_ _ | refine bz7 ?_ hq2 | refine bz7 ?_ hq1))⟩
 ·by_cases hM : M < 0
  ·have HO : Hid (FpO 64 M E = false) := hid (by show fpO 53 (-1074) 2047 M E = false; unfold fpO; rw [decide_eq_false (show ¬ 0 ≤ M by omega)]; rfl)
   have HB : Hid (FpB 64 ng M E = 0) := hid (by show fpB 53 (-1074) 2047 9223372036854775808 ng M E = 0; unfold fpB; rw [show fpO 53 (-1074) 2047 M E = false from HO.out]; rfl)
   clear h
   go_enter Tryz.func98, Tryz.ntmps98
   go_wp2_with fail
   refine (C1.out _).mono ?_
   rintro x w1 ⟨rfl, rfl⟩
   go_wp2
   go_ret2
   exact ⟨ret_ub HB.out.symm HO.out.symm, (by repeat (first | exact bz0 _ _ | refine bz1 ?_ | refine bz2 ?_ _ | refine bz3 ?_ _ | refine bz5 ?_ _ | refine bz6 ?_ _))⟩
  have C2 := hid (fun w' => in_any E (-5000) 5000 w')
  have hM' : 0 ≤ M := by omega
  clear hM
  cases hE : inZ E (-5000) 5000
  ·have HO : Hid (FpO 64 M E = false) := hid (by
    show fpO 53 (-1074) 2047 M E = false
    unfold fpO; unfold inZ at hE
    cases hd : decide (-5000 ≤ E)
    ·simp
    ·rw [hd, Bool.true_and] at hE; rw [hE]; simp)
   have HB : Hid (FpB 64 ng M E = 0) := hid (by show fpB 53 (-1074) 2047 9223372036854775808 ng M E = 0; unfold fpB; rw [show fpO 53 (-1074) 2047 M E = false from HO.out]; rfl)
   rw [hE] at C2
   clear h hE
   go_enter Tryz.func98, Tryz.ntmps98
   go_wp2_with fail
   refine (C1.out _).mono ?_
   rintro x w1 ⟨rfl, rfl⟩
   go_wp2_with fail
   refine (C2.out _).mono ?_
   rintro x w2 ⟨rfl, rfl⟩
   go_wp2
   go_ret2
   exact ⟨ret_ub HB.out.symm HO.out.symm, (by repeat (first | exact bz0 _ _ | refine bz1 ?_ | refine bz2 ?_ _ | refine bz3 ?_ _ | refine bz5 ?_ _ | refine bz6 ?_ _))⟩
  rw [hE] at C2
  have e0 := inZ_yes hE
  have HO0 : Hid (FpO 64 M E = (decide (M = 0) || Nm.stOk 53 (-1074) 2047 M.toNat E)) := hid (by
   show fpO 53 (-1074) 2047 M E = _
   unfold fpO; rw [decide_eq_true hM', decide_eq_true e0.1, decide_eq_true e0.2]; rfl)
  clear hE
  by_cases hz : M = 0
  ·subst hz
   have HO : Hid (FpO 64 0 E = true) := hid (by rw [HO0.out]; rfl)
   have HB : Hid (FpB 64 ng 0 E = sgn 9223372036854775808 0 ng) := hid (by show fpB 53 (-1074) 2047 9223372036854775808 ng 0 E = _; unfold fpB; rw [show fpO 53 (-1074) 2047 0 E = true from HO.out]; rfl)
   clear h
   go_enter Tryz.func98, Tryz.ntmps98
   go_wp2_with fail
   refine (C1.out _).mono ?_
   rintro x w1 ⟨rfl, rfl⟩
   go_wp2_with fail
   refine (C2.out _).mono ?_
   rintro x w2 ⟨rfl, rfl⟩
   go_wp2_with fail
   refine (with_64 0 ng _ (fun _ => ⟨by decide, by decide⟩)).mono ?_
   rintro x w3 ⟨rfl, hb3⟩
   go_wp2
   go_ret2
   exact ⟨ret_ub HB.out.symm HO.out.symm, (by repeat (first | exact bz0 _ _ | refine bz1 ?_ | refine bz2 ?_ _ | refine bz3 ?_ _ | refine bz4 ?_ hb3 | refine bz5 ?_ _ | refine bz6 ?_ _ | refine bz7 ?_ hb3))⟩
  ·obtain ⟨m, hm⟩ : ∃ m : Nat, M = m := ⟨M.toNat, by omega⟩
   have hm0 : m ≠ 0 := by omega
   have hzz : (M == 0) = false := by rw [beq_eq_false_iff_ne]; exact hz
   have hef := fp_ef (P := 53) (I := 9218868437227405312) (q := (-1074)) (ones := 2047) (S := 9223372036854775808) (ng := ng) (e := E) hm0 (by decide) (by decide) (by decide) (by decide)
   have hbl : bitLen m ≤ 64 := (Nm.bl_le_iff m 64).2 (by omega)
   have hokl := ok_lim hm0 (show bitLen m ≤ 6400 by omega) ng
   have hlen : (Nm.lim m).length ≠ 0 := fun h => hm0 ((Nm.lim_length_zero m).1 h)
   have hRO : RdO 64 1 ng (Nm.lim m) E = true := by
    unfold RdO; rw [hokl]
    have : inZ E (-10000) 10000 = true := by simp [inZ]; omega
    rw [this]; rfl
   have hRF : RdF 64 1 ng (Nm.lim m) E = rdF 53 (-1074) 9218868437227405312 1 ng m E := by
    unfold RdF; rw [hRO, if_pos rfl, if_neg hlen, Nm.lim_val, Int.toNat_natCast]; rfl
   have hRB : RdB 64 1 ng (Nm.lim m) E = rdB 53 (-1074) 9218868437227405312 9223372036854775808 1 ng m E := by
    unfold RdB; rw [hRO, if_pos rfl, if_neg hlen, Nm.lim_val, Int.toNat_natCast]; rfl
   have HEO : Hid (EfO 64 ng (Nm.lim m) E = FpO 64 M E) := hid (by
    unfold EfO; rw [hRO, hRF, ← hef.1, HO0.out, decide_eq_false hz, hm]; simp)
   have HEB : Hid (EfB 64 ng (Nm.lim m) E = FpB 64 ng M E) := hid (by
    unfold EfB; rw [HEO.out]
    show _ = fpB 53 (-1074) 2047 9223372036854775808 ng M E
    unfold fpB
    have e1 : fpO 53 (-1074) 2047 M E = Nm.stOk 53 (-1074) 2047 m E := by
     have := HO0.out; rw [decide_eq_false hz, hm] at this; rw [hm]; have t : FpO 64 ((m : Nat) : Int) E = Nm.stOk 53 (-1074) 2047 m E := (by simpa using this); exact t
    have e2 : FpO 64 M E = Nm.stOk 53 (-1074) 2047 m E := e1
    rw [e1, e2, if_neg hz]
    cases hst : Nm.stOk 53 (-1074) 2047 m E
    ·rfl
    ·rw [if_pos rfl, if_pos rfl, hRB, ← hef.2 hst, hm]; simp)
   have C3 := hid (fun w' => uint_n m ng w' hm0 (by omega))
   rw [← hm] at C3
   have C4 := hid (fun a c w' h => exact_spec 64 ng (Nm.lim m) E a c w' h (Nm.lim_dg m) (by have := lim_len (x := m) (k := 2) (by omega); omega))
   rw [HEO.out, HEB.out] at C4
   have hMw : IntKind.u64.wrap M = M := by rw [IntKind.wrap_u64]; omega
   clear h hz hm hef hbl hokl hlen hRO hRF hRB HO0
   go_enter Tryz.func98, Tryz.ntmps98
   go_wp2_with fail
   refine (C1.out _).mono ?_
   rintro x w1 ⟨rfl, rfl⟩
   go_wp2_with fail
   refine (C2.out _).mono ?_
   rintro x w2 ⟨rfl, rfl⟩
   have r2 := R3.new w (.bool ng) (.int .i64 M) (.int .i64 E) 89
   obtain ⟨r20, r21, r22, r2f, r2g, r2h⟩ := r2
   go_wp2_with fail
   go_region_held3 (fun w' => w'.cell? ⟨w.heap.size, 0, none⟩ = some (.bool ng) ∧ w'.cell? ⟨w.heap.size, 1, none⟩ = some (.int .i64 M) ∧ w'.cell? ⟨w.heap.size, 2, none⟩ = some (.int .i64 E))
    (first
     | assumption
     | exact ⟨r20, r21, r22⟩
     | exact ⟨rr1.c0, rr1.c1, rr1.c2⟩
     | exact ⟨rr2.c0, rr2.c1, rr2.c2⟩)
    (first
     | (go_at_call 79; refine (C3.out _).mono ?_; rintro x q1 ⟨d1, f1, rfl, hp1, hq1⟩; have rr1 := R3.below (R3.dr ⟨r20, r21, r22, r2f, r2g, r2h⟩) hq1)
     | (go_at_call 87; refine (C4.out d1 f1 _ hp1.sl).mono ?_; rintro x q2 ⟨rfl, hq2⟩; have rr2 := R3.below rr1 hq2))
   go_wp2
   go_ret2
   exact ⟨rfl, (by repeat (first | exact bz0 _ _ | refine bz1 ?_ | refine bz2 ?_ _ | refine bz3 ?_ _ | refine bz4 ?_ hq2 | refine bz4 ?_ hq1 | refine bz5 ?_ _ | refine bz6 ?_ _ | refine bz7 ?_ hq2 | refine bz7 ?_ hq1))⟩
theorem sparts_any (fm x : Int) (w : World) (hf : finB fm x = true) (h0 : 0 ≤ x) (h1 : x < 18446744073709551616) :
  Calls Tryz.prog 77 #[.int .i64 fm, .int .u64 x] w fun e w' => e = .returned (.agg #[.bool (pS fm x), .int .i64 (pM fm x), .int .i64 (pE fm x)]) ∧ Below w.heap.size w w' := by
 have ho : okF fm x = true := by
  cases ho : okF fm x
  ·rw [fin_no ho] at hf; cases hf
  ·rfl
 rcases okF_cases ho with ⟨rfl, hx⟩ | rfl
 ·refine (spec_l2Parts32 x w h0 hx).mono ?_
  rintro e w1 ⟨rfl, hb1⟩
  exact ⟨ret_p3 (by unfold pS; rw [hf]; rfl) (by unfold pM; rw [hf]; rfl) (by unfold pE; rw [hf]; rfl), hb1⟩
 ·refine (spec_l2Parts64 x w h0 h1).mono ?_
  rintro e w1 ⟨rfl, hb1⟩
  exact ⟨ret_p3 (by unfold pS; rw [hf]; rfl) (by unfold pM; rw [hf]; rfl) (by unfold pE; rw [hf]; rfl), hb1⟩
theorem snan_32 (w : World) :
  Calls Tryz.prog 174 #[.int .i64 32] w fun e w' => e = .returned (.int .u64 2143289344) ∧ Below w.heap.size w w' := by
 go_enter Tryz.func174, Tryz.ntmps174
 go_wp2
 go_ret
 exact ⟨rfl, (by repeat (first | exact bz0 _ _ | refine bz1 ?_ | refine bz2 ?_ _ | refine bz3 ?_ _ | refine bz5 ?_ _ | refine bz6 ?_ _))⟩
theorem snan_64 (w : World) :
  Calls Tryz.prog 174 #[.int .i64 64] w fun e w' => e = .returned (.int .u64 9221120237041090560) ∧ Below w.heap.size w w' := by
 go_enter Tryz.func174, Tryz.ntmps174
 go_wp2
 go_ret
 exact ⟨rfl, (by repeat (first | exact bz0 _ _ | refine bz1 ?_ | refine bz2 ?_ _ | refine bz3 ?_ _ | refine bz5 ?_ _ | refine bz6 ?_ _))⟩
theorem par_bd {L y : Int} (h0 : 0 ≤ y) (hL : 0 < L) : 0 ≤ parM L y ∧ parM L y < 2 * L := by
 have h1 := Int.emod_nonneg y (show L ≠ 0 by omega)
 have h2 := Int.emod_lt_of_pos y hL
 unfold parM; split <;> omega
theorem pM_bd (fm x : Int) : 0 ≤ pM fm x ∧ pM fm x < 9007199254740992 := by
 unfold pM
 split
 ·split
  ·have := par_bd (L := 8388608) (y := x % 2147483648) (by omega) (by decide); omega
  ·have := par_bd (L := 4503599627370496) (y := x % 9223372036854775808) (by omega) (by decide); omega
 ·omega
theorem pE_bd (fm x : Int) : -1074 ≤ pE fm x ∧ pE fm x ≤ 2000 := by
 unfold pE parE
 split
 ·split
  ·split <;> omega
  ·split <;> omega
 ·omega
theorem pM_pos {fm x : Int} (h : cls fm x = 1 ∨ cls fm x = 2) : finB fm x = true ∧ 0 < pM fm x := by
 have hf : finB fm x = true := by unfold finB; exact decide_eq_true (by omega)
 have ho : okF fm x = true := by
  cases ho : okF fm x
  ·rw [fin_no ho] at hf; cases hf
  ·rfl
 refine ⟨hf, ?_⟩
 unfold pM
 rw [hf, if_pos rfl]
 rcases okF_cases ho with ⟨rfl, hx⟩ | rfl
 ·rw [cls32 hx] at h
  rw [if_pos rfl]
  unfold clsY at h; unfold parM
  split at h
  ·omega
  ·split <;> omega
 ·rw [cls64] at h
  rw [if_neg (by decide)]
  unfold clsY at h; unfold parM
  split at h
  ·omega
  ·split <;> omega
def unQ (fm : Int) : Int := if fm = 32 then -149 else -1074
def unI (fm x : Int) : Int := if finB fm x then (if pS fm x then -((Nm.sh (pM fm x).toNat (pE fm x - unQ fm) : Nat) : Int) else ((Nm.sh (pM fm x).toNat (pE fm x - unQ fm) : Nat) : Int)) else 0
theorem pE_q {fm x : Int} (h : finB fm x = true) : 0 ≤ pE fm x - unQ fm ∧ pE fm x - unQ fm ≤ 2100 := by
 have ho : okF fm x = true := by
  cases ho : okF fm x
  ·rw [fin_no ho] at h; cases h
  ·rfl
 have hlt := fin_lt ho
 rw [h] at hlt
 have hlt' := of_decide_eq_true hlt.symm
 unfold pE unQ
 rw [h, if_pos rfl]
 rcases okF_cases ho with ⟨rfl, hx⟩ | rfl
 ·rw [if_pos rfl, if_pos rfl]
  rw [abs32 hx] at hlt'
  unfold infOf at hlt'; rw [if_pos rfl] at hlt'
  unfold parE; split <;> omega
 ·rw [if_neg (by decide), if_neg (by decide)]
  rw [abs64] at hlt'
  unfold infOf at hlt'; rw [if_neg (by decide)] at hlt'
  unfold parE; split <;> omega
theorem un_bits {fm x : Int} (h : finB fm x = true) : bitLen (Nm.sh (pM fm x).toNat (pE fm x - unQ fm)) ≤ 2200 := by
 have h1 := Nm.bl_sh (pM fm x).toNat (pE fm x - unQ fm)
 have h2 := pM_bd fm x
 have h3 := (Nm.bl_le_iff (pM fm x).toNat 53).2 (by omega)
 have h4 := pE_q h
 omega
theorem shV_sg (ng : Bool) (m : Nat) (n : Int) : Nm.shV ng (m : Int) n = if ng then -((Nm.sh m n : Nat) : Int) else ((Nm.sh m n : Nat) : Int) := by
 unfold Nm.shV; rw [Nm.shM_sh]
theorem okB_wl {x : Int} (h : (Nm.wl x).length ≤ 200) : okB (Nm.wn x) (Nm.wl x) = true := by
 by_cases h0 : x = 0
 ·subst h0
  have e1 : Nm.wl 0 = [] := Nm.lim_zero
  have e2 : Nm.wn 0 = false := by decide
  rw [e1, e2]; rfl
 ·have hb : bitLen x.natAbs ≤ 6400 := len_bl (k := 200) h
  exact ok_lim (by omega) hb _
theorem l1uint_z (m : Int) (ng : Bool) (w : World) (h0 : 0 ≤ m) (h1 : m < 18446744073709551616) :
  Calls Tryz.prog 79 #[.int .u64 m, .bool ng] w fun e w' => ∃ a' c', e = .returned (.agg #[.bool (Nm.wn (if ng then -m else m)), .slice a' (Nm.wl (if ng then -m else m)).length c']) ∧ Own w' w.heap.size a' c' (Nm.wl (if ng then -m else m)) ∧ Below w.heap.size w w' :=
 l1uint_v m ng w h0 h1 _ rfl
theorem sQ_any (fm : Int) (w : World) (h : fmtB fm = true) :
  Calls Tryz.prog 133 #[.int .i64 fm] w fun e w' => e = .returned (.int .i64 (unQ fm)) ∧ w' = w := by
 rcases fmt_cases h with rfl | rfl
 ·exact sQ_32 w
 ·exact sQ_64 w
theorem sg_shift (sg : Bool) (m : Nat) (n : Int) : Nm.shV (Nm.wn (if sg then -(m : Int) else m)) (Nm.val (Nm.wl (if sg then -(m : Int) else m))) n = if sg then -((Nm.sh m n : Nat) : Int) else ((Nm.sh m n : Nat) : Int) := by
 have hv : Nm.val (Nm.wl (if sg then -(m : Int) else m)) = (m : Int) := by rw [Nm.val_wl]; cases sg <;> simp
 rw [hv, shV_sg]
 by_cases h0 : m = 0
 ·subst h0
  have : Nm.sh 0 n = 0 := by unfold Nm.sh; split <;> simp
  rw [this]; cases sg <;> simp
 ·have : Nm.wn (if sg then -(m : Int) else m) = sg := by unfold Nm.wn; cases sg <;> simp <;> omega
  rw [this]
theorem fin_fmt {fm x : Int} (h : finB fm x = true) : fmtB fm = true := by
 have ho : okF fm x = true := by
  cases ho : okF fm x
  ·rw [fin_no ho] at h; cases h
  ·rfl
 rcases okF_cases ho with ⟨rfl, hx⟩ | rfl <;> rfl
theorem un_parts {fm x : Int} (h : finB fm x = true) : ∃ (G : Bool) (L : List Int) (z E Q : Int), z = pM fm x ∧ E = pE fm x ∧ Q = unQ fm ∧ 0 ≤ z ∧ z < 9007199254740992 ∧ -1074 ≤ E ∧ E ≤ 2000 ∧ -1074 ≤ Q ∧ Q ≤ -149 ∧ 0 ≤ E - Q ∧ E - Q ≤ 2100 ∧
  G = Nm.wn (if pS fm x then -z else z) ∧ L = Nm.wl (if pS fm x then -z else z) ∧ Nm.Dg L ∧ L.length ≤ 2 ∧ Nm.shV G (Nm.val L) (E - Q) = unI fm x ∧ okB G L = true ∧ (Nm.wl (unI fm x)).length ≤ 200 := by
 have h1 := pM_bd fm x
 have h2 := pE_bd fm x
 have h3 := pE_q h
 have hq : -1074 ≤ unQ fm ∧ unQ fm ≤ -149 := by unfold unQ; split <;> omega
 obtain ⟨m, hm⟩ : ∃ m : Nat, pM fm x = m := ⟨(pM fm x).toNat, by omega⟩
 have hu : unI fm x = if pS fm x then -((Nm.sh m (pE fm x - unQ fm) : Nat) : Int) else ((Nm.sh m (pE fm x - unQ fm) : Nat) : Int) := by
  unfold unI; rw [h, if_pos rfl, hm, Int.toNat_natCast]
 have hl : (Nm.wl (if pS fm x then -pM fm x else pM fm x)).length ≤ 2 := by
  unfold Nm.wl
  exact lim_two (by cases pS fm x <;> simp <;> omega)
 refine ⟨_, _, _, _, _, rfl, rfl, rfl, h1.1, h1.2, h2.1, h2.2, hq.1, hq.2, h3.1, h3.2, rfl, rfl, Nm.wl_dg _, hl, ?_, okB_wl (by omega), ?_⟩
 ·rw [hu, hm]; exact sg_shift _ m _
 ·have hb := un_bits h
  rw [hm, Int.toNat_natCast] at hb
  rw [hu]
  unfold Nm.wl
  refine lim_len (k := 200) ?_
  have : (if pS fm x then -((Nm.sh m (pE fm x - unQ fm) : Nat) : Int) else ((Nm.sh m (pE fm x - unQ fm) : Nat) : Int)).natAbs = Nm.sh m (pE fm x - unQ fm) := by cases pS fm x <;> simp
  rw [this]; omega
attribute [local go_sem ↓] Go.wp_at_zero Go.wp_at_succ
theorem l2units_any (fm x : Int) (w : World) (hf : finB fm x = true) (x0 : 0 ≤ x) (x1 : x < 18446744073709551616) :
  Calls Tryz.prog 132 #[.int .i64 fm, .int .u64 x] w fun e w' => ∃ a' c', e = .returned (.agg #[.bool (Nm.wn (unI fm x)), .slice a' (Nm.wl (unI fm x)).length c']) ∧ Own w' w.heap.size a' c' (Nm.wl (unI fm x)) ∧ Below w.heap.size w w' := by
 have hfm := fin_fmt hf
 have CP := hid (fun w' => sparts_any fm x w' hf x0 x1)
 have CQ := hid (fun w' => sQ_any fm w' hfm)
 obtain ⟨G, L, z, E, Q, hz, hE, hQ, z0, z1, e0, e1, q0, q1, d0, d1, hG, hL, hd, hl2, hsh, hok, hl200⟩ := un_parts hf
 have CG := hid (fun w' => l1uint_z z (pS fm x) w' z0 (by omega))
 rw [← hG, ← hL] at CG
 rw [← hz, ← hE] at CP
 rw [← hQ] at CQ
 have hwr : IntKind.i64.wrap (E - Q) = E - Q := by rw [IntKind.wrap_i64]; omega
 have CR := hid (fun a c w' h => l1shift_any G a c L (IntKind.i64.wrap (E - Q)) w' h hd (by omega) (by rw [hwr]; omega) (by rw [hwr]; omega) (unI fm x) (by rw [hwr]; exact hsh.symm))
 obtain ⟨sg, hsg⟩ : ∃ sg, sg = pS fm x := ⟨_, rfl⟩
 rw [← hsg] at CG CP
 obtain ⟨G2, hG2⟩ : ∃ G2, G2 = Nm.wn (unI fm x) := ⟨_, rfl⟩
 obtain ⟨L2, hL2⟩ : ∃ L2, L2 = Nm.wl (unI fm x) := ⟨_, rfl⟩
 rw [← hG2, ← hL2] at CR ⊢
 have hzw : IntKind.u64.wrap z = z := by rw [IntKind.wrap_u64]; omega
 clear hz hE hQ hG hL hd hl2 hsh hok hl200 hsg hG2 hL2 hfm hwr
 go_enter Tryz.func132, Tryz.ntmps132
 go_wp2_with fail
 refine (CP.out _).mono ?_
 rintro r w1 ⟨rfl, hb1⟩
 have c1 := ((R2.new w (.bool false) (.slice none 0 0) 32).below hb1).alloc (.cells #[.bool sg, .int .i64 z, .int .i64 E] 89)
 have p1 := R3.new w1 (.bool sg) (.int .i64 z) (.int .i64 E) 89
 have lw1 : w.heap.size < w1.heap.size := by have := hb1.size; simp at this; omega
 obtain ⟨W, hW⟩ : ∃ W, W = w1.alloc (.cells #[.bool sg, .int .i64 z, .int .i64 E] 89) := ⟨_, rfl⟩
 have bel1 : Below (w.heap.size + 1) (w.alloc (.cells #[.bool false, .slice none 0 0] 32)) W := by rw [hW]; exact (by simpa using hb1.alloc hb1.size _)
 have belw : Below w.heap.size w W := by rw [hW]; exact (by repeat (first | exact bz0 _ _ | refine bz1 ?_ | refine bz2 ?_ _ | refine bz3 ?_ _ | refine bz4 ?_ hb1 | refine bz5 ?_ _ | refine bz6 ?_ _ | refine bz7 ?_ hb1))
 have lW : w1.heap.size < W.heap.size := by rw [hW]; simp
 go_wp2_with fail
 rw [← hW] at c1 p1 ⊢
 clear hW hb1
 obtain ⟨p10, p11, p12, p1f, p1g, p1h⟩ := p1
 have pd0 : W.drew.cell? ⟨w1.heap.size, 0, none⟩ = some (.bool sg) := p10
 have pd1 : W.drew.cell? ⟨w1.heap.size, 1, none⟩ = some (.int .i64 z) := p11
 have pd2 : W.drew.cell? ⟨w1.heap.size, 2, none⟩ = some (.int .i64 E) := p12
 go_region_held3 (fun w' => w'.cell? ⟨w1.heap.size, 0, none⟩ = some (.bool sg) ∧ w'.cell? ⟨w1.heap.size, 1, none⟩ = some (.int .i64 z) ∧ w'.cell? ⟨w1.heap.size, 2, none⟩ = some (.int .i64 E))
  (first
   | with_reducible assumption
   | with_reducible exact ⟨p10, p11, p12⟩
   | with_reducible exact ⟨pd0, pd1, pd2⟩
   | with_reducible exact ⟨rr1.c0, rr1.c1, rr1.c2⟩
   | with_reducible exact ⟨rr2.c0, rr2.c1, rr2.c2⟩
   | with_reducible exact ⟨(ss2 _ _).c0, (ss2 _ _).c1, (ss2 _ _).c2⟩)
  (first
   | (go_at_call 79; refine (CG.out _).mono ?_; rintro r q1' ⟨da, fa, rfl, hp1, hq1⟩; have rr1 := R3.below (R3.dr ⟨p10, p11, p12, p1f, p1g, p1h⟩) hq1; have cc1 := c1.drew.below hq1; have hB1 : Below W.heap.size W q1' := bel_go (Below.drew (Below.refl _ _)) hq1)
   | (go_at_call 133; refine (CQ.out _).mono ?_; rintro r q3 ⟨rfl, rfl⟩)
   | (go_at_call 80; refine (CR.out da fa _ hp1.sl).mono ?_; rintro r q2' ⟨db, fb, rfl, hp2, hq2⟩; have rr2 := R3.below rr1 hq2; have ss2 := fun u v => (R3.other rr2 (p := ⟨w.heap.size, 0, none⟩) (by simp; omega) u).other (p := ⟨w.heap.size, 1, none⟩) (by simp; omega) v; have cc2 := cc1.below hq2; have hB2 : Below W.heap.size W q2' := bel_go hB1 hq2; obtain ⟨cc20, cc21, cc2f, cc2g⟩ := cc2))
 all_goals go_wp2
 all_goals
  have l1 := hB1.size
  refine bodyPost_ret (v := .agg #[.bool G2, .slice db L2.length fb]) (by simp [results, Tryz.results132, go_sem, cc20, cc21]) rfl ⟨db, fb, rfl, ?_, ?_⟩
  ·exact Own.base ((hp2.setBelow (by simp; omega) _).setBelow (by simp; omega) _) (by omega)
  ·exact Below.setCell (Below.setCell (belw.trans (hB2.mono belw.size)) (by simp) _) (by simp) _
end Go.Proofs.YtkfjmcdniohljaaGreatDoor
