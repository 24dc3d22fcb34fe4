/-
  What is needed of RG, RH.
-/
import Derived.Test.YtkfjmcdniohljaaGreatDoorE20
set_option maxHeartbeats 16000000
set_option maxRecDepth 1000000
namespace Go.Proofs.YtkfjmcdniohljaaGreatDoor
set_option linter.unusedVariables false
set_option linter.unusedSimpArgs false
open Go.RowKit Go.Deep
def EfO (fm : Int) (ng : Bool) (zs : List Int) (e : Int) : Bool := RdO fm 1 ng zs e && decide (RdF fm 1 ng zs e = 0)
def EfB (fm : Int) (ng : Bool) (zs : List Int) (e : Int) : Int := if EfO fm ng zs e then RdB fm 1 ng zs e else 0
theorem exact_spec (fm : Int) (ng : Bool) (zs : List Int) (e : Int) (p : Option Addr) (c : Nat) (w : World) (hs : Sl .u32 w (.slice p zs.length c) zs) (hz : Nm.Dg zs) (hl : zs.length ≤ 1048576) :
    Calls Tryz.prog 87 #[.int .i64 fm, .agg #[.bool ng, .slice p zs.length c], .int .i64 e] w fun x w' => x = .returned (.tuple #[.int .u64 (EfB fm ng zs e), .bool (EfO fm ng zs e)]) ∧ Below w.heap.size w w' := by
  obtain ⟨b, hb⟩ : ∃ b, b = RdB fm 1 ng zs e := ⟨_, rfl⟩
  obtain ⟨f, hf⟩ : ∃ f, f = RdF fm 1 ng zs e := ⟨_, rfl⟩
  obtain ⟨o, ho⟩ : ∃ o, o = RdO fm 1 ng zs e := ⟨_, rfl⟩
  have C := hid (rounded_spec fm 1 ng zs e p c (w.alloc (.cells #[.bool ng, .slice p zs.length c] 32)) (hs.alloc _) hz hl)
  rw [← hb, ← hf, ← ho] at C
  have HO : Hid (EfO fm ng zs e = (o && decide (f = 0))) := hid (by unfold EfO; rw [← ho, ← hf])
  have HB : Hid (EfB fm ng zs e = if (o && decide (f = 0)) then b else 0) := hid (by unfold EfB; rw [HO.out, ← hb])
  clear hb hf ho
  cases o with
  | false =>
    go_enter Tryz.func87, Tryz.ntmps87
    go_wp2_with fail
    refine C.out.mono ?_
    rintro x w1 ⟨rfl, hb1⟩
    go_wp2
    go_ret2
    exact ⟨ret_ub (by rw [HB.out]; rfl) (by rw [HO.out]; rfl), (by repeat (first | exact bz0 _ _ | refine bz1 ?_ | refine bz2 ?_ _ | refine bz3 ?_ _ | refine bz4 ?_ hb1 | refine bz5 ?_ _ | refine bz6 ?_ _ | refine bz7 ?_ hb1))⟩
  | true =>
    by_cases h0 : f = 0
    · subst h0
      go_enter Tryz.func87, Tryz.ntmps87
      go_wp2_with fail
      refine C.out.mono ?_
      rintro x w1 ⟨rfl, hb1⟩
      go_wp2
      go_ret2
      exact ⟨ret_ub (by rw [HB.out]; rfl) (by rw [HO.out]; rfl), (by repeat (first | exact bz0 _ _ | refine bz1 ?_ | refine bz2 ?_ _ | refine bz3 ?_ _ | refine bz4 ?_ hb1 | refine bz5 ?_ _ | refine bz6 ?_ _ | refine bz7 ?_ hb1))⟩
    · have hne : (f != 0) = true := by rw [bne_iff_ne]; exact h0
      have HD : Hid (decide (f = 0) = false) := hid (decide_eq_false h0)
      clear h0
      go_enter Tryz.func87, Tryz.ntmps87
      go_wp2_with fail
      refine C.out.mono ?_
      rintro x w1 ⟨rfl, hb1⟩
      go_wp2
      go_ret2
      exact ⟨ret_ub (by rw [HB.out, HD.out]; rfl) (by rw [HO.out, HD.out]; rfl), (by repeat (first | exact bz0 _ _ | refine bz1 ?_ | refine bz2 ?_ _ | refine bz3 ?_ _ | refine bz4 ?_ hb1 | refine bz5 ?_ _ | refine bz6 ?_ _ | refine bz7 ?_ hb1))⟩
theorem l1uint_v (m : Int) (ng : Bool) (w : World) (h0 : 0 ≤ m) (h1 : m < 18446744073709551616) (x : Int) (hx : x = if ng then -m else m) :
    Calls Tryz.prog 79 #[.int .u64 m, .bool ng] w fun e w' => ∃ a' c', e = .returned (.agg #[.bool (Nm.wn x), .slice a' (Nm.wl x).length c']) ∧ Own w' w.heap.size a' c' (Nm.wl x) ∧ Below w.heap.size w w' := by
  have HV : Hid (x = Nm.wv ng (two m)) := hid (by rw [two_wv ng h0]; exact hx)
  have HD := hid (two_dg h0 h1)
  clear hx
  go_enter Tryz.func79, Tryz.ntmps79
  go_wp2_with fail
  refine (made_v ng _ 2 (two m) _ (by refine Own.sl (own_two (B := 0) ?_ ?_ _ _) <;> simp) HD.out (by simp [two]) x HV.out).mono ?_
  rintro e w1 ⟨a', c', rfl, ho, hb⟩
  have r := (R2.new w (.bool false) (.slice none 0 0) 32).alloc (.cells #[.int .u32 (m % 4294967296), .int .u32 (m / 4294967296)] 128)
  obtain ⟨rc0, rc1, rf0, rf1⟩ := r.below hb
  have ho : Own w1 (w.heap.size + 1 + 1) a' c' (Nm.wl x) := by simpa using ho
  go_wp2
  refine bodyPost_ret (v := .agg #[.bool (Nm.wn x), .slice a' (Nm.wl x).length c']) (by simp [results, Tryz.results79, go_sem, rc0, rc1]) rfl ⟨a', c', rfl, ?_, (by repeat (first | exact bz0 _ _ | refine bz1 ?_ | refine bz2 ?_ _ | refine bz3 ?_ _ | refine bz4 ?_ hb | refine bz5 ?_ _ | refine bz6 ?_ _ | refine bz7 ?_ hb))⟩
  exact Own.base ((ho.setBelow (by simp; omega) _).setBelow (by simp; omega) _) (by omega)
/-- A number that is not 0, with its sign. -/
theorem uint_n (m : Nat) (ng : Bool) (w : World) (h0 : m ≠ 0) (h1 : m < 18446744073709551616) :
    Calls Tryz.prog 79 #[.int .u64 (m : Nat), .bool ng] w fun e w' => ∃ a' c', e = .returned (.agg #[.bool ng, .slice a' (Nm.lim m).length c']) ∧ Own w' w.heap.size a' c' (Nm.lim m) ∧ Below w.heap.size w w' := by
  have h := l1uint_v (m : Int) ng w (by omega) (by omega) (if ng then -(m : Int) else m) rfl
  have e1 : Nm.wn (if ng then -(m : Int) else m) = ng := by unfold Nm.wn; cases ng <;> simp <;> omega
  have e2 : Nm.wl (if ng then -(m : Int) else m) = Nm.lim m := by unfold Nm.wl; cases ng <;> simp
  rw [e1, e2] at h
  exact h
/-- What parts make, by the specification's rounding. -/
theorem fp_ef {P I : Nat} {q ones S : Int} {ng : Bool} {m : Nat} {e : Int} (hm : m ≠ 0) (hP : 1 ≤ P) (hI : (I : Int) = ones * (2 ^ (P - 1) : Nat)) (ho : 3 ≤ ones) (ho2 : ones ≤ 2100) :
    Nm.stOk P q ones m e = decide (rdF P q I 1 ng m e = 0) ∧ (Nm.stOk P q ones m e = true → sgn S (Nm.flb P (Nm.stU q m e) : Nat) ng = rdB P q I S 1 ng m e) := by
  have hin := Nm.parts_in (P := P) (q := q) (e := e) hm
  by_cases hr : Nm.rr P q m e = 0
  · have hin' : Nm.stIn P q m e = true := by rw [hin]; exact decide_eq_true hr
    have hU : rdU P q 1 ng m e = Nm.stU q m e := Nm.parts_U hm hr _
    have ho' := Nm.st_o hm hin' hP hI ho ho2
    have h1 : Nm.stOk P q ones m e = Nm.flo P I (rdU P q 1 ng m e) := by
      unfold Nm.stOk; rw [hin', hU, ho']; rfl
    refine ⟨?_, fun h => ?_⟩
    · rw [h1]; unfold rdF; rw [if_pos hr]
      cases Nm.flo P I (rdU P q 1 ng m e) <;> rfl
    · rw [h1] at h; unfold rdB; rw [h, if_pos rfl, hU]
  · have hin' : Nm.stIn P q m e = false := by rw [hin]; exact decide_eq_false hr
    have h1 : Nm.stOk P q ones m e = false := by unfold Nm.stOk; rw [hin']; rfl
    refine ⟨?_, fun h => by rw [h1] at h; cases h⟩
    rw [h1]; unfold rdF; rw [if_neg hr]
    symm
    apply decide_eq_false
    split
    · split <;> decide
    · decide
/-- Parts at every format. -/
def FpO (fm : Int) (M E : Int) : Bool := if fm = 32 then fpO 24 (-149) 255 M E else if fm = 64 then fpO 53 (-1074) 2047 M E else false
def FpB (fm : Int) (ng : Bool) (M E : Int) : Int := if fm = 32 then fpB 24 (-149) 255 2147483648 ng M E else if fm = 64 then fpB 53 (-1074) 2047 9223372036854775808 ng M E else 0
theorem parts_spec (fm : Int) (ng : Bool) (M E : Int) (w : World) (m1 : M < 9223372036854775808) :
    Calls Tryz.prog 98 #[.int .i64 fm, .agg #[.bool ng, .int .i64 M, .int .i64 E]] w fun x w' => x = .returned (.tuple #[.int .u64 (FpB fm ng M E), .bool (FpO fm M E)]) ∧ Below w.heap.size w w' := by
  have C1 := hid (fun w' => fmt_spec fm w')
  cases h : fmtB fm
  · obtain ⟨h1, h2⟩ := fmt_no h
    have HO : Hid (FpO fm M E = false) := hid (by unfold FpO; rw [if_neg h1, if_neg h2])
    have HB : Hid (FpB fm ng M E = 0) := hid (by unfold FpB; rw [if_neg h1, if_neg h2])
    rw [h] at C1
    clear h h1 h2
    go_enter Tryz.func98, Tryz.ntmps98
    go_wp2_with fail
    refine (C1.out _).mono ?_
    rintro x w1 ⟨rfl, rfl⟩
    go_wp2
    go_ret2
    exact ⟨ret_ub HB.out.symm HO.out.symm, (by repeat (first | exact bz0 _ _ | refine bz1 ?_ | refine bz2 ?_ _ | refine bz3 ?_ _ | refine bz5 ?_ _ | refine bz6 ?_ _))⟩
  rw [h] at C1
  rcases fmt_cases h with rfl | rfl
  · by_cases hM : M < 0
    · have HO : Hid (FpO 32 M E = false) := hid (by show fpO 24 (-149) 255 M E = false; unfold fpO; rw [decide_eq_false (show ¬ 0 ≤ M by omega)]; rfl)
      have HB : Hid (FpB 32 ng M E = 0) := hid (by show fpB 24 (-149) 255 2147483648 ng M E = 0; unfold fpB; rw [show fpO 24 (-149) 255 M E = false from HO.out]; rfl)
      clear h
      go_enter Tryz.func98, Tryz.ntmps98
      go_wp2_with fail
      refine (C1.out _).mono ?_
      rintro x w1 ⟨rfl, rfl⟩
      go_wp2
      go_ret2
      exact ⟨ret_ub HB.out.symm HO.out.symm, (by repeat (first | exact bz0 _ _ | refine bz1 ?_ | refine bz2 ?_ _ | refine bz3 ?_ _ | refine bz5 ?_ _ | refine bz6 ?_ _))⟩
    have C2 := hid (fun w' => in_any E (-5000) 5000 w')
    have hM' : 0 ≤ M := by omega
    clear hM
    cases hE : inZ E (-5000) 5000
    · have HO : Hid (FpO 32 M E = false) := hid (by
        show fpO 24 (-149) 255 M E = false
        unfold fpO; unfold inZ at hE
        cases hd : decide (-5000 ≤ E)
        · simp
        · rw [hd, Bool.true_and] at hE; rw [hE]; simp)
      have HB : Hid (FpB 32 ng M E = 0) := hid (by show fpB 24 (-149) 255 2147483648 ng M E = 0; unfold fpB; rw [show fpO 24 (-149) 255 M E = false from HO.out]; rfl)
      rw [hE] at C2
      clear h hE
      go_enter Tryz.func98, Tryz.ntmps98
      go_wp2_with fail
      refine (C1.out _).mono ?_
      rintro x w1 ⟨rfl, rfl⟩
      go_wp2_with fail
      refine (C2.out _).mono ?_
      rintro x w2 ⟨rfl, rfl⟩
      go_wp2
      go_ret2
      exact ⟨ret_ub HB.out.symm HO.out.symm, (by repeat (first | exact bz0 _ _ | refine bz1 ?_ | refine bz2 ?_ _ | refine bz3 ?_ _ | refine bz5 ?_ _ | refine bz6 ?_ _))⟩
    rw [hE] at C2
    have e0 := inZ_yes hE
    have HO0 : Hid (FpO 32 M E = (decide (M = 0) || Nm.stOk 24 (-149) 255 M.toNat E)) := hid (by
      show fpO 24 (-149) 255 M E = _
      unfold fpO; rw [decide_eq_true hM', decide_eq_true e0.1, decide_eq_true e0.2]; rfl)
    clear hE
    by_cases hz : M = 0
    · subst hz
      have HO : Hid (FpO 32 0 E = true) := hid (by rw [HO0.out]; rfl)
      have HB : Hid (FpB 32 ng 0 E = sgn 2147483648 0 ng) := hid (by show fpB 24 (-149) 255 2147483648 ng 0 E = _; unfold fpB; rw [show fpO 24 (-149) 255 0 E = true from HO.out]; rfl)
      clear h
      go_enter Tryz.func98, Tryz.ntmps98
      go_wp2_with fail
      refine (C1.out _).mono ?_
      rintro x w1 ⟨rfl, rfl⟩
      go_wp2_with fail
      refine (C2.out _).mono ?_
      rintro x w2 ⟨rfl, rfl⟩
      go_wp2_with fail
      refine (with_32 0 ng _ (fun _ => ⟨by decide, by decide⟩)).mono ?_
      rintro x w3 ⟨rfl, hb3⟩
      go_wp2
      go_ret2
      exact ⟨ret_ub HB.out.symm HO.out.symm, (by repeat (first | exact bz0 _ _ | refine bz1 ?_ | refine bz2 ?_ _ | refine bz3 ?_ _ | refine bz4 ?_ hb3 | refine bz5 ?_ _ | refine bz6 ?_ _ | refine bz7 ?_ hb3))⟩
    · obtain ⟨m, hm⟩ : ∃ m : Nat, M = m := ⟨M.toNat, by omega⟩
      have hm0 : m ≠ 0 := by omega
      have hzz : (M == 0) = false := by rw [beq_eq_false_iff_ne]; exact hz
      have hef := fp_ef (P := 24) (I := 2139095040) (q := (-149)) (ones := 255) (S := 2147483648) (ng := ng) (e := E) hm0 (by decide) (by decide) (by decide) (by decide)
      have hbl : bitLen m ≤ 64 := (Nm.bl_le_iff m 64).2 (by omega)
      have hokl := ok_lim hm0 (show bitLen m ≤ 6400 by omega) ng
      have hlen : (Nm.lim m).length ≠ 0 := fun h => hm0 ((Nm.lim_length_zero m).1 h)
      have hRO : RdO 32 1 ng (Nm.lim m) E = true := by
        unfold RdO; rw [hokl]
        have : inZ E (-10000) 10000 = true := by simp [inZ]; omega
        rw [this]; rfl
      have hRF : RdF 32 1 ng (Nm.lim m) E = rdF 24 (-149) 2139095040 1 ng m E := by
        unfold RdF; rw [hRO, if_pos rfl, if_neg hlen, Nm.lim_val, Int.toNat_natCast]; rfl
      have hRB : RdB 32 1 ng (Nm.lim m) E = rdB 24 (-149) 2139095040 2147483648 1 ng m E := by
        unfold RdB; rw [hRO, if_pos rfl, if_neg hlen, Nm.lim_val, Int.toNat_natCast]; rfl
      have HEO : Hid (EfO 32 ng (Nm.lim m) E = FpO 32 M E) := hid (by
        unfold EfO; rw [hRO, hRF, ← hef.1, HO0.out, decide_eq_false hz, hm]; simp)
      have HEB : Hid (EfB 32 ng (Nm.lim m) E = FpB 32 ng M E) := hid (by
        unfold EfB; rw [HEO.out]
        show _ = fpB 24 (-149) 255 2147483648 ng M E
        unfold fpB
        have e1 : fpO 24 (-149) 255 M E = Nm.stOk 24 (-149) 255 m E := by
          have := HO0.out; rw [decide_eq_false hz, hm] at this; rw [hm]; have t : FpO 32 ((m : Nat) : Int) E = Nm.stOk 24 (-149) 255 m E := (by simpa using this); exact t
        have e2 : FpO 32 M E = Nm.stOk 24 (-149) 255 m E := e1
        rw [e1, e2, if_neg hz]
        cases hst : Nm.stOk 24 (-149) 255 m E
        · rfl
        · rw [if_pos rfl, if_pos rfl, hRB, ← hef.2 hst, hm]; simp)
      have C3 := hid (fun w' => uint_n m ng w' hm0 (by omega))
      rw [← hm] at C3
      have C4 := hid (fun a c w' h => exact_spec 32 ng (Nm.lim m) E a c w' h (Nm.lim_dg m) (by have := lim_len (x := m) (k := 2) (by omega); omega))
      rw [HEO.out, HEB.out] at C4
      have hMw : IntKind.u64.wrap M = M := by rw [IntKind.wrap_u64]; omega
      clear h hz hm hef hbl hokl hlen hRO hRF hRB HO0
      go_enter Tryz.func98, Tryz.ntmps98
      go_wp2_with fail
      refine (C1.out _).mono ?_
      rintro x w1 ⟨rfl, rfl⟩
      go_wp2_with fail
      refine (C2.out _).mono ?_
      rintro x w2 ⟨rfl, rfl⟩
      have r2 := R3.new w (.bool ng) (.int .i64 M) (.int .i64 E) 89
      obtain ⟨r20, r21, r22, r2f, r2g, r2h⟩ := r2
      go_wp2_with fail
      go_region_held3 (fun w' => w'.cell? ⟨w.heap.size, 0, none⟩ = some (.bool ng) ∧ w'.cell? ⟨w.heap.size, 1, none⟩ = some (.int .i64 M) ∧ w'.cell? ⟨w.heap.size, 2, none⟩ = some (.int .i64 E))
        (first
          | assumption
          | exact ⟨r20, r21, r22⟩
          | exact ⟨rr1.c0, rr1.c1, rr1.c2⟩
          | exact ⟨rr2.c0, rr2.c1, rr2.c2⟩)
        (first
          | (go_at_call 79; refine (C3.out _).mono ?_; rintro x q1 ⟨d1, f1, rfl, hp1, hq1⟩; have rr1 := R3.below (R3.dr ⟨r20, r21, r22, r2f, r2g, r2h⟩) hq1)
          | (go_at_call 87; refine (C4.out d1 f1 _ hp1.sl).mono ?_; rintro x q2 ⟨rfl, hq2⟩; have rr2 := R3.below rr1 hq2))
      go_wp2
      go_ret2
      exact ⟨rfl, (by repeat (first | exact bz0 _ _ | refine bz1 ?_ | refine bz2 ?_ _ | refine bz3 ?_ _ | refine bz4 ?_ hq2 | refine bz4 ?_ hq1 | refine bz5 ?_ _ | refine bz6 ?_ _ | refine bz7 ?_ hq2 | refine bz7 ?_ hq1))⟩
  · by_cases hM : M < 0
    · have HO : Hid (FpO 64 M E = false) := hid (by show fpO 53 (-1074) 2047 M E = false; unfold fpO; rw [decide_eq_false (show ¬ 0 ≤ M by omega)]; rfl)
      have HB : Hid (FpB 64 ng M E = 0) := hid (by show fpB 53 (-1074) 2047 9223372036854775808 ng M E = 0; unfold fpB; rw [show fpO 53 (-1074) 2047 M E = false from HO.out]; rfl)
      clear h
      go_enter Tryz.func98, Tryz.ntmps98
      go_wp2_with fail
      refine (C1.out _).mono ?_
      rintro x w1 ⟨rfl, rfl⟩
      go_wp2
      go_ret2
      exact ⟨ret_ub HB.out.symm HO.out.symm, (by repeat (first | exact bz0 _ _ | refine bz1 ?_ | refine bz2 ?_ _ | refine bz3 ?_ _ | refine bz5 ?_ _ | refine bz6 ?_ _))⟩
    have C2 := hid (fun w' => in_any E (-5000) 5000 w')
    have hM' : 0 ≤ M := by omega
    clear hM
    cases hE : inZ E (-5000) 5000
    · have HO : Hid (FpO 64 M E = false) := hid (by
        show fpO 53 (-1074) 2047 M E = false
        unfold fpO; unfold inZ at hE
        cases hd : decide (-5000 ≤ E)
        · simp
        · rw [hd, Bool.true_and] at hE; rw [hE]; simp)
      have HB : Hid (FpB 64 ng M E = 0) := hid (by show fpB 53 (-1074) 2047 9223372036854775808 ng M E = 0; unfold fpB; rw [show fpO 53 (-1074) 2047 M E = false from HO.out]; rfl)
      rw [hE] at C2
      clear h hE
      go_enter Tryz.func98, Tryz.ntmps98
      go_wp2_with fail
      refine (C1.out _).mono ?_
      rintro x w1 ⟨rfl, rfl⟩
      go_wp2_with fail
      refine (C2.out _).mono ?_
      rintro x w2 ⟨rfl, rfl⟩
      go_wp2
      go_ret2
      exact ⟨ret_ub HB.out.symm HO.out.symm, (by repeat (first | exact bz0 _ _ | refine bz1 ?_ | refine bz2 ?_ _ | refine bz3 ?_ _ | refine bz5 ?_ _ | refine bz6 ?_ _))⟩
    rw [hE] at C2
    have e0 := inZ_yes hE
    have HO0 : Hid (FpO 64 M E = (decide (M = 0) || Nm.stOk 53 (-1074) 2047 M.toNat E)) := hid (by
      show fpO 53 (-1074) 2047 M E = _
      unfold fpO; rw [decide_eq_true hM', decide_eq_true e0.1, decide_eq_true e0.2]; rfl)
    clear hE
    by_cases hz : M = 0
    · subst hz
      have HO : Hid (FpO 64 0 E = true) := hid (by rw [HO0.out]; rfl)
      have HB : Hid (FpB 64 ng 0 E = sgn 9223372036854775808 0 ng) := hid (by show fpB 53 (-1074) 2047 9223372036854775808 ng 0 E = _; unfold fpB; rw [show fpO 53 (-1074) 2047 0 E = true from HO.out]; rfl)
      clear h
      go_enter Tryz.func98, Tryz.ntmps98
      go_wp2_with fail
      refine (C1.out _).mono ?_
      rintro x w1 ⟨rfl, rfl⟩
      go_wp2_with fail
      refine (C2.out _).mono ?_
      rintro x w2 ⟨rfl, rfl⟩
      go_wp2_with fail
      refine (with_64 0 ng _ (fun _ => ⟨by decide, by decide⟩)).mono ?_
      rintro x w3 ⟨rfl, hb3⟩
      go_wp2
      go_ret2
      exact ⟨ret_ub HB.out.symm HO.out.symm, (by repeat (first | exact bz0 _ _ | refine bz1 ?_ | refine bz2 ?_ _ | refine bz3 ?_ _ | refine bz4 ?_ hb3 | refine bz5 ?_ _ | refine bz6 ?_ _ | refine bz7 ?_ hb3))⟩
    · obtain ⟨m, hm⟩ : ∃ m : Nat, M = m := ⟨M.toNat, by omega⟩
      have hm0 : m ≠ 0 := by omega
      have hzz : (M == 0) = false := by rw [beq_eq_false_iff_ne]; exact hz
      have hef := fp_ef (P := 53) (I := 9218868437227405312) (q := (-1074)) (ones := 2047) (S := 9223372036854775808) (ng := ng) (e := E) hm0 (by decide) (by decide) (by decide) (by decide)
      have hbl : bitLen m ≤ 64 := (Nm.bl_le_iff m 64).2 (by omega)
      have hokl := ok_lim hm0 (show bitLen m ≤ 6400 by omega) ng
      have hlen : (Nm.lim m).length ≠ 0 := fun h => hm0 ((Nm.lim_length_zero m).1 h)
      have hRO : RdO 64 1 ng (Nm.lim m) E = true := by
        unfold RdO; rw [hokl]
        have : inZ E (-10000) 10000 = true := by simp [inZ]; omega
        rw [this]; rfl
      have hRF : RdF 64 1 ng (Nm.lim m) E = rdF 53 (-1074) 9218868437227405312 1 ng m E := by
        unfold RdF; rw [hRO, if_pos rfl, if_neg hlen, Nm.lim_val, Int.toNat_natCast]; rfl
      have hRB : RdB 64 1 ng (Nm.lim m) E = rdB 53 (-1074) 9218868437227405312 9223372036854775808 1 ng m E := by
        unfold RdB; rw [hRO, if_pos rfl, if_neg hlen, Nm.lim_val, Int.toNat_natCast]; rfl
      have HEO : Hid (EfO 64 ng (Nm.lim m) E = FpO 64 M E) := hid (by
        unfold EfO; rw [hRO, hRF, ← hef.1, HO0.out, decide_eq_false hz, hm]; simp)
      have HEB : Hid (EfB 64 ng (Nm.lim m) E = FpB 64 ng M E) := hid (by
        unfold EfB; rw [HEO.out]
        show _ = fpB 53 (-1074) 2047 9223372036854775808 ng M E
        unfold fpB
        have e1 : fpO 53 (-1074) 2047 M E = Nm.stOk 53 (-1074) 2047 m E := by
          have := HO0.out; rw [decide_eq_false hz, hm] at this; rw [hm]; have t : FpO 64 ((m : Nat) : Int) E = Nm.stOk 53 (-1074) 2047 m E := (by simpa using this); exact t
        have e2 : FpO 64 M E = Nm.stOk 53 (-1074) 2047 m E := e1
        rw [e1, e2, if_neg hz]
        cases hst : Nm.stOk 53 (-1074) 2047 m E
        · rfl
        · rw [if_pos rfl, if_pos rfl, hRB, ← hef.2 hst, hm]; simp)
      have C3 := hid (fun w' => uint_n m ng w' hm0 (by omega))
      rw [← hm] at C3
      have C4 := hid (fun a c w' h => exact_spec 64 ng (Nm.lim m) E a c w' h (Nm.lim_dg m) (by have := lim_len (x := m) (k := 2) (by omega); omega))
      rw [HEO.out, HEB.out] at C4
      have hMw : IntKind.u64.wrap M = M := by rw [IntKind.wrap_u64]; omega
      clear h hz hm hef hbl hokl hlen hRO hRF hRB HO0
      go_enter Tryz.func98, Tryz.ntmps98
      go_wp2_with fail
      refine (C1.out _).mono ?_
      rintro x w1 ⟨rfl, rfl⟩
      go_wp2_with fail
      refine (C2.out _).mono ?_
      rintro x w2 ⟨rfl, rfl⟩
      have r2 := R3.new w (.bool ng) (.int .i64 M) (.int .i64 E) 89
      obtain ⟨r20, r21, r22, r2f, r2g, r2h⟩ := r2
      go_wp2_with fail
      go_region_held3 (fun w' => w'.cell? ⟨w.heap.size, 0, none⟩ = some (.bool ng) ∧ w'.cell? ⟨w.heap.size, 1, none⟩ = some (.int .i64 M) ∧ w'.cell? ⟨w.heap.size, 2, none⟩ = some (.int .i64 E))
        (first
          | assumption
          | exact ⟨r20, r21, r22⟩
          | exact ⟨rr1.c0, rr1.c1, rr1.c2⟩
          | exact ⟨rr2.c0, rr2.c1, rr2.c2⟩)
        (first
          | (go_at_call 79; refine (C3.out _).mono ?_; rintro x q1 ⟨d1, f1, rfl, hp1, hq1⟩; have rr1 := R3.below (R3.dr ⟨r20, r21, r22, r2f, r2g, r2h⟩) hq1)
          | (go_at_call 87; refine (C4.out d1 f1 _ hp1.sl).mono ?_; rintro x q2 ⟨rfl, hq2⟩; have rr2 := R3.below rr1 hq2))
      go_wp2
      go_ret2
      exact ⟨rfl, (by repeat (first | exact bz0 _ _ | refine bz1 ?_ | refine bz2 ?_ _ | refine bz3 ?_ _ | refine bz4 ?_ hq2 | refine bz4 ?_ hq1 | refine bz5 ?_ _ | refine bz6 ?_ _ | refine bz7 ?_ hq2 | refine bz7 ?_ hq1))⟩
end Go.Proofs.YtkfjmcdniohljaaGreatDoor
