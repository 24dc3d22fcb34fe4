/-
  What is needed of FJ, LaidB, AccF, AccM, VecA, RG, RH, RI, RK, AE, FD, NA, NB, EF, NO.
-/
import Derived.LaidSub
import Derived.MakeChecks
import Derived.LoopN
import Derived.Test.YtbhfbaogmkgmiaaGreatDoorC18
set_option maxHeartbeats 16000000
set_option maxRecDepth 1000000
namespace Go.Proofs.YtbhfbaogmkgmiaaGreatDoor
set_option linter.unusedVariables false
set_option linter.unusedSimpArgs false
open Go.RowKit Go.Deep
namespace Fd
theorem ab32 {x : Int} (h0 : 0 ≤ x) (h1 : x < 4294967296) : absF 32 x = if x < 2147483648 then x else x - 2147483648 := by
  rw [abs32 h1]; split <;> omega
theorem od32 {x : Int} (h0 : 0 ≤ x) (h1 : x < 4294967296) : ordI 32 x = if x < 2147483648 then x else 2147483648 - 1 - x := by
  have ha := ab32 h0 h1
  unfold ordI
  rw [okF32 h1, if_pos rfl]
  unfold sigB
  rw [ha]
  by_cases h : x < 2147483648
  · rw [if_pos h, if_pos h]; simp
  · rw [if_neg h, if_neg h]
    have : (x != x - 2147483648) = true := by simp; omega
    rw [this, if_pos rfl]; omega
theorem ab64 {x : Int} (h0 : 0 ≤ x) (h1 : x < 18446744073709551616) : absF 64 x = if x < 9223372036854775808 then x else x - 9223372036854775808 := by
  rw [abs64]; split <;> omega
theorem od64 {x : Int} (h0 : 0 ≤ x) (h1 : x < 18446744073709551616) : ordI 64 x = if x < 9223372036854775808 then x else 9223372036854775808 - 1 - x := by
  have ha := ab64 h0 h1
  unfold ordI
  rw [okF64, if_pos rfl]
  unfold sigB
  rw [ha]
  by_cases h : x < 9223372036854775808
  · rw [if_pos h, if_pos h]; simp
  · rw [if_neg h, if_neg h]
    have : (x != x - 9223372036854775808) = true := by simp; omega
    rw [this, if_pos rfl]; omega
end Fd
end Go.Proofs.YtbhfbaogmkgmiaaGreatDoor
namespace Go.Proofs.YtbhfbaogmkgmiaaGreatDoor
set_option linter.unusedVariables false
set_option linter.unusedSimpArgs false
namespace Ld
open Go.RowKit Go.Deep
def zs32 : List Int := Lib.deBruijn32tab.map Int.ofNat
theorem tb32 {W : World} (h : laidMet Tryz.prog [("math/bits.deBruijn32tab", Rows.laid_math_bits_deBruijn32tab)] W) : Tb W 3 Lib.deBruijn32tab := by
  have h' : laidMet Tryz.prog (("math/bits.deBruijn32tab", Lib.tabData .u8 zs32) :: []) W := h
  have hg : Tryz.prog.globalNamed "math/bits.deBruijn32tab" = some 3 := by kernel_rfl
  have ht := Lib.tabIs_of_head (g := 3) (t := 193) (e := 5) (n := 32) hg (by kernel_rfl) Tryz.underlying193 Tryz.underlying5 (by kernel_rfl) (by kernel_rfl) h'
  intro i hi
  have := ht.cell hg i (by simpa [zs32] using hi)
  rw [this]
  congr 2
  unfold zs32
  rw [List.getD_eq_getElem?_getD, List.getElem?_map, List.getD_eq_getElem?_getD, List.getElem?_eq_getElem hi]; rfl
def zs64 : List Int := Lib.deBruijn64tab.map Int.ofNat
theorem tb64 {W : World} (h : laidMet Tryz.prog [("math/bits.deBruijn64tab", Rows.laid_math_bits_deBruijn64tab)] W) : Tb W 4 Lib.deBruijn64tab := by
  have h' : laidMet Tryz.prog (("math/bits.deBruijn64tab", Lib.tabData .u8 zs64) :: []) W := h
  have hg : Tryz.prog.globalNamed "math/bits.deBruijn64tab" = some 4 := by kernel_rfl
  have ht := Lib.tabIs_of_head (g := 4) (t := 194) (e := 5) (n := 64) hg (by kernel_rfl) Tryz.underlying194 Tryz.underlying5 (by kernel_rfl) (by kernel_rfl) h'
  intro i hi
  have := ht.cell hg i (by simpa [zs64] using hi)
  rw [this]
  congr 2
  unfold zs64
  rw [List.getD_eq_getElem?_getD, List.getElem?_map, List.getD_eq_getElem?_getD, List.getElem?_eq_getElem hi]; rfl
end Ld
open Go.RowKit Go.Deep
theorem Q9.new2 (w : World) (o : Obj) (v0 v1 v2 v3 v4 v5 v6 v7 v8 : Value) (t : TypeId) : Q9 ((w.alloc o).alloc (.cells #[v0, v1, v2, v3, v4, v5, v6, v7, v8] t)) (w.heap.size + 1) v0 v1 v2 v3 v4 v5 v6 v7 v8 := by simpa using Q9.new (w.alloc o) v0 v1 v2 v3 v4 v5 v6 v7 v8 t
theorem Box.of_block {w w' : World} {b : Nat} {v0 v1 : Value} (h : Box w b v0 v1) (e : w'.heap[b]? = w.heap[b]?) : Box w' b v0 v1 :=
  ⟨(World.cell?_of_block (a := ⟨b, 0, none⟩) e).trans h.1, (World.cell?_of_block (a := ⟨b, 1, none⟩) e).trans h.2⟩
/-- Numbers of 64 bits. -/
def D64 (xs : List Int) : Prop := ∀ x ∈ xs, 0 ≤ x ∧ x < 18446744073709551616
theorem D64.getD {xs : List Int} (h : D64 xs) (k : Nat) : 0 ≤ xs.getD k 0 ∧ xs.getD k 0 < 18446744073709551616 := by
  rw [List.getD_eq_getElem?_getD]
  by_cases hk : k < xs.length
  · rw [List.getElem?_eq_getElem hk]; exact h _ (List.getElem_mem hk)
  · rw [List.getElem?_eq_none (by omega)]; decide
/-- Whether all are floats of the format. -/
def allB (fm : Int) (xs : List Int) : Bool := xs.all (fun x => okF fm x)
def EfO (fm : Int) (ng : Bool) (zs : List Int) (e : Int) : Bool := RdO fm 1 ng zs e && decide (RdF fm 1 ng zs e = 0)
def EfB (fm : Int) (ng : Bool) (zs : List Int) (e : Int) : Int := if EfO fm ng zs e then RdB fm 1 ng zs e else 0
theorem exact_spec (fm : Int) (ng : Bool) (zs : List Int) (e : Int) (p : Option Addr) (c : Nat) (w : World) (hs : Sl .u32 w (.slice p zs.length c) zs) (hz : Nm.Dg zs) (hl : zs.length ≤ 1048576) :
    Calls Tryz.prog 128 #[.int .i64 fm, .agg #[.bool ng, .slice p zs.length c], .int .i64 e] w fun x w' => x = .returned (.tuple #[.int .u64 (EfB fm ng zs e), .bool (EfO fm ng zs e)]) ∧ Below w.heap.size w w' := by
  obtain ⟨b, hb⟩ : ∃ b, b = RdB fm 1 ng zs e := ⟨_, rfl⟩
  obtain ⟨f, hf⟩ : ∃ f, f = RdF fm 1 ng zs e := ⟨_, rfl⟩
  obtain ⟨o, ho⟩ : ∃ o, o = RdO fm 1 ng zs e := ⟨_, rfl⟩
  have C := hid (rounded_spec fm 1 ng zs e p c (w.alloc (.cells #[.bool ng, .slice p zs.length c] 26)) (hs.alloc _) hz hl)
  rw [← hb, ← hf, ← ho] at C
  have HO : Hid (EfO fm ng zs e = (o && decide (f = 0))) := hid (by unfold EfO; rw [← ho, ← hf])
  have HB : Hid (EfB fm ng zs e = if (o && decide (f = 0)) then b else 0) := hid (by unfold EfB; rw [HO.out, ← hb])
  clear hb hf ho
  cases o with
  | false =>
    go_enter Tryz.func128, Tryz.ntmps128
    go_wp2_with fail
    refine C.out.mono ?_
    rintro x w1 ⟨rfl, hb1⟩
    go_wp2
    go_ret2
    exact ⟨ret_ub (by rw [HB.out]; rfl) (by rw [HO.out]; rfl), (by repeat (first | exact bz0 _ _ | refine bz1 ?_ | refine bz2 ?_ _ | refine bz3 ?_ _ | refine bz4 ?_ hb1 | refine bz5 ?_ _ | refine bz6 ?_ _ | refine bz7 ?_ hb1))⟩
  | true =>
    by_cases h0 : f = 0
    · subst h0
      go_enter Tryz.func128, Tryz.ntmps128
      go_wp2_with fail
      refine C.out.mono ?_
      rintro x w1 ⟨rfl, hb1⟩
      go_wp2
      go_ret2
      exact ⟨ret_ub (by rw [HB.out]; rfl) (by rw [HO.out]; rfl), (by repeat (first | exact bz0 _ _ | refine bz1 ?_ | refine bz2 ?_ _ | refine bz3 ?_ _ | refine bz4 ?_ hb1 | refine bz5 ?_ _ | refine bz6 ?_ _ | refine bz7 ?_ hb1))⟩
    · have hne : (f != 0) = true := by rw [bne_iff_ne]; exact h0
      have HD : Hid (decide (f = 0) = false) := hid (decide_eq_false h0)
      clear h0
      go_enter Tryz.func128, Tryz.ntmps128
      go_wp2_with fail
      refine C.out.mono ?_
      rintro x w1 ⟨rfl, hb1⟩
      go_wp2
      go_ret2
      exact ⟨ret_ub (by rw [HB.out, HD.out]; rfl) (by rw [HO.out, HD.out]; rfl), (by repeat (first | exact bz0 _ _ | refine bz1 ?_ | refine bz2 ?_ _ | refine bz3 ?_ _ | refine bz4 ?_ hb1 | refine bz5 ?_ _ | refine bz6 ?_ _ | refine bz7 ?_ hb1))⟩
theorem l1uint_v (m : Int) (ng : Bool) (w : World) (h0 : 0 ≤ m) (h1 : m < 18446744073709551616) (x : Int) (hx : x = if ng then -m else m) :
    Calls Tryz.prog 122 #[.int .u64 m, .bool ng] w fun e w' => ∃ a' c', e = .returned (.agg #[.bool (Nm.wn x), .slice a' (Nm.wl x).length c']) ∧ Own w' w.heap.size a' c' (Nm.wl x) ∧ Below w.heap.size w w' := by
  have HV : Hid (x = Nm.wv ng (two m)) := hid (by rw [two_wv ng h0]; exact hx)
  have HD := hid (two_dg h0 h1)
  clear hx
  go_enter Tryz.func122, Tryz.ntmps122
  go_wp2_with fail
  refine (made_v ng _ 2 (two m) _ (by refine Own.sl (own_two (B := 0) ?_ ?_ _ _) <;> simp) HD.out (by simp [two]) x HV.out).mono ?_
  rintro e w1 ⟨a', c', rfl, ho, hb⟩
  have r := (R2.new w (.bool false) (.slice none 0 0) 26).alloc (.cells #[.int .u32 (m % 4294967296), .int .u32 (m / 4294967296)] 83)
  obtain ⟨rc0, rc1, rf0, rf1⟩ := r.below hb
  have ho : Own w1 (w.heap.size + 1 + 1) a' c' (Nm.wl x) := by simpa using ho
  go_wp2
  refine bodyPost_ret (v := .agg #[.bool (Nm.wn x), .slice a' (Nm.wl x).length c']) (by simp [results, Tryz.results122, go_sem, rc0, rc1]) rfl ⟨a', c', rfl, ?_, (by repeat (first | exact bz0 _ _ | refine bz1 ?_ | refine bz2 ?_ _ | refine bz3 ?_ _ | refine bz4 ?_ hb | refine bz5 ?_ _ | refine bz6 ?_ _ | refine bz7 ?_ hb))⟩
  exact Own.base ((ho.setBelow (by simp; omega) _).setBelow (by simp; omega) _) (by omega)
/-- A number that is not 0, with its sign. -/
theorem uint_n (m : Nat) (ng : Bool) (w : World) (h0 : m ≠ 0) (h1 : m < 18446744073709551616) :
    Calls Tryz.prog 122 #[.int .u64 (m : Nat), .bool ng] w fun e w' => ∃ a' c', e = .returned (.agg #[.bool ng, .slice a' (Nm.lim m).length c']) ∧ Own w' w.heap.size a' c' (Nm.lim m) ∧ Below w.heap.size w w' := by
  have h := l1uint_v (m : Int) ng w (by omega) (by omega) (if ng then -(m : Int) else m) rfl
  have e1 : Nm.wn (if ng then -(m : Int) else m) = ng := by unfold Nm.wn; cases ng <;> simp <;> omega
  have e2 : Nm.wl (if ng then -(m : Int) else m) = Nm.lim m := by unfold Nm.wl; cases ng <;> simp
  rw [e1, e2] at h
  exact h
/-- What parts make, by the specification's rounding. -/
theorem fp_ef {P I : Nat} {q ones S : Int} {ng : Bool} {m : Nat} {e : Int} (hm : m ≠ 0) (hP : 1 ≤ P) (hI : (I : Int) = ones * (2 ^ (P - 1) : Nat)) (ho : 3 ≤ ones) (ho2 : ones ≤ 2100) :
    Nm.stOk P q ones m e = decide (rdF P q I 1 ng m e = 0) ∧ (Nm.stOk P q ones m e = true → sgn S (Nm.flb P (Nm.stU q m e) : Nat) ng = rdB P q I S 1 ng m e) := by
  have hin := Nm.parts_in (P := P) (q := q) (e := e) hm
  by_cases hr : Nm.rr P q m e = 0
  · have hin' : Nm.stIn P q m e = true := by rw [hin]; exact decide_eq_true hr
    have hU : rdU P q 1 ng m e = Nm.stU q m e := Nm.parts_U hm hr _
    have ho' := Nm.st_o hm hin' hP hI ho ho2
    have h1 : Nm.stOk P q ones m e = Nm.flo P I (rdU P q 1 ng m e) := by
      unfold Nm.stOk; rw [hin', hU, ho']; rfl
    refine ⟨?_, fun h => ?_⟩
    · rw [h1]; unfold rdF; rw [if_pos hr]
      cases Nm.flo P I (rdU P q 1 ng m e) <;> rfl
    · rw [h1] at h; unfold rdB; rw [h, if_pos rfl, hU]
  · have hin' : Nm.stIn P q m e = false := by rw [hin]; exact decide_eq_false hr
    have h1 : Nm.stOk P q ones m e = false := by unfold Nm.stOk; rw [hin']; rfl
    refine ⟨?_, fun h => by rw [h1] at h; cases h⟩
    rw [h1]; unfold rdF; rw [if_neg hr]
    symm
    apply decide_eq_false
    split
    · split <;> decide
    · decide
/-- Parts at every format. -/
def FpO (fm : Int) (M E : Int) : Bool := if fm = 32 then fpO 24 (-149) 255 M E else if fm = 64 then fpO 53 (-1074) 2047 M E else false
def FpB (fm : Int) (ng : Bool) (M E : Int) : Int := if fm = 32 then fpB 24 (-149) 255 2147483648 ng M E else if fm = 64 then fpB 53 (-1074) 2047 9223372036854775808 ng M E else 0
theorem parts_spec (fm : Int) (ng : Bool) (M E : Int) (w : World) (m1 : M < 9223372036854775808) :
    Calls Tryz.prog 143 #[.int .i64 fm, .agg #[.bool ng, .int .i64 M, .int .i64 E]] w fun x w' => x = .returned (.tuple #[.int .u64 (FpB fm ng M E), .bool (FpO fm M E)]) ∧ Below w.heap.size w w' := by
  have C1 := hid (fun w' => fmt_spec fm w')
  cases h : fmtB fm
  · obtain ⟨h1, h2⟩ := fmt_no h
    have HO : Hid (FpO fm M E = false) := hid (by unfold FpO; rw [if_neg h1, if_neg h2])
    have HB : Hid (FpB fm ng M E = 0) := hid (by unfold FpB; rw [if_neg h1, if_neg h2])
    rw [h] at C1
    clear h h1 h2
    go_enter Tryz.func143, Tryz.ntmps143
    go_wp2_with fail
    refine (C1.out _).mono ?_
    rintro x w1 ⟨rfl, rfl⟩
    go_wp2
    go_ret2
    exact ⟨ret_ub HB.out.symm HO.out.symm, (by repeat (first | exact bz0 _ _ | refine bz1 ?_ | refine bz2 ?_ _ | refine bz3 ?_ _ | refine bz5 ?_ _ | refine bz6 ?_ _))⟩
  rw [h] at C1
  rcases fmt_cases h with rfl | rfl
  · by_cases hM : M < 0
    · have HO : Hid (FpO 32 M E = false) := hid (by show fpO 24 (-149) 255 M E = false; unfold fpO; rw [decide_eq_false (show ¬ 0 ≤ M by omega)]; rfl)
      have HB : Hid (FpB 32 ng M E = 0) := hid (by show fpB 24 (-149) 255 2147483648 ng M E = 0; unfold fpB; rw [show fpO 24 (-149) 255 M E = false from HO.out]; rfl)
      clear h
      go_enter Tryz.func143, Tryz.ntmps143
      go_wp2_with fail
      refine (C1.out _).mono ?_
      rintro x w1 ⟨rfl, rfl⟩
      go_wp2
      go_ret2
      exact ⟨ret_ub HB.out.symm HO.out.symm, (by repeat (first | exact bz0 _ _ | refine bz1 ?_ | refine bz2 ?_ _ | refine bz3 ?_ _ | refine bz5 ?_ _ | refine bz6 ?_ _))⟩
    have C2 := hid (fun w' => in_any E (-5000) 5000 w')
    have hM' : 0 ≤ M := by omega
    clear hM
    cases hE : inZ E (-5000) 5000
    · have HO : Hid (FpO 32 M E = false) := hid (by
        show fpO 24 (-149) 255 M E = false
        unfold fpO; unfold inZ at hE
        cases hd : decide (-5000 ≤ E)
        · simp
        · rw [hd, Bool.true_and] at hE; rw [hE]; simp)
      have HB : Hid (FpB 32 ng M E = 0) := hid (by show fpB 24 (-149) 255 2147483648 ng M E = 0; unfold fpB; rw [show fpO 24 (-149) 255 M E = false from HO.out]; rfl)
      rw [hE] at C2
      clear h hE
      go_enter Tryz.func143, Tryz.ntmps143
      go_wp2_with fail
      refine (C1.out _).mono ?_
      rintro x w1 ⟨rfl, rfl⟩
      go_wp2_with fail
      refine (C2.out _).mono ?_
      rintro x w2 ⟨rfl, rfl⟩
      go_wp2
      go_ret2
      exact ⟨ret_ub HB.out.symm HO.out.symm, (by repeat (first | exact bz0 _ _ | refine bz1 ?_ | refine bz2 ?_ _ | refine bz3 ?_ _ | refine bz5 ?_ _ | refine bz6 ?_ _))⟩
    rw [hE] at C2
    have e0 := inZ_yes hE
    have HO0 : Hid (FpO 32 M E = (decide (M = 0) || Nm.stOk 24 (-149) 255 M.toNat E)) := hid (by
      show fpO 24 (-149) 255 M E = _
      unfold fpO; rw [decide_eq_true hM', decide_eq_true e0.1, decide_eq_true e0.2]; rfl)
    clear hE
    by_cases hz : M = 0
    · subst hz
      have HO : Hid (FpO 32 0 E = true) := hid (by rw [HO0.out]; rfl)
      have HB : Hid (FpB 32 ng 0 E = sgn 2147483648 0 ng) := hid (by show fpB 24 (-149) 255 2147483648 ng 0 E = _; unfold fpB; rw [show fpO 24 (-149) 255 0 E = true from HO.out]; rfl)
      clear h
      go_enter Tryz.func143, Tryz.ntmps143
      go_wp2_with fail
      refine (C1.out _).mono ?_
      rintro x w1 ⟨rfl, rfl⟩
      go_wp2_with fail
      refine (C2.out _).mono ?_
      rintro x w2 ⟨rfl, rfl⟩
      go_wp2_with fail
      refine (with_32 0 ng _ (fun _ => ⟨by decide, by decide⟩)).mono ?_
      rintro x w3 ⟨rfl, hb3⟩
      go_wp2
      go_ret2
      exact ⟨ret_ub HB.out.symm HO.out.symm, (by repeat (first | exact bz0 _ _ | refine bz1 ?_ | refine bz2 ?_ _ | refine bz3 ?_ _ | refine bz4 ?_ hb3 | refine bz5 ?_ _ | refine bz6 ?_ _ | refine bz7 ?_ hb3))⟩
    · obtain ⟨m, hm⟩ : ∃ m : Nat, M = m := ⟨M.toNat, by omega⟩
      have hm0 : m ≠ 0 := by omega
      have hzz : (M == 0) = false := by rw [beq_eq_false_iff_ne]; exact hz
      have hef := fp_ef (P := 24) (I := 2139095040) (q := (-149)) (ones := 255) (S := 2147483648) (ng := ng) (e := E) hm0 (by decide) (by decide) (by decide) (by decide)
      have hbl : bitLen m ≤ 64 := (Nm.bl_le_iff m 64).2 (by omega)
      have hokl := ok_lim hm0 (show bitLen m ≤ 6400 by omega) ng
      have hlen : (Nm.lim m).length ≠ 0 := fun h => hm0 ((Nm.lim_length_zero m).1 h)
      have hRO : RdO 32 1 ng (Nm.lim m) E = true := by
        unfold RdO; rw [hokl]
        have : inZ E (-10000) 10000 = true := by simp [inZ]; omega
        rw [this]; rfl
      have hRF : RdF 32 1 ng (Nm.lim m) E = rdF 24 (-149) 2139095040 1 ng m E := by
        unfold RdF; rw [hRO, if_pos rfl, if_neg hlen, Nm.lim_val, Int.toNat_natCast]; rfl
      have hRB : RdB 32 1 ng (Nm.lim m) E = rdB 24 (-149) 2139095040 2147483648 1 ng m E := by
        unfold RdB; rw [hRO, if_pos rfl, if_neg hlen, Nm.lim_val, Int.toNat_natCast]; rfl
      have HEO : Hid (EfO 32 ng (Nm.lim m) E = FpO 32 M E) := hid (by
        unfold EfO; rw [hRO, hRF, ← hef.1, HO0.out, decide_eq_false hz, hm]; simp)
      have HEB : Hid (EfB 32 ng (Nm.lim m) E = FpB 32 ng M E) := hid (by
        unfold EfB; rw [HEO.out]
        show _ = fpB 24 (-149) 255 2147483648 ng M E
        unfold fpB
        have e1 : fpO 24 (-149) 255 M E = Nm.stOk 24 (-149) 255 m E := by
          have := HO0.out; rw [decide_eq_false hz, hm] at this; rw [hm]; have t : FpO 32 ((m : Nat) : Int) E = Nm.stOk 24 (-149) 255 m E := (by simpa using this); exact t
        have e2 : FpO 32 M E = Nm.stOk 24 (-149) 255 m E := e1
        rw [e1, e2, if_neg hz]
        cases hst : Nm.stOk 24 (-149) 255 m E
        · rfl
        · rw [if_pos rfl, if_pos rfl, hRB, ← hef.2 hst, hm]; simp)
      have C3 := hid (fun w' => uint_n m ng w' hm0 (by omega))
      rw [← hm] at C3
      have C4 := hid (fun a c w' h => exact_spec 32 ng (Nm.lim m) E a c w' h (Nm.lim_dg m) (by have := lim_len (x := m) (k := 2) (by omega); omega))
      rw [HEO.out, HEB.out] at C4
      have hMw : IntKind.u64.wrap M = M := by rw [IntKind.wrap_u64]; omega
      clear h hz hm hef hbl hokl hlen hRO hRF hRB HO0
      go_enter Tryz.func143, Tryz.ntmps143
      go_wp2_with fail
      refine (C1.out _).mono ?_
      rintro x w1 ⟨rfl, rfl⟩
      go_wp2_with fail
      refine (C2.out _).mono ?_
      rintro x w2 ⟨rfl, rfl⟩
      have r2 := R3.new w (.bool ng) (.int .i64 M) (.int .i64 E) 112
      obtain ⟨r20, r21, r22, r2f, r2g, r2h⟩ := r2
      go_wp2_with fail
      go_region_held3 (fun w' => w'.cell? ⟨w.heap.size, 0, none⟩ = some (.bool ng) ∧ w'.cell? ⟨w.heap.size, 1, none⟩ = some (.int .i64 M) ∧ w'.cell? ⟨w.heap.size, 2, none⟩ = some (.int .i64 E))
        (first
          | assumption
          | exact ⟨r20, r21, r22⟩
          | exact ⟨rr1.c0, rr1.c1, rr1.c2⟩
          | exact ⟨rr2.c0, rr2.c1, rr2.c2⟩)
        (first
          | (go_at_call 122; refine (C3.out _).mono ?_; rintro x q1 ⟨d1, f1, rfl, hp1, hq1⟩; have rr1 := R3.below (R3.dr ⟨r20, r21, r22, r2f, r2g, r2h⟩) hq1)
          | (go_at_call 128; refine (C4.out d1 f1 _ hp1.sl).mono ?_; rintro x q2 ⟨rfl, hq2⟩; have rr2 := R3.below rr1 hq2))
      go_wp2
      go_ret2
      exact ⟨rfl, (by repeat (first | exact bz0 _ _ | refine bz1 ?_ | refine bz2 ?_ _ | refine bz3 ?_ _ | refine bz4 ?_ hq2 | refine bz4 ?_ hq1 | refine bz5 ?_ _ | refine bz6 ?_ _ | refine bz7 ?_ hq2 | refine bz7 ?_ hq1))⟩
  · by_cases hM : M < 0
    · have HO : Hid (FpO 64 M E = false) := hid (by show fpO 53 (-1074) 2047 M E = false; unfold fpO; rw [decide_eq_false (show ¬ 0 ≤ M by omega)]; rfl)
      have HB : Hid (FpB 64 ng M E = 0) := hid (by show fpB 53 (-1074) 2047 9223372036854775808 ng M E = 0; unfold fpB; rw [show fpO 53 (-1074) 2047 M E = false from HO.out]; rfl)
      clear h
      go_enter Tryz.func143, Tryz.ntmps143
      go_wp2_with fail
      refine (C1.out _).mono ?_
      rintro x w1 ⟨rfl, rfl⟩
      go_wp2
      go_ret2
      exact ⟨ret_ub HB.out.symm HO.out.symm, (by repeat (first | exact bz0 _ _ | refine bz1 ?_ | refine bz2 ?_ _ | refine bz3 ?_ _ | refine bz5 ?_ _ | refine bz6 ?_ _))⟩
    have C2 := hid (fun w' => in_any E (-5000) 5000 w')
    have hM' : 0 ≤ M := by omega
    clear hM
    cases hE : inZ E (-5000) 5000
    · have HO : Hid (FpO 64 M E = false) := hid (by
        show fpO 53 (-1074) 2047 M E = false
        unfold fpO; unfold inZ at hE
        cases hd : decide (-5000 ≤ E)
        · simp
        · rw [hd, Bool.true_and] at hE; rw [hE]; simp)
      have HB : Hid (FpB 64 ng M E = 0) := hid (by show fpB 53 (-1074) 2047 9223372036854775808 ng M E = 0; unfold fpB; rw [show fpO 53 (-1074) 2047 M E = false from HO.out]; rfl)
      rw [hE] at C2
      clear h hE
      go_enter Tryz.func143, Tryz.ntmps143
      go_wp2_with fail
      refine (C1.out _).mono ?_
      rintro x w1 ⟨rfl, rfl⟩
      go_wp2_with fail
      refine (C2.out _).mono ?_
      rintro x w2 ⟨rfl, rfl⟩
      go_wp2
      go_ret2
      exact ⟨ret_ub HB.out.symm HO.out.symm, (by repeat (first | exact bz0 _ _ | refine bz1 ?_ | refine bz2 ?_ _ | refine bz3 ?_ _ | refine bz5 ?_ _ | refine bz6 ?_ _))⟩
    rw [hE] at C2
    have e0 := inZ_yes hE
    have HO0 : Hid (FpO 64 M E = (decide (M = 0) || Nm.stOk 53 (-1074) 2047 M.toNat E)) := hid (by
      show fpO 53 (-1074) 2047 M E = _
      unfold fpO; rw [decide_eq_true hM', decide_eq_true e0.1, decide_eq_true e0.2]; rfl)
    clear hE
    by_cases hz : M = 0
    · subst hz
      have HO : Hid (FpO 64 0 E = true) := hid (by rw [HO0.out]; rfl)
      have HB : Hid (FpB 64 ng 0 E = sgn 9223372036854775808 0 ng) := hid (by show fpB 53 (-1074) 2047 9223372036854775808 ng 0 E = _; unfold fpB; rw [show fpO 53 (-1074) 2047 0 E = true from HO.out]; rfl)
      clear h
      go_enter Tryz.func143, Tryz.ntmps143
      go_wp2_with fail
      refine (C1.out _).mono ?_
      rintro x w1 ⟨rfl, rfl⟩
      go_wp2_with fail
      refine (C2.out _).mono ?_
      rintro x w2 ⟨rfl, rfl⟩
      go_wp2_with fail
      refine (with_64 0 ng _ (fun _ => ⟨by decide, by decide⟩)).mono ?_
      rintro x w3 ⟨rfl, hb3⟩
      go_wp2
      go_ret2
      exact ⟨ret_ub HB.out.symm HO.out.symm, (by repeat (first | exact bz0 _ _ | refine bz1 ?_ | refine bz2 ?_ _ | refine bz3 ?_ _ | refine bz4 ?_ hb3 | refine bz5 ?_ _ | refine bz6 ?_ _ | refine bz7 ?_ hb3))⟩
    · obtain ⟨m, hm⟩ : ∃ m : Nat, M = m := ⟨M.toNat, by omega⟩
      have hm0 : m ≠ 0 := by omega
      have hzz : (M == 0) = false := by rw [beq_eq_false_iff_ne]; exact hz
      have hef := fp_ef (P := 53) (I := 9218868437227405312) (q := (-1074)) (ones := 2047) (S := 9223372036854775808) (ng := ng) (e := E) hm0 (by decide) (by decide) (by decide) (by decide)
      have hbl : bitLen m ≤ 64 := (Nm.bl_le_iff m 64).2 (by omega)
      have hokl := ok_lim hm0 (show bitLen m ≤ 6400 by omega) ng
      have hlen : (Nm.lim m).length ≠ 0 := fun h => hm0 ((Nm.lim_length_zero m).1 h)
      have hRO : RdO 64 1 ng (Nm.lim m) E = true := by
        unfold RdO; rw [hokl]
        have : inZ E (-10000) 10000 = true := by simp [inZ]; omega
        rw [this]; rfl
      have hRF : RdF 64 1 ng (Nm.lim m) E = rdF 53 (-1074) 9218868437227405312 1 ng m E := by
        unfold RdF; rw [hRO, if_pos rfl, if_neg hlen, Nm.lim_val, Int.toNat_natCast]; rfl
      have hRB : RdB 64 1 ng (Nm.lim m) E = rdB 53 (-1074) 9218868437227405312 9223372036854775808 1 ng m E := by
        unfold RdB; rw [hRO, if_pos rfl, if_neg hlen, Nm.lim_val, Int.toNat_natCast]; rfl
      have HEO : Hid (EfO 64 ng (Nm.lim m) E = FpO 64 M E) := hid (by
        unfold EfO; rw [hRO, hRF, ← hef.1, HO0.out, decide_eq_false hz, hm]; simp)
      have HEB : Hid (EfB 64 ng (Nm.lim m) E = FpB 64 ng M E) := hid (by
        unfold EfB; rw [HEO.out]
        show _ = fpB 53 (-1074) 2047 9223372036854775808 ng M E
        unfold fpB
        have e1 : fpO 53 (-1074) 2047 M E = Nm.stOk 53 (-1074) 2047 m E := by
          have := HO0.out; rw [decide_eq_false hz, hm] at this; rw [hm]; have t : FpO 64 ((m : Nat) : Int) E = Nm.stOk 53 (-1074) 2047 m E := (by simpa using this); exact t
        have e2 : FpO 64 M E = Nm.stOk 53 (-1074) 2047 m E := e1
        rw [e1, e2, if_neg hz]
        cases hst : Nm.stOk 53 (-1074) 2047 m E
        · rfl
        · rw [if_pos rfl, if_pos rfl, hRB, ← hef.2 hst, hm]; simp)
      have C3 := hid (fun w' => uint_n m ng w' hm0 (by omega))
      rw [← hm] at C3
      have C4 := hid (fun a c w' h => exact_spec 64 ng (Nm.lim m) E a c w' h (Nm.lim_dg m) (by have := lim_len (x := m) (k := 2) (by omega); omega))
      rw [HEO.out, HEB.out] at C4
      have hMw : IntKind.u64.wrap M = M := by rw [IntKind.wrap_u64]; omega
      clear h hz hm hef hbl hokl hlen hRO hRF hRB HO0
      go_enter Tryz.func143, Tryz.ntmps143
      go_wp2_with fail
      refine (C1.out _).mono ?_
      rintro x w1 ⟨rfl, rfl⟩
      go_wp2_with fail
      refine (C2.out _).mono ?_
      rintro x w2 ⟨rfl, rfl⟩
      have r2 := R3.new w (.bool ng) (.int .i64 M) (.int .i64 E) 112
      obtain ⟨r20, r21, r22, r2f, r2g, r2h⟩ := r2
      go_wp2_with fail
      go_region_held3 (fun w' => w'.cell? ⟨w.heap.size, 0, none⟩ = some (.bool ng) ∧ w'.cell? ⟨w.heap.size, 1, none⟩ = some (.int .i64 M) ∧ w'.cell? ⟨w.heap.size, 2, none⟩ = some (.int .i64 E))
        (first
          | assumption
          | exact ⟨r20, r21, r22⟩
          | exact ⟨rr1.c0, rr1.c1, rr1.c2⟩
          | exact ⟨rr2.c0, rr2.c1, rr2.c2⟩)
        (first
          | (go_at_call 122; refine (C3.out _).mono ?_; rintro x q1 ⟨d1, f1, rfl, hp1, hq1⟩; have rr1 := R3.below (R3.dr ⟨r20, r21, r22, r2f, r2g, r2h⟩) hq1)
          | (go_at_call 128; refine (C4.out d1 f1 _ hp1.sl).mono ?_; rintro x q2 ⟨rfl, hq2⟩; have rr2 := R3.below rr1 hq2))
      go_wp2
      go_ret2
      exact ⟨rfl, (by repeat (first | exact bz0 _ _ | refine bz1 ?_ | refine bz2 ?_ _ | refine bz3 ?_ _ | refine bz4 ?_ hq2 | refine bz4 ?_ hq1 | refine bz5 ?_ _ | refine bz6 ?_ _ | refine bz7 ?_ hq2 | refine bz7 ?_ hq1))⟩
theorem sparts_any (fm x : Int) (w : World) (hf : finB fm x = true) (h0 : 0 ≤ x) (h1 : x < 18446744073709551616) :
    Calls Tryz.prog 120 #[.int .i64 fm, .int .u64 x] w fun e w' => e = .returned (.agg #[.bool (pS fm x), .int .i64 (pM fm x), .int .i64 (pE fm x)]) ∧ Below w.heap.size w w' := by
  have ho : okF fm x = true := by
    cases ho : okF fm x
    · rw [fin_no ho] at hf; cases hf
    · rfl
  rcases okF_cases ho with ⟨rfl, hx⟩ | rfl
  · refine (spec_l2Parts32 x w h0 hx).mono ?_
    rintro e w1 ⟨rfl, hb1⟩
    exact ⟨ret_p3 (by unfold pS; rw [hf]; rfl) (by unfold pM; rw [hf]; rfl) (by unfold pE; rw [hf]; rfl), hb1⟩
  · refine (spec_l2Parts64 x w h0 h1).mono ?_
    rintro e w1 ⟨rfl, hb1⟩
    exact ⟨ret_p3 (by unfold pS; rw [hf]; rfl) (by unfold pM; rw [hf]; rfl) (by unfold pE; rw [hf]; rfl), hb1⟩
/-- The bounds of a finite float's parts. -/
theorem par_bd {L y : Int} (h0 : 0 ≤ y) (hL : 0 < L) : 0 ≤ parM L y ∧ parM L y < 2 * L := by
  have h1 := Int.emod_nonneg y (show L ≠ 0 by omega)
  have h2 := Int.emod_lt_of_pos y hL
  unfold parM; split <;> omega
theorem pM_bd (fm x : Int) : 0 ≤ pM fm x ∧ pM fm x < 9007199254740992 := by
  unfold pM
  split
  · split
    · have := par_bd (L := 8388608) (y := x % 2147483648) (by omega) (by decide); omega
    · have := par_bd (L := 4503599627370496) (y := x % 9223372036854775808) (by omega) (by decide); omega
  · omega
theorem pE_bd (fm x : Int) : -1074 ≤ pE fm x ∧ pE fm x ≤ 2000 := by
  unfold pE parE
  split
  · split
    · split <;> omega
    · split <;> omega
  · omega
/-- Units of a finite float, as a number; 0 for others. -/
def unQ (fm : Int) : Int := if fm = 32 then -149 else -1074
theorem pE_q {fm x : Int} (h : finB fm x = true) : 0 ≤ pE fm x - unQ fm ∧ pE fm x - unQ fm ≤ 2100 := by
  have ho : okF fm x = true := by
    cases ho : okF fm x
    · rw [fin_no ho] at h; cases h
    · rfl
  have hlt := fin_lt ho
  rw [h] at hlt
  have hlt' := of_decide_eq_true hlt.symm
  unfold pE unQ
  rw [h, if_pos rfl]
  rcases okF_cases ho with ⟨rfl, hx⟩ | rfl
  · rw [if_pos rfl, if_pos rfl]
    rw [abs32 hx] at hlt'
    unfold infOf at hlt'; rw [if_pos rfl] at hlt'
    unfold parE; split <;> omega
  · rw [if_neg (by decide), if_neg (by decide)]
    rw [abs64] at hlt'
    unfold infOf at hlt'; rw [if_neg (by decide)] at hlt'
    unfold parE; split <;> omega
theorem okB_wl {x : Int} (h : (Nm.wl x).length ≤ 200) : okB (Nm.wn x) (Nm.wl x) = true := by
  by_cases h0 : x = 0
  · subst h0
    have e1 : Nm.wl 0 = [] := Nm.lim_zero
    have e2 : Nm.wn 0 = false := by decide
    rw [e1, e2]; rfl
  · have hb : bitLen x.natAbs ≤ 6400 := len_bl (k := 200) h
    exact ok_lim (by omega) hb _
theorem signedM_z (ng : Bool) (m : Int) (E : Int) (w : World) (h0 : 0 ≤ m) (h1 : m < 9223372036854775808) :
    Calls Tryz.prog 112 #[.agg #[.bool ng, .int .i64 m, .int .i64 E]] w fun e w' => ∃ a' c', e = .returned (.agg #[.bool (Nm.wn (if ng then -m else m)), .slice a' (Nm.wl (if ng then -m else m)).length c']) ∧ Own w' w.heap.size a' c' (Nm.wl (if ng then -m else m)) ∧ Below w.heap.size w w' := by
  have CN := hid (fun w' => wof_impl (-m) w' (by omega) (by omega))
  have CP := hid (fun w' => wof_impl m w' (by omega) (by omega))
  cases ng with
  | true =>
    have e : (if true = true then -m else m) = -m := rfl
    rw [e]
    obtain ⟨G, hG⟩ : ∃ G, G = Nm.wn (-m) := ⟨_, rfl⟩
    obtain ⟨L, hL⟩ : ∃ L, L = Nm.wl (-m) := ⟨_, rfl⟩
    rw [← hG, ← hL] at CN ⊢
    clear hG hL e CP
    go_enter Tryz.func112, Tryz.ntmps112
    go_wp2_with fail
    refine (CN.out _).mono ?_
    rintro e w1 ⟨a', c', rfl, ho, hb⟩
    obtain ⟨r0, r1, f0, f1⟩ := (R2.new2 w (.cells #[.bool true, .int .i64 m, .int .i64 E] 112) (.bool false) (.slice none 0 0) 26).below hb
    have ho : Own w1 (w.heap.size + 1 + 1) a' c' L := by simpa using ho
    go_wp2
    refine bodyPost_ret (v := .agg #[.bool G, .slice a' L.length c']) (by simp [results, Tryz.results112, go_sem, r0, r1]) rfl ⟨a', c', rfl, ?_, (by repeat (first | exact bz0 _ _ | refine bz1 ?_ | refine bz2 ?_ _ | refine bz3 ?_ _ | refine bz4 ?_ hb | refine bz5 ?_ _ | refine bz6 ?_ _ | refine bz7 ?_ hb))⟩
    exact Own.base ((ho.setBelow (by simp) _).setBelow (by simp) _) (by omega)
  | false =>
    have e : (if false = true then -m else m) = m := rfl
    rw [e]
    obtain ⟨G, hG⟩ : ∃ G, G = Nm.wn m := ⟨_, rfl⟩
    obtain ⟨L, hL⟩ : ∃ L, L = Nm.wl m := ⟨_, rfl⟩
    rw [← hG, ← hL] at CP ⊢
    clear hG hL e CN
    go_enter Tryz.func112, Tryz.ntmps112
    go_wp2_with fail
    refine (CP.out _).mono ?_
    rintro e w1 ⟨a', c', rfl, ho, hb⟩
    obtain ⟨r0, r1, f0, f1⟩ := (R2.new2 w (.cells #[.bool false, .int .i64 m, .int .i64 E] 112) (.bool false) (.slice none 0 0) 26).below hb
    have ho : Own w1 (w.heap.size + 1 + 1) a' c' L := by simpa using ho
    go_wp2
    refine bodyPost_ret (v := .agg #[.bool G, .slice a' L.length c']) (by simp [results, Tryz.results112, go_sem, r0, r1]) rfl ⟨a', c', rfl, ?_, (by repeat (first | exact bz0 _ _ | refine bz1 ?_ | refine bz2 ?_ _ | refine bz3 ?_ _ | refine bz4 ?_ hb | refine bz5 ?_ _ | refine bz6 ?_ _ | refine bz7 ?_ hb))⟩
    exact Own.base ((ho.setBelow (by simp) _).setBelow (by simp) _) (by omega)
theorem Q9.set1 {w : World} {b : Nat} {v0 v1 v2 v3 v4 v5 v6 v7 v8 : Value} (h : Q9 w b v0 v1 v2 v3 v4 v5 v6 v7 v8) (u : Value) : Q9 (w.setCell ⟨b, 1, none⟩ u) b v0 u v2 v3 v4 v5 v6 v7 v8 := by
  obtain ⟨c0, c1, c2, c3, c4, c5, c6, c7, c8, f0, f1, f2, f3, f4, f5, f6, f7, f8⟩ := h
  exact ⟨by simp [go_sem, c0, c1], by simp [go_sem, c1, c1], by simp [go_sem, c2, c1], by simp [go_sem, c3, c1], by simp [go_sem, c4, c1], by simp [go_sem, c5, c1], by simp [go_sem, c6, c1], by simp [go_sem, c7, c1], by simp [go_sem, c8, c1], by simp [go_sem, f0], by simp [go_sem, f1], by simp [go_sem, f2], by simp [go_sem, f3], by simp [go_sem, f4], by simp [go_sem, f5], by simp [go_sem, f6], by simp [go_sem, f7], by simp [go_sem, f8]⟩
namespace Fd
theorem big_any (ca : Option Addr) (n cc : Nat) (w : World) (hn : n ≤ 9223372036854775807) (b : Bool) (hb : b = decide (1048576 < n)) :
    Calls Tryz.prog 15 #[.slice ca n cc] w fun e w' => e = .returned (.bool b) ∧ w' = w := by
  by_cases h : 1048576 < n
  · have HB : Hid (b = true) := hid (by rw [hb]; simpa using h)
    clear hb
    go_enter Tryz.func15, Tryz.ntmps15
    go_wp2
    go_ret
    refine ⟨ret_bool ?_, rfl⟩
    rw [HB.out]
    first | rfl | (simp; omega)
  · have HB : Hid (b = false) := hid (by rw [hb]; simpa using h)
    clear hb
    go_enter Tryz.func15, Tryz.ntmps15
    go_wp2
    go_ret
    refine ⟨ret_bool ?_, rfl⟩
    rw [HB.out]
    first | rfl | (simp; omega)
theorem bel_rd {w W w' : World} {rb : Nat} (h : Below w.heap.size w W) (hg : W.grownBy w' (some rb)) (hr : w.heap.size ≤ rb) : Below w.heap.size w w' := h.grown hg h.size (fun k hk => by cases hk; exact hr)
theorem format_any (rb : Nat) (ca : Option Addr) (cc : Nat) (cs : List Int) (w : World) (hr : RD w rb ca cc cs) :
    Calls Tryz.prog 61 #[.pointer (some ⟨rb, 0, none⟩)] w fun e w' => ∃ fm : Int, e = .returned (.int .i64 fm) ∧ fmtB fm = true ∧ RD w' rb ca cc cs ∧ w.grownBy w' (some rb) := by
  go_enter Tryz.func61, Tryz.ntmps61
  go_wp2_with fail
  refine (once_any rb ca cc cs 2 _ hr (by decide) (by decide)).mono ?_
  rintro e w1 ⟨v, rfl, hr1, hg1⟩
  cases v
  · go_wp2
    go_ret
    exact ⟨64, rfl, by decide, hr1, hg1⟩
  · go_wp2
    go_ret
    exact ⟨32, rfl, by decide, hr1, hg1⟩
end Fd
/-- A box of five cells that may be written. -/
structure Q5 (w : World) (b : Nat) (v0 v1 v2 v3 v4 : Value) : Prop where
  c0 : w.cell? ⟨b, 0, none⟩ = some v0
  c1 : w.cell? ⟨b, 1, none⟩ = some v1
  c2 : w.cell? ⟨b, 2, none⟩ = some v2
  c3 : w.cell? ⟨b, 3, none⟩ = some v3
  c4 : w.cell? ⟨b, 4, none⟩ = some v4
  f0 : w.frozen? ⟨b, 0, none⟩ = false
  f1 : w.frozen? ⟨b, 1, none⟩ = false
  f2 : w.frozen? ⟨b, 2, none⟩ = false
  f3 : w.frozen? ⟨b, 3, none⟩ = false
  f4 : w.frozen? ⟨b, 4, none⟩ = false
theorem Q5.lt {w : World} {b : Nat} {v0 v1 v2 v3 v4 : Value} (h : Q5 w b v0 v1 v2 v3 v4) : b < w.heap.size := World.block_lt_of_cell? w _ h.c0
theorem Q5.of_block {w w' : World} {b : Nat} {v0 v1 v2 v3 v4 : Value} (h : Q5 w b v0 v1 v2 v3 v4) (e : w'.heap[b]? = w.heap[b]?) : Q5 w' b v0 v1 v2 v3 v4 :=
  ⟨(World.cell?_of_block (a := ⟨b, 0, none⟩) e).trans h.c0, (World.cell?_of_block (a := ⟨b, 1, none⟩) e).trans h.c1, (World.cell?_of_block (a := ⟨b, 2, none⟩) e).trans h.c2, (World.cell?_of_block (a := ⟨b, 3, none⟩) e).trans h.c3, (World.cell?_of_block (a := ⟨b, 4, none⟩) e).trans h.c4, (World.frozen?_of_block (a := ⟨b, 0, none⟩) e).trans h.f0, (World.frozen?_of_block (a := ⟨b, 1, none⟩) e).trans h.f1, (World.frozen?_of_block (a := ⟨b, 2, none⟩) e).trans h.f2, (World.frozen?_of_block (a := ⟨b, 3, none⟩) e).trans h.f3, (World.frozen?_of_block (a := ⟨b, 4, none⟩) e).trans h.f4⟩
theorem Q5.below {w w' : World} {b : Nat} {v0 v1 v2 v3 v4 : Value} (h : Q5 w b v0 v1 v2 v3 v4) (hb : Below w.heap.size w w') : Q5 w' b v0 v1 v2 v3 v4 := h.of_block (hb.block b h.lt)
theorem Q5.new (w : World) (v0 v1 v2 v3 v4 : Value) (t : TypeId) : Q5 (w.alloc (.cells #[v0, v1, v2, v3, v4] t)) w.heap.size v0 v1 v2 v3 v4 := ⟨by simp, by simp, by simp, by simp, by simp, by simp, by simp, by simp, by simp, by simp⟩
theorem Q5.alloc {w : World} {b : Nat} {v0 v1 v2 v3 v4 : Value} (h : Q5 w b v0 v1 v2 v3 v4) (o : Obj) : Q5 (w.alloc o) b v0 v1 v2 v3 v4 := h.below ((Below.refl _ _).alloc (Nat.le_refl _) _)
theorem Q5.drew {w : World} {b : Nat} {v0 v1 v2 v3 v4 : Value} (h : Q5 w b v0 v1 v2 v3 v4) : Q5 w.drew b v0 v1 v2 v3 v4 := ⟨h.c0, h.c1, h.c2, h.c3, h.c4, h.f0, h.f1, h.f2, h.f3, h.f4⟩
/-- The program's error for a quiet NaN lies in its cell. -/
abbrev ErrQ (w : World) (u : Value) : Prop := w.cell? ⟨1, 0, none⟩ = some (.iface 209 u)
/-- A box of 6 cells that may be written. -/
structure Q6 (w : World) (b : Nat) (v0 v1 v2 v3 v4 v5 : Value) : Prop where
  c0 : w.cell? ⟨b, 0, none⟩ = some v0
  c1 : w.cell? ⟨b, 1, none⟩ = some v1
  c2 : w.cell? ⟨b, 2, none⟩ = some v2
  c3 : w.cell? ⟨b, 3, none⟩ = some v3
  c4 : w.cell? ⟨b, 4, none⟩ = some v4
  c5 : w.cell? ⟨b, 5, none⟩ = some v5
  f0 : w.frozen? ⟨b, 0, none⟩ = false
  f1 : w.frozen? ⟨b, 1, none⟩ = false
  f2 : w.frozen? ⟨b, 2, none⟩ = false
  f3 : w.frozen? ⟨b, 3, none⟩ = false
  f4 : w.frozen? ⟨b, 4, none⟩ = false
  f5 : w.frozen? ⟨b, 5, none⟩ = false
theorem Q6.lt {w : World} {b : Nat} {v0 v1 v2 v3 v4 v5 : Value} (h : Q6 w b v0 v1 v2 v3 v4 v5) : b < w.heap.size := World.block_lt_of_cell? w _ h.c0
theorem Q6.of_block {w w' : World} {b : Nat} {v0 v1 v2 v3 v4 v5 : Value} (h : Q6 w b v0 v1 v2 v3 v4 v5) (e : w'.heap[b]? = w.heap[b]?) : Q6 w' b v0 v1 v2 v3 v4 v5 :=
  ⟨(World.cell?_of_block (a := ⟨b, 0, none⟩) e).trans h.c0, (World.cell?_of_block (a := ⟨b, 1, none⟩) e).trans h.c1, (World.cell?_of_block (a := ⟨b, 2, none⟩) e).trans h.c2, (World.cell?_of_block (a := ⟨b, 3, none⟩) e).trans h.c3, (World.cell?_of_block (a := ⟨b, 4, none⟩) e).trans h.c4, (World.cell?_of_block (a := ⟨b, 5, none⟩) e).trans h.c5, (World.frozen?_of_block (a := ⟨b, 0, none⟩) e).trans h.f0, (World.frozen?_of_block (a := ⟨b, 1, none⟩) e).trans h.f1, (World.frozen?_of_block (a := ⟨b, 2, none⟩) e).trans h.f2, (World.frozen?_of_block (a := ⟨b, 3, none⟩) e).trans h.f3, (World.frozen?_of_block (a := ⟨b, 4, none⟩) e).trans h.f4, (World.frozen?_of_block (a := ⟨b, 5, none⟩) e).trans h.f5⟩
theorem Q6.below {w w' : World} {b : Nat} {v0 v1 v2 v3 v4 v5 : Value} (h : Q6 w b v0 v1 v2 v3 v4 v5) (hb : Below w.heap.size w w') : Q6 w' b v0 v1 v2 v3 v4 v5 := h.of_block (hb.block b h.lt)
theorem Q6.new (w : World) (v0 v1 v2 v3 v4 v5 : Value) (t : TypeId) : Q6 (w.alloc (.cells #[v0, v1, v2, v3, v4, v5] t)) w.heap.size v0 v1 v2 v3 v4 v5 := ⟨by simp, by simp, by simp, by simp, by simp, by simp, by simp, by simp, by simp, by simp, by simp, by simp⟩
theorem Q6.alloc {w : World} {b : Nat} {v0 v1 v2 v3 v4 v5 : Value} (h : Q6 w b v0 v1 v2 v3 v4 v5) (o : Obj) : Q6 (w.alloc o) b v0 v1 v2 v3 v4 v5 := h.below ((Below.refl _ _).alloc (Nat.le_refl _) _)
theorem Q6.drew {w : World} {b : Nat} {v0 v1 v2 v3 v4 v5 : Value} (h : Q6 w b v0 v1 v2 v3 v4 v5) : Q6 w.drew b v0 v1 v2 v3 v4 v5 := ⟨h.c0, h.c1, h.c2, h.c3, h.c4, h.c5, h.f0, h.f1, h.f2, h.f3, h.f4, h.f5⟩
/-- What the program's variables hold. -/
structure EE (u : Value) (w : World) : Prop where
  t : Tab w
  g : EA.ErrT w
  q : ErrQ w u
def EX (w : World) : Prop := ∃ u, EE u w
theorem EE.below {u : Value} {w w' : World} (h : EE u w) (hb : Below w.heap.size w w') : EE u w' := ⟨h.t.below hb, EA.five h.g hb, (hb.cell (p := ⟨1, 0, none⟩) (World.block_lt_of_cell? w _ h.q)).trans h.q⟩
theorem EX.below {w w' : World} (h : EX w) (hb : Below w.heap.size w w') : EX w' := by obtain ⟨u, h⟩ := h; exact ⟨u, h.below hb⟩
/-- What the program's variables hold, the tables of math/bits among them. -/
structure E3 (u : Value) (w : World) : Prop where
  t : T3 w
  g : EA.ErrT w
  q : ErrQ w u
theorem E3.below {u : Value} {w w' : World} (h : E3 u w) (hb : Below w.heap.size w w') : E3 u w' := ⟨h.t.below hb, EA.five h.g hb, (hb.cell (p := ⟨1, 0, none⟩) (World.block_lt_of_cell? w _ h.q)).trans h.q⟩
def EX3 (w : World) : Prop := ∃ u, E3 u w
theorem EX3.below {w w' : World} (h : EX3 w) (hb : Below w.heap.size w w') : EX3 w' := by obtain ⟨u, h⟩ := h; exact ⟨u, h.below hb⟩
end Go.Proofs.YtbhfbaogmkgmiaaGreatDoor
