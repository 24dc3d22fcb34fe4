/-
  What is needed of FO, FC.
-/
import Derived.Test.YtmcflggionkhlaaGreatDoorK41
set_option maxHeartbeats 16000000
set_option maxRecDepth 1000000
namespace Go.Proofs.YtmcflggionkhlaaGreatDoor
set_option linter.unusedVariables false
set_option linter.unusedSimpArgs false
open Go.RowKit Go.Deep
theorem told_any (fm mode : Int) (hfm : fmtB fm = true) (neg inf G : Bool) (L : List Int) (e : Int) (p : Option Addr) (cap : Nat) (u ev : Value) (n b : Bool) (hk : EK u ev n b) (w : World) (hT : T3 w) (hg : EA.ErrT w) (hs : Sl .u32 w (.slice p L.length cap) L) (hd : Nm.Dg L) (hl : L.length ≤ 200) (rb rf : Int) (hro : n = false → inf = false → L.length ≠ 0 → RdO fm mode G L e = true ∧ rb = RdB fm mode G L e ∧ rf = RdF fm mode G L e) (B F : Int) (hB : B = tdB (nanOf fm) (infOf fm) (sgOf fm) n inf (decide (L.length = 0)) neg rb) (hF : F = tdF n b inf (decide (L.length = 0)) rf) :
    Calls Tryz.prog 88 #[.int .i64 fm, .int .i64 mode, .agg #[.bool neg, .bool inf, .bool G, .slice p L.length cap, .int .i64 e], ev] w fun r w' => r = .returned (.tuple #[.int .u64 B, .int .i64 F, .bool true]) ∧ Below w.heap.size w w' := by
  subst hB hF
  rcases fmt_cases hfm with rfl | rfl
  · exact told_32 mode neg inf G L e p cap u ev n b hk w hT hg hs hd hl rb rf hro
  · exact told_64 mode neg inf G L e p cap u ev n b hk w hT hg hs hd hl rb rf hro
theorem muli_no (fm mode x y : Int) (w : World) (hT : Tab w) (x0 : 0 ≤ x) (x1 : x < 18446744073709551616) (y0 : 0 ≤ y) (y1 : y < 18446744073709551616) (ho : (modeB mode && allB fm [x, y]) = false) :
    Calls Tryz.prog 33 #[.int .i64 fm, .int .i64 mode, .int .u64 x, .int .u64 y] w fun r w' => r = .returned (.tuple #[.int .u64 0, .int .i64 0, .bool false]) ∧ Below w.heap.size w w' := by
  have CF := hid (fun w' h h' => fok_impl fm mode (some ⟨w.heap.size, 0, none⟩) 2 [x, y] w' h h' (d64_2 x0 x1 y0 y1) (by simp))
  rw [ho] at CF
  have s2 := sl64_2 w x y 24
  have bel0 : Below w.heap.size w (w.alloc (.cells #[.int .u64 x, .int .u64 y] 24)) := (by repeat (first | exact bz0 _ _ | refine bz1 ?_ | refine bz2 ?_ _ | refine bz3 ?_ _ | refine bz5 ?_ _ | refine bz6 ?_ _))
  clear ho
  go_enter Tryz.func33, Tryz.ntmps33
  go_wp2_with fail
  refine (CF.out _ (hT.below bel0) s2).mono ?_
  rintro r w1 ⟨rfl, hb1⟩
  go_wp2
  go_ret3
  exact ⟨rfl, (by repeat (first | exact bz0 _ _ | refine bz1 ?_ | refine bz2 ?_ _ | refine bz3 ?_ _ | refine bz4 ?_ hb1 | refine bz5 ?_ _ | refine bz6 ?_ _ | refine bz7 ?_ hb1))⟩
theorem muli_core (fm mode x y : Int) (u : Value) (w : World) (hE : E3 u w) (x0 : 0 ≤ x) (x1 : x < 18446744073709551616) (y0 : 0 ≤ y) (y1 : y < 18446744073709551616) (ho : (modeB mode && allB fm [x, y]) = true) (sg inf G : Bool) (L : List Int) (E : Int) (n b : Bool) (hp : ProdAt u fm x y sg inf G L E n b) (hl : L.length ≤ 200) (hd : Nm.Dg L) (rb rf : Int) (hro : n = false → inf = false → L.length ≠ 0 → RdO fm mode G L E = true ∧ rb = RdB fm mode G L E ∧ rf = RdF fm mode G L E) (B F : Int) (hB : B = tdB (nanOf fm) (infOf fm) (sgOf fm) n inf (decide (L.length = 0)) sg rb) (hF : F = tdF n b inf (decide (L.length = 0)) rf) :
    Calls Tryz.prog 33 #[.int .i64 fm, .int .i64 mode, .int .u64 x, .int .u64 y] w fun r w' => r = .returned (.tuple #[.int .u64 B, .int .i64 F, .bool true]) ∧ Below w.heap.size w w' := by
  have CF := hid (fun w' h h' => fok_impl fm mode (some ⟨w.heap.size, 0, none⟩) 2 [x, y] w' h h' (d64_2 x0 x1 y0 y1) (by simp))
  have hfm : fmtB fm = true := by
    have h : modeB mode = true ∧ allB fm [x, y] = true := by simpa using ho
    exact ok_fmt (all2 h.2).1
  rw [ho] at CF
  have CP := hid hp
  have CT := hid (fun p c ev hk w' h1 h2 h3 => told_any fm mode hfm sg inf G L E p c u ev n b hk w' h1 h2 h3 hd hl rb rf hro B F hB hF)
  have s2 := sl64_2 w x y 24
  have bel0 : Below w.heap.size w (w.alloc (.cells #[.int .u64 x, .int .u64 y] 24)) := (by repeat (first | exact bz0 _ _ | refine bz1 ?_ | refine bz2 ?_ _ | refine bz3 ?_ _ | refine bz5 ?_ _ | refine bz6 ?_ _))
  clear ho hp hro hB hF hfm
  go_enter Tryz.func33, Tryz.ntmps33
  go_wp2_with fail
  refine (CF.out _ (hE.t.s.f.below bel0) s2).mono ?_
  rintro r w1 ⟨rfl, hb1⟩
  have bel1 := bel_go bel0 hb1
  clear s2
  go_wp2_with fail
  refine (CP.out _ (hE.below bel1).ee).mono ?_
  rintro r w2 ⟨a', c', ev, rfl, kv, ho2, hb2⟩
  have bel2 := bel_al (bel_go bel1 hb2) (.cells #[.bool sg, .bool inf, .bool G, .slice a' L.length c', .int .i64 E] 99)
  obtain ⟨x0', x1', x2', x3', x4'⟩ := (Q5.new w2 (.bool sg) (.bool inf) (.bool G) (.slice a' L.length c') (.int .i64 E) 99).cs
  have s3 := (ho2.alloc (.cells #[.bool sg, .bool inf, .bool G, .slice a' L.length c', .int .i64 E] 99)).sl
  have E2 := hE.below bel2
  go_wp2_with fail
  refine (CT.out a' c' ev kv _ E2.t E2.g s3).mono ?_
  rintro r w3 ⟨rfl, hb3⟩
  go_wp2
  go_ret3
  exact ⟨rfl, bel_go bel2 hb3⟩
theorem numAt {u : Value} {fm x : Int} (hx : okF fm x = true) (x0 : 0 ≤ x) (x1 : x < 18446744073709551616) : NumAt u fm x (nS fm x) (nI fm x) (Nm.wn (nZ fm x)) (Nm.wl (nZ fm x)) (nE fm x) (nanB fm x) (nB fm x) :=
  fun w hE => num_all fm x u w hE hx x0 x1 _ _ _ _ _ _ _ rfl rfl rfl rfl rfl rfl rfl
theorem nI_z {fm x : Int} (hx : okF fm x = true) (h : nI fm x = true) : nZ fm x = 0 := by
  have h3 : cls fm x = 3 := by simpa [nI] using h
  have hf : finB fm x = false := by unfold finB; rw [h3]; decide
  exact (odd_facts hx hf).1
theorem zlen {fm x : Int} : decide ((Nm.wl (nZ fm x)).length = 0) = decide (nZ fm x = 0) := by
  rw [Bool.eq_iff_iff, decide_eq_true_eq, decide_eq_true_eq]; unfold Nm.wl; rw [Nm.lim_length_zero]; omega
theorem sz_of {fm x : Int} (hx : okF fm x = true) (h : nanB fm x = false) : (!nI fm x && decide ((Nm.wl (nZ fm x)).length = 0)) = zF fm x := by
  rw [zlen]
  rcases nan_cases hx h with hf | hi
  · rw [zF_fin hx hf, (fin_facts hx hf).2.1]; rfl
  · rw [hi, zF_inf hx hi]; rfl
theorem muli_all (fm mode x y : Int) (u : Value) (w : World) (hE : E3 u w) (x0 : 0 ≤ x) (x1 : x < 18446744073709551616) (y0 : 0 ≤ y) (y1 : y < 18446744073709551616) (B F : Int) (O : Bool) (hB : B = muB fm mode x y) (hF : F = muF fm mode x y) (hO : O = muO fm mode x y) :
    Calls Tryz.prog 33 #[.int .i64 fm, .int .i64 mode, .int .u64 x, .int .u64 y] w fun r w' => r = .returned (.tuple #[.int .u64 B, .int .i64 F, .bool O]) ∧ Below w.heap.size w w' := by
  cases ho : muO fm mode x y
  · obtain ⟨e1, e2⟩ := mu_no ho
    rw [hB, hF, hO, e1, e2, ho]
    exact muli_no fm mode x y w hE.t.s.f x0 x1 y0 y1 ho
  obtain ⟨hm, ha⟩ : modeB mode = true ∧ allB fm [x, y] = true := by have : (modeB mode && allB fm [x, y]) = true := ho; simpa using this
  obtain ⟨hx, hy⟩ := all2 ha
  have hfm := ok_fmt hx
  have NX := numAt (u := u) hx x0 x1
  have NY := numAt (u := u) hy y0 y1
  rw [hO, ho]
  have hw0 : Nm.wl 0 = [] := Nm.lim_zero
  cases hn : (nanB fm x || nanB fm y)
  · obtain ⟨nx, ny⟩ : nanB fm x = false ∧ nanB fm y = false := by simpa using hn
    have hB' : B = mB (nanOf fm) (infOf fm) (sgOf fm) (nI fm x || nI fm y) (zF fm x || zF fm y) (sigB fm x != sigB fm y) (RdB fm mode (Nm.wn (nZ fm x * nZ fm y)) (Nm.wl (nZ fm x * nZ fm y)) (nE fm x + nE fm y)) := by
      rw [hB]; unfold muB; rw [ho, if_pos rfl, hn]; rfl
    have hF' : F = mF (nI fm x || nI fm y) (zF fm x || zF fm y) (RdF fm mode (Nm.wn (nZ fm x * nZ fm y)) (Nm.wl (nZ fm x * nZ fm y)) (nE fm x + nE fm y)) := by
      rw [hF]; unfold muF; rw [ho, if_pos rfl, hn]; rfl
    have sx : nS fm x = sigB fm x := by unfold nS; rw [nx]; rfl
    have sy : nS fm y = sigB fm y := by unfold nS; rw [ny]; rfl
    have zx := sz_of hx nx
    have zy := sz_of hy ny
    have hodd : oddB (nI fm x) (decide ((Nm.wl (nZ fm x)).length = 0)) (nI fm y) (decide ((Nm.wl (nZ fm y)).length = 0)) = ((nI fm x || nI fm y) && (zF fm x || zF fm y)) := by
      unfold oddB; rw [zx, zy]
      cases ix : nI fm x
      · cases iy : nI fm y
        · cases zF fm x <;> cases zF fm y <;> rfl
        · rw [zF_inf hy iy]; cases zF fm x <;> rfl
      · rw [zF_inf hx ix]
        cases iy : nI fm y
        · cases zF fm y <;> rfl
        · rw [zF_inf hy iy]; rfl
    cases hod : ((nI fm x || nI fm y) && (zF fm x || zF fm y))
    · rw [hod] at hodd
      cases hi : (nI fm x || nI fm y)
      · obtain ⟨ix, iy⟩ : nI fm x = false ∧ nI fm y = false := by simpa using hi
        have fx := (nan_cases hx nx).resolve_right (by rw [ix]; decide)
        have fy := (nan_cases hy ny).resolve_right (by rw [iy]; decide)
        have b1 := nZ_bd fm x
        have b2 := nZ_bd fm y
        have hl := nZm_len fm x y
        have hz : (zF fm x || zF fm y) = decide ((Nm.wl (nZ fm x * nZ fm y)).length = 0) := by
          rw [zF_fin hx fx, zF_fin hy fy, Bool.eq_iff_iff]
          simp only [Bool.or_eq_true, decide_eq_true_eq]
          unfold Nm.wl; rw [Nm.lim_length_zero, Int.natAbs_eq_zero, Int.mul_eq_zero]
        rw [ix] at NX
        rw [iy] at NY
        have hP := prod_num fm x y u _ _ _ _ _ _ _ _ _ _ _ _ _ _ NX NY hn (nS fm x != nS fm y) false (Nm.wn (nZ fm x * nZ fm y)) (Nm.wl (nZ fm x * nZ fm y)) (nE fm x + nE fm y) false false
          (fun Q a1 c1 a2 c2 w hQ h1 h2 => (times_fin (nS fm x) (Nm.wn (nZ fm x)) (Nm.wl (nZ fm x)) (nE fm x) a1 c1 (nS fm y) (Nm.wn (nZ fm y)) (Nm.wl (nZ fm y)) (nE fm y) a2 c2 w (nS fm x != nS fm y) (Nm.wn (nZ fm x * nZ fm y)) (Nm.wl (nZ fm x * nZ fm y)) (nE fm x + nE fm y) rfl rfl (by omega) (by omega) (nZ_len fm x) (nZ_len fm y) h1.sl h2.sl
            (fun w' h1' h2' => mul_ok a1 a2 c1 c2 w' h1' h2' (Nm.wl_dg _) (Nm.wl_dg _) (okB_wl (nZ_len fm x)) (okB_wl (nZ_len fm y)) (nZ fm x * nZ fm y) (by rw [Nm.wv_out, Nm.wv_out]) (by unfold Nm.fits; exact decide_eq_true hl))).mono fun r w' ⟨a, c, hr, ho, hb⟩ => ⟨a, c, _, hr, EK.no, ho.base hQ, hb⟩)
        refine muli_core fm mode x y u w hE x0 x1 y0 y1 ho _ _ _ _ _ _ _ hP hl (Nm.wl_dg _) _ _ (fun _ _ _ => ⟨rdo_any hfm hm hl (by omega) (by omega), rfl, rfl⟩) B F ?_ ?_
        · rw [hB', hi, hz, sx, sy]; unfold mB tdB; simp
        · rw [hF', hi, hz]; unfold mF tdF; simp
      · have hP := prod_num fm x y u _ _ _ _ _ _ _ _ _ _ _ _ _ _ NX NY hn (nS fm x != nS fm y) true false [] 0 false false
          (fun Q a1 c1 a2 c2 w hQ h1 h2 => (times_inf (nS fm x) (nI fm x) (Nm.wn (nZ fm x)) (Nm.wl (nZ fm x)) (nE fm x) a1 c1 (nS fm y) (nI fm y) (Nm.wn (nZ fm y)) (Nm.wl (nZ fm y)) (nE fm y) a2 c2 w (nZ_len fm x) (nZ_len fm y) hodd hi _ rfl).mono fun r w' ⟨hr, hb⟩ => ⟨none, 0, _, hr, EK.no, Own.nil _ _, hb⟩)
        have hzz : (zF fm x || zF fm y) = false := by rw [hi] at hod; simpa using hod
        refine muli_core fm mode x y u w hE x0 x1 y0 y1 ho _ _ _ _ _ _ _ hP (by simp) Nm.Dg.nil 0 0 (fun _ h => by cases h) B F ?_ ?_
        · rw [hB', hi, hzz, sx, sy]; unfold mB tdB; simp
        · rw [hF', hi, hzz]; unfold mF tdF; simp
    · rw [hod] at hodd
      obtain ⟨hi, hzz⟩ : (nI fm x || nI fm y) = true ∧ (zF fm x || zF fm y) = true := by rw [Bool.and_eq_true] at hod; exact hod
      have hP := prod_num fm x y u _ _ _ _ _ _ _ _ _ _ _ _ _ _ NX NY hn false false false [] 0 true true
          (fun Q a1 c1 a2 c2 w hQ h1 h2 => (times_odd (nS fm x) (nI fm x) (Nm.wn (nZ fm x)) (Nm.wl (nZ fm x)) (nE fm x) a1 c1 (nS fm y) (nI fm y) (Nm.wn (nZ fm y)) (Nm.wl (nZ fm y)) (nE fm y) a2 c2 w (nZ_len fm x) (nZ_len fm y) hodd).mono fun r w' ⟨s, hr, hb⟩ => ⟨none, 0, _, hr, EK.bad s, Own.nil _ _, hb⟩)
      refine muli_core fm mode x y u w hE x0 x1 y0 y1 ho _ _ _ _ _ _ _ hP (by simp) Nm.Dg.nil 0 0 (fun h => by cases h) B F ?_ ?_
      · rw [hB', hi, hzz]; rfl
      · rw [hF', hi, hzz]; rfl
  · have hB' : B = nanOf fm := by rw [hB]; unfold muB; rw [ho, if_pos rfl, hn]; rfl
    have hF' : F = fl8 (nB fm x || nB fm y) := by rw [hF]; unfold muF; rw [ho, if_pos rfl, hn]; rfl
    have hP := prod_nan fm x y u _ _ _ _ _ _ _ _ _ _ _ _ _ _ NX NY hn _ rfl
    refine muli_core fm mode x y u w hE x0 x1 y0 y1 ho _ _ _ _ _ _ _ hP (by simp) Nm.Dg.nil 0 0 (fun h => by cases h) B F ?_ ?_
    · rw [hB']; rfl
    · rw [hF']; unfold tdF; cases (nB fm x || nB fm y) <;> rfl
theorem abs_sig {fm x : Int} (hx : okF fm x = true) (x0 : 0 ≤ x) (x1 : x < 18446744073709551616) : x = sgn (sgOf fm) (absF fm x) (sigB fm x) := by
  rcases okF_cases hx with ⟨rfl, hx'⟩ | rfl
  · have e := abs32 hx'
    unfold sgn sigB sgOf
    rw [e, if_pos (show ((32 : Int) = 32) from rfl)]
    by_cases h : x = x % 2147483648
    · rw [if_neg (by simpa using h)]; exact h
    · rw [if_pos (by simpa using h)]; omega
  · have e := abs64 (x := x)
    unfold sgn sigB sgOf
    rw [e, if_neg (show ¬ ((64 : Int) = 32) by decide)]
    by_cases h : x = x % 9223372036854775808
    · rw [if_neg (by simpa using h)]; exact h
    · rw [if_pos (by simpa using h)]; omega
theorem all1 {fm x : Int} : allB fm [x] = okF fm x := by unfold allB; simp
theorem all1_fmt {fm mode x : Int} : (allB fm [x] && fmtB fm && modeB mode) = (modeB mode && okF fm x) := by
  rw [all1]
  cases h : okF fm x
  · simp
  · rw [ok_fmt h]; simp
/-- A scaled float. -/
def scO (fm mode x n : Int) : Bool := modeB mode && okF fm x && inB n (-5000) 5000
def scB (fm mode x n : Int) : Int := if scO fm mode x n then (if nanB fm x then nanOf fm else if nI fm x || zF fm x then x else RdB fm mode (Nm.wn (nZ fm x)) (Nm.wl (nZ fm x)) (nE fm x + n)) else 0
def scF (fm mode x n : Int) : Int := if scO fm mode x n then (if nanB fm x then fl8 (nB fm x) else if nI fm x || zF fm x then 0 else RdF fm mode (Nm.wn (nZ fm x)) (Nm.wl (nZ fm x)) (nE fm x + n)) else 0
theorem sc_no {fm mode x n : Int} (h : scO fm mode x n = false) : scB fm mode x n = 0 ∧ scF fm mode x n = 0 := by unfold scB scF; rw [h]; exact ⟨rfl, rfl⟩
theorem sc_spec (fm mode x n : Int) (w : World) (x0 : 0 ≤ x) (x1 : x < 18446744073709551616) (B F : Int) (O : Bool) (hB : B = scB fm mode x n) (hF : F = scF fm mode x n) (hO : O = scO fm mode x n) :
    Calls Tryz.prog 153 #[.int .i64 fm, .int .i64 mode, .int .u64 x, .int .i64 n] w fun r w' => r = .returned (.tuple #[.int .u64 B, .int .i64 F, .bool O]) ∧ Below w.heap.size w w' := by
  have dx := d64_1 x0 x1
  have CF := hid (fun w' h => l4form fm mode (some ⟨w.heap.size, 0, none⟩) 1 [x] w' h (by simp))
  rw [all1_fmt] at CF
  have CI := hid (fun w' => in_spec n (-5000) 5000 w')
  have s2 := sl64_1 w x 24
  cases ho1 : (modeB mode && okF fm x)
  · have ho : scO fm mode x n = false := by unfold scO; rw [ho1]; rfl
    obtain ⟨e1, e2⟩ := sc_no ho
    rw [e1] at hB; rw [e2] at hF; rw [ho] at hO
    subst hB hF hO
    rw [ho1] at CF
    clear ho ho1 e1 e2 dx
    go_enter Tryz.func153, Tryz.ntmps153
    go_wp2_with fail
    refine (CF.out _ s2).mono ?_
    rintro r w1 ⟨rfl, hb1⟩
    go_wp2
    go_ret3
    exact ⟨rfl, (by repeat (first | exact bz0 _ _ | refine bz1 ?_ | refine bz2 ?_ _ | refine bz3 ?_ _ | refine bz4 ?_ hb1 | refine bz5 ?_ _ | refine bz6 ?_ _ | refine bz7 ?_ hb1))⟩
  rw [ho1] at CF
  cases hin : inB n (-5000) 5000
  · have ho : scO fm mode x n = false := by unfold scO; rw [ho1, hin]; rfl
    obtain ⟨e1, e2⟩ := sc_no ho
    rw [e1] at hB; rw [e2] at hF; rw [ho] at hO
    subst hB hF hO
    rw [hin] at CI
    clear ho ho1 e1 e2 dx hin
    go_enter Tryz.func153, Tryz.ntmps153
    go_wp2_with fail
    refine (CF.out _ s2).mono ?_
    rintro r w1 ⟨rfl, hb1⟩
    go_wp2_with fail
    refine (CI.out _).mono ?_
    rintro r w2 ⟨rfl, rfl⟩
    go_wp2
    go_ret3
    exact ⟨rfl, (by repeat (first | exact bz0 _ _ | refine bz1 ?_ | refine bz2 ?_ _ | refine bz3 ?_ _ | refine bz4 ?_ hb1 | refine bz5 ?_ _ | refine bz6 ?_ _ | refine bz7 ?_ hb1))⟩
  rw [hin] at CI
  have ho : scO fm mode x n = true := by unfold scO; rw [ho1, hin]; rfl
  obtain ⟨hm, hx⟩ : modeB mode = true ∧ okF fm x = true := by simpa using ho1
  have hn0 : -5000 ≤ n ∧ n ≤ 5000 := by unfold inB at hin; simpa using hin
  have hfm := ok_fmt hx
  have CN := hid (fun a w' h => l4nan fm a 1 [x] w' h dx (by simp) hfm (by rw [all1]; exact hx))
  have e1 : [x].any (nanB fm) = nanB fm x := by simp
  have e2 : [x].any (nB fm) = nB fm x := by simp
  rw [e1, e2] at CN
  rw [ho] at hO
  subst hO
  unfold scB at hB
  unfold scF at hF
  rw [ho, if_pos rfl] at hB hF
  cases hn : nanB fm x
  · rw [hn, if_neg (by decide)] at hB hF
    rw [hn] at CN
    have C1 := hid (fun w' => inf4 fm x w' hx x0 x1 _ rfl)
    have C2 := hid (fun w' => zer4 fm x w' hx x0 x1 (zF fm x) rfl)
    obtain ⟨q1, hq1⟩ : ∃ i, i = nanOf fm := ⟨_, rfl⟩
    obtain ⟨q2, hq2⟩ : ∃ i : Int, i = fl8 (nB fm x) := ⟨_, rfl⟩
    rw [← hq1, ← hq2] at CN
    cases hi : nI fm x
    · rw [hi] at C1 hB hF
      cases hz : zF fm x
      · rw [hz] at C2 hB hF
        have hB' : B = RdB fm mode (Nm.wn (nZ fm x)) (Nm.wl (nZ fm x)) (nE fm x + n) := hB
        have hF' : F = RdF fm mode (Nm.wn (nZ fm x)) (Nm.wl (nZ fm x)) (nE fm x + n) := hF
        have hf := (nan_cases hx hn).resolve_right (by rw [hi]; decide)
        obtain ⟨fx1, fx2, fx3, fx4, -, -⟩ := fin_facts hx hf
        have bx := pM_bd fm x
        have ex := pE_bd fm x
        have hnz : nZ fm x ≠ 0 := by rw [zF_fin hx hf] at hz; exact of_decide_eq_false hz
        have CP := hid (fun w' => sparts_any fm x w' hf x0 x1)
        have U1 := hid (fun w' => l1uint_z (pM fm x) (pS fm x) w' bx.1 (by omega))
        rw [← fx3] at U1
        have CR := hid (fun p c w' h => l3r_any fm mode (nZ fm x) (nE fm x + n) p c w' h hnz (rdo_any hfm hm (nZ_len fm x) (by rw [fx4]; omega) (by rw [fx4]; omega)))
        simp only [← hB', ← hF'] at CR
        rw [fx4] at CR
        obtain ⟨sg, hsg⟩ : ∃ s, s = pS fm x := ⟨_, rfl⟩
        obtain ⟨m, hm'⟩ : ∃ s, s = pM fm x := ⟨_, rfl⟩
        obtain ⟨e, he⟩ : ∃ s, s = pE fm x := ⟨_, rfl⟩
        obtain ⟨G, hG⟩ : ∃ s, s = Nm.wn (nZ fm x) := ⟨_, rfl⟩
        obtain ⟨L, hL⟩ : ∃ s, s = Nm.wl (nZ fm x) := ⟨_, rfl⟩
        rw [← hsg, ← hm', ← he] at CP
        rw [← hsg, ← hm', ← hG, ← hL] at U1
        simp only [← hG, ← hL, ← he] at CR
        rw [← hm'] at bx
        rw [← he] at ex
        have hwE : IntKind.i64.wrap (e + n) = e + n := by rw [IntKind.wrap_i64]; omega
        have hw1 : IntKind.u64.wrap m = m := by rw [IntKind.wrap_u64]; omega
        clear hsg hm' he hG hL hB hF hB' hF' hn ho ho1 dx e1 e2 hm hx hfm hin hq1 hq2 hf fx1 fx2 fx3 fx4 hi hz hnz
        go_enter Tryz.func153, Tryz.ntmps153
        go_wp2_with fail
        refine (CF.out _ s2).mono ?_
        rintro r w1 ⟨rfl, hb1⟩
        go_wp2_with fail
        refine (CI.out _).mono ?_
        rintro r w2 ⟨rfl, rfl⟩
        go_wp2_with fail
        refine (CN.out _ _ (sl64_1 w2 x 24)).mono ?_
        rintro r w3 ⟨rfl, hb3⟩
        go_wp2_with fail
        refine (C1.out _).mono ?_
        rintro r w4 ⟨rfl, hb4⟩
        go_wp2_with fail
        refine (C2.out _).mono ?_
        rintro r w5 ⟨rfl, hb5⟩
        go_wp2_with fail
        refine (CP.out _).mono ?_
        rintro r w6 ⟨rfl, hb6⟩
        have P := R3.new w6 (.bool sg) (.int .i64 m) (.int .i64 e) 77
        have bel6 : Below w.heap.size w w6 := (by repeat (first | exact bz0 _ _ | refine bz1 ?_ | refine bz2 ?_ _ | refine bz3 ?_ _ | refine bz4 ?_ hb6 | refine bz4 ?_ hb5 | refine bz4 ?_ hb4 | refine bz4 ?_ hb3 | refine bz4 ?_ hb1 | refine bz5 ?_ _ | refine bz6 ?_ _ | refine bz7 ?_ hb6 | refine bz7 ?_ hb5 | refine bz7 ?_ hb4 | refine bz7 ?_ hb3 | refine bz7 ?_ hb1))
        have Pd := P.dr
        have pd := And.intro Pd.c0 (And.intro Pd.c1 Pd.c2)
        clear hb6 hb5 hb4 hb3 hb1 s2
        go_wp2_with fail
        go_region_held3 (fun w' => w'.cell? ⟨w6.heap.size, 0, none⟩ = some (.bool sg) ∧ w'.cell? ⟨w6.heap.size, 1, none⟩ = some (.int .i64 m) ∧ w'.cell? ⟨w6.heap.size, 2, none⟩ = some (.int .i64 e))
          (first | with_reducible assumption | with_reducible exact pd | fail)
          (first
            | (go_at_call 114; refine (U1.out _).mono ?_; rintro r q1' ⟨a1, k1, rfl, hp1, hq1⟩; have P1 := Pd.below hq1; have u1 := And.intro P1.c0 (And.intro P1.c1 P1.c2))
            | (go_at_call 103; refine (CR.out a1 k1 _ hp1.sl).mono ?_; rintro r q2' ⟨rfl, hq2⟩; have P2 := P1.below hq2; have u2 := And.intro P2.c0 (And.intro P2.c1 P2.c2)))
        go_wp2
        go_ret3
        exact ⟨rfl, (by repeat (first | exact bz0 _ _ | refine bz1 ?_ | refine bz2 ?_ _ | refine bz3 ?_ _ | refine bz4 ?_ hq2 | refine bz4 ?_ hq1 | refine bz4 ?_ bel6 | refine bz5 ?_ _ | refine bz6 ?_ _ | refine bz7 ?_ hq2 | refine bz7 ?_ hq1 | refine bz7 ?_ bel6))⟩
      · rw [hz] at C2 hB hF
        have hB' : B = x := hB
        have hF' : F = 0 := hF
        subst hB' hF'
        clear hB hF hn ho ho1 dx e1 e2 hm hx hfm hin hq1 hq2 hi hz
        go_enter Tryz.func153, Tryz.ntmps153
        go_wp2_with fail
        refine (CF.out _ s2).mono ?_
        rintro r w1 ⟨rfl, hb1⟩
        go_wp2_with fail
        refine (CI.out _).mono ?_
        rintro r w2 ⟨rfl, rfl⟩
        go_wp2_with fail
        refine (CN.out _ _ (sl64_1 w2 B 24)).mono ?_
        rintro r w3 ⟨rfl, hb3⟩
        go_wp2_with fail
        refine (C1.out _).mono ?_
        rintro r w4 ⟨rfl, hb4⟩
        go_wp2_with fail
        refine (C2.out _).mono ?_
        rintro r w5 ⟨rfl, hb5⟩
        go_wp2
        go_ret3
        exact ⟨rfl, (by repeat (first | exact bz0 _ _ | refine bz1 ?_ | refine bz2 ?_ _ | refine bz3 ?_ _ | refine bz4 ?_ hb5 | refine bz4 ?_ hb4 | refine bz4 ?_ hb3 | refine bz4 ?_ hb1 | refine bz5 ?_ _ | refine bz6 ?_ _ | refine bz7 ?_ hb5 | refine bz7 ?_ hb4 | refine bz7 ?_ hb3 | refine bz7 ?_ hb1))⟩
    · rw [hi] at C1 hB hF
      have hB' : B = x := hB
      have hF' : F = 0 := hF
      subst hB' hF'
      clear hB hF hn ho ho1 dx e1 e2 hm hx hfm hin hq1 hq2 hi C2
      go_enter Tryz.func153, Tryz.ntmps153
      go_wp2_with fail
      refine (CF.out _ s2).mono ?_
      rintro r w1 ⟨rfl, hb1⟩
      go_wp2_with fail
      refine (CI.out _).mono ?_
      rintro r w2 ⟨rfl, rfl⟩
      go_wp2_with fail
      refine (CN.out _ _ (sl64_1 w2 B 24)).mono ?_
      rintro r w3 ⟨rfl, hb3⟩
      go_wp2_with fail
      refine (C1.out _).mono ?_
      rintro r w4 ⟨rfl, hb4⟩
      go_wp2
      go_ret3
      exact ⟨rfl, (by repeat (first | exact bz0 _ _ | refine bz1 ?_ | refine bz2 ?_ _ | refine bz3 ?_ _ | refine bz4 ?_ hb4 | refine bz4 ?_ hb3 | refine bz4 ?_ hb1 | refine bz5 ?_ _ | refine bz6 ?_ _ | refine bz7 ?_ hb4 | refine bz7 ?_ hb3 | refine bz7 ?_ hb1))⟩
  · rw [hn, if_pos rfl] at hB hF
    rw [hn] at CN
    rw [← hB, ← hF] at CN
    clear hB hF hn ho ho1 dx e1 e2 hm hx hfm hin
    go_enter Tryz.func153, Tryz.ntmps153
    go_wp2_with fail
    refine (CF.out _ s2).mono ?_
    rintro r w1 ⟨rfl, hb1⟩
    go_wp2_with fail
    refine (CI.out _).mono ?_
    rintro r w2 ⟨rfl, rfl⟩
    go_wp2_with fail
    refine (CN.out _ _ (sl64_1 w2 x 24)).mono ?_
    rintro r w3 ⟨rfl, hb3⟩
    go_wp2
    go_ret3
    exact ⟨rfl, (by repeat (first | exact bz0 _ _ | refine bz1 ?_ | refine bz2 ?_ _ | refine bz3 ?_ _ | refine bz4 ?_ hb3 | refine bz4 ?_ hb1 | refine bz5 ?_ _ | refine bz6 ?_ _ | refine bz7 ?_ hb3 | refine bz7 ?_ hb1))⟩
end Go.Proofs.YtmcflggionkhlaaGreatDoor
