/-
  What is needed of FloatG, RG, FM, FP, FO, FA.
-/
import Derived.Test.YtmcflggionkhlaaGreatDoorF40
import Derived.Test.YtmcflggionkhlaaGreatDoorF46
set_option maxHeartbeats 16000000
set_option maxRecDepth 1000000
namespace Go.Proofs.YtmcflggionkhlaaGreatDoor
set_option linter.unusedVariables false
set_option linter.unusedSimpArgs false
open Go.RowKit
theorem neg_no {fm x : Int} (h : okF fm x = false) : negF fm x = 0 := by unfold negF; rw [h]; rfl
end Go.Proofs.YtmcflggionkhlaaGreatDoor
namespace Go.Proofs.YtmcflggionkhlaaGreatDoor
set_option linter.unusedVariables false
set_option linter.unusedSimpArgs false
open Go.RowKit Go.Deep
theorem exact_impl (fm : Int) (ng : Bool) (zs : List Int) (e : Int) (p : Option Addr) (c : Nat) (w : World) (hT : T3 w) (hs : Sl .u32 w (.slice p zs.length c) zs) (hz : Nm.Dg zs) (hl : zs.length ≤ 1048576) :
    Calls Tryz.prog 28 #[.int .i64 fm, .agg #[.bool ng, .slice p zs.length c], .int .i64 e] w fun x w' => x = .returned (.tuple #[.int .u64 (EfB fm ng zs e), .bool (EfO fm ng zs e)]) ∧ Below w.heap.size w w' := by
  obtain ⟨b, hb⟩ : ∃ b, b = RdB fm 1 ng zs e := ⟨_, rfl⟩
  obtain ⟨f, hf⟩ : ∃ f, f = RdF fm 1 ng zs e := ⟨_, rfl⟩
  obtain ⟨o, ho⟩ : ∃ o, o = RdO fm 1 ng zs e := ⟨_, rfl⟩
  have C := hid (rounded_impl fm 1 ng zs e p c (w.alloc (.cells #[.bool ng, .slice p zs.length c] 31)) (hT.al _) (hs.alloc _) hz hl)
  rw [← hb, ← hf, ← ho] at C
  have HO : Hid (EfO fm ng zs e = (o && decide (f = 0))) := hid (by unfold EfO; rw [← ho, ← hf])
  have HB : Hid (EfB fm ng zs e = if (o && decide (f = 0)) then b else 0) := hid (by unfold EfB; rw [HO.out, ← hb])
  clear hb hf ho
  cases o with
  | false =>
    go_enter Tryz.func28, Tryz.ntmps28
    go_wp2_with fail
    refine C.out.mono ?_
    rintro x w1 ⟨rfl, hb1⟩
    go_wp2
    go_ret2
    exact ⟨ret_ub (by rw [HB.out]; rfl) (by rw [HO.out]; rfl), (by repeat (first | exact bz0 _ _ | refine bz1 ?_ | refine bz2 ?_ _ | refine bz3 ?_ _ | refine bz4 ?_ hb1 | refine bz5 ?_ _ | refine bz6 ?_ _ | refine bz7 ?_ hb1))⟩
  | true =>
    by_cases h0 : f = 0
    · subst h0
      go_enter Tryz.func28, Tryz.ntmps28
      go_wp2_with fail
      refine C.out.mono ?_
      rintro x w1 ⟨rfl, hb1⟩
      go_wp2
      go_ret2
      exact ⟨ret_ub (by rw [HB.out]; rfl) (by rw [HO.out]; rfl), (by repeat (first | exact bz0 _ _ | refine bz1 ?_ | refine bz2 ?_ _ | refine bz3 ?_ _ | refine bz4 ?_ hb1 | refine bz5 ?_ _ | refine bz6 ?_ _ | refine bz7 ?_ hb1))⟩
    · have hne : (f != 0) = true := by rw [bne_iff_ne]; exact h0
      have HD : Hid (decide (f = 0) = false) := hid (decide_eq_false h0)
      clear h0
      go_enter Tryz.func28, Tryz.ntmps28
      go_wp2_with fail
      refine C.out.mono ?_
      rintro x w1 ⟨rfl, hb1⟩
      go_wp2
      go_ret2
      exact ⟨ret_ub (by rw [HB.out, HD.out]; rfl) (by rw [HO.out, HD.out]; rfl), (by repeat (first | exact bz0 _ _ | refine bz1 ?_ | refine bz2 ?_ _ | refine bz3 ?_ _ | refine bz4 ?_ hb1 | refine bz5 ?_ _ | refine bz6 ?_ _ | refine bz7 ?_ hb1))⟩
theorem sl64_3 (w : World) (x y z : Int) (t : TypeId) : Sl .u64 (w.alloc (.cells #[.int .u64 x, .int .u64 y, .int .u64 z] t)) (.slice (some ⟨w.heap.size, 0, none⟩) [x, y, z].length 3) [x, y, z] :=
  ⟨_, 3, rfl, Nat.le_refl _, by unfold maxLen; simp, .inr ⟨w.heap.size, 0, rfl, fun i hi => by
    have h2 : i < 3 := by simpa using hi
    match i, h2 with
    | 0, _ => simp
    | 1, _ => simp
    | 2, _ => simp⟩⟩
namespace Fd
theorem iNegated (fm x : Int) (w : World) (hT : Tab w) (x0 : 0 ≤ x) (x1 : x < 18446744073709551616) :
    Calls Tryz.prog 32 #[.int .i64 fm, .int .u64 x] w fun e w' => e = .returned (.int .u64 (negF fm x)) ∧ Below w.heap.size w w' := by
  cases ho : okF fm x
  · have C := hid (fun w' h => impl_ok fm x w' h x0 x1)
    have HR := hid (neg_no ho)
    rw [ho] at C
    clear ho
    go_enter Tryz.func32, Tryz.ntmps32
    go_wp2_with fail
    refine (C.out _ hT).mono ?_
    rintro e w1 ⟨rfl, hb1⟩
    go_wp2
    go_ret
    exact ⟨ret_int HR.out.symm, (by repeat (first | exact bz0 _ _ | refine bz1 ?_ | refine bz2 ?_ _ | refine bz3 ?_ _ | refine bz4 ?_ hb1 | refine bz5 ?_ _ | refine bz6 ?_ _ | refine bz7 ?_ hb1))⟩
  · rcases okF_cases ho with ⟨rfl, h⟩ | rfl
    · rw [neg32 h]; exact impl_neg32 x w hT x0 h
    · rw [neg64]; exact impl_neg64 x w hT x0 x1
end Fd
theorem muli_no (fm mode x y : Int) (w : World) (hT : Tab w) (x0 : 0 ≤ x) (x1 : x < 18446744073709551616) (y0 : 0 ≤ y) (y1 : y < 18446744073709551616) (ho : (modeB mode && allB fm [x, y]) = false) :
    Calls Tryz.prog 33 #[.int .i64 fm, .int .i64 mode, .int .u64 x, .int .u64 y] w fun r w' => r = .returned (.tuple #[.int .u64 0, .int .i64 0, .bool false]) ∧ Below w.heap.size w w' := by
  have CF := hid (fun w' h h' => fok_impl fm mode (some ⟨w.heap.size, 0, none⟩) 2 [x, y] w' h h' (d64_2 x0 x1 y0 y1) (by simp))
  rw [ho] at CF
  have s2 := sl64_2 w x y 24
  have bel0 : Below w.heap.size w (w.alloc (.cells #[.int .u64 x, .int .u64 y] 24)) := (by repeat (first | exact bz0 _ _ | refine bz1 ?_ | refine bz2 ?_ _ | refine bz3 ?_ _ | refine bz5 ?_ _ | refine bz6 ?_ _))
  clear ho
  go_enter Tryz.func33, Tryz.ntmps33
  go_wp2_with fail
  refine (CF.out _ (hT.below bel0) s2).mono ?_
  rintro r w1 ⟨rfl, hb1⟩
  go_wp2
  go_ret3
  exact ⟨rfl, (by repeat (first | exact bz0 _ _ | refine bz1 ?_ | refine bz2 ?_ _ | refine bz3 ?_ _ | refine bz4 ?_ hb1 | refine bz5 ?_ _ | refine bz6 ?_ _ | refine bz7 ?_ hb1))⟩
theorem muli_core (fm mode x y : Int) (u : Value) (w : World) (hE : E3 u w) (x0 : 0 ≤ x) (x1 : x < 18446744073709551616) (y0 : 0 ≤ y) (y1 : y < 18446744073709551616) (ho : (modeB mode && allB fm [x, y]) = true) (sg inf G : Bool) (L : List Int) (E : Int) (n b : Bool) (hp : ProdAt u fm x y sg inf G L E n b) (hl : L.length ≤ 200) (hd : Nm.Dg L) (rb rf : Int) (hro : n = false → inf = false → L.length ≠ 0 → RdO fm mode G L E = true ∧ rb = RdB fm mode G L E ∧ rf = RdF fm mode G L E) (B F : Int) (hB : B = tdB (nanOf fm) (infOf fm) (sgOf fm) n inf (decide (L.length = 0)) sg rb) (hF : F = tdF n b inf (decide (L.length = 0)) rf) :
    Calls Tryz.prog 33 #[.int .i64 fm, .int .i64 mode, .int .u64 x, .int .u64 y] w fun r w' => r = .returned (.tuple #[.int .u64 B, .int .i64 F, .bool true]) ∧ Below w.heap.size w w' := by
  have CF := hid (fun w' h h' => fok_impl fm mode (some ⟨w.heap.size, 0, none⟩) 2 [x, y] w' h h' (d64_2 x0 x1 y0 y1) (by simp))
  have hfm : fmtB fm = true := by
    have h : modeB mode = true ∧ allB fm [x, y] = true := by simpa using ho
    exact ok_fmt (all2 h.2).1
  rw [ho] at CF
  have CP := hid hp
  have CT := hid (fun p c ev hk w' h1 h2 h3 => told_any fm mode hfm sg inf G L E p c u ev n b hk w' h1 h2 h3 hd hl rb rf hro B F hB hF)
  have s2 := sl64_2 w x y 24
  have bel0 : Below w.heap.size w (w.alloc (.cells #[.int .u64 x, .int .u64 y] 24)) := (by repeat (first | exact bz0 _ _ | refine bz1 ?_ | refine bz2 ?_ _ | refine bz3 ?_ _ | refine bz5 ?_ _ | refine bz6 ?_ _))
  clear ho hp hro hB hF hfm
  go_enter Tryz.func33, Tryz.ntmps33
  go_wp2_with fail
  refine (CF.out _ (hE.t.s.f.below bel0) s2).mono ?_
  rintro r w1 ⟨rfl, hb1⟩
  have bel1 := bel_go bel0 hb1
  clear s2
  go_wp2_with fail
  refine (CP.out _ (hE.below bel1).ee).mono ?_
  rintro r w2 ⟨a', c', ev, rfl, kv, ho2, hb2⟩
  have bel2 := bel_al (bel_go bel1 hb2) (.cells #[.bool sg, .bool inf, .bool G, .slice a' L.length c', .int .i64 E] 99)
  obtain ⟨x0', x1', x2', x3', x4'⟩ := (Q5.new w2 (.bool sg) (.bool inf) (.bool G) (.slice a' L.length c') (.int .i64 E) 99).cs
  have s3 := (ho2.alloc (.cells #[.bool sg, .bool inf, .bool G, .slice a' L.length c', .int .i64 E] 99)).sl
  have E2 := hE.below bel2
  go_wp2_with fail
  refine (CT.out a' c' ev kv _ E2.t E2.g s3).mono ?_
  rintro r w3 ⟨rfl, hb3⟩
  go_wp2
  go_ret3
  exact ⟨rfl, bel_go bel2 hb3⟩
theorem muli_all (fm mode x y : Int) (u : Value) (w : World) (hE : E3 u w) (x0 : 0 ≤ x) (x1 : x < 18446744073709551616) (y0 : 0 ≤ y) (y1 : y < 18446744073709551616) (B F : Int) (O : Bool) (hB : B = muB fm mode x y) (hF : F = muF fm mode x y) (hO : O = muO fm mode x y) :
    Calls Tryz.prog 33 #[.int .i64 fm, .int .i64 mode, .int .u64 x, .int .u64 y] w fun r w' => r = .returned (.tuple #[.int .u64 B, .int .i64 F, .bool O]) ∧ Below w.heap.size w w' := by
  cases ho : muO fm mode x y
  · obtain ⟨e1, e2⟩ := mu_no ho
    rw [hB, hF, hO, e1, e2, ho]
    exact muli_no fm mode x y w hE.t.s.f x0 x1 y0 y1 ho
  obtain ⟨hm, ha⟩ : modeB mode = true ∧ allB fm [x, y] = true := by have : (modeB mode && allB fm [x, y]) = true := ho; simpa using this
  obtain ⟨hx, hy⟩ := all2 ha
  have hfm := ok_fmt hx
  have NX := numAt (u := u) hx x0 x1
  have NY := numAt (u := u) hy y0 y1
  rw [hO, ho]
  have hw0 : Nm.wl 0 = [] := Nm.lim_zero
  cases hn : (nanB fm x || nanB fm y)
  · obtain ⟨nx, ny⟩ : nanB fm x = false ∧ nanB fm y = false := by simpa using hn
    have hB' : B = mB (nanOf fm) (infOf fm) (sgOf fm) (nI fm x || nI fm y) (zF fm x || zF fm y) (sigB fm x != sigB fm y) (RdB fm mode (Nm.wn (nZ fm x * nZ fm y)) (Nm.wl (nZ fm x * nZ fm y)) (nE fm x + nE fm y)) := by
      rw [hB]; unfold muB; rw [ho, if_pos rfl, hn]; rfl
    have hF' : F = mF (nI fm x || nI fm y) (zF fm x || zF fm y) (RdF fm mode (Nm.wn (nZ fm x * nZ fm y)) (Nm.wl (nZ fm x * nZ fm y)) (nE fm x + nE fm y)) := by
      rw [hF]; unfold muF; rw [ho, if_pos rfl, hn]; rfl
    have sx : nS fm x = sigB fm x := by unfold nS; rw [nx]; rfl
    have sy : nS fm y = sigB fm y := by unfold nS; rw [ny]; rfl
    have zx := sz_of hx nx
    have zy := sz_of hy ny
    have hodd : oddB (nI fm x) (decide ((Nm.wl (nZ fm x)).length = 0)) (nI fm y) (decide ((Nm.wl (nZ fm y)).length = 0)) = ((nI fm x || nI fm y) && (zF fm x || zF fm y)) := by
      unfold oddB; rw [zx, zy]
      cases ix : nI fm x
      · cases iy : nI fm y
        · cases zF fm x <;> cases zF fm y <;> rfl
        · rw [zF_inf hy iy]; cases zF fm x <;> rfl
      · rw [zF_inf hx ix]
        cases iy : nI fm y
        · cases zF fm y <;> rfl
        · rw [zF_inf hy iy]; rfl
    cases hod : ((nI fm x || nI fm y) && (zF fm x || zF fm y))
    · rw [hod] at hodd
      cases hi : (nI fm x || nI fm y)
      · obtain ⟨ix, iy⟩ : nI fm x = false ∧ nI fm y = false := by simpa using hi
        have fx := (nan_cases hx nx).resolve_right (by rw [ix]; decide)
        have fy := (nan_cases hy ny).resolve_right (by rw [iy]; decide)
        have b1 := nZ_bd fm x
        have b2 := nZ_bd fm y
        have hl := nZm_len fm x y
        have hz : (zF fm x || zF fm y) = decide ((Nm.wl (nZ fm x * nZ fm y)).length = 0) := by
          rw [zF_fin hx fx, zF_fin hy fy, Bool.eq_iff_iff]
          simp only [Bool.or_eq_true, decide_eq_true_eq]
          unfold Nm.wl; rw [Nm.lim_length_zero, Int.natAbs_eq_zero, Int.mul_eq_zero]
        rw [ix] at NX
        rw [iy] at NY
        have hP := prod_num fm x y u _ _ _ _ _ _ _ _ _ _ _ _ _ _ NX NY hn (nS fm x != nS fm y) false (Nm.wn (nZ fm x * nZ fm y)) (Nm.wl (nZ fm x * nZ fm y)) (nE fm x + nE fm y) false false
          (fun Q a1 c1 a2 c2 w hQ h1 h2 => (times_fin (nS fm x) (Nm.wn (nZ fm x)) (Nm.wl (nZ fm x)) (nE fm x) a1 c1 (nS fm y) (Nm.wn (nZ fm y)) (Nm.wl (nZ fm y)) (nE fm y) a2 c2 w (nS fm x != nS fm y) (Nm.wn (nZ fm x * nZ fm y)) (Nm.wl (nZ fm x * nZ fm y)) (nE fm x + nE fm y) rfl rfl (by omega) (by omega) (nZ_len fm x) (nZ_len fm y) h1.sl h2.sl
            (fun w' h1' h2' => mul_ok a1 a2 c1 c2 w' h1' h2' (Nm.wl_dg _) (Nm.wl_dg _) (okB_wl (nZ_len fm x)) (okB_wl (nZ_len fm y)) (nZ fm x * nZ fm y) (by rw [Nm.wv_out, Nm.wv_out]) (by unfold Nm.fits; exact decide_eq_true hl))).mono fun r w' ⟨a, c, hr, ho, hb⟩ => ⟨a, c, _, hr, EK.no, ho.base hQ, hb⟩)
        refine muli_core fm mode x y u w hE x0 x1 y0 y1 ho _ _ _ _ _ _ _ hP hl (Nm.wl_dg _) _ _ (fun _ _ _ => ⟨rdo_any hfm hm hl (by omega) (by omega), rfl, rfl⟩) B F ?_ ?_
        · rw [hB', hi, hz, sx, sy]; unfold mB tdB; simp
        · rw [hF', hi, hz]; unfold mF tdF; simp
      · have hP := prod_num fm x y u _ _ _ _ _ _ _ _ _ _ _ _ _ _ NX NY hn (nS fm x != nS fm y) true false [] 0 false false
          (fun Q a1 c1 a2 c2 w hQ h1 h2 => (times_inf (nS fm x) (nI fm x) (Nm.wn (nZ fm x)) (Nm.wl (nZ fm x)) (nE fm x) a1 c1 (nS fm y) (nI fm y) (Nm.wn (nZ fm y)) (Nm.wl (nZ fm y)) (nE fm y) a2 c2 w (nZ_len fm x) (nZ_len fm y) hodd hi _ rfl).mono fun r w' ⟨hr, hb⟩ => ⟨none, 0, _, hr, EK.no, Own.nil _ _, hb⟩)
        have hzz : (zF fm x || zF fm y) = false := by rw [hi] at hod; simpa using hod
        refine muli_core fm mode x y u w hE x0 x1 y0 y1 ho _ _ _ _ _ _ _ hP (by simp) Nm.Dg.nil 0 0 (fun _ h => by cases h) B F ?_ ?_
        · rw [hB', hi, hzz, sx, sy]; unfold mB tdB; simp
        · rw [hF', hi, hzz]; unfold mF tdF; simp
    · rw [hod] at hodd
      obtain ⟨hi, hzz⟩ : (nI fm x || nI fm y) = true ∧ (zF fm x || zF fm y) = true := by rw [Bool.and_eq_true] at hod; exact hod
      have hP := prod_num fm x y u _ _ _ _ _ _ _ _ _ _ _ _ _ _ NX NY hn false false false [] 0 true true
          (fun Q a1 c1 a2 c2 w hQ h1 h2 => (times_odd (nS fm x) (nI fm x) (Nm.wn (nZ fm x)) (Nm.wl (nZ fm x)) (nE fm x) a1 c1 (nS fm y) (nI fm y) (Nm.wn (nZ fm y)) (Nm.wl (nZ fm y)) (nE fm y) a2 c2 w (nZ_len fm x) (nZ_len fm y) hodd).mono fun r w' ⟨s, hr, hb⟩ => ⟨none, 0, _, hr, EK.bad s, Own.nil _ _, hb⟩)
      refine muli_core fm mode x y u w hE x0 x1 y0 y1 ho _ _ _ _ _ _ _ hP (by simp) Nm.Dg.nil 0 0 (fun h => by cases h) B F ?_ ?_
      · rw [hB', hi, hzz]; rfl
      · rw [hF', hi, hzz]; rfl
  · have hB' : B = nanOf fm := by rw [hB]; unfold muB; rw [ho, if_pos rfl, hn]; rfl
    have hF' : F = fl8 (nB fm x || nB fm y) := by rw [hF]; unfold muF; rw [ho, if_pos rfl, hn]; rfl
    have hP := prod_nan fm x y u _ _ _ _ _ _ _ _ _ _ _ _ _ _ NX NY hn _ rfl
    refine muli_core fm mode x y u w hE x0 x1 y0 y1 ho _ _ _ _ _ _ _ hP (by simp) Nm.Dg.nil 0 0 (fun h => by cases h) B F ?_ ?_
    · rw [hB']; rfl
    · rw [hF']; unfold tdF; cases (nB fm x || nB fm y) <;> rfl
theorem addi_no2 (fm mode x y : Int) (w : World) (hT : Tab w) (x0 : 0 ≤ x) (x1 : x < 18446744073709551616) (y0 : 0 ≤ y) (y1 : y < 18446744073709551616) (ho : (modeB mode && allB fm [x, y]) = false) :
    Calls Tryz.prog 30 #[.int .i64 fm, .int .i64 mode, .int .u64 x, .int .u64 y] w fun r w' => r = .returned (.tuple #[.int .u64 0, .int .i64 0, .bool false]) ∧ Below w.heap.size w w' := by
  have CF := hid (fun w' h h' => fok_impl fm mode (some ⟨w.heap.size, 0, none⟩) 2 [x, y] w' h h' (d64_2 x0 x1 y0 y1) (by simp))
  rw [ho] at CF
  have s2 := sl64_2 w x y 24
  have bel0 : Below w.heap.size w (w.alloc (.cells #[.int .u64 x, .int .u64 y] 24)) := (by repeat (first | exact bz0 _ _ | refine bz1 ?_ | refine bz2 ?_ _ | refine bz3 ?_ _ | refine bz5 ?_ _ | refine bz6 ?_ _))
  clear ho
  go_enter Tryz.func30, Tryz.ntmps30
  go_wp2_with fail
  refine (CF.out _ (hT.below bel0) s2).mono ?_
  rintro r w1 ⟨rfl, hb1⟩
  go_wp2
  go_ret3
  exact ⟨rfl, (by repeat (first | exact bz0 _ _ | refine bz1 ?_ | refine bz2 ?_ _ | refine bz3 ?_ _ | refine bz4 ?_ hb1 | refine bz5 ?_ _ | refine bz6 ?_ _ | refine bz7 ?_ hb1))⟩
theorem addf_core (fm mode x y : Int) (u : Value) (w : World) (hE : E3 u w) (x0 : 0 ≤ x) (x1 : x < 18446744073709551616) (y0 : 0 ≤ y) (y1 : y < 18446744073709551616) (ho : (modeB mode && allB fm [x, y]) = true) (sg inf G : Bool) (L : List Int) (E : Int) (n b : Bool) (hp : TotAt u fm mode x y sg inf G L E n b) (hl : L.length ≤ 200) (hd : Nm.Dg L) (rb rf : Int) (hro : n = false → inf = false → L.length ≠ 0 → RdO fm mode G L E = true ∧ rb = RdB fm mode G L E ∧ rf = RdF fm mode G L E) (B F : Int) (hB : B = tdB (nanOf fm) (infOf fm) (sgOf fm) n inf (decide (L.length = 0)) sg rb) (hF : F = tdF n b inf (decide (L.length = 0)) rf) :
    Calls Tryz.prog 30 #[.int .i64 fm, .int .i64 mode, .int .u64 x, .int .u64 y] w fun r w' => r = .returned (.tuple #[.int .u64 B, .int .i64 F, .bool true]) ∧ Below w.heap.size w w' := by
  have CF := hid (fun w' h h' => fok_impl fm mode (some ⟨w.heap.size, 0, none⟩) 2 [x, y] w' h h' (d64_2 x0 x1 y0 y1) (by simp))
  have hfm : fmtB fm = true := by
    have h : modeB mode = true ∧ allB fm [x, y] = true := by simpa using ho
    exact ok_fmt (all2 h.2).1
  rw [ho] at CF
  have CP := hid hp
  have CT := hid (fun p c ev hk w' h1 h2 h3 => told_any fm mode hfm sg inf G L E p c u ev n b hk w' h1 h2 h3 hd hl rb rf hro B F hB hF)
  have s2 := sl64_2 w x y 24
  have bel0 : Below w.heap.size w (w.alloc (.cells #[.int .u64 x, .int .u64 y] 24)) := (by repeat (first | exact bz0 _ _ | refine bz1 ?_ | refine bz2 ?_ _ | refine bz3 ?_ _ | refine bz5 ?_ _ | refine bz6 ?_ _))
  clear ho hp hro hB hF hfm
  go_enter Tryz.func30, Tryz.ntmps30
  go_wp2_with fail
  refine (CF.out _ (hE.t.s.f.below bel0) s2).mono ?_
  rintro r w1 ⟨rfl, hb1⟩
  have bel1 := bel_go bel0 hb1
  clear s2
  go_wp2_with fail
  refine (CP.out _ (hE.below bel1).ee).mono ?_
  rintro r w2 ⟨a', c', ev, rfl, kv, ho2, hb2⟩
  have bel2 := bel_al (bel_go bel1 hb2) (.cells #[.bool sg, .bool inf, .bool G, .slice a' L.length c', .int .i64 E] 99)
  obtain ⟨x0', x1', x2', x3', x4'⟩ := (Q5.new w2 (.bool sg) (.bool inf) (.bool G) (.slice a' L.length c') (.int .i64 E) 99).cs
  have s3 := (ho2.alloc (.cells #[.bool sg, .bool inf, .bool G, .slice a' L.length c', .int .i64 E] 99)).sl
  have E2 := hE.below bel2
  go_wp2_with fail
  refine (CT.out a' c' ev kv _ E2.t E2.g s3).mono ?_
  rintro r w3 ⟨rfl, hb3⟩
  go_wp2
  go_ret3
  exact ⟨rfl, bel_go bel2 hb3⟩
theorem addf_all (fm mode x y : Int) (u : Value) (w : World) (hE : E3 u w) (x0 : 0 ≤ x) (x1 : x < 18446744073709551616) (y0 : 0 ≤ y) (y1 : y < 18446744073709551616) (B F : Int) (O : Bool) (hB : B = adB fm mode x y) (hF : F = adF fm mode x y) (hO : O = muO fm mode x y) :
    Calls Tryz.prog 30 #[.int .i64 fm, .int .i64 mode, .int .u64 x, .int .u64 y] w fun r w' => r = .returned (.tuple #[.int .u64 B, .int .i64 F, .bool O]) ∧ Below w.heap.size w w' := by
  cases ho : muO fm mode x y
  · obtain ⟨e1, e2⟩ := ad_no ho
    rw [hB, hF, hO, e1, e2, ho]
    exact addi_no2 fm mode x y w hE.t.s.f x0 x1 y0 y1 ho
  obtain ⟨hm, ha⟩ : modeB mode = true ∧ allB fm [x, y] = true := by have : (modeB mode && allB fm [x, y]) = true := ho; simpa using this
  obtain ⟨hx, hy⟩ := all2 ha
  have hfm := ok_fmt hx
  have NX := numAt (u := u) hx x0 x1
  have NY := numAt (u := u) hy y0 y1
  rw [hO, ho]
  cases hn : (nanB fm x || nanB fm y)
  · obtain ⟨nx, ny⟩ : nanB fm x = false ∧ nanB fm y = false := by simpa using hn
    have hB' : B = aB fm mode x y := by rw [hB]; unfold adB; rw [ho, if_pos rfl, hn]; rfl
    have hF' : F = aF fm mode x y := by rw [hF]; unfold adF; rw [ho, if_pos rfl, hn]; rfl
    have sx : nS fm x = sigB fm x := by unfold nS; rw [nx]; rfl
    have sy : nS fm y = sigB fm y := by unfold nS; rw [ny]; rfl
    unfold aB at hB'
    unfold aF at hF'
    cases ix : nI fm x
    · rw [ix] at hB' hF' NX
      cases iy : nI fm y
      · rw [iy] at hB' hF' NY
        have fx := (nan_cases hx nx).resolve_right (by rw [ix]; decide)
        have fy := (nan_cases hy ny).resolve_right (by rw [iy]; decide)
        have b1 := nZ_bd fm x
        have b2 := nZ_bd fm y
        obtain ⟨em, hem⟩ : ∃ em, em = min (nE fm x) (nE fm y) := ⟨_, rfl⟩
        obtain ⟨z, hz⟩ : ∃ z, z = nZ fm x * 2 ^ (nE fm x - em).toNat + nZ fm y * 2 ^ (nE fm y - em).toNat := ⟨_, rfl⟩
        obtain ⟨hu, hq⟩ := sum_z hx hy fx fy em hem z hz
        have hqb := unq_bd fm
        have hul := uu_len fm x y
        have hzl : (Nm.wl z).length ≤ 200 := by
          have h1 := len_bl (x := (unI fm x + unI fm y).natAbs) (k := 200) hul
          have h2 := Nm.bl_mono (sum_abs hu)
          unfold Nm.wl; exact lim_len (k := 200) (by omega)
        have lx := nzs_len (fm := fm) (x := x) (em := em) (by omega) (by omega)
        have ly := nzs_len (fm := fm) (x := y) (em := em) (by omega) (by omega)
        have hz0 : (unI fm x + unI fm y) = 0 ↔ z = 0 := by
          rw [hu]; constructor
          · intro h
            rcases Int.mul_eq_zero.1 h with h' | h'
            · exact h'
            · exact absurd h' (Int.ne_of_gt (Int.pow_pos (by decide)))
          · intro h; rw [h, Int.zero_mul]
        have hl0 : decide ((Nm.wl z).length = 0) = decide ((unI fm x + unI fm y) = 0) := by
          rw [Bool.eq_iff_iff, decide_eq_true_eq, decide_eq_true_eq, hz0]; unfold Nm.wl; rw [Nm.lim_length_zero]; omega
        have hP := tot_num fm mode x y u _ _ _ _ _ _ _ _ _ _ _ _ _ _ NX NY hn (plN (decide ((Nm.wl z).length = 0)) (nS fm x) (nS fm y) (Nm.wn z) mode) false (Nm.wn z) (Nm.wl z) em false false
          (fun Q a1 c1 a2 c2 w hQ h1 h2 => (plus_fin (nS fm x) (Nm.wn (nZ fm x)) (Nm.wl (nZ fm x)) (nE fm x) a1 c1 (nS fm y) (Nm.wn (nZ fm y)) (Nm.wl (nZ fm y)) (nE fm y) a2 c2 mode w em hem (by omega) (by omega) h1.sl h2.sl (Nm.wn (nZ fm x * 2 ^ (nE fm x - em).toNat)) (Nm.wl (nZ fm x * 2 ^ (nE fm x - em).toNat)) (Nm.wn (nZ fm y * 2 ^ (nE fm y - em).toNat)) (Nm.wl (nZ fm y * 2 ^ (nE fm y - em).toNat)) (Nm.wn z) (Nm.wl z) _ rfl hzl
            (fun w' h => wsh_at2 _ a1 c1 _ (nE fm x - em) w' h (Nm.wl_dg _) (okB_wl (nZ_len fm x)) (by omega) (by omega) _ (shz _ _ (by omega)).symm lx)
            (fun w' h => wsh_at2 _ a2 c2 _ (nE fm y - em) w' h (Nm.wl_dg _) (okB_wl (nZ_len fm y)) (by omega) (by omega) _ (shz _ _ (by omega)).symm ly)
            (fun av cv aw cw w' h h' => add_ok av aw cv cw w' h h' (Nm.wl_dg _) (Nm.wl_dg _) (okB_wl lx) (okB_wl ly) z (by rw [Nm.wv_out, Nm.wv_out]; exact hz) (by unfold Nm.fits; exact decide_eq_true hzl))).mono fun r w' ⟨a, c, hr, ho, hb⟩ => ⟨a, c, _, hr, EK.no, ho.base hQ, hb⟩)
        have hro : z ≠ 0 → RdO fm mode (Nm.wn z) (Nm.wl z) em = true ∧ RdB fm mode (Nm.wn (unI fm x + unI fm y)) (Nm.wl (unI fm x + unI fm y)) (unQ fm) = RdB fm mode (Nm.wn z) (Nm.wl z) em ∧ RdF fm mode (Nm.wn (unI fm x + unI fm y)) (Nm.wl (unI fm x + unI fm y)) (unQ fm) = RdF fm mode (Nm.wn z) (Nm.wl z) em := by
          intro hzz
          have o1 := rdo_any (fm := fm) (mode := mode) (z := z) (e := em) hfm hm hzl (by omega) (by omega)
          have o2 := rdo_any (fm := fm) (mode := mode) (z := (unI fm x + unI fm y)) (e := unQ fm) hfm hm hul (by omega) (by omega)
          have hd : unQ fm = em - ((em - unQ fm).toNat : Nat) := by omega
          rw [hu] at o2 ⊢
          rw [hd] at o2 ⊢
          have e2 : (em - (em - ((em - unQ fm).toNat : Nat))).toNat = (em - unQ fm).toNat := by omega
          rw [e2] at o2 ⊢
          obtain ⟨q1, q2⟩ := Rd_scale fm mode z (em - unQ fm).toNat em hzz o1 o2
          exact ⟨o1, q1, q2⟩
        have hzn : (Nm.wl z).length ≠ 0 → z ≠ 0 := by
          intro h e; apply h; rw [e]; have : Nm.wl 0 = [] := Nm.lim_zero
          rw [this]; rfl
        refine addf_core fm mode x y u w hE x0 x1 y0 y1 ho _ _ _ _ _ _ _ hP hzl (Nm.wl_dg _) (RdB fm mode (Nm.wn (unI fm x + unI fm y)) (Nm.wl (unI fm x + unI fm y)) (unQ fm)) (RdF fm mode (Nm.wn (unI fm x + unI fm y)) (Nm.wl (unI fm x + unI fm y)) (unQ fm)) (fun _ _ h => hro (hzn h)) B F ?_ ?_
        · rw [hB', hl0, sx, sy]; unfold tdB plN
          by_cases h0 : (unI fm x + unI fm y) = 0
          · rw [decide_eq_true h0]; simp [h0]
          · rw [decide_eq_false h0]; simp [h0]
        · rw [hF', hl0]; unfold tdF
          by_cases h0 : (unI fm x + unI fm y) = 0
          · rw [decide_eq_true h0]; simp [h0]
          · rw [decide_eq_false h0]; simp [h0]
      · rw [iy] at hB' hF' NY
        obtain ⟨-, ey⟩ := inf_eq hy hy y0 y1 y0 y1 iy iy
        have z2 := nI_z hy iy
        have hP := tot_num fm mode x y u _ _ _ _ _ _ _ _ _ _ _ _ _ _ NX NY hn (nS fm y) true (Nm.wn (nZ fm y)) (Nm.wl (nZ fm y)) (nE fm y) false false
          (fun Q a1 c1 a2 c2 w hQ h1 h2 => (plus_inf2 (nS fm x) false (Nm.wn (nZ fm x)) (Nm.wl (nZ fm x)) (nE fm x) a1 c1 (nS fm y) true (Nm.wn (nZ fm y)) (Nm.wl (nZ fm y)) (nE fm y) a2 c2 mode w rfl rfl).mono fun r w' ⟨hr, hb⟩ => ⟨a2, c2, _, hr, EK.no, h2.below hb, hb⟩)
        refine addf_core fm mode x y u w hE x0 x1 y0 y1 ho _ _ _ _ _ _ _ hP (nZ_len fm y) (Nm.wl_dg _) 0 0 (fun _ h => by cases h) B F ?_ ?_
        · rw [hB', sy]; unfold tdB; simp; exact ey
        · rw [hF']; unfold tdF; simp
    · rw [ix] at hB' hF' NX
      obtain ⟨-, ex⟩ := inf_eq hx hx x0 x1 x0 x1 ix ix
      cases hod : (nI fm y && (x != y))
      · have hor : nI fm y = false ∨ (nS fm x != nS fm y) = false := by
          cases iy : nI fm y
          · exact .inl rfl
          · right
            rw [iy] at hod
            rw [sx, sy, ← (inf_eq hx hy x0 x1 y0 y1 ix iy).1]; simpa using hod
        have hP := tot_num fm mode x y u _ _ _ _ _ _ _ _ _ _ _ _ _ _ NX NY hn (nS fm x) true (Nm.wn (nZ fm x)) (Nm.wl (nZ fm x)) (nE fm x) false false
          (fun Q a1 c1 a2 c2 w hQ h1 h2 => (plus_inf1 (nS fm x) true (Nm.wn (nZ fm x)) (Nm.wl (nZ fm x)) (nE fm x) a1 c1 (nS fm y) (nI fm y) (Nm.wn (nZ fm y)) (Nm.wl (nZ fm y)) (nE fm y) a2 c2 mode w rfl hor).mono fun r w' ⟨hr, hb⟩ => ⟨a1, c1, _, hr, EK.no, h1.below hb, hb⟩)
        refine addf_core fm mode x y u w hE x0 x1 y0 y1 ho _ _ _ _ _ _ _ hP (nZ_len fm x) (Nm.wl_dg _) 0 0 (fun _ h => by cases h) B F ?_ ?_
        · rw [hB', Bool.true_and, hod, sx]; unfold tdB; simp; exact ex
        · rw [hF', Bool.true_and, hod]; unfold tdF; simp
      · obtain ⟨iy, hxy⟩ : nI fm y = true ∧ (x != y) = true := by rw [Bool.and_eq_true] at hod; exact hod
        rw [iy] at NY
        have hss : (nS fm x != nS fm y) = true := by rw [sx, sy, ← (inf_eq hx hy x0 x1 y0 y1 ix iy).1]; exact hxy
        have hP := tot_num fm mode x y u _ _ _ _ _ _ _ _ _ _ _ _ _ _ NX NY hn false false false [] 0 true true
          (fun Q a1 c1 a2 c2 w hQ h1 h2 => (plus_odd (nS fm x) true (Nm.wn (nZ fm x)) (Nm.wl (nZ fm x)) (nE fm x) a1 c1 (nS fm y) true (Nm.wn (nZ fm y)) (Nm.wl (nZ fm y)) (nE fm y) a2 c2 mode w rfl rfl hss).mono fun r w' ⟨s, hr, hb⟩ => ⟨none, 0, _, hr, EK.bad s, Own.nil _ _, hb⟩)
        refine addf_core fm mode x y u w hE x0 x1 y0 y1 ho _ _ _ _ _ _ _ hP (by simp) Nm.Dg.nil 0 0 (fun h => by cases h) B F ?_ ?_
        · rw [hB', Bool.true_and, hod]; rfl
        · rw [hF', Bool.true_and, hod]; rfl
  · have hB' : B = nanOf fm := by rw [hB]; unfold adB; rw [ho, if_pos rfl, hn]; rfl
    have hF' : F = fl8 (nB fm x || nB fm y) := by rw [hF]; unfold adF; rw [ho, if_pos rfl, hn]; rfl
    have hP := tot_nan fm mode x y u _ _ _ _ _ _ _ _ _ _ _ _ _ _ NX NY hn _ rfl
    refine addf_core fm mode x y u w hE x0 x1 y0 y1 ho _ _ _ _ _ _ _ hP (by simp) Nm.Dg.nil 0 0 (fun h => by cases h) B F ?_ ?_
    · rw [hB']; rfl
    · rw [hF']; unfold tdF; cases (nB fm x || nB fm y) <;> rfl
end Go.Proofs.YtmcflggionkhlaaGreatDoor
