/-
  What is needed of FI.
-/
import Derived.Test.YtpalbhkihheogaaDoorE39
set_option maxHeartbeats 16000000
set_option maxRecDepth 1000000
namespace Go.Proofs.YtpalbhkihheogaaDoor
set_option linter.unusedVariables false
set_option linter.unusedSimpArgs false
open Go.RowKit Go.Deep
namespace Fd
/-- Up and down exchanged. -/
def othM (m : Int) : Int := if m = 2 then 3 else if m = 3 then 2 else m
theorem up_oth {m : Int} (hm : modeB m = true) (od : Bool) (h : Int) (ng : Bool) : upB (othM m) od h (!ng) = upB m od h ng := by
  rcases mode_cases hm with rfl | rfl | rfl | rfl | rfl | rfl <;> simp [upB, othM]
theorem ov_oth {m : Int} (hm : modeB m = true) (ng : Bool) : ovB (othM m) (!ng) = ovB m ng := by
  rcases mode_cases hm with rfl | rfl | rfl | rfl | rfl | rfl <;> simp [ovB, othM]
theorem mode_oth {m : Int} (hm : modeB m = true) : modeB (othM m) = true := by
  rcases mode_cases hm with rfl | rfl | rfl | rfl | rfl | rfl <;> decide
theorem rd_oth {P I : Nat} {q S m : Int} (hm : modeB m = true) (ng : Bool) (a : Nat) (e : Int) : rdU P q (othM m) (!ng) a e = rdU P q m ng a e := by
  unfold rdU
  rw [up_oth hm]
theorem neg_fits {ng : Bool} {zs : List Int} (hd : Nm.Dg zs) (hok : okB ng zs = true) (hz : ¬ zs.length = 0) : negL ng zs = zs ∧ negN ng zs = !ng := by
  have hl : Nm.lim (Nm.val zs).toNat = zs := (lim_ok hd hok).1.symm
  have ht : Nm.trim zs = zs := by rw [Nm.trim_lim hd, hl]
  unfold negL negN
  rw [hok, if_pos rfl, if_pos rfl, Nm.wl_wv _ hd, Nm.wn_wv _ hd, ht, decide_eq_false hz]
  simp
theorem neg_sgn32 {v : Int} (h0 : 0 ≤ v) (h1 : v < 2147483648) (ng : Bool) : negF 32 (sgn 2147483648 v ng) = sgn 2147483648 v (!ng) := by
  have hb := sgn_abs32 h0 h1 ng
  rw [neg32 hb.2.1]
  unfold sgn
  cases ng
  · simp only [Bool.not_false, Bool.false_eq_true, if_false, if_true]; rw [if_pos h1]
  · simp only [Bool.not_true, Bool.false_eq_true, if_false, if_true]; rw [if_neg (by omega)]; omega
theorem mir32 (mode : Int) (ng : Bool) (zs : List Int) (e : Int) (hO : RdO 32 0 ng zs e = true) (hm : modeB mode = true) (hz : ¬ zs.length = 0) :
    RdO 32 (othM mode) (!ng) zs e = true ∧ RdB 32 (othM mode) (!ng) zs e = negF 32 (RdB 32 mode ng zs e) ∧ RdF 32 (othM mode) (!ng) zs e = RdF 32 mode ng zs e ∧ okB ng zs = true ∧ 0 ≤ RdB 32 mode ng zs e ∧ RdB 32 mode ng zs e < 4294967296 := by
  have o0 := hO
  unfold RdO at o0
  have hok : okB ng zs = true := by simp at o0; exact o0.1.2
  have hok2 : okB (!ng) zs = true := by unfold okB at hok ⊢; rw [if_neg hz] at hok ⊢; exact hok
  have hOm : RdO 32 mode ng zs e = true := by unfold RdO; simp at o0 ⊢; exact ⟨⟨⟨o0.1.1.1, hm⟩, o0.1.2⟩, o0.2⟩
  have hO2 : RdO 32 (othM mode) (!ng) zs e = true := by unfold RdO; simp at o0 ⊢; exact ⟨⟨⟨o0.1.1.1, mode_oth hm⟩, hok2⟩, o0.2⟩
  obtain ⟨b1, b2⟩ := Rd_any32 mode ng zs e hOm hz
  obtain ⟨c1, c2⟩ := Rd_any32 (othM mode) (!ng) zs e hO2 hz
  obtain ⟨v, v0, v1, v2, hv⟩ := rdb_bd (P := 24) (I := 2139095040) (q := (-149)) (S := 2147483648) (mode := mode) (ng := ng) (a := (Nm.val zs).toNat) (e := e) (by decide) (by decide)
  have hs := sgn_abs32 v0 v2 ng
  have hu := rd_oth (P := 24) (I := 2139095040) (q := (-149)) (S := 2147483648) hm ng (Nm.val zs).toNat e
  refine ⟨hO2, ?_, ?_, hok, by rw [b1, hv]; exact hs.1, by rw [b1, hv]; exact hs.2.1⟩
  · rw [b1, c1]
    unfold rdB
    rw [hu, ov_oth hm]
    by_cases hf : Nm.flo 24 2139095040 (rdU 24 (-149) mode ng (Nm.val zs).toNat e) = true
    · rw [if_pos hf, if_pos hf]
      have : Nm.flb 24 (rdU 24 (-149) mode ng (Nm.val zs).toNat e) < 2139095040 := by
        unfold Nm.flo at hf
        simp only [Bool.and_eq_true, decide_eq_true_eq] at hf
        exact hf.2
      rw [neg_sgn32 (by omega) (by omega)]
    · rw [if_neg hf, if_neg hf]
      split
      · rw [neg_sgn32 (by decide) (by decide)]
      · rw [neg_sgn32 (by decide) (by decide)]
  · rw [b2, c2]
    unfold rdF
    rw [hu]
theorem neg_sgn64 {v : Int} (h0 : 0 ≤ v) (h1 : v < 9223372036854775808) (ng : Bool) : negF 64 (sgn 9223372036854775808 v ng) = sgn 9223372036854775808 v (!ng) := by
  have hb := sgn_abs64 h0 h1 ng
  rw [neg64]
  unfold sgn
  cases ng
  · simp only [Bool.not_false, Bool.false_eq_true, if_false, if_true]; rw [if_pos h1]
  · simp only [Bool.not_true, Bool.false_eq_true, if_false, if_true]; rw [if_neg (by omega)]; omega
theorem mir64 (mode : Int) (ng : Bool) (zs : List Int) (e : Int) (hO : RdO 64 0 ng zs e = true) (hm : modeB mode = true) (hz : ¬ zs.length = 0) :
    RdO 64 (othM mode) (!ng) zs e = true ∧ RdB 64 (othM mode) (!ng) zs e = negF 64 (RdB 64 mode ng zs e) ∧ RdF 64 (othM mode) (!ng) zs e = RdF 64 mode ng zs e ∧ okB ng zs = true ∧ 0 ≤ RdB 64 mode ng zs e ∧ RdB 64 mode ng zs e < 18446744073709551616 := by
  have o0 := hO
  unfold RdO at o0
  have hok : okB ng zs = true := by simp at o0; exact o0.1.2
  have hok2 : okB (!ng) zs = true := by unfold okB at hok ⊢; rw [if_neg hz] at hok ⊢; exact hok
  have hOm : RdO 64 mode ng zs e = true := by unfold RdO; simp at o0 ⊢; exact ⟨⟨⟨o0.1.1.1, hm⟩, o0.1.2⟩, o0.2⟩
  have hO2 : RdO 64 (othM mode) (!ng) zs e = true := by unfold RdO; simp at o0 ⊢; exact ⟨⟨⟨o0.1.1.1, mode_oth hm⟩, hok2⟩, o0.2⟩
  obtain ⟨b1, b2⟩ := Rd_any64 mode ng zs e hOm hz
  obtain ⟨c1, c2⟩ := Rd_any64 (othM mode) (!ng) zs e hO2 hz
  obtain ⟨v, v0, v1, v2, hv⟩ := rdb_bd (P := 53) (I := 9218868437227405312) (q := (-1074)) (S := 9223372036854775808) (mode := mode) (ng := ng) (a := (Nm.val zs).toNat) (e := e) (by decide) (by decide)
  have hs := sgn_abs64 v0 v2 ng
  have hu := rd_oth (P := 53) (I := 9218868437227405312) (q := (-1074)) (S := 9223372036854775808) hm ng (Nm.val zs).toNat e
  refine ⟨hO2, ?_, ?_, hok, by rw [b1, hv]; exact hs.1, by rw [b1, hv]; exact hs.2.1⟩
  · rw [b1, c1]
    unfold rdB
    rw [hu, ov_oth hm]
    by_cases hf : Nm.flo 53 9218868437227405312 (rdU 53 (-1074) mode ng (Nm.val zs).toNat e) = true
    · rw [if_pos hf, if_pos hf]
      have : Nm.flb 53 (rdU 53 (-1074) mode ng (Nm.val zs).toNat e) < 9218868437227405312 := by
        unfold Nm.flo at hf
        simp only [Bool.and_eq_true, decide_eq_true_eq] at hf
        exact hf.2
      rw [neg_sgn64 (by omega) (by omega)]
    · rw [if_neg hf, if_neg hf]
      split
      · rw [neg_sgn64 (by decide) (by decide)]
      · rw [neg_sgn64 (by decide) (by decide)]
  · rw [b2, c2]
    unfold rdF
    rw [hu]
theorem mir {fm : Int} (hfm : fmtB fm = true) (mode : Int) (ng : Bool) (zs : List Int) (e : Int) (hO : RdO fm 0 ng zs e = true) (hm : modeB mode = true) (hz : ¬ zs.length = 0) :
    RdO fm (othM mode) (!ng) zs e = true ∧ RdB fm (othM mode) (!ng) zs e = negF fm (RdB fm mode ng zs e) ∧ RdF fm (othM mode) (!ng) zs e = RdF fm mode ng zs e ∧ okB ng zs = true ∧ 0 ≤ RdB fm mode ng zs e ∧ RdB fm mode ng zs e < 18446744073709551616 := by
  rcases fmt_cases hfm with rfl | rfl
  · obtain ⟨h1, h2, h3, h4, h5, h6⟩ := mir32 mode ng zs e hO hm hz
    exact ⟨h1, h2, h3, h4, h5, by omega⟩
  · exact mir64 mode ng zs e hO hm hz
theorem milaw (ca : Option Addr) (cc : Nat) (cs : List Int) (w : World) (hT : T3 w) (hs : Sl .u8 w (.slice ca cs.length cc) cs) (hby : ∀ i, 0 ≤ cs.getD i 0 ∧ cs.getD i 0 ≤ 255) (hl : cs.length ≤ 1048576) :
    Calls Tryd.prog 7 #[.slice ca cs.length cc] w fun e w' => e = .returned (.bool true) ∧ Below w.heap.size w w' := by
  go_enter Tryd.func7, Tryd.ntmps7
  go_wp2_with fail
  refine (big_any ca cs.length cc _ (by omega) false (by simp; omega)).mono ?_
  rintro r w0 ⟨rfl, rfl⟩
  go_wp2_with fail
  refine (drawRounded_x ca cc cs _ hs hby hl).mono ?_
  rintro r w1 ⟨fm, mode, ng, L, a, c, e, rfl, hfm, hL, hd, hs1, bel1⟩
  clear hs hby hl
  have T := (hT.below bel1).al (.cells #[.bool ng, .slice a L.length c] 30)
  have bel := bel_al bel1 (.cells #[.bool ng, .slice a L.length c] 30)
  have X := R2.new w1 (.bool ng) (.slice a L.length c) 30
  have hs := hs1.alloc (.cells #[.bool ng, .slice a L.length c] 30)
  clear hs1 bel1
  have hL' : L.length ≤ 1048576 := by omega
  have RN := hid (fun w' h h' => round_any fm mode ng L e a c w' h h' hd hL')
  have GO := hid (fun w' h => goes_any fm ng L e a c w' h hd hL')
  obtain ⟨b, hb⟩ : ∃ q, q = RdB fm mode ng L e := ⟨_, rfl⟩
  obtain ⟨f, hf⟩ : ∃ q, q = RdF fm mode ng L e := ⟨_, rfl⟩
  obtain ⟨g, hg⟩ : ∃ q, q = RdO fm 0 ng L e := ⟨_, rfl⟩
  rw [← hb, ← hf] at RN
  rw [← hg] at GO
  obtain ⟨x0', x1', -, -⟩ := id X
  cases g
  · clear hb hf hg hd
    go_wp2_with fail
    refine (RN.out _ T hs).mono ?_
    rintro r w2 ⟨rfl, hb⟩
    replace bel := bel_go bel hb
    replace X := X.below hb
    replace hs := hs.below hb
    replace T := T.below hb
    clear hb
    obtain ⟨x0', x1', -, -⟩ := id X
    go_wp2_with fail
    refine (GO.out _ hs).mono ?_
    rintro r w3 ⟨rfl, hb⟩
    replace bel := bel_go bel hb
    replace X := X.below hb
    replace hs := hs.below hb
    replace T := T.below hb
    clear hb
    obtain ⟨x0', x1', -, -⟩ := id X
    go_wp2
    all_goals go_ret
    all_goals exact ⟨rfl, bel⟩
  · by_cases hm : modeB mode = true
    · have m1 : decide (mode < 0) = false := by unfold modeB at hm; simp at hm ⊢; omega
      have m2 : decide (5 < mode) = false := by unfold modeB at hm; simp at hm ⊢; omega
      have mm1 : ¬ mode < 0 := by simpa using m1
      have mm2 : ¬ 5 < mode := by simpa using m2
      by_cases hz : L.length = 0
      · have e0 : ((L.length : Int) == 0) = true := by rw [beq_iff_eq]; omega
        clear hb hf hg hd hm hz
        go_wp2_with fail
        refine (RN.out _ T hs).mono ?_
        rintro r w2 ⟨rfl, hb⟩
        replace bel := bel_go bel hb
        replace X := X.below hb
        replace hs := hs.below hb
        replace T := T.below hb
        clear hb
        obtain ⟨x0', x1', -, -⟩ := id X
        go_wp2_with fail
        refine (GO.out _ hs).mono ?_
        rintro r w3 ⟨rfl, hb⟩
        replace bel := bel_go bel hb
        replace X := X.below hb
        replace hs := hs.below hb
        replace T := T.below hb
        clear hb
        obtain ⟨x0', x1', -, -⟩ := id X
        go_wp2
        all_goals go_ret
        all_goals exact ⟨rfl, bel⟩
      · have e0 : ((L.length : Int) == 0) = false := by rw [beq_eq_false_iff_ne]; omega
        obtain ⟨h1, h2, h3, h4, h5, h6⟩ := mir hfm mode ng L e hg.symm hm hz
        obtain ⟨n1, n2⟩ := neg_fits hd h4 hz
        have WN := hid (fun w' h => wneg_impl ng a c L w' h hd hL')
        rw [n1, n2] at WN
        have RI := hid (fun a' c' w' h h' => rounded_impl fm (othM mode) (!ng) L e a' c' w' h h' hd hL')
        rw [h1, h2, h3, ← hb, ← hf] at RI
        rw [← hb] at h5 h6
        have NG := hid (fun w' h => iNegated fm b w' h h5 h6)
        obtain ⟨B, hB⟩ : ∃ q, q = negF fm b := ⟨_, rfl⟩
        rw [← hB] at RI NG
        have r1 : (B == B) = true := by simp
        have r2 : (f == f) = true := by simp
        clear hb hf hg hd hz h1 h2 h3 h4 h5 h6 n1 n2 hB
        rcases mode_cases hm with rfl | rfl | rfl | rfl | rfl | rfl
        · rw [show othM 0 = 0 from rfl] at RI
          clear hm m1 m2 mm1 mm2
          go_wp2_with fail
          refine (RN.out _ T hs).mono ?_
          rintro r w2 ⟨rfl, hb⟩
          replace bel := bel_go bel hb
          replace X := X.below hb
          replace hs := hs.below hb
          replace T := T.below hb
          clear hb
          obtain ⟨x0', x1', -, -⟩ := id X
          go_wp2_with fail
          refine (GO.out _ hs).mono ?_
          rintro r w3 ⟨rfl, hb⟩
          replace bel := bel_go bel hb
          replace X := X.below hb
          replace hs := hs.below hb
          replace T := T.below hb
          clear hb
          obtain ⟨x0', x1', -, -⟩ := id X
          go_wp2_with fail
          refine (WN.out _ hs).mono ?_
          rintro r w4 ⟨a2, c2, rfl, o2, hb⟩
          have hs2 := o2.sl
          replace bel := bel_go bel hb
          replace X := X.below hb
          replace hs := hs.below hb
          replace T := T.below hb
          clear hb
          obtain ⟨x0', x1', -, -⟩ := id X
          go_wp2_with fail
          refine (RI.out a2 c2 _ T hs2).mono ?_
          rintro r w5 ⟨rfl, hb⟩
          replace bel := bel_go bel hb
          replace X := X.below hb
          replace hs := hs.below hb
          replace T := T.below hb
          clear hb
          obtain ⟨x0', x1', -, -⟩ := id X
          go_wp2_with fail
          refine (NG.out _ T.s.f).mono ?_
          rintro r w6 ⟨rfl, hb⟩
          replace bel := bel_go bel hb
          replace X := X.below hb
          replace hs := hs.below hb
          replace T := T.below hb
          clear hb
          obtain ⟨x0', x1', -, -⟩ := id X
          go_wp2
          all_goals go_ret
          all_goals exact ⟨rfl, bel⟩
        · rw [show othM 1 = 1 from rfl] at RI
          clear hm m1 m2 mm1 mm2
          go_wp2_with fail
          refine (RN.out _ T hs).mono ?_
          rintro r w2 ⟨rfl, hb⟩
          replace bel := bel_go bel hb
          replace X := X.below hb
          replace hs := hs.below hb
          replace T := T.below hb
          clear hb
          obtain ⟨x0', x1', -, -⟩ := id X
          go_wp2_with fail
          refine (GO.out _ hs).mono ?_
          rintro r w3 ⟨rfl, hb⟩
          replace bel := bel_go bel hb
          replace X := X.below hb
          replace hs := hs.below hb
          replace T := T.below hb
          clear hb
          obtain ⟨x0', x1', -, -⟩ := id X
          go_wp2_with fail
          refine (WN.out _ hs).mono ?_
          rintro r w4 ⟨a2, c2, rfl, o2, hb⟩
          have hs2 := o2.sl
          replace bel := bel_go bel hb
          replace X := X.below hb
          replace hs := hs.below hb
          replace T := T.below hb
          clear hb
          obtain ⟨x0', x1', -, -⟩ := id X
          go_wp2_with fail
          refine (RI.out a2 c2 _ T hs2).mono ?_
          rintro r w5 ⟨rfl, hb⟩
          replace bel := bel_go bel hb
          replace X := X.below hb
          replace hs := hs.below hb
          replace T := T.below hb
          clear hb
          obtain ⟨x0', x1', -, -⟩ := id X
          go_wp2_with fail
          refine (NG.out _ T.s.f).mono ?_
          rintro r w6 ⟨rfl, hb⟩
          replace bel := bel_go bel hb
          replace X := X.below hb
          replace hs := hs.below hb
          replace T := T.below hb
          clear hb
          obtain ⟨x0', x1', -, -⟩ := id X
          go_wp2
          all_goals go_ret
          all_goals exact ⟨rfl, bel⟩
        · rw [show othM 2 = 3 from rfl] at RI
          clear hm m1 m2 mm1 mm2
          go_wp2_with fail
          refine (RN.out _ T hs).mono ?_
          rintro r w2 ⟨rfl, hb⟩
          replace bel := bel_go bel hb
          replace X := X.below hb
          replace hs := hs.below hb
          replace T := T.below hb
          clear hb
          obtain ⟨x0', x1', -, -⟩ := id X
          go_wp2_with fail
          refine (GO.out _ hs).mono ?_
          rintro r w3 ⟨rfl, hb⟩
          replace bel := bel_go bel hb
          replace X := X.below hb
          replace hs := hs.below hb
          replace T := T.below hb
          clear hb
          obtain ⟨x0', x1', -, -⟩ := id X
          go_wp2_with fail
          refine (WN.out _ hs).mono ?_
          rintro r w4 ⟨a2, c2, rfl, o2, hb⟩
          have hs2 := o2.sl
          replace bel := bel_go bel hb
          replace X := X.below hb
          replace hs := hs.below hb
          replace T := T.below hb
          clear hb
          obtain ⟨x0', x1', -, -⟩ := id X
          go_wp2_with fail
          refine (RI.out a2 c2 _ T hs2).mono ?_
          rintro r w5 ⟨rfl, hb⟩
          replace bel := bel_go bel hb
          replace X := X.below hb
          replace hs := hs.below hb
          replace T := T.below hb
          clear hb
          obtain ⟨x0', x1', -, -⟩ := id X
          go_wp2_with fail
          refine (NG.out _ T.s.f).mono ?_
          rintro r w6 ⟨rfl, hb⟩
          replace bel := bel_go bel hb
          replace X := X.below hb
          replace hs := hs.below hb
          replace T := T.below hb
          clear hb
          obtain ⟨x0', x1', -, -⟩ := id X
          go_wp2
          all_goals go_ret
          all_goals exact ⟨rfl, bel⟩
        · rw [show othM 3 = 2 from rfl] at RI
          clear hm m1 m2 mm1 mm2
          go_wp2_with fail
          refine (RN.out _ T hs).mono ?_
          rintro r w2 ⟨rfl, hb⟩
          replace bel := bel_go bel hb
          replace X := X.below hb
          replace hs := hs.below hb
          replace T := T.below hb
          clear hb
          obtain ⟨x0', x1', -, -⟩ := id X
          go_wp2_with fail
          refine (GO.out _ hs).mono ?_
          rintro r w3 ⟨rfl, hb⟩
          replace bel := bel_go bel hb
          replace X := X.below hb
          replace hs := hs.below hb
          replace T := T.below hb
          clear hb
          obtain ⟨x0', x1', -, -⟩ := id X
          go_wp2_with fail
          refine (WN.out _ hs).mono ?_
          rintro r w4 ⟨a2, c2, rfl, o2, hb⟩
          have hs2 := o2.sl
          replace bel := bel_go bel hb
          replace X := X.below hb
          replace hs := hs.below hb
          replace T := T.below hb
          clear hb
          obtain ⟨x0', x1', -, -⟩ := id X
          go_wp2_with fail
          refine (RI.out a2 c2 _ T hs2).mono ?_
          rintro r w5 ⟨rfl, hb⟩
          replace bel := bel_go bel hb
          replace X := X.below hb
          replace hs := hs.below hb
          replace T := T.below hb
          clear hb
          obtain ⟨x0', x1', -, -⟩ := id X
          go_wp2_with fail
          refine (NG.out _ T.s.f).mono ?_
          rintro r w6 ⟨rfl, hb⟩
          replace bel := bel_go bel hb
          replace X := X.below hb
          replace hs := hs.below hb
          replace T := T.below hb
          clear hb
          obtain ⟨x0', x1', -, -⟩ := id X
          go_wp2
          all_goals go_ret
          all_goals exact ⟨rfl, bel⟩
        · rw [show othM 4 = 4 from rfl] at RI
          clear hm m1 m2 mm1 mm2
          go_wp2_with fail
          refine (RN.out _ T hs).mono ?_
          rintro r w2 ⟨rfl, hb⟩
          replace bel := bel_go bel hb
          replace X := X.below hb
          replace hs := hs.below hb
          replace T := T.below hb
          clear hb
          obtain ⟨x0', x1', -, -⟩ := id X
          go_wp2_with fail
          refine (GO.out _ hs).mono ?_
          rintro r w3 ⟨rfl, hb⟩
          replace bel := bel_go bel hb
          replace X := X.below hb
          replace hs := hs.below hb
          replace T := T.below hb
          clear hb
          obtain ⟨x0', x1', -, -⟩ := id X
          go_wp2_with fail
          refine (WN.out _ hs).mono ?_
          rintro r w4 ⟨a2, c2, rfl, o2, hb⟩
          have hs2 := o2.sl
          replace bel := bel_go bel hb
          replace X := X.below hb
          replace hs := hs.below hb
          replace T := T.below hb
          clear hb
          obtain ⟨x0', x1', -, -⟩ := id X
          go_wp2_with fail
          refine (RI.out a2 c2 _ T hs2).mono ?_
          rintro r w5 ⟨rfl, hb⟩
          replace bel := bel_go bel hb
          replace X := X.below hb
          replace hs := hs.below hb
          replace T := T.below hb
          clear hb
          obtain ⟨x0', x1', -, -⟩ := id X
          go_wp2_with fail
          refine (NG.out _ T.s.f).mono ?_
          rintro r w6 ⟨rfl, hb⟩
          replace bel := bel_go bel hb
          replace X := X.below hb
          replace hs := hs.below hb
          replace T := T.below hb
          clear hb
          obtain ⟨x0', x1', -, -⟩ := id X
          go_wp2
          all_goals go_ret
          all_goals exact ⟨rfl, bel⟩
        · rw [show othM 5 = 5 from rfl] at RI
          clear hm m1 m2 mm1 mm2
          go_wp2_with fail
          refine (RN.out _ T hs).mono ?_
          rintro r w2 ⟨rfl, hb⟩
          replace bel := bel_go bel hb
          replace X := X.below hb
          replace hs := hs.below hb
          replace T := T.below hb
          clear hb
          obtain ⟨x0', x1', -, -⟩ := id X
          go_wp2_with fail
          refine (GO.out _ hs).mono ?_
          rintro r w3 ⟨rfl, hb⟩
          replace bel := bel_go bel hb
          replace X := X.below hb
          replace hs := hs.below hb
          replace T := T.below hb
          clear hb
          obtain ⟨x0', x1', -, -⟩ := id X
          go_wp2_with fail
          refine (WN.out _ hs).mono ?_
          rintro r w4 ⟨a2, c2, rfl, o2, hb⟩
          have hs2 := o2.sl
          replace bel := bel_go bel hb
          replace X := X.below hb
          replace hs := hs.below hb
          replace T := T.below hb
          clear hb
          obtain ⟨x0', x1', -, -⟩ := id X
          go_wp2_with fail
          refine (RI.out a2 c2 _ T hs2).mono ?_
          rintro r w5 ⟨rfl, hb⟩
          replace bel := bel_go bel hb
          replace X := X.below hb
          replace hs := hs.below hb
          replace T := T.below hb
          clear hb
          obtain ⟨x0', x1', -, -⟩ := id X
          go_wp2_with fail
          refine (NG.out _ T.s.f).mono ?_
          rintro r w6 ⟨rfl, hb⟩
          replace bel := bel_go bel hb
          replace X := X.below hb
          replace hs := hs.below hb
          replace T := T.below hb
          clear hb
          obtain ⟨x0', x1', -, -⟩ := id X
          go_wp2
          all_goals go_ret
          all_goals exact ⟨rfl, bel⟩
    · have hm' : decide (mode < 0) = true ∨ (decide (mode < 0) = false ∧ decide (5 < mode) = true) := by
        unfold modeB at hm; simp at hm ⊢; omega
      clear hb hf hg hd hm
      rcases hm' with h | ⟨h, h'⟩
      · have h2 : mode < 0 := by simpa using h
        go_wp2_with fail
        refine (RN.out _ T hs).mono ?_
        rintro r w2 ⟨rfl, hb⟩
        replace bel := bel_go bel hb
        replace X := X.below hb
        replace hs := hs.below hb
        replace T := T.below hb
        clear hb
        obtain ⟨x0', x1', -, -⟩ := id X
        go_wp2_with fail
        refine (GO.out _ hs).mono ?_
        rintro r w3 ⟨rfl, hb⟩
        replace bel := bel_go bel hb
        replace X := X.below hb
        replace hs := hs.below hb
        replace T := T.below hb
        clear hb
        obtain ⟨x0', x1', -, -⟩ := id X
        go_wp2
        all_goals go_ret
        all_goals exact ⟨rfl, bel⟩
      · have h2 : ¬ mode < 0 := by simpa using h
        have h3 : 5 < mode := by simpa using h'
        go_wp2_with fail
        refine (RN.out _ T hs).mono ?_
        rintro r w2 ⟨rfl, hb⟩
        replace bel := bel_go bel hb
        replace X := X.below hb
        replace hs := hs.below hb
        replace T := T.below hb
        clear hb
        obtain ⟨x0', x1', -, -⟩ := id X
        go_wp2_with fail
        refine (GO.out _ hs).mono ?_
        rintro r w3 ⟨rfl, hb⟩
        replace bel := bel_go bel hb
        replace X := X.below hb
        replace hs := hs.below hb
        replace T := T.below hb
        clear hb
        obtain ⟨x0', x1', -, -⟩ := id X
        go_wp2
        all_goals go_ret
        all_goals exact ⟨rfl, bel⟩
theorem milaw_all (ca : Option Addr) (cc : Nat) (cs : List Int) (w : World) (hT : T3 w) (hs : Sl .u8 w (.slice ca cs.length cc) cs) (hby : ∀ i, 0 ≤ cs.getD i 0 ∧ cs.getD i 0 ≤ 255) :
    Calls Tryd.prog 7 #[.slice ca cs.length cc] w fun e w' => e = .returned (.bool true) ∧ Below w.heap.size w w' := by
  by_cases h : cs.length ≤ 1048576
  · exact milaw ca cc cs w hT hs hby h
  · have hn : cs.length ≤ 9223372036854775807 := by obtain ⟨_, h1, h2, _⟩ := hs.cells; unfold maxLen at h2; omega
    have CB := hid (big_any ca cs.length cc w hn true (by simp; omega))
    clear hs hby h hn
    go_enter Tryd.func7, Tryd.ntmps7
    go_wp2_with fail
    refine CB.out.mono ?_
    rintro e w0 ⟨rfl, rfl⟩
    go_wp2
    go_ret
    exact ⟨rfl, Below.refl _ _⟩
end Fd
end Go.Proofs.YtpalbhkihheogaaDoor
