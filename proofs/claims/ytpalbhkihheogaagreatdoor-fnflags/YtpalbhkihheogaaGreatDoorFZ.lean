/-
  What rounding flags tell: the law.
-/
import Derived.Test.YtpalbhkihheogaaGreatDoorFF
import Derived.Test.YtpalbhkihheogaaGreatDoorDQ
namespace Go.Proofs.YtpalbhkihheogaaGreatDoor
set_option linter.unusedVariables false
set_option linter.unusedSimpArgs false
open Go.RowKit Go.Deep
namespace Fd
set_option maxHeartbeats 16000000 in
set_option maxRecDepth 100000 in
theorem fglaw (ca : Option Addr) (cc : Nat) (cs : List Int) (w : World) (hT : T3 w) (hs : Sl .u8 w (.slice ca cs.length cc) cs) (hby : ∀ i, 0 ≤ cs.getD i 0 ∧ cs.getD i 0 ≤ 255) (hl : cs.length ≤ 1048576) :
    Calls Tryz.prog 5 #[.slice ca cs.length cc] w fun e w' => e = .returned (.bool true) ∧ Below w.heap.size w w' := by
  go_enter Tryz.func5, Tryz.ntmps5
  go_wp2_with fail
  refine (big_any ca cs.length cc _ (by omega) false (by simp; omega)).mono ?_
  rintro r w0 ⟨rfl, rfl⟩
  go_wp2_with fail
  refine (drawRounded_x ca cc cs _ hs hby hl).mono ?_
  rintro r w1 ⟨fm, mode, ng, L, a, c, e, rfl, hfm, hL, hd, hs1, bel1⟩
  clear hs hby hl
  have T := (hT.below bel1).al (.cells #[.bool ng, .slice a L.length c] 29)
  have bel := bel_al bel1 (.cells #[.bool ng, .slice a L.length c] 29)
  have X := R2.new w1 (.bool ng) (.slice a L.length c) 29
  have hs := hs1.alloc (.cells #[.bool ng, .slice a L.length c] 29)
  clear hs1 bel1
  have hL' : L.length ≤ 1048576 := by omega
  have RN := hid (fun w' h h' => round_any fm mode ng L e a c w' h h' hd hL')
  have EI := hid (fun w' h h' => exact_impl fm ng L e a c w' h h' hd hL')
  have ES := hid (fun w' h => exact_spec fm ng L e a c w' h hd hL')
  have GO := hid (fun w' h => goes_any fm ng L e a c w' h hd hL')
  obtain ⟨b, hb⟩ : ∃ q, q = RdB fm mode ng L e := ⟨_, rfl⟩
  obtain ⟨f, hf⟩ : ∃ q, q = RdF fm mode ng L e := ⟨_, rfl⟩
  obtain ⟨o, ho⟩ : ∃ q, q = EfO fm ng L e := ⟨_, rfl⟩
  obtain ⟨y, hy⟩ : ∃ q, q = EfB fm ng L e := ⟨_, rfl⟩
  obtain ⟨g, hg⟩ : ∃ q, q = RdO fm 0 ng L e := ⟨_, rfl⟩
  rw [← hb, ← hf] at RN
  rw [← ho, ← hy] at EI ES
  rw [← hg] at GO
  have q1 : (y != y) = false := by simp
  have q2 : (o != o) = false := by simp
  have r1 : (y == y) = true := by simp
  have r2 : (o == o) = true := by simp
  obtain ⟨x0', x1', -, -⟩ := id X
  cases g
  · clear hb hf ho hy hg hd
    go_wp2_with fail
    refine (RN.out _ T hs).mono ?_
    rintro r w2 ⟨rfl, hb⟩
    replace bel := bel_go bel hb
    replace X := X.below hb
    replace hs := hs.below hb
    replace T := T.below hb
    clear hb
    obtain ⟨x0', x1', -, -⟩ := id X
    go_wp2_with fail
    refine (EI.out _ T hs).mono ?_
    rintro r w3 ⟨rfl, hb⟩
    replace bel := bel_go bel hb
    replace X := X.below hb
    replace hs := hs.below hb
    replace T := T.below hb
    clear hb
    obtain ⟨x0', x1', -, -⟩ := id X
    go_wp2_with fail
    refine (ES.out _ hs).mono ?_
    rintro r w4 ⟨rfl, hb⟩
    replace bel := bel_go bel hb
    replace X := X.below hb
    replace hs := hs.below hb
    replace T := T.below hb
    clear hb
    obtain ⟨x0', x1', -, -⟩ := id X
    go_wp2_with fail
    refine (GO.out _ hs).mono ?_
    rintro r w5 ⟨rfl, hb⟩
    replace bel := bel_go bel hb
    replace X := X.below hb
    replace hs := hs.below hb
    replace T := T.below hb
    clear hb
    obtain ⟨x0', x1', -, -⟩ := id X
    go_wp2
    all_goals go_ret
    all_goals exact ⟨rfl, bel⟩
  · by_cases hm : modeB mode = true
    · have m1 : decide (mode < 0) = false := by unfold modeB at hm; simp at hm ⊢; omega
      have m2 : decide (5 < mode) = false := by unfold modeB at hm; simp at hm ⊢; omega
      have m3 : decide (mode > 5) = false := by unfold modeB at hm; simp at hm ⊢; omega
      have mm1 : ¬ mode < 0 := by simpa using m1
      have mm2 : ¬ 5 < mode := by simpa using m2
      rcases fmt_cases hfm with rfl | rfl
      · clear hfm
        obtain ⟨b0, b1, hc⟩ := flags32 mode ng L e hg.symm hm hd b f hb hf
        rw [← ho, ← hy] at hc
        have b1' : b < 18446744073709551616 := by omega
        clear hb hf ho hy hg hd hm
        have CC := hid (fun w' h => impl_cls 32 b w' h b0 b1')
        have CA := hid (fun w' h => iAbsolute 32 b w' h b0 b1')
        have ab := abs_bd (fm := 32) b0
        have CO := hid (fun w' h => impl_ord 32 (absF 32 b) w' h ab.1 (by have := ab.2; omega))
        have CG := hid (fun w' h => impl_Greatest32 false w' h)
        have eG : sgn 2147483648 2139095039 false = 2139095039 := rfl
        rw [eG] at CG
        clear eG ab b0 b1 b1'
        obtain ⟨cl, hcl⟩ : ∃ q, q = cls 32 b := ⟨_, rfl⟩
        obtain ⟨A, hA⟩ : ∃ q, q = absF 32 b := ⟨_, rfl⟩
        rw [← hcl] at CC
        rw [← hA] at CA CO
        obtain ⟨d, hd⟩ : ∃ q, q = ordI 32 A := ⟨_, rfl⟩
        obtain ⟨d2, hd2⟩ : ∃ q, q = okF 32 A := ⟨_, rfl⟩
        rw [← hd, ← hd2] at CO
        rw [← hcl, ← hA, ← hd] at hc
        clear hcl hA hd hd2
        rcases hc with ⟨rfl, rfl, rfl⟩ | ⟨rfl, rfl⟩ | ⟨rfl, rfl, hle⟩ | ⟨rfl, rfl, hcl⟩
        · go_wp2_with fail
          refine (RN.out _ T hs).mono ?_
          rintro r w2 ⟨rfl, hb⟩
          replace bel := bel_go bel hb
          replace X := X.below hb
          replace hs := hs.below hb
          replace T := T.below hb
          clear hb
          obtain ⟨x0', x1', -, -⟩ := id X
          go_wp2_with fail
          refine (EI.out _ T hs).mono ?_
          rintro r w3 ⟨rfl, hb⟩
          replace bel := bel_go bel hb
          replace X := X.below hb
          replace hs := hs.below hb
          replace T := T.below hb
          clear hb
          obtain ⟨x0', x1', -, -⟩ := id X
          go_wp2_with fail
          refine (ES.out _ hs).mono ?_
          rintro r w4 ⟨rfl, hb⟩
          replace bel := bel_go bel hb
          replace X := X.below hb
          replace hs := hs.below hb
          replace T := T.below hb
          clear hb
          obtain ⟨x0', x1', -, -⟩ := id X
          go_wp2_with fail
          refine (GO.out _ hs).mono ?_
          rintro r w5 ⟨rfl, hb⟩
          replace bel := bel_go bel hb
          replace X := X.below hb
          replace hs := hs.below hb
          replace T := T.below hb
          clear hb
          obtain ⟨x0', x1', -, -⟩ := id X
          go_wp2_with fail
          refine (CC.out _ T.s.f).mono ?_
          rintro r w6 ⟨rfl, hb⟩
          replace bel := bel_go bel hb
          replace X := X.below hb
          replace hs := hs.below hb
          replace T := T.below hb
          clear hb
          obtain ⟨x0', x1', -, -⟩ := id X
          go_wp2_with fail
          refine (CA.out _ T.s.f).mono ?_
          rintro r w7 ⟨rfl, hb⟩
          replace bel := bel_go bel hb
          replace X := X.below hb
          replace hs := hs.below hb
          replace T := T.below hb
          clear hb
          obtain ⟨x0', x1', -, -⟩ := id X
          go_wp2_with fail
          refine (CO.out _ T.s.f).mono ?_
          rintro r w8 ⟨rfl, hb⟩
          replace bel := bel_go bel hb
          replace X := X.below hb
          replace hs := hs.below hb
          replace T := T.below hb
          clear hb
          obtain ⟨x0', x1', -, -⟩ := id X
          go_wp2
          all_goals go_ret
          all_goals exact ⟨rfl, bel⟩
        · go_wp2_with fail
          refine (RN.out _ T hs).mono ?_
          rintro r w2 ⟨rfl, hb⟩
          replace bel := bel_go bel hb
          replace X := X.below hb
          replace hs := hs.below hb
          replace T := T.below hb
          clear hb
          obtain ⟨x0', x1', -, -⟩ := id X
          go_wp2_with fail
          refine (EI.out _ T hs).mono ?_
          rintro r w3 ⟨rfl, hb⟩
          replace bel := bel_go bel hb
          replace X := X.below hb
          replace hs := hs.below hb
          replace T := T.below hb
          clear hb
          obtain ⟨x0', x1', -, -⟩ := id X
          go_wp2_with fail
          refine (ES.out _ hs).mono ?_
          rintro r w4 ⟨rfl, hb⟩
          replace bel := bel_go bel hb
          replace X := X.below hb
          replace hs := hs.below hb
          replace T := T.below hb
          clear hb
          obtain ⟨x0', x1', -, -⟩ := id X
          go_wp2_with fail
          refine (GO.out _ hs).mono ?_
          rintro r w5 ⟨rfl, hb⟩
          replace bel := bel_go bel hb
          replace X := X.below hb
          replace hs := hs.below hb
          replace T := T.below hb
          clear hb
          obtain ⟨x0', x1', -, -⟩ := id X
          go_wp2_with fail
          refine (CC.out _ T.s.f).mono ?_
          rintro r w6 ⟨rfl, hb⟩
          replace bel := bel_go bel hb
          replace X := X.below hb
          replace hs := hs.below hb
          replace T := T.below hb
          clear hb
          obtain ⟨x0', x1', -, -⟩ := id X
          go_wp2_with fail
          refine (CA.out _ T.s.f).mono ?_
          rintro r w7 ⟨rfl, hb⟩
          replace bel := bel_go bel hb
          replace X := X.below hb
          replace hs := hs.below hb
          replace T := T.below hb
          clear hb
          obtain ⟨x0', x1', -, -⟩ := id X
          go_wp2_with fail
          refine (CO.out _ T.s.f).mono ?_
          rintro r w8 ⟨rfl, hb⟩
          replace bel := bel_go bel hb
          replace X := X.below hb
          replace hs := hs.below hb
          replace T := T.below hb
          clear hb
          obtain ⟨x0', x1', -, -⟩ := id X
          go_wp2
          all_goals go_ret
          all_goals exact ⟨rfl, bel⟩
        · have hle' : decide (d ≤ 8388608) = true := decide_eq_true hle
          go_wp2_with fail
          refine (RN.out _ T hs).mono ?_
          rintro r w2 ⟨rfl, hb⟩
          replace bel := bel_go bel hb
          replace X := X.below hb
          replace hs := hs.below hb
          replace T := T.below hb
          clear hb
          obtain ⟨x0', x1', -, -⟩ := id X
          go_wp2_with fail
          refine (EI.out _ T hs).mono ?_
          rintro r w3 ⟨rfl, hb⟩
          replace bel := bel_go bel hb
          replace X := X.below hb
          replace hs := hs.below hb
          replace T := T.below hb
          clear hb
          obtain ⟨x0', x1', -, -⟩ := id X
          go_wp2_with fail
          refine (ES.out _ hs).mono ?_
          rintro r w4 ⟨rfl, hb⟩
          replace bel := bel_go bel hb
          replace X := X.below hb
          replace hs := hs.below hb
          replace T := T.below hb
          clear hb
          obtain ⟨x0', x1', -, -⟩ := id X
          go_wp2_with fail
          refine (GO.out _ hs).mono ?_
          rintro r w5 ⟨rfl, hb⟩
          replace bel := bel_go bel hb
          replace X := X.below hb
          replace hs := hs.below hb
          replace T := T.below hb
          clear hb
          obtain ⟨x0', x1', -, -⟩ := id X
          go_wp2_with fail
          refine (CC.out _ T.s.f).mono ?_
          rintro r w6 ⟨rfl, hb⟩
          replace bel := bel_go bel hb
          replace X := X.below hb
          replace hs := hs.below hb
          replace T := T.below hb
          clear hb
          obtain ⟨x0', x1', -, -⟩ := id X
          go_wp2_with fail
          refine (CA.out _ T.s.f).mono ?_
          rintro r w7 ⟨rfl, hb⟩
          replace bel := bel_go bel hb
          replace X := X.below hb
          replace hs := hs.below hb
          replace T := T.below hb
          clear hb
          obtain ⟨x0', x1', -, -⟩ := id X
          go_wp2_with fail
          refine (CO.out _ T.s.f).mono ?_
          rintro r w8 ⟨rfl, hb⟩
          replace bel := bel_go bel hb
          replace X := X.below hb
          replace hs := hs.below hb
          replace T := T.below hb
          clear hb
          obtain ⟨x0', x1', -, -⟩ := id X
          go_wp2
          all_goals go_ret
          all_goals exact ⟨rfl, bel⟩
        · rcases hcl with rfl | rfl
          · go_wp2_with fail
            refine (RN.out _ T hs).mono ?_
            rintro r w2 ⟨rfl, hb⟩
            replace bel := bel_go bel hb
            replace X := X.below hb
            replace hs := hs.below hb
            replace T := T.below hb
            clear hb
            obtain ⟨x0', x1', -, -⟩ := id X
            go_wp2_with fail
            refine (EI.out _ T hs).mono ?_
            rintro r w3 ⟨rfl, hb⟩
            replace bel := bel_go bel hb
            replace X := X.below hb
            replace hs := hs.below hb
            replace T := T.below hb
            clear hb
            obtain ⟨x0', x1', -, -⟩ := id X
            go_wp2_with fail
            refine (ES.out _ hs).mono ?_
            rintro r w4 ⟨rfl, hb⟩
            replace bel := bel_go bel hb
            replace X := X.below hb
            replace hs := hs.below hb
            replace T := T.below hb
            clear hb
            obtain ⟨x0', x1', -, -⟩ := id X
            go_wp2_with fail
            refine (GO.out _ hs).mono ?_
            rintro r w5 ⟨rfl, hb⟩
            replace bel := bel_go bel hb
            replace X := X.below hb
            replace hs := hs.below hb
            replace T := T.below hb
            clear hb
            obtain ⟨x0', x1', -, -⟩ := id X
            go_wp2_with fail
            refine (CC.out _ T.s.f).mono ?_
            rintro r w6 ⟨rfl, hb⟩
            replace bel := bel_go bel hb
            replace X := X.below hb
            replace hs := hs.below hb
            replace T := T.below hb
            clear hb
            obtain ⟨x0', x1', -, -⟩ := id X
            go_wp2_with fail
            refine (CA.out _ T.s.f).mono ?_
            rintro r w7 ⟨rfl, hb⟩
            replace bel := bel_go bel hb
            replace X := X.below hb
            replace hs := hs.below hb
            replace T := T.below hb
            clear hb
            obtain ⟨x0', x1', -, -⟩ := id X
            go_wp2_with fail
            refine (CO.out _ T.s.f).mono ?_
            rintro r w8 ⟨rfl, hb⟩
            replace bel := bel_go bel hb
            replace X := X.below hb
            replace hs := hs.below hb
            replace T := T.below hb
            clear hb
            obtain ⟨x0', x1', -, -⟩ := id X
            go_wp2
            all_goals go_ret
            all_goals exact ⟨rfl, bel⟩
          · cases h3 : (cl == 3)
            · go_wp2_with fail
              refine (RN.out _ T hs).mono ?_
              rintro r w2 ⟨rfl, hb⟩
              replace bel := bel_go bel hb
              replace X := X.below hb
              replace hs := hs.below hb
              replace T := T.below hb
              clear hb
              obtain ⟨x0', x1', -, -⟩ := id X
              go_wp2_with fail
              refine (EI.out _ T hs).mono ?_
              rintro r w3 ⟨rfl, hb⟩
              replace bel := bel_go bel hb
              replace X := X.below hb
              replace hs := hs.below hb
              replace T := T.below hb
              clear hb
              obtain ⟨x0', x1', -, -⟩ := id X
              go_wp2_with fail
              refine (ES.out _ hs).mono ?_
              rintro r w4 ⟨rfl, hb⟩
              replace bel := bel_go bel hb
              replace X := X.below hb
              replace hs := hs.below hb
              replace T := T.below hb
              clear hb
              obtain ⟨x0', x1', -, -⟩ := id X
              go_wp2_with fail
              refine (GO.out _ hs).mono ?_
              rintro r w5 ⟨rfl, hb⟩
              replace bel := bel_go bel hb
              replace X := X.below hb
              replace hs := hs.below hb
              replace T := T.below hb
              clear hb
              obtain ⟨x0', x1', -, -⟩ := id X
              go_wp2_with fail
              refine (CC.out _ T.s.f).mono ?_
              rintro r w6 ⟨rfl, hb⟩
              replace bel := bel_go bel hb
              replace X := X.below hb
              replace hs := hs.below hb
              replace T := T.below hb
              clear hb
              obtain ⟨x0', x1', -, -⟩ := id X
              go_wp2_with fail
              refine (CA.out _ T.s.f).mono ?_
              rintro r w7 ⟨rfl, hb⟩
              replace bel := bel_go bel hb
              replace X := X.below hb
              replace hs := hs.below hb
              replace T := T.below hb
              clear hb
              obtain ⟨x0', x1', -, -⟩ := id X
              go_wp2_with fail
              refine (CO.out _ T.s.f).mono ?_
              rintro r w8 ⟨rfl, hb⟩
              replace bel := bel_go bel hb
              replace X := X.below hb
              replace hs := hs.below hb
              replace T := T.below hb
              clear hb
              obtain ⟨x0', x1', -, -⟩ := id X
              go_wp2_with fail
              refine (CG.out _ T.s.f).mono ?_
              rintro r w9 ⟨rfl, hb⟩
              replace bel := bel_go bel hb
              replace X := X.below hb
              replace hs := hs.below hb
              replace T := T.below hb
              clear hb
              obtain ⟨x0', x1', -, -⟩ := id X
              go_wp2
              all_goals go_ret
              all_goals exact ⟨rfl, bel⟩
            · go_wp2_with fail
              refine (RN.out _ T hs).mono ?_
              rintro r w2 ⟨rfl, hb⟩
              replace bel := bel_go bel hb
              replace X := X.below hb
              replace hs := hs.below hb
              replace T := T.below hb
              clear hb
              obtain ⟨x0', x1', -, -⟩ := id X
              go_wp2_with fail
              refine (EI.out _ T hs).mono ?_
              rintro r w3 ⟨rfl, hb⟩
              replace bel := bel_go bel hb
              replace X := X.below hb
              replace hs := hs.below hb
              replace T := T.below hb
              clear hb
              obtain ⟨x0', x1', -, -⟩ := id X
              go_wp2_with fail
              refine (ES.out _ hs).mono ?_
              rintro r w4 ⟨rfl, hb⟩
              replace bel := bel_go bel hb
              replace X := X.below hb
              replace hs := hs.below hb
              replace T := T.below hb
              clear hb
              obtain ⟨x0', x1', -, -⟩ := id X
              go_wp2_with fail
              refine (GO.out _ hs).mono ?_
              rintro r w5 ⟨rfl, hb⟩
              replace bel := bel_go bel hb
              replace X := X.below hb
              replace hs := hs.below hb
              replace T := T.below hb
              clear hb
              obtain ⟨x0', x1', -, -⟩ := id X
              go_wp2_with fail
              refine (CC.out _ T.s.f).mono ?_
              rintro r w6 ⟨rfl, hb⟩
              replace bel := bel_go bel hb
              replace X := X.below hb
              replace hs := hs.below hb
              replace T := T.below hb
              clear hb
              obtain ⟨x0', x1', -, -⟩ := id X
              go_wp2_with fail
              refine (CA.out _ T.s.f).mono ?_
              rintro r w7 ⟨rfl, hb⟩
              replace bel := bel_go bel hb
              replace X := X.below hb
              replace hs := hs.below hb
              replace T := T.below hb
              clear hb
              obtain ⟨x0', x1', -, -⟩ := id X
              go_wp2_with fail
              refine (CO.out _ T.s.f).mono ?_
              rintro r w8 ⟨rfl, hb⟩
              replace bel := bel_go bel hb
              replace X := X.below hb
              replace hs := hs.below hb
              replace T := T.below hb
              clear hb
              obtain ⟨x0', x1', -, -⟩ := id X
              go_wp2
              all_goals go_ret
              all_goals exact ⟨rfl, bel⟩
      · clear hfm
        obtain ⟨b0, b1, hc⟩ := flags64 mode ng L e hg.symm hm hd b f hb hf
        rw [← ho, ← hy] at hc
        have b1' : b < 18446744073709551616 := by omega
        clear hb hf ho hy hg hd hm
        have CC := hid (fun w' h => impl_cls 64 b w' h b0 b1')
        have CA := hid (fun w' h => iAbsolute 64 b w' h b0 b1')
        have ab := abs_bd (fm := 64) b0
        have CO := hid (fun w' h => impl_ord 64 (absF 64 b) w' h ab.1 (by have := ab.2; omega))
        have CG := hid (fun w' h => impl_Greatest64 false w' h)
        have eG : sgn 9223372036854775808 9218868437227405311 false = 9218868437227405311 := rfl
        rw [eG] at CG
        clear eG ab b0 b1 b1'
        obtain ⟨cl, hcl⟩ : ∃ q, q = cls 64 b := ⟨_, rfl⟩
        obtain ⟨A, hA⟩ : ∃ q, q = absF 64 b := ⟨_, rfl⟩
        rw [← hcl] at CC
        rw [← hA] at CA CO
        obtain ⟨d, hd⟩ : ∃ q, q = ordI 64 A := ⟨_, rfl⟩
        obtain ⟨d2, hd2⟩ : ∃ q, q = okF 64 A := ⟨_, rfl⟩
        rw [← hd, ← hd2] at CO
        rw [← hcl, ← hA, ← hd] at hc
        clear hcl hA hd hd2
        rcases hc with ⟨rfl, rfl, rfl⟩ | ⟨rfl, rfl⟩ | ⟨rfl, rfl, hle⟩ | ⟨rfl, rfl, hcl⟩
        · go_wp2_with fail
          refine (RN.out _ T hs).mono ?_
          rintro r w2 ⟨rfl, hb⟩
          replace bel := bel_go bel hb
          replace X := X.below hb
          replace hs := hs.below hb
          replace T := T.below hb
          clear hb
          obtain ⟨x0', x1', -, -⟩ := id X
          go_wp2_with fail
          refine (EI.out _ T hs).mono ?_
          rintro r w3 ⟨rfl, hb⟩
          replace bel := bel_go bel hb
          replace X := X.below hb
          replace hs := hs.below hb
          replace T := T.below hb
          clear hb
          obtain ⟨x0', x1', -, -⟩ := id X
          go_wp2_with fail
          refine (ES.out _ hs).mono ?_
          rintro r w4 ⟨rfl, hb⟩
          replace bel := bel_go bel hb
          replace X := X.below hb
          replace hs := hs.below hb
          replace T := T.below hb
          clear hb
          obtain ⟨x0', x1', -, -⟩ := id X
          go_wp2_with fail
          refine (GO.out _ hs).mono ?_
          rintro r w5 ⟨rfl, hb⟩
          replace bel := bel_go bel hb
          replace X := X.below hb
          replace hs := hs.below hb
          replace T := T.below hb
          clear hb
          obtain ⟨x0', x1', -, -⟩ := id X
          go_wp2_with fail
          refine (CC.out _ T.s.f).mono ?_
          rintro r w6 ⟨rfl, hb⟩
          replace bel := bel_go bel hb
          replace X := X.below hb
          replace hs := hs.below hb
          replace T := T.below hb
          clear hb
          obtain ⟨x0', x1', -, -⟩ := id X
          go_wp2_with fail
          refine (CA.out _ T.s.f).mono ?_
          rintro r w7 ⟨rfl, hb⟩
          replace bel := bel_go bel hb
          replace X := X.below hb
          replace hs := hs.below hb
          replace T := T.below hb
          clear hb
          obtain ⟨x0', x1', -, -⟩ := id X
          go_wp2_with fail
          refine (CO.out _ T.s.f).mono ?_
          rintro r w8 ⟨rfl, hb⟩
          replace bel := bel_go bel hb
          replace X := X.below hb
          replace hs := hs.below hb
          replace T := T.below hb
          clear hb
          obtain ⟨x0', x1', -, -⟩ := id X
          go_wp2
          all_goals go_ret
          all_goals exact ⟨rfl, bel⟩
        · go_wp2_with fail
          refine (RN.out _ T hs).mono ?_
          rintro r w2 ⟨rfl, hb⟩
          replace bel := bel_go bel hb
          replace X := X.below hb
          replace hs := hs.below hb
          replace T := T.below hb
          clear hb
          obtain ⟨x0', x1', -, -⟩ := id X
          go_wp2_with fail
          refine (EI.out _ T hs).mono ?_
          rintro r w3 ⟨rfl, hb⟩
          replace bel := bel_go bel hb
          replace X := X.below hb
          replace hs := hs.below hb
          replace T := T.below hb
          clear hb
          obtain ⟨x0', x1', -, -⟩ := id X
          go_wp2_with fail
          refine (ES.out _ hs).mono ?_
          rintro r w4 ⟨rfl, hb⟩
          replace bel := bel_go bel hb
          replace X := X.below hb
          replace hs := hs.below hb
          replace T := T.below hb
          clear hb
          obtain ⟨x0', x1', -, -⟩ := id X
          go_wp2_with fail
          refine (GO.out _ hs).mono ?_
          rintro r w5 ⟨rfl, hb⟩
          replace bel := bel_go bel hb
          replace X := X.below hb
          replace hs := hs.below hb
          replace T := T.below hb
          clear hb
          obtain ⟨x0', x1', -, -⟩ := id X
          go_wp2_with fail
          refine (CC.out _ T.s.f).mono ?_
          rintro r w6 ⟨rfl, hb⟩
          replace bel := bel_go bel hb
          replace X := X.below hb
          replace hs := hs.below hb
          replace T := T.below hb
          clear hb
          obtain ⟨x0', x1', -, -⟩ := id X
          go_wp2_with fail
          refine (CA.out _ T.s.f).mono ?_
          rintro r w7 ⟨rfl, hb⟩
          replace bel := bel_go bel hb
          replace X := X.below hb
          replace hs := hs.below hb
          replace T := T.below hb
          clear hb
          obtain ⟨x0', x1', -, -⟩ := id X
          go_wp2_with fail
          refine (CO.out _ T.s.f).mono ?_
          rintro r w8 ⟨rfl, hb⟩
          replace bel := bel_go bel hb
          replace X := X.below hb
          replace hs := hs.below hb
          replace T := T.below hb
          clear hb
          obtain ⟨x0', x1', -, -⟩ := id X
          go_wp2
          all_goals go_ret
          all_goals exact ⟨rfl, bel⟩
        · have hle' : decide (d ≤ 4503599627370496) = true := decide_eq_true hle
          go_wp2_with fail
          refine (RN.out _ T hs).mono ?_
          rintro r w2 ⟨rfl, hb⟩
          replace bel := bel_go bel hb
          replace X := X.below hb
          replace hs := hs.below hb
          replace T := T.below hb
          clear hb
          obtain ⟨x0', x1', -, -⟩ := id X
          go_wp2_with fail
          refine (EI.out _ T hs).mono ?_
          rintro r w3 ⟨rfl, hb⟩
          replace bel := bel_go bel hb
          replace X := X.below hb
          replace hs := hs.below hb
          replace T := T.below hb
          clear hb
          obtain ⟨x0', x1', -, -⟩ := id X
          go_wp2_with fail
          refine (ES.out _ hs).mono ?_
          rintro r w4 ⟨rfl, hb⟩
          replace bel := bel_go bel hb
          replace X := X.below hb
          replace hs := hs.below hb
          replace T := T.below hb
          clear hb
          obtain ⟨x0', x1', -, -⟩ := id X
          go_wp2_with fail
          refine (GO.out _ hs).mono ?_
          rintro r w5 ⟨rfl, hb⟩
          replace bel := bel_go bel hb
          replace X := X.below hb
          replace hs := hs.below hb
          replace T := T.below hb
          clear hb
          obtain ⟨x0', x1', -, -⟩ := id X
          go_wp2_with fail
          refine (CC.out _ T.s.f).mono ?_
          rintro r w6 ⟨rfl, hb⟩
          replace bel := bel_go bel hb
          replace X := X.below hb
          replace hs := hs.below hb
          replace T := T.below hb
          clear hb
          obtain ⟨x0', x1', -, -⟩ := id X
          go_wp2_with fail
          refine (CA.out _ T.s.f).mono ?_
          rintro r w7 ⟨rfl, hb⟩
          replace bel := bel_go bel hb
          replace X := X.below hb
          replace hs := hs.below hb
          replace T := T.below hb
          clear hb
          obtain ⟨x0', x1', -, -⟩ := id X
          go_wp2_with fail
          refine (CO.out _ T.s.f).mono ?_
          rintro r w8 ⟨rfl, hb⟩
          replace bel := bel_go bel hb
          replace X := X.below hb
          replace hs := hs.below hb
          replace T := T.below hb
          clear hb
          obtain ⟨x0', x1', -, -⟩ := id X
          go_wp2
          all_goals go_ret
          all_goals exact ⟨rfl, bel⟩
        · rcases hcl with rfl | rfl
          · go_wp2_with fail
            refine (RN.out _ T hs).mono ?_
            rintro r w2 ⟨rfl, hb⟩
            replace bel := bel_go bel hb
            replace X := X.below hb
            replace hs := hs.below hb
            replace T := T.below hb
            clear hb
            obtain ⟨x0', x1', -, -⟩ := id X
            go_wp2_with fail
            refine (EI.out _ T hs).mono ?_
            rintro r w3 ⟨rfl, hb⟩
            replace bel := bel_go bel hb
            replace X := X.below hb
            replace hs := hs.below hb
            replace T := T.below hb
            clear hb
            obtain ⟨x0', x1', -, -⟩ := id X
            go_wp2_with fail
            refine (ES.out _ hs).mono ?_
            rintro r w4 ⟨rfl, hb⟩
            replace bel := bel_go bel hb
            replace X := X.below hb
            replace hs := hs.below hb
            replace T := T.below hb
            clear hb
            obtain ⟨x0', x1', -, -⟩ := id X
            go_wp2_with fail
            refine (GO.out _ hs).mono ?_
            rintro r w5 ⟨rfl, hb⟩
            replace bel := bel_go bel hb
            replace X := X.below hb
            replace hs := hs.below hb
            replace T := T.below hb
            clear hb
            obtain ⟨x0', x1', -, -⟩ := id X
            go_wp2_with fail
            refine (CC.out _ T.s.f).mono ?_
            rintro r w6 ⟨rfl, hb⟩
            replace bel := bel_go bel hb
            replace X := X.below hb
            replace hs := hs.below hb
            replace T := T.below hb
            clear hb
            obtain ⟨x0', x1', -, -⟩ := id X
            go_wp2_with fail
            refine (CA.out _ T.s.f).mono ?_
            rintro r w7 ⟨rfl, hb⟩
            replace bel := bel_go bel hb
            replace X := X.below hb
            replace hs := hs.below hb
            replace T := T.below hb
            clear hb
            obtain ⟨x0', x1', -, -⟩ := id X
            go_wp2_with fail
            refine (CO.out _ T.s.f).mono ?_
            rintro r w8 ⟨rfl, hb⟩
            replace bel := bel_go bel hb
            replace X := X.below hb
            replace hs := hs.below hb
            replace T := T.below hb
            clear hb
            obtain ⟨x0', x1', -, -⟩ := id X
            go_wp2
            all_goals go_ret
            all_goals exact ⟨rfl, bel⟩
          · cases h3 : (cl == 3)
            · go_wp2_with fail
              refine (RN.out _ T hs).mono ?_
              rintro r w2 ⟨rfl, hb⟩
              replace bel := bel_go bel hb
              replace X := X.below hb
              replace hs := hs.below hb
              replace T := T.below hb
              clear hb
              obtain ⟨x0', x1', -, -⟩ := id X
              go_wp2_with fail
              refine (EI.out _ T hs).mono ?_
              rintro r w3 ⟨rfl, hb⟩
              replace bel := bel_go bel hb
              replace X := X.below hb
              replace hs := hs.below hb
              replace T := T.below hb
              clear hb
              obtain ⟨x0', x1', -, -⟩ := id X
              go_wp2_with fail
              refine (ES.out _ hs).mono ?_
              rintro r w4 ⟨rfl, hb⟩
              replace bel := bel_go bel hb
              replace X := X.below hb
              replace hs := hs.below hb
              replace T := T.below hb
              clear hb
              obtain ⟨x0', x1', -, -⟩ := id X
              go_wp2_with fail
              refine (GO.out _ hs).mono ?_
              rintro r w5 ⟨rfl, hb⟩
              replace bel := bel_go bel hb
              replace X := X.below hb
              replace hs := hs.below hb
              replace T := T.below hb
              clear hb
              obtain ⟨x0', x1', -, -⟩ := id X
              go_wp2_with fail
              refine (CC.out _ T.s.f).mono ?_
              rintro r w6 ⟨rfl, hb⟩
              replace bel := bel_go bel hb
              replace X := X.below hb
              replace hs := hs.below hb
              replace T := T.below hb
              clear hb
              obtain ⟨x0', x1', -, -⟩ := id X
              go_wp2_with fail
              refine (CA.out _ T.s.f).mono ?_
              rintro r w7 ⟨rfl, hb⟩
              replace bel := bel_go bel hb
              replace X := X.below hb
              replace hs := hs.below hb
              replace T := T.below hb
              clear hb
              obtain ⟨x0', x1', -, -⟩ := id X
              go_wp2_with fail
              refine (CO.out _ T.s.f).mono ?_
              rintro r w8 ⟨rfl, hb⟩
              replace bel := bel_go bel hb
              replace X := X.below hb
              replace hs := hs.below hb
              replace T := T.below hb
              clear hb
              obtain ⟨x0', x1', -, -⟩ := id X
              go_wp2_with fail
              refine (CG.out _ T.s.f).mono ?_
              rintro r w9 ⟨rfl, hb⟩
              replace bel := bel_go bel hb
              replace X := X.below hb
              replace hs := hs.below hb
              replace T := T.below hb
              clear hb
              obtain ⟨x0', x1', -, -⟩ := id X
              go_wp2
              all_goals go_ret
              all_goals exact ⟨rfl, bel⟩
            · go_wp2_with fail
              refine (RN.out _ T hs).mono ?_
              rintro r w2 ⟨rfl, hb⟩
              replace bel := bel_go bel hb
              replace X := X.below hb
              replace hs := hs.below hb
              replace T := T.below hb
              clear hb
              obtain ⟨x0', x1', -, -⟩ := id X
              go_wp2_with fail
              refine (EI.out _ T hs).mono ?_
              rintro r w3 ⟨rfl, hb⟩
              replace bel := bel_go bel hb
              replace X := X.below hb
              replace hs := hs.below hb
              replace T := T.below hb
              clear hb
              obtain ⟨x0', x1', -, -⟩ := id X
              go_wp2_with fail
              refine (ES.out _ hs).mono ?_
              rintro r w4 ⟨rfl, hb⟩
              replace bel := bel_go bel hb
              replace X := X.below hb
              replace hs := hs.below hb
              replace T := T.below hb
              clear hb
              obtain ⟨x0', x1', -, -⟩ := id X
              go_wp2_with fail
              refine (GO.out _ hs).mono ?_
              rintro r w5 ⟨rfl, hb⟩
              replace bel := bel_go bel hb
              replace X := X.below hb
              replace hs := hs.below hb
              replace T := T.below hb
              clear hb
              obtain ⟨x0', x1', -, -⟩ := id X
              go_wp2_with fail
              refine (CC.out _ T.s.f).mono ?_
              rintro r w6 ⟨rfl, hb⟩
              replace bel := bel_go bel hb
              replace X := X.below hb
              replace hs := hs.below hb
              replace T := T.below hb
              clear hb
              obtain ⟨x0', x1', -, -⟩ := id X
              go_wp2_with fail
              refine (CA.out _ T.s.f).mono ?_
              rintro r w7 ⟨rfl, hb⟩
              replace bel := bel_go bel hb
              replace X := X.below hb
              replace hs := hs.below hb
              replace T := T.below hb
              clear hb
              obtain ⟨x0', x1', -, -⟩ := id X
              go_wp2_with fail
              refine (CO.out _ T.s.f).mono ?_
              rintro r w8 ⟨rfl, hb⟩
              replace bel := bel_go bel hb
              replace X := X.below hb
              replace hs := hs.below hb
              replace T := T.below hb
              clear hb
              obtain ⟨x0', x1', -, -⟩ := id X
              go_wp2
              all_goals go_ret
              all_goals exact ⟨rfl, bel⟩
    · have hm' : decide (mode < 0) = true ∨ (decide (mode < 0) = false ∧ decide (5 < mode) = true) := by
        unfold modeB at hm; simp at hm ⊢; omega
      clear hb hf ho hy hg hd hm
      rcases hm' with h | ⟨h, h'⟩
      · have h2 : mode < 0 := by simpa using h
        go_wp2_with fail
        refine (RN.out _ T hs).mono ?_
        rintro r w2 ⟨rfl, hb⟩
        replace bel := bel_go bel hb
        replace X := X.below hb
        replace hs := hs.below hb
        replace T := T.below hb
        clear hb
        obtain ⟨x0', x1', -, -⟩ := id X
        go_wp2_with fail
        refine (EI.out _ T hs).mono ?_
        rintro r w3 ⟨rfl, hb⟩
        replace bel := bel_go bel hb
        replace X := X.below hb
        replace hs := hs.below hb
        replace T := T.below hb
        clear hb
        obtain ⟨x0', x1', -, -⟩ := id X
        go_wp2_with fail
        refine (ES.out _ hs).mono ?_
        rintro r w4 ⟨rfl, hb⟩
        replace bel := bel_go bel hb
        replace X := X.below hb
        replace hs := hs.below hb
        replace T := T.below hb
        clear hb
        obtain ⟨x0', x1', -, -⟩ := id X
        go_wp2_with fail
        refine (GO.out _ hs).mono ?_
        rintro r w5 ⟨rfl, hb⟩
        replace bel := bel_go bel hb
        replace X := X.below hb
        replace hs := hs.below hb
        replace T := T.below hb
        clear hb
        obtain ⟨x0', x1', -, -⟩ := id X
        go_wp2
        all_goals go_ret
        all_goals exact ⟨rfl, bel⟩
      · have h2 : ¬ mode < 0 := by simpa using h
        have h3 : 5 < mode := by simpa using h'
        go_wp2_with fail
        refine (RN.out _ T hs).mono ?_
        rintro r w2 ⟨rfl, hb⟩
        replace bel := bel_go bel hb
        replace X := X.below hb
        replace hs := hs.below hb
        replace T := T.below hb
        clear hb
        obtain ⟨x0', x1', -, -⟩ := id X
        go_wp2_with fail
        refine (EI.out _ T hs).mono ?_
        rintro r w3 ⟨rfl, hb⟩
        replace bel := bel_go bel hb
        replace X := X.below hb
        replace hs := hs.below hb
        replace T := T.below hb
        clear hb
        obtain ⟨x0', x1', -, -⟩ := id X
        go_wp2_with fail
        refine (ES.out _ hs).mono ?_
        rintro r w4 ⟨rfl, hb⟩
        replace bel := bel_go bel hb
        replace X := X.below hb
        replace hs := hs.below hb
        replace T := T.below hb
        clear hb
        obtain ⟨x0', x1', -, -⟩ := id X
        go_wp2_with fail
        refine (GO.out _ hs).mono ?_
        rintro r w5 ⟨rfl, hb⟩
        replace bel := bel_go bel hb
        replace X := X.below hb
        replace hs := hs.below hb
        replace T := T.below hb
        clear hb
        obtain ⟨x0', x1', -, -⟩ := id X
        go_wp2
        all_goals go_ret
        all_goals exact ⟨rfl, bel⟩
theorem fglaw_all (ca : Option Addr) (cc : Nat) (cs : List Int) (w : World) (hT : T3 w) (hs : Sl .u8 w (.slice ca cs.length cc) cs) (hby : ∀ i, 0 ≤ cs.getD i 0 ∧ cs.getD i 0 ≤ 255) :
    Calls Tryz.prog 5 #[.slice ca cs.length cc] w fun e w' => e = .returned (.bool true) ∧ Below w.heap.size w w' := by
  by_cases h : cs.length ≤ 1048576
  · exact fglaw ca cc cs w hT hs hby h
  · have hn : cs.length ≤ 9223372036854775807 := by obtain ⟨_, h1, h2, _⟩ := hs.cells; unfold maxLen at h2; omega
    have CB := hid (big_any ca cs.length cc w hn true (by simp; omega))
    clear hs hby h hn
    go_enter Tryz.func5, Tryz.ntmps5
    go_wp2_with fail
    refine CB.out.mono ?_
    rintro e w0 ⟨rfl, rfl⟩
    go_wp2
    go_ret
    exact ⟨rfl, Below.refl _ _⟩
end Fd
end Go.Proofs.YtpalbhkihheogaaGreatDoor
