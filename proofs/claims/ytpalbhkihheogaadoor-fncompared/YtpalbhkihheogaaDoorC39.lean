/-
  What is needed of CV, CX.
-/
import Derived.Test.YtpalbhkihheogaaDoorC35
import Derived.Test.YtpalbhkihheogaaDoorC36
set_option maxHeartbeats 16000000
set_option maxRecDepth 1000000
namespace Go.Proofs.YtpalbhkihheogaaDoor
set_option linter.unusedVariables false
set_option linter.unusedSimpArgs false
open Go.RowKit Go.Deep
namespace Fd
theorem drawCompare_any (ca : Option Addr) (cc : Nat) (cs : List Int) (w : World) (hs : Sl .u8 w (.slice ca cs.length cc) cs) (hby : ∀ i, 0 ≤ cs.getD i 0 ∧ cs.getD i 0 ≤ 255) (hl : cs.length ≤ 1048576) :
    Calls Tryd.prog 12 #[.slice ca cs.length cc] w fun e w' => ∃ fm a b : Int, e = .returned (.tuple #[.int .i64 fm, .int .u64 a, .int .u64 b]) ∧ 0 ≤ a ∧ a < 18446744073709551616 ∧ 0 ≤ b ∧ b < 18446744073709551616 ∧ Below w.heap.size w w' := by
  go_enter Tryd.func12, Tryd.ntmps12
  go_wp2_with fail
  refine (open_any ca cc cs _ hs hby hl).mono ?_
  rintro e w1 ⟨rfl, hr1, hb1⟩
  go_wp2_with fail
  refine (some_any w.heap.size ca cc cs _ hr1).mono ?_
  rintro e w2 ⟨fm, x, rfl, x0, x1, hr2, hg2⟩
  go_wp2_with fail
  refine (once_any w.heap.size ca cc cs 3 _ hr2 (by decide) (by decide)).mono ?_
  rintro e w3 ⟨v, rfl, hr3, hg3⟩
  have hg := grown_trans hg2 hg3
  cases v
  · go_wp2_with fail
    refine (fmt_spec fm _).mono ?_
    rintro e w4 ⟨rfl, rfl⟩
    cases hf : fmtB fm
    · go_wp2
      go_ret3
      exact ⟨fm, x, x, rfl, x0, x1, x0, x1, bel_rd hb1 hg (Nat.le_refl _)⟩
    · go_wp2_with fail
      refine (float_any fm hf w.heap.size ca cc cs _ hr3).mono ?_
      rintro e w5 ⟨y, rfl, y0, y1, hr5, hg5⟩
      go_wp2
      go_ret3
      exact ⟨fm, x, y, rfl, x0, x1, y0, y1, bel_rd hb1 (grown_trans hg hg5) (Nat.le_refl _)⟩
  · have SU := hid (spec_up fm x · x0 x1)
    have hu : 0 ≤ upF fm x ∧ upF fm x < 18446744073709551616 := by
      cases hok : okF fm x
      · rw [up_no hok]; omega
      · exact (up_ok hok x0 x1).2
    obtain ⟨U, hU⟩ : ∃ t, t = upF fm x := ⟨_, rfl⟩
    rw [← hU] at SU hu
    clear hU
    go_wp2_with fail
    refine (SU.out _).mono ?_
    rintro e w4 ⟨rfl, hb4⟩
    go_wp2
    go_ret3
    exact ⟨fm, x, U, rfl, x0, x1, hu.1, hu.2, bel_go (bel_rd hb1 hg (Nat.le_refl _)) hb4⟩
theorem wl_un (fm x : Int) : (Nm.wl (unI fm x)).length ≤ 200 := by
  cases hf : finB fm x
  · rw [un_no hf]; unfold Nm.wl; rw [show (0 : Int).natAbs = 0 from rfl, Nm.lim_zero]; decide
  · obtain ⟨G, L, z, E, Q, hz, hE, hQ, z0, z1, e0, e1, q0, q1, d0, d1, hG, hL, hd, hl2, hsh, hok, hl200⟩ := un_parts hf
    exact hl200
theorem cmA {fm a b : Int} (a0 : 0 ≤ a) (a1 : a < 18446744073709551616) (b0 : 0 ≤ b) (b1 : b < 18446744073709551616) (k : Int) (hk : k = cmpF fm a b) (h2 : k ≠ 2) :
    okF fm a = true ∧ okF fm b = true ∧ (((ordI fm a == ordI fm b) != (a == b)) = false) ∧ cmpF fm b a = -k ∧ (k = 0 ∨ (k = -1 ∧ ordI fm a < ordI fm b) ∨ (k = 1 ∧ ordI fm b < ordI fm a)) ∧ (finB fm a = true → finB fm b = true → wcmp (Nm.wn (unI fm a)) (Nm.wn (unI fm b)) (Nm.wl (unI fm a)) (Nm.wl (unI fm b)) = k) := by
  have na : numB fm a = true := by
    cases h : numB fm a
    · rw [cmp_no1 h] at hk; exact absurd hk h2
    · rfl
  have nb : numB fm b = true := by
    cases h : numB fm b
    · rw [cmp_no2 h] at hk; exact absurd hk h2
    · rfl
  have oa := num_ok na
  have ob := num_ok nb
  have hl : ∀ x, finB fm x = true → (Nm.wl (unI fm x)).length ≤ 200 := fun x hf => by
    obtain ⟨G, L, z, E, Q, hz, hE, hQ, z0, z1, e0, e1, q0, q1, d0, d1, hG, hL, hd, hl2, hsh, hok, hl200⟩ := un_parts hf
    exact hl200
  rcases okF_cases oa with ⟨rfl, ha⟩ | rfl
  · have hb : b < 4294967296 := by rcases okF_cases ob with ⟨-, h⟩ | h; exact h; cases h
    obtain ⟨p1, p2, p3, p4, p5, p6⟩ := cm32 a0 ha b0 hb k hk h2
    exact ⟨p1, p2, p3, p4, p5, fun fa fb => by rw [wcmp_int (hl a fa) (hl b fb)]; exact p6 fa fb⟩
  · obtain ⟨p1, p2, p3, p4, p5, p6⟩ := cm64 a0 a1 b0 b1 k hk h2
    exact ⟨p1, p2, p3, p4, p5, fun fa fb => by rw [wcmp_int (hl a fa) (hl b fb)]; exact p6 fa fb⟩
theorem clawN (ca : Option Addr) (cc : Nat) (cs : List Int) (w : World) (hT : Tab w) (hs : Sl .u8 w (.slice ca cs.length cc) cs) (hby : ∀ i, 0 ≤ cs.getD i 0 ∧ cs.getD i 0 ≤ 255) (hl : cs.length ≤ 1048576) :
    Calls Tryd.prog 3 #[.slice ca cs.length cc] w fun e w' => e = .returned (.bool true) ∧ Below w.heap.size w w' := by
  go_enter Tryd.func3, Tryd.ntmps3
  go_wp2_with fail
  refine (big_any ca cs.length cc _ (by omega) false (by simp; omega)).mono ?_
  rintro e w0 ⟨rfl, rfl⟩
  go_wp2_with fail
  refine (drawCompare_any ca cc cs _ hs hby hl).mono ?_
  rintro e w1 ⟨fm, a, b, rfl, a0, a1, b0, b1, bel1⟩
  clear hs hby hl
  have IC := hid (fun w' h => impl_cmp fm a b w' h a0 a1 b0 b1)
  have SC := hid (fun w' => spec_cmp fm a b w' a0 a1 b0 b1)
  obtain ⟨k, hk⟩ : ∃ k, k = cmpF fm a b := ⟨_, rfl⟩
  rw [← hk] at IC SC
  have q1 : (k != k) = false := by simp
  have r1 : (k == k) = true := by simp
  by_cases h2 : k = 2
  · clear hk
    subst h2
    go_wp2_with fail
    refine (IC.out _ (hT.below bel1)).mono ?_
    rintro r w2 ⟨rfl, hb2⟩
    have bel2 := bel_go bel1 hb2
    go_wp2_with fail
    refine (SC.out _).mono ?_
    rintro r w3 ⟨rfl, hb3⟩
    have bel3 := bel_go bel2 hb3
    go_wp2_with fail
    refine (SC.out _).mono ?_
    rintro r w4 ⟨rfl, hb4⟩
    have bel4 := bel_go bel3 hb4
    go_wp2
    go_ret
    exact ⟨rfl, bel4⟩
  · have q2 : (k == 2) = false := by simp; exact h2
    obtain ⟨oa, ob, p3, p4, p5, p6⟩ := cmA a0 a1 b0 b1 k hk h2
    have U1 := hid (fun w' h => units_impl fm a w' h a0 a1)
    have U2 := hid (fun w' h => units_impl fm b w' h b0 b1)
    have O1 := hid (fun w' h => impl_ord fm a w' h a0 a1)
    have O2 := hid (fun w' h => impl_ord fm b w' h b0 b1)
    have I2 := hid (fun w' h => impl_cmp fm b a w' h b0 b1 a0 a1)
    unfold Ans at U1 U2
    rw [oa] at O1
    rw [ob] at O2
    rw [p4] at I2
    have l1 : (Nm.wl (unI fm a)).length ≤ 140737488355328 := by have := wl_un fm a; omega
    have l2 : (Nm.wl (unI fm b)).length ≤ 140737488355328 := by have := wl_un fm b; omega
    obtain ⟨x, hx⟩ : ∃ t, t = ordI fm a := ⟨_, rfl⟩
    obtain ⟨y, hy⟩ : ∃ t, t = ordI fm b := ⟨_, rfl⟩
    obtain ⟨g1, hg1⟩ : ∃ t, t = Nm.wn (unI fm a) := ⟨_, rfl⟩
    obtain ⟨g2, hg2⟩ : ∃ t, t = Nm.wn (unI fm b) := ⟨_, rfl⟩
    obtain ⟨L1, hL1⟩ : ∃ t, t = Nm.wl (unI fm a) := ⟨_, rfl⟩
    obtain ⟨L2, hL2⟩ : ∃ t, t = Nm.wl (unI fm b) := ⟨_, rfl⟩
    obtain ⟨f1, hf1⟩ : ∃ t, t = finB fm a := ⟨_, rfl⟩
    obtain ⟨f2, hf2⟩ : ∃ t, t = finB fm b := ⟨_, rfl⟩
    rw [← hx] at O1 p3 p5
    rw [← hy] at O2 p3 p5
    rw [← hg1, ← hL1, ← hf1] at U1
    rw [← hg2, ← hL2, ← hf2] at U2
    rw [← hL1] at l1
    rw [← hL2] at l2
    rw [← hg1, ← hg2, ← hL1, ← hL2, ← hf1, ← hf2] at p6
    have hkw : wrap64 (-k) = -k := by unfold wrap64; omega
    have qk : (-k != -k) = false := by simp
    have WCM := hid (fun c c' p p' w' h h' => wcmp_impl g1 g2 p p' c c' L1 L2 w' h h' l1 l2)
    have P6 := hid p6
    clear p6 hx hy hg1 hg2 hL1 hL2 hf1 hf2 hk h2 oa ob p4
    have HF : Hid ((k == 0 || (decide (x < y) == decide (k < 0))) = true) := hid (by
      rcases p5 with h | ⟨h, h'⟩ | ⟨h, h'⟩
      · rw [h]; rfl
      · rw [decide_eq_true h', decide_eq_true (show k < 0 by omega)]; simp
      · rw [decide_eq_false (show ¬ x < y by omega), decide_eq_false (show ¬ k < 0 by omega)]; simp)
    clear p5
    have p3' : ((x == y) == (a == b)) = true := by simpa using p3
    cases f1
    · clear P6 WCM
      go_wp2_with fail
      refine (IC.out _ (hT.below bel1)).mono ?_
      rintro r w2 ⟨rfl, hb2⟩
      have bel2 := bel_go bel1 hb2
      go_wp2_with fail
      refine (SC.out _).mono ?_
      rintro r w3 ⟨rfl, hb3⟩
      have bel3 := bel_go bel2 hb3
      go_wp2_with fail
      refine (U1.out _ (hT.below bel3)).mono ?_
      rintro r w4 ⟨A1, c1, rfl, o1, hb4⟩
      have bel4 := bel_go bel3 hb4
      have X1 := (R2.new w4 (.bool g1) (.slice A1 L1.length c1) 30)
      replace o1 := o1.alloc (.cells #[.bool g1, .slice A1 L1.length c1] 30)
      replace bel4 := bel_al bel4 (.cells #[.bool g1, .slice A1 L1.length c1] 30)
      go_wp2_with fail
      refine (U2.out _ (hT.below bel4)).mono ?_
      rintro r w5 ⟨A2, c2, rfl, o2, hb5⟩
      have bel5 := bel_go bel4 hb5
      replace X1 := (X1.below hb5).alloc (.cells #[.bool g2, .slice A2 L2.length c2] 30)
      replace o1 := (o1.below hb5).alloc (.cells #[.bool g2, .slice A2 L2.length c2] 30)
      have X2 := (R2.new w5 (.bool g2) (.slice A2 L2.length c2) 30)
      replace o2 := o2.alloc (.cells #[.bool g2, .slice A2 L2.length c2] 30)
      replace bel5 := bel_al bel5 (.cells #[.bool g2, .slice A2 L2.length c2] 30)
      go_wp2_with fail
      refine (O1.out _ (hT.below bel5)).mono ?_
      rintro r w6 ⟨rfl, hb6⟩
      have bel6 := bel_go bel5 hb6
      replace X1 := X1.below hb6
      replace o1 := o1.below hb6
      replace X2 := X2.below hb6
      replace o2 := o2.below hb6
      go_wp2_with fail
      refine (O2.out _ (hT.below bel6)).mono ?_
      rintro r w7 ⟨rfl, hb7⟩
      have bel7 := bel_go bel6 hb7
      replace X1 := X1.below hb7
      replace o1 := o1.below hb7
      replace X2 := X2.below hb7
      replace o2 := o2.below hb7
      go_wp2_with fail
      refine (I2.out _ (hT.below bel7)).mono ?_
      rintro r w8 ⟨rfl, hb8⟩
      have bel8 := bel_go bel7 hb8
      replace X1 := X1.below hb8
      replace o1 := o1.below hb8
      replace X2 := X2.below hb8
      replace o2 := o2.below hb8
      go_wp2
      all_goals go_ret
      all_goals first | exact ⟨rfl, bel8⟩ | exact ⟨ret_bool HF.out, bel8⟩
    · cases f2
      · clear P6 WCM
        go_wp2_with fail
        refine (IC.out _ (hT.below bel1)).mono ?_
        rintro r w2 ⟨rfl, hb2⟩
        have bel2 := bel_go bel1 hb2
        go_wp2_with fail
        refine (SC.out _).mono ?_
        rintro r w3 ⟨rfl, hb3⟩
        have bel3 := bel_go bel2 hb3
        go_wp2_with fail
        refine (U1.out _ (hT.below bel3)).mono ?_
        rintro r w4 ⟨A1, c1, rfl, o1, hb4⟩
        have bel4 := bel_go bel3 hb4
        have X1 := (R2.new w4 (.bool g1) (.slice A1 L1.length c1) 30)
        replace o1 := o1.alloc (.cells #[.bool g1, .slice A1 L1.length c1] 30)
        replace bel4 := bel_al bel4 (.cells #[.bool g1, .slice A1 L1.length c1] 30)
        go_wp2_with fail
        refine (U2.out _ (hT.below bel4)).mono ?_
        rintro r w5 ⟨A2, c2, rfl, o2, hb5⟩
        have bel5 := bel_go bel4 hb5
        replace X1 := (X1.below hb5).alloc (.cells #[.bool g2, .slice A2 L2.length c2] 30)
        replace o1 := (o1.below hb5).alloc (.cells #[.bool g2, .slice A2 L2.length c2] 30)
        have X2 := (R2.new w5 (.bool g2) (.slice A2 L2.length c2) 30)
        replace o2 := o2.alloc (.cells #[.bool g2, .slice A2 L2.length c2] 30)
        replace bel5 := bel_al bel5 (.cells #[.bool g2, .slice A2 L2.length c2] 30)
        go_wp2_with fail
        refine (O1.out _ (hT.below bel5)).mono ?_
        rintro r w6 ⟨rfl, hb6⟩
        have bel6 := bel_go bel5 hb6
        replace X1 := X1.below hb6
        replace o1 := o1.below hb6
        replace X2 := X2.below hb6
        replace o2 := o2.below hb6
        go_wp2_with fail
        refine (O2.out _ (hT.below bel6)).mono ?_
        rintro r w7 ⟨rfl, hb7⟩
        have bel7 := bel_go bel6 hb7
        replace X1 := X1.below hb7
        replace o1 := o1.below hb7
        replace X2 := X2.below hb7
        replace o2 := o2.below hb7
        go_wp2_with fail
        refine (I2.out _ (hT.below bel7)).mono ?_
        rintro r w8 ⟨rfl, hb8⟩
        have bel8 := bel_go bel7 hb8
        replace X1 := X1.below hb8
        replace o1 := o1.below hb8
        replace X2 := X2.below hb8
        replace o2 := o2.below hb8
        go_wp2
        all_goals go_ret
        all_goals first | exact ⟨rfl, bel8⟩ | exact ⟨ret_bool HF.out, bel8⟩
      · have hw := P6.out rfl rfl
        rw [hw] at WCM
        clear P6 hw
        go_wp2_with fail
        refine (IC.out _ (hT.below bel1)).mono ?_
        rintro r w2 ⟨rfl, hb2⟩
        have bel2 := bel_go bel1 hb2
        go_wp2_with fail
        refine (SC.out _).mono ?_
        rintro r w3 ⟨rfl, hb3⟩
        have bel3 := bel_go bel2 hb3
        go_wp2_with fail
        refine (U1.out _ (hT.below bel3)).mono ?_
        rintro r w4 ⟨A1, c1, rfl, o1, hb4⟩
        have bel4 := bel_go bel3 hb4
        have X1 := (R2.new w4 (.bool g1) (.slice A1 L1.length c1) 30)
        replace o1 := o1.alloc (.cells #[.bool g1, .slice A1 L1.length c1] 30)
        replace bel4 := bel_al bel4 (.cells #[.bool g1, .slice A1 L1.length c1] 30)
        go_wp2_with fail
        refine (U2.out _ (hT.below bel4)).mono ?_
        rintro r w5 ⟨A2, c2, rfl, o2, hb5⟩
        have bel5 := bel_go bel4 hb5
        replace X1 := (X1.below hb5).alloc (.cells #[.bool g2, .slice A2 L2.length c2] 30)
        replace o1 := (o1.below hb5).alloc (.cells #[.bool g2, .slice A2 L2.length c2] 30)
        have X2 := (R2.new w5 (.bool g2) (.slice A2 L2.length c2) 30)
        replace o2 := o2.alloc (.cells #[.bool g2, .slice A2 L2.length c2] 30)
        replace bel5 := bel_al bel5 (.cells #[.bool g2, .slice A2 L2.length c2] 30)
        go_wp2_with fail
        refine (O1.out _ (hT.below bel5)).mono ?_
        rintro r w6 ⟨rfl, hb6⟩
        have bel6 := bel_go bel5 hb6
        replace X1 := X1.below hb6
        replace o1 := o1.below hb6
        replace X2 := X2.below hb6
        replace o2 := o2.below hb6
        go_wp2_with fail
        refine (O2.out _ (hT.below bel6)).mono ?_
        rintro r w7 ⟨rfl, hb7⟩
        have bel7 := bel_go bel6 hb7
        replace X1 := X1.below hb7
        replace o1 := o1.below hb7
        replace X2 := X2.below hb7
        replace o2 := o2.below hb7
        go_wp2_with fail
        refine (I2.out _ (hT.below bel7)).mono ?_
        rintro r w8 ⟨rfl, hb8⟩
        have bel8 := bel_go bel7 hb8
        replace X1 := X1.below hb8
        replace o1 := o1.below hb8
        replace X2 := X2.below hb8
        replace o2 := o2.below hb8
        obtain ⟨x10, x11, -, -⟩ := X1
        obtain ⟨x20, x21, -, -⟩ := X2
        go_wp2_with fail
        refine (WCM.out _ _ _ _ _ o1.sl o2.sl).mono ?_
        rintro r w9 ⟨rfl, hb9⟩
        have bel9 := bel_go bel8 hb9
        go_wp2
        all_goals go_ret
        all_goals first | exact ⟨rfl, bel9⟩ | exact ⟨ret_bool HF.out, bel9⟩
theorem clawN_all (ca : Option Addr) (cc : Nat) (cs : List Int) (w : World) (hT : Tab w) (hs : Sl .u8 w (.slice ca cs.length cc) cs) (hby : ∀ i, 0 ≤ cs.getD i 0 ∧ cs.getD i 0 ≤ 255) :
    Calls Tryd.prog 3 #[.slice ca cs.length cc] w fun e w' => e = .returned (.bool true) ∧ Below w.heap.size w w' := by
  by_cases h : cs.length ≤ 1048576
  · exact clawN ca cc cs w hT hs hby h
  · have hn : cs.length ≤ 9223372036854775807 := by obtain ⟨_, h1, h2, _⟩ := hs.cells; unfold maxLen at h2; omega
    have CB := hid (big_any ca cs.length cc w hn true (by simp; omega))
    clear hs hby h hn
    go_enter Tryd.func3, Tryd.ntmps3
    go_wp2_with fail
    refine CB.out.mono ?_
    rintro e w0 ⟨rfl, rfl⟩
    go_wp2
    go_ret
    exact ⟨rfl, Below.refl _ _⟩
end Fd
end Go.Proofs.YtpalbhkihheogaaDoor
