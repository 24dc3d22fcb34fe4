/-
  What is needed of CW.
-/
import Derived.Test.YtpalbhkihheogaaDoorC36
import Derived.Test.YtpalbhkihheogaaDoorC44
set_option maxHeartbeats 16000000
set_option maxRecDepth 1000000
namespace Go.Proofs.YtpalbhkihheogaaDoor
set_option linter.unusedVariables false
set_option linter.unusedSimpArgs false
open Go.RowKit Go.Deep
namespace Fd
theorem results_tmp4 {fn : Func} {t u v x : Tmp} (h : fn.results = #[.tmp t, .tmp u, .tmp v, .tmp x]) (tmps : Array Value) (P : Program) (w : World) :
    (results fn tmps).run P w = .ok (.tuple #[tmps.getD t undef, tmps.getD u undef, tmps.getD v undef, tmps.getD x undef]) w := by
  simp [results, h]
theorem CvB_bd (fr tt mode x : Int) : 0 ≤ CvB fr tt mode x ∧ CvB fr tt mode x < 18446744073709551616 := by
  have h : ∀ S v : Int, ∀ ng : Bool, 0 ≤ v → v < S → (S = 2147483648 ∨ S = 9223372036854775808) → 0 ≤ sgn S v ng ∧ sgn S v ng < 18446744073709551616 := by
    intro S v ng h0 h1 hS
    unfold sgn
    split <;> omega
  have g : ∀ (P I : Nat) (q S : Int) (ng : Bool) (a : Nat) (e : Int), 0 < I → (I : Int) < S → (S = 2147483648 ∨ S = 9223372036854775808) → 0 ≤ rdB P q I S mode ng a e ∧ rdB P q I S mode ng a e < 18446744073709551616 := by
    intro P I q S ng a e h0 h1 hS
    unfold rdB
    by_cases hf : Nm.flo P I (rdU P q mode ng a e) = true
    · rw [if_pos hf]
      have : Nm.flb P (rdU P q mode ng a e) < I := by
        unfold Nm.flo at hf
        simp only [Bool.and_eq_true, decide_eq_true_eq] at hf
        exact hf.2
      exact h _ _ _ (by omega) (by omega) hS
    · rw [if_neg hf]
      split
      · exact h _ _ _ (by omega) (by omega) hS
      · exact h _ _ _ (by omega) (by omega) hS
  unfold CvB
  split
  · split
    · exact h _ _ _ (by decide) (by unfold sgOf; split <;> decide) (by unfold sgOf; split <;> simp)
    · split
      · exact h _ _ _ (by unfold infOf; split <;> decide) (by unfold sgOf infOf; split <;> decide) (by unfold sgOf; split <;> simp)
      · split
        · unfold nanOf; split <;> decide
        · split
          · unfold nanOf; split <;> decide
          · split
            · exact g _ _ _ _ _ _ _ (by decide) (by decide) (by simp)
            · exact g _ _ _ _ _ _ _ (by decide) (by decide) (by simp)
  · decide
theorem drawConverted_any (ca : Option Addr) (cc : Nat) (cs : List Int) (w : World) (hs : Sl .u8 w (.slice ca cs.length cc) cs) (hby : ∀ i, 0 ≤ cs.getD i 0 ∧ cs.getD i 0 ≤ 255) (hl : cs.length ≤ 1048576) :
    Calls Tryd.prog 28 #[.slice ca cs.length cc] w fun e w' => ∃ fr tt mode x : Int, e = .returned (.tuple #[.int .i64 fr, .int .i64 tt, .int .i64 mode, .int .u64 x]) ∧ 0 ≤ x ∧ x < 18446744073709551616 ∧ Below w.heap.size w w' := by
  go_enter Tryd.func28, Tryd.ntmps28
  go_wp2_with fail
  refine (open_any ca cc cs _ hs hby hl).mono ?_
  rintro e w1 ⟨rfl, hr1, hb1⟩
  go_wp2_with fail
  refine (some_any w.heap.size ca cc cs _ hr1).mono ?_
  rintro e w2 ⟨fm, x, rfl, x0, x1, hr2, hg2⟩
  go_wp2_with fail
  refine (format_any w.heap.size ca cc cs _ hr2).mono ?_
  rintro e w3 ⟨tt, rfl, hf, hr3, hg3⟩
  clear hf
  go_wp2_with fail
  refine (once_any w.heap.size ca cc cs 30 _ hr3 (by decide) (by decide)).mono ?_
  rintro e w4 ⟨v, rfl, hr4, hg4⟩
  have hg := grown_trans (grown_trans hg2 hg3) hg4
  clear hg2 hg3 hg4 hr1 hr2 hr3 hs hby hl
  obtain ⟨t2, ht2⟩ : ∃ t2 : Int, t2 = tt := ⟨_, rfl⟩
  by_cases h64 : fm = 64
  · subst h64
    cases v
    · go_wp2_with fail
      refine (once_any w.heap.size ca cc cs 2 _ hr4 (by decide) (by decide)).mono ?_
      rintro e w5 ⟨u, rfl, hr5, hg5⟩
      cases u
      · go_wp2_with fail
        refine (TCn.off_any w.heap.size ca cc cs 0 5 _ hr5 (by decide) (by decide) (by decide)).mono ?_
        rintro e w6 ⟨md, rfl, hr6, hg6⟩
        go_wp2
        ((try simp only [Exit.inBlock, Exit.then]); refine bodyPost_ret (results_tmp4 rfl _ _ _) rfl ?_)
        exact ⟨_, _, _, _, rfl, x0, x1, bel_rd hb1 (grown_trans (grown_trans hg hg5) hg6) (Nat.le_refl _)⟩
      · go_wp2_with fail
        refine (float_any 32 (by decide) w.heap.size ca cc cs _ hr5).mono ?_
        rintro e w6 ⟨y, rfl, y0, y1, hr6, hg6⟩
        have CC := hid (fun w' => conv_spec 32 64 0 y w' y0 y1)
        have hb := CvB_bd 32 64 0 y
        obtain ⟨b, hb'⟩ : ∃ b, b = CvB 32 64 0 y := ⟨_, rfl⟩
        obtain ⟨f, hf'⟩ : ∃ b, b = CvF 32 64 0 y := ⟨_, rfl⟩
        obtain ⟨o, ho'⟩ : ∃ b, b = CvO 32 64 0 y := ⟨_, rfl⟩
        rw [← hb', ← hf', ← ho'] at CC
        rw [← hb'] at hb
        clear hb' hf' ho'
        go_wp2_with fail
        refine (CC.out _).mono ?_
        rintro e w7 ⟨rfl, hb7⟩
        have hr7 := hr6.below hb7
        have hg7 := grown_below hb7 (some w.heap.size)
        go_wp2_with fail
        refine (TCn.off_any w.heap.size ca cc cs 0 5 _ hr7 (by decide) (by decide) (by decide)).mono ?_
        rintro e w8 ⟨md, rfl, hr8, hg8⟩
        go_wp2_with fail
        refine (below_any w.heap.size ca cc cs 3 _ hr8 (by decide) (by decide)).mono ?_
        rintro e w9 ⟨u3, rfl, u0, u1, hr9, hg9⟩
        go_wp2
        ((try simp only [Exit.inBlock, Exit.then]); refine bodyPost_ret (results_tmp4 rfl _ _ _) rfl ?_)
        exact ⟨_, _, _, _, rfl, by first | omega | exact Int.emod_nonneg _ (by decide) | exact nn_wrap _, by first | omega | exact Int.emod_lt_of_pos _ (by decide) | exact (IntKind.wrap_u64 _ ▸ Int.emod_lt_of_pos _ (by decide)), bel_rd hb1 (grown_trans (grown_trans (grown_trans (grown_trans (grown_trans hg hg5) hg6) hg7) hg8) hg9) (Nat.le_refl _)⟩
    · go_wp2_with fail
      refine (once_any w.heap.size ca cc cs 2 _ hr4 (by decide) (by decide)).mono ?_
      rintro e w5 ⟨u, rfl, hr5, hg5⟩
      cases u
      · go_wp2_with fail
        refine (TCn.off_any w.heap.size ca cc cs 0 5 _ hr5 (by decide) (by decide) (by decide)).mono ?_
        rintro e w6 ⟨md, rfl, hr6, hg6⟩
        go_wp2
        ((try simp only [Exit.inBlock, Exit.then]); refine bodyPost_ret (results_tmp4 rfl _ _ _) rfl ?_)
        exact ⟨_, _, _, _, rfl, x0, x1, bel_rd hb1 (grown_trans (grown_trans hg hg5) hg6) (Nat.le_refl _)⟩
      · go_wp2_with fail
        refine (float_any 32 (by decide) w.heap.size ca cc cs _ hr5).mono ?_
        rintro e w6 ⟨y, rfl, y0, y1, hr6, hg6⟩
        have CC := hid (fun w' => conv_spec 32 64 0 y w' y0 y1)
        have hb := CvB_bd 32 64 0 y
        obtain ⟨b, hb'⟩ : ∃ b, b = CvB 32 64 0 y := ⟨_, rfl⟩
        obtain ⟨f, hf'⟩ : ∃ b, b = CvF 32 64 0 y := ⟨_, rfl⟩
        obtain ⟨o, ho'⟩ : ∃ b, b = CvO 32 64 0 y := ⟨_, rfl⟩
        rw [← hb', ← hf', ← ho'] at CC
        rw [← hb'] at hb
        clear hb' hf' ho'
        go_wp2_with fail
        refine (CC.out _).mono ?_
        rintro e w7 ⟨rfl, hb7⟩
        have hr7 := hr6.below hb7
        have hg7 := grown_below hb7 (some w.heap.size)
        go_wp2_with fail
        refine (TCn.off_any w.heap.size ca cc cs 0 5 _ hr7 (by decide) (by decide) (by decide)).mono ?_
        rintro e w8 ⟨md, rfl, hr8, hg8⟩
        go_wp2_with fail
        refine (below_any w.heap.size ca cc cs 3 _ hr8 (by decide) (by decide)).mono ?_
        rintro e w9 ⟨u3, rfl, u0, u1, hr9, hg9⟩
        go_wp2
        ((try simp only [Exit.inBlock, Exit.then]); refine bodyPost_ret (results_tmp4 rfl _ _ _) rfl ?_)
        exact ⟨_, _, _, _, rfl, by first | omega | exact Int.emod_nonneg _ (by decide) | exact nn_wrap _, by first | omega | exact Int.emod_lt_of_pos _ (by decide) | exact (IntKind.wrap_u64 _ ▸ Int.emod_lt_of_pos _ (by decide)), bel_rd hb1 (grown_trans (grown_trans (grown_trans (grown_trans (grown_trans hg hg5) hg6) hg7) hg8) hg9) (Nat.le_refl _)⟩
  · have e64 : (fm == 64) = false := by simp; exact h64
    cases v
    · go_wp2_with fail
      refine (TCn.off_any w.heap.size ca cc cs 0 5 _ hr4 (by decide) (by decide) (by decide)).mono ?_
      rintro e w6 ⟨md, rfl, hr6, hg6⟩
      go_wp2
      ((try simp only [Exit.inBlock, Exit.then]); refine bodyPost_ret (results_tmp4 rfl _ _ _) rfl ?_)
      exact ⟨_, _, _, _, rfl, x0, x1, bel_rd hb1 (grown_trans hg hg6) (Nat.le_refl _)⟩
    · go_wp2_with fail
      refine (TCn.off_any w.heap.size ca cc cs 0 5 _ hr4 (by decide) (by decide) (by decide)).mono ?_
      rintro e w6 ⟨md, rfl, hr6, hg6⟩
      go_wp2
      ((try simp only [Exit.inBlock, Exit.then]); refine bodyPost_ret (results_tmp4 rfl _ _ _) rfl ?_)
      exact ⟨_, _, _, _, rfl, x0, x1, bel_rd hb1 (grown_trans hg hg6) (Nat.le_refl _)⟩
theorem cvlaw (ca : Option Addr) (cc : Nat) (cs : List Int) (w : World) (hT : T3 w) (hs : Sl .u8 w (.slice ca cs.length cc) cs) (hby : ∀ i, 0 ≤ cs.getD i 0 ∧ cs.getD i 0 ≤ 255) (hl : cs.length ≤ 1048576) :
    Calls Tryd.prog 6 #[.slice ca cs.length cc] w fun e w' => e = .returned (.bool true) ∧ Below w.heap.size w w' := by
  go_enter Tryd.func6, Tryd.ntmps6
  go_wp2_with fail
  refine (big_any ca cs.length cc _ (by omega) false (by simp; omega)).mono ?_
  rintro e w0 ⟨rfl, rfl⟩
  go_wp2_with fail
  refine (drawConverted_any ca cc cs _ hs hby hl).mono ?_
  rintro e w1 ⟨fr, tt, mode, x, rfl, x0, x1, bel1⟩
  clear hs hby hl
  have CI := hid (fun w' h => conv_impl fr tt mode x w' h x0 x1)
  have CS := hid (fun w' => conv_spec fr tt mode x w' x0 x1)
  obtain ⟨b, hb⟩ : ∃ b, b = CvB fr tt mode x := ⟨_, rfl⟩
  obtain ⟨f, hf⟩ : ∃ f, f = CvF fr tt mode x := ⟨_, rfl⟩
  obtain ⟨o, ho⟩ : ∃ o, o = CvO fr tt mode x := ⟨_, rfl⟩
  rw [← hb, ← hf, ← ho] at CS CI
  have q1 : (b != b) = false := by simp
  have q2 : (f != f) = false := by simp
  have r1 : (b == b) = true := by simp
  have r2 : (f == f) = true := by simp
  clear hb hf
  cases o
  · clear ho
    go_wp2_with fail
    refine (CI.out _ (hT.below bel1)).mono ?_
    rintro r w2 ⟨rfl, hb2⟩
    have bel2 := bel_go bel1 hb2
    go_wp2_with fail
    refine (CS.out _).mono ?_
    rintro r w3 ⟨rfl, hb3⟩
    have bel3 := bel_go bel2 hb3
    go_wp2
    go_ret
    exact ⟨rfl, bel3⟩
  · by_cases h32 : fr = 32
    · subst h32
      have hmd : modeB mode = true := by unfold CvO at ho; simp at ho; exact ho.1.2
      have hx1 : x < 4294967296 := by unfold CvO at ho; simp at ho; have := ho.2; unfold okF at this; simp at this; exact this
      clear ho
      obtain ⟨W, hW⟩ : ∃ W, W = CvB 32 64 mode x := ⟨_, rfl⟩
      obtain ⟨o1, o2, u0, u1, g0, hN, hM⟩ := cv_back x0 hx1 mode hmd W hW
      have C3 := hid (fun w' h => conv_impl 32 64 mode x w' h x0 x1)
      have C4 := hid (fun w' h => conv_impl 64 32 mode W w' h u0 u1)
      have C5 := hid (fun w' h => impl_cls 32 x w' h x0 x1)
      rw [o1, ← hW] at C3
      rw [o2, g0] at C4
      obtain ⟨G, hG⟩ : ∃ G, G = CvF 32 64 mode x := ⟨_, rfl⟩
      obtain ⟨Z, hZ⟩ : ∃ Z, Z = CvB 64 32 mode W := ⟨_, rfl⟩
      obtain ⟨c, hc⟩ : ∃ c, c = cls 32 x := ⟨_, rfl⟩
      rw [← hG] at C3 hN hM
      rw [← hZ] at C4 hN hM
      rw [← hc] at C5 hN hM
      clear hG hZ hc o1 o2 g0 hW hmd
      by_cases hc : c = 4 ∨ c = 5
      · obtain ⟨y1, y2, y3⟩ := hN hc
        clear hN hM
        subst y1
        subst y2
        have N1 := hid (fun w' h => impl_nan64 w' h)
        have N2 := hid (fun w' h => impl_nan32 w' h)
        rcases hc with rfl | rfl
        · have y4 : G = 0 := y3
          clear y3
          subst y4
          go_wp2_with fail
          refine (CI.out _ (hT.below bel1)).mono ?_
          rintro r w2 ⟨rfl, hb2⟩
          have bel2 := bel_go bel1 hb2
          go_wp2_with fail
          refine (CS.out _).mono ?_
          rintro r w3 ⟨rfl, hb3⟩
          have bel3 := bel_go bel2 hb3
          go_wp2_with fail
          refine (C3.out _ (hT.below bel3)).mono ?_
          rintro r w4 ⟨rfl, hb4⟩
          have bel4 := bel_go bel3 hb4
          go_wp2_with fail
          refine (C4.out _ (hT.below bel4)).mono ?_
          rintro r w5 ⟨rfl, hb5⟩
          have bel5 := bel_go bel4 hb5
          go_wp2_with fail
          refine (C5.out _ (hT.below bel5).s.f).mono ?_
          rintro r w6 ⟨rfl, hb6⟩
          have bel6 := bel_go bel5 hb6
          go_wp2_with fail
          refine (N1.out _ (hT.below bel6).s.f).mono ?_
          rintro r w7 ⟨rfl, hb7⟩
          have bel7 := bel_go bel6 hb7
          go_wp2_with fail
          refine (N2.out _ (hT.below bel7).s.f).mono ?_
          rintro r w8 ⟨rfl, hb8⟩
          have bel8 := bel_go bel7 hb8
          go_wp2
          go_ret
          exact ⟨rfl, bel8⟩
        · have y4 : G = 8 := y3
          clear y3
          subst y4
          go_wp2_with fail
          refine (CI.out _ (hT.below bel1)).mono ?_
          rintro r w2 ⟨rfl, hb2⟩
          have bel2 := bel_go bel1 hb2
          go_wp2_with fail
          refine (CS.out _).mono ?_
          rintro r w3 ⟨rfl, hb3⟩
          have bel3 := bel_go bel2 hb3
          go_wp2_with fail
          refine (C3.out _ (hT.below bel3)).mono ?_
          rintro r w4 ⟨rfl, hb4⟩
          have bel4 := bel_go bel3 hb4
          go_wp2_with fail
          refine (C4.out _ (hT.below bel4)).mono ?_
          rintro r w5 ⟨rfl, hb5⟩
          have bel5 := bel_go bel4 hb5
          go_wp2_with fail
          refine (C5.out _ (hT.below bel5).s.f).mono ?_
          rintro r w6 ⟨rfl, hb6⟩
          have bel6 := bel_go bel5 hb6
          go_wp2_with fail
          refine (N1.out _ (hT.below bel6).s.f).mono ?_
          rintro r w7 ⟨rfl, hb7⟩
          have bel7 := bel_go bel6 hb7
          go_wp2_with fail
          refine (N2.out _ (hT.below bel7).s.f).mono ?_
          rintro r w8 ⟨rfl, hb8⟩
          have bel8 := bel_go bel7 hb8
          go_wp2
          go_ret
          exact ⟨rfl, bel8⟩
      · obtain ⟨y1, y2⟩ := hM (by omega)
        clear hN hM
        subst y1
        subst y2
        have c4 : (c == 4) = false := by simp; omega
        have c5 : (c == 5) = false := by simp; omega
        have r3 : (Z == Z) = true := by simp
        clear hc
        go_wp2_with fail
        refine (CI.out _ (hT.below bel1)).mono ?_
        rintro r w2 ⟨rfl, hb2⟩
        have bel2 := bel_go bel1 hb2
        go_wp2_with fail
        refine (CS.out _).mono ?_
        rintro r w3 ⟨rfl, hb3⟩
        have bel3 := bel_go bel2 hb3
        go_wp2_with fail
        refine (C3.out _ (hT.below bel3)).mono ?_
        rintro r w4 ⟨rfl, hb4⟩
        have bel4 := bel_go bel3 hb4
        go_wp2_with fail
        refine (C4.out _ (hT.below bel4)).mono ?_
        rintro r w5 ⟨rfl, hb5⟩
        have bel5 := bel_go bel4 hb5
        go_wp2_with fail
        refine (C5.out _ (hT.below bel5).s.f).mono ?_
        rintro r w6 ⟨rfl, hb6⟩
        have bel6 := bel_go bel5 hb6
        go_wp2
        go_ret
        exact ⟨rfl, bel6⟩
    · have e32 : (fr != 32) = true := by simp; exact h32
      clear ho
      go_wp2_with fail
      refine (CI.out _ (hT.below bel1)).mono ?_
      rintro r w2 ⟨rfl, hb2⟩
      have bel2 := bel_go bel1 hb2
      go_wp2_with fail
      refine (CS.out _).mono ?_
      rintro r w3 ⟨rfl, hb3⟩
      have bel3 := bel_go bel2 hb3
      go_wp2
      go_ret
      exact ⟨rfl, bel3⟩
theorem cvlaw_all (ca : Option Addr) (cc : Nat) (cs : List Int) (w : World) (hT : T3 w) (hs : Sl .u8 w (.slice ca cs.length cc) cs) (hby : ∀ i, 0 ≤ cs.getD i 0 ∧ cs.getD i 0 ≤ 255) :
    Calls Tryd.prog 6 #[.slice ca cs.length cc] w fun e w' => e = .returned (.bool true) ∧ Below w.heap.size w w' := by
  by_cases h : cs.length ≤ 1048576
  · exact cvlaw ca cc cs w hT hs hby h
  · have hn : cs.length ≤ 9223372036854775807 := by obtain ⟨_, h1, h2, _⟩ := hs.cells; unfold maxLen at h2; omega
    have CB := hid (big_any ca cs.length cc w hn true (by simp; omega))
    clear hs hby h hn
    go_enter Tryd.func6, Tryd.ntmps6
    go_wp2_with fail
    refine CB.out.mono ?_
    rintro e w0 ⟨rfl, rfl⟩
    go_wp2
    go_ret
    exact ⟨rfl, Below.refl _ _⟩
end Fd
end Go.Proofs.YtpalbhkihheogaaDoor
