/-
  What is needed of ZMd.
-/
import Derived.Test.YtbhfbaogmkgmiaaGreatDoorC53
import Derived.Test.YtbhfbaogmkgmiaaGreatDoorC61
import Derived.Test.YtbhfbaogmkgmiaaGreatDoorC67
import Derived.Test.YtbhfbaogmkgmiaaGreatDoorC69
set_option maxHeartbeats 16000000
set_option maxRecDepth 1000000
namespace Go.Proofs.YtbhfbaogmkgmiaaGreatDoor
set_option linter.unusedVariables false
set_option linter.unusedSimpArgs false
open Go.RowKit Go.Deep
namespace Fd
theorem mds_any {fm : Int} (hfm : fmtB fm = true) (z e : Int) (hO : RdO fm 0 (Nm.wn z) (Nm.wl z) e = true) (d u t n a s : Int) (hd : d = RdB fm 3 (Nm.wn z) (Nm.wl z) e) (hu : u = RdB fm 2 (Nm.wn z) (Nm.wl z) e) (ht : t = RdB fm 1 (Nm.wn z) (Nm.wl z) e) (hn : n = RdB fm 0 (Nm.wn z) (Nm.wl z) e) (ha : a = RdB fm 4 (Nm.wn z) (Nm.wl z) e) (hs : s = RdB fm 5 (Nm.wn z) (Nm.wl z) e) :
    t = (if z < 0 then u else d) ∧ (n = a ∨ n = s) ∧ (a ≠ s → s = t ∧ (finB fm a = true → finB fm s = true → (offD fm a z e).natAbs = (offD fm s z e).natAbs)) := by
  rcases fmt_cases hfm with rfl | rfl
  · exact mds32 z e hO d u t n a s hd hu ht hn ha hs
  · exact mds64 z e hO d u t n a s hd hu ht hn ha hs
theorem mdlaw (ca : Option Addr) (cc : Nat) (cs : List Int) (w : World) (hT : T3 w) (hs : Sl .u8 w (.slice ca cs.length cc) cs) (hby : ∀ i, 0 ≤ cs.getD i 0 ∧ cs.getD i 0 ≤ 255) (hl : cs.length ≤ 1048576) :
    Calls Tryz.prog 3 #[.slice ca cs.length cc] w fun e w' => e = .returned (.bool true) ∧ Below w.heap.size w w' := by
  go_enter Tryz.func3, Tryz.ntmps3
  go_wp2_with fail
  refine (big_any ca cs.length cc _ (by omega) false (by simp; omega)).mono ?_
  rintro r w0 ⟨rfl, rfl⟩
  go_wp2_with fail
  refine (drawRounded_x ca cc cs _ hs hby hl).mono ?_
  rintro r w1 ⟨fm, mode, ng, L0, a, c, e, rfl, hfm, hL, hd, sL, bel⟩
  have T := hT.below bel
  clear hby hl
  clear hs hT
  have hL' : L0.length ≤ 1048576 := by omega
  have GO := hid (fun w' h => goes_any fm ng L0 e a c w' h hd hL')
  have C3 := hid (fun w' h h' => round_any fm 3 ng L0 e a c w' h h' hd hL')
  have C2 := hid (fun w' h h' => round_any fm 2 ng L0 e a c w' h h' hd hL')
  have C1 := hid (fun w' h h' => round_any fm 1 ng L0 e a c w' h h' hd hL')
  have C0 := hid (fun w' h h' => round_any fm 0 ng L0 e a c w' h h' hd hL')
  have C4 := hid (fun w' h h' => round_any fm 4 ng L0 e a c w' h h' hd hL')
  have C5 := hid (fun w' h h' => round_any fm 5 ng L0 e a c w' h h' hd hL')
  by_cases hg : RdO fm 0 ng L0 e = true
  rotate_left
  · replace hg : RdO fm 0 ng L0 e = false := by simpa using hg
    obtain ⟨x3, h_x3⟩ : ∃ q, q = RdB fm 3 ng L0 e := ⟨_, rfl⟩
    obtain ⟨f3, h_f3⟩ : ∃ q, q = RdF fm 3 ng L0 e := ⟨_, rfl⟩
    rw [← h_x3, ← h_f3] at C3
    clear h_x3 h_f3
    obtain ⟨x2, h_x2⟩ : ∃ q, q = RdB fm 2 ng L0 e := ⟨_, rfl⟩
    obtain ⟨f2, h_f2⟩ : ∃ q, q = RdF fm 2 ng L0 e := ⟨_, rfl⟩
    rw [← h_x2, ← h_f2] at C2
    clear h_x2 h_f2
    obtain ⟨x1, h_x1⟩ : ∃ q, q = RdB fm 1 ng L0 e := ⟨_, rfl⟩
    obtain ⟨f1, h_f1⟩ : ∃ q, q = RdF fm 1 ng L0 e := ⟨_, rfl⟩
    rw [← h_x1, ← h_f1] at C1
    clear h_x1 h_f1
    obtain ⟨x0, h_x0⟩ : ∃ q, q = RdB fm 0 ng L0 e := ⟨_, rfl⟩
    obtain ⟨f0, h_f0⟩ : ∃ q, q = RdF fm 0 ng L0 e := ⟨_, rfl⟩
    rw [← h_x0, ← h_f0] at C0
    clear h_x0 h_f0
    obtain ⟨x4, h_x4⟩ : ∃ q, q = RdB fm 4 ng L0 e := ⟨_, rfl⟩
    obtain ⟨f4, h_f4⟩ : ∃ q, q = RdF fm 4 ng L0 e := ⟨_, rfl⟩
    rw [← h_x4, ← h_f4] at C4
    clear h_x4 h_f4
    obtain ⟨x5, h_x5⟩ : ∃ q, q = RdB fm 5 ng L0 e := ⟨_, rfl⟩
    obtain ⟨f5, h_f5⟩ : ∃ q, q = RdF fm 5 ng L0 e := ⟨_, rfl⟩
    rw [← h_x5, ← h_f5] at C5
    clear h_x5 h_f5
    rw [hg] at GO
    clear hg hd
    replace T := T.below (al_b _ (.cells #[.bool ng, .slice a L0.length c] 26))
    replace sL := sL.below (al_b _ (.cells #[.bool ng, .slice a L0.length c] 26))
    replace bel := bel_al bel (.cells #[.bool ng, .slice a L0.length c] 26)
    have Bw := R2.new w1 (.bool ng) (.slice a L0.length c) 26
    obtain ⟨kw0, kw1, -, -⟩ := id Bw
    go_wp2_with fail
    refine (C3.out _ T sL).mono ?_
    rintro r w2 ⟨rfl, hb⟩
    clear kw0 kw1
    replace bel := bel_go bel hb
    replace T := T.below hb
    replace sL := sL.below hb
    replace Bw := Bw.below hb
    clear hb
    obtain ⟨kw0, kw1, -, -⟩ := id Bw
    go_wp2_with fail
    refine (C2.out _ T sL).mono ?_
    rintro r w3 ⟨rfl, hb⟩
    clear kw0 kw1
    replace bel := bel_go bel hb
    replace T := T.below hb
    replace sL := sL.below hb
    replace Bw := Bw.below hb
    clear hb
    obtain ⟨kw0, kw1, -, -⟩ := id Bw
    go_wp2_with fail
    refine (C1.out _ T sL).mono ?_
    rintro r w4 ⟨rfl, hb⟩
    clear kw0 kw1
    replace bel := bel_go bel hb
    replace T := T.below hb
    replace sL := sL.below hb
    replace Bw := Bw.below hb
    clear hb
    obtain ⟨kw0, kw1, -, -⟩ := id Bw
    go_wp2_with fail
    refine (C0.out _ T sL).mono ?_
    rintro r w5 ⟨rfl, hb⟩
    clear kw0 kw1
    replace bel := bel_go bel hb
    replace T := T.below hb
    replace sL := sL.below hb
    replace Bw := Bw.below hb
    clear hb
    obtain ⟨kw0, kw1, -, -⟩ := id Bw
    go_wp2_with fail
    refine (C4.out _ T sL).mono ?_
    rintro r w6 ⟨rfl, hb⟩
    clear kw0 kw1
    replace bel := bel_go bel hb
    replace T := T.below hb
    replace sL := sL.below hb
    replace Bw := Bw.below hb
    clear hb
    obtain ⟨kw0, kw1, -, -⟩ := id Bw
    go_wp2_with fail
    refine (C5.out _ T sL).mono ?_
    rintro r w7 ⟨rfl, hb⟩
    clear kw0 kw1
    replace bel := bel_go bel hb
    replace T := T.below hb
    replace sL := sL.below hb
    replace Bw := Bw.below hb
    clear hb
    obtain ⟨kw0, kw1, -, -⟩ := id Bw
    go_wp2_with fail
    refine (GO.out _ sL).mono ?_
    rintro r w8 ⟨rfl, hb⟩
    clear kw0 kw1
    replace bel := bel_go bel hb
    replace T := T.below hb
    replace sL := sL.below hb
    replace Bw := Bw.below hb
    clear hb
    obtain ⟨kw0, kw1, -, -⟩ := id Bw
    go_wp2
    all_goals go_ret
    all_goals exact ⟨rfl, bel⟩
  · have hok : okB ng L0 = true := by have := hg; unfold RdO at this; simp at this; exact this.1.2
    have he : -10000 ≤ e ∧ e ≤ 10000 := by have := hg; unfold RdO inZ at this; simp at this; omega
    obtain ⟨v1, v2⟩ := wl_of_ok hd hok
    obtain ⟨z, hz⟩ : ∃ z, z = Nm.wv ng L0 := ⟨_, rfl⟩
    rw [← hz] at v1 v2
    subst v1 v2
    have hlz : (Nm.wl z).length ≤ 200 := (okB_nz hok).2
    have OF := hid (fun x (h : 0 ≤ x ∧ x < 18446744073709551616) w' h1 h2 => off_x hfm x z e a c w' h1 h.1 h.2 hlz h2 he.1 he.2)
    rw [hg] at GO
    have MD := hid (mds_any hfm z e hg)
    have A0 := hid (RdB_bd fm 4 z e)
    have S0 := hid (RdB_bd fm 5 z e)
    obtain ⟨x3, h_x3⟩ : ∃ q, q = RdB fm 3 (Nm.wn z) (Nm.wl z) e := ⟨_, rfl⟩
    obtain ⟨f3, h_f3⟩ : ∃ q, q = RdF fm 3 (Nm.wn z) (Nm.wl z) e := ⟨_, rfl⟩
    rw [← h_x3, ← h_f3] at C3
    clear h_f3
    obtain ⟨x2, h_x2⟩ : ∃ q, q = RdB fm 2 (Nm.wn z) (Nm.wl z) e := ⟨_, rfl⟩
    obtain ⟨f2, h_f2⟩ : ∃ q, q = RdF fm 2 (Nm.wn z) (Nm.wl z) e := ⟨_, rfl⟩
    rw [← h_x2, ← h_f2] at C2
    clear h_f2
    obtain ⟨x1, h_x1⟩ : ∃ q, q = RdB fm 1 (Nm.wn z) (Nm.wl z) e := ⟨_, rfl⟩
    obtain ⟨f1, h_f1⟩ : ∃ q, q = RdF fm 1 (Nm.wn z) (Nm.wl z) e := ⟨_, rfl⟩
    rw [← h_x1, ← h_f1] at C1
    clear h_f1
    obtain ⟨x0, h_x0⟩ : ∃ q, q = RdB fm 0 (Nm.wn z) (Nm.wl z) e := ⟨_, rfl⟩
    obtain ⟨f0, h_f0⟩ : ∃ q, q = RdF fm 0 (Nm.wn z) (Nm.wl z) e := ⟨_, rfl⟩
    rw [← h_x0, ← h_f0] at C0
    clear h_f0
    obtain ⟨x4, h_x4⟩ : ∃ q, q = RdB fm 4 (Nm.wn z) (Nm.wl z) e := ⟨_, rfl⟩
    obtain ⟨f4, h_f4⟩ : ∃ q, q = RdF fm 4 (Nm.wn z) (Nm.wl z) e := ⟨_, rfl⟩
    rw [← h_x4, ← h_f4] at C4
    clear h_f4
    obtain ⟨x5, h_x5⟩ : ∃ q, q = RdB fm 5 (Nm.wn z) (Nm.wl z) e := ⟨_, rfl⟩
    obtain ⟨f5, h_f5⟩ : ∃ q, q = RdF fm 5 (Nm.wn z) (Nm.wl z) e := ⟨_, rfl⟩
    rw [← h_x5, ← h_f5] at C5
    clear h_f5
    rw [← h_x4] at A0
    rw [← h_x5] at S0
    obtain ⟨k1, k2, k3⟩ := MD.out x3 x2 x1 x0 x4 x5 h_x3 h_x2 h_x1 h_x0 h_x4 h_x5
    clear MD h_x3 h_x2 h_x1 h_x0 h_x4 h_x5 hz hok hg hL hL' hd he hlz
    have OA := hid (fun w' h1 h2 => OF.out x4 A0.out w' h1 h2)
    have OS := hid (fun w' h1 h2 => OF.out x5 S0.out w' h1 h2)
    clear OF A0 S0
    have hzn : (Nm.wn z = true ∧ x1 = x2) ∨ (Nm.wn z = false ∧ x1 = x3) := by
      by_cases hc : z < 0
      · left; exact ⟨by unfold Nm.wn; exact decide_eq_true hc, by rw [k1, if_pos hc]⟩
      · right; exact ⟨by unfold Nm.wn; exact decide_eq_false hc, by rw [k1, if_neg hc]⟩
    replace k3 := hid k3
    clear k1
    obtain ⟨gz, h_gz⟩ : ∃ q, q = Nm.wn z := ⟨_, rfl⟩
    obtain ⟨Z, h_Z⟩ : ∃ q, q = Nm.wl z := ⟨_, rfl⟩
    rw [← h_gz, ← h_Z] at C3 C2 C1 C0 C4 C5 GO OA OS ⊢
    rw [← h_Z] at sL
    rw [← h_gz] at hzn
    clear h_gz h_Z
    by_cases has : x4 = x5
    · have hn : x0 = x5 := k2.elim (fun h => h.trans has) id
      rw [hn] at C0
      rw [has] at C4
      clear k2 k3 has hn
      rcases hzn with ⟨hg1, h12⟩ | ⟨hg1, h13⟩
      · subst hg1
        rw [h12] at C1
        clear h12
        have ne_x2 : (x2 != x2) = false := by simp
        have eq_x2 : (x2 == x2) = true := by simp
        have ne_x5 : (x5 != x5) = false := by simp
        have eq_x5 : (x5 == x5) = true := by simp
        clear OA OS
        replace T := T.below (al_b _ (.cells #[.bool true, .slice a Z.length c] 26))
        replace sL := sL.below (al_b _ (.cells #[.bool true, .slice a Z.length c] 26))
        replace bel := bel_al bel (.cells #[.bool true, .slice a Z.length c] 26)
        have Bw := R2.new w1 (.bool true) (.slice a Z.length c) 26
        obtain ⟨kw0, kw1, -, -⟩ := id Bw
        go_wp2_with fail
        refine (C3.out _ T sL).mono ?_
        rintro r w2 ⟨rfl, hb⟩
        clear kw0 kw1
        replace bel := bel_go bel hb
        replace T := T.below hb
        replace sL := sL.below hb
        replace Bw := Bw.below hb
        clear hb
        obtain ⟨kw0, kw1, -, -⟩ := id Bw
        go_wp2_with fail
        refine (C2.out _ T sL).mono ?_
        rintro r w3 ⟨rfl, hb⟩
        clear kw0 kw1
        replace bel := bel_go bel hb
        replace T := T.below hb
        replace sL := sL.below hb
        replace Bw := Bw.below hb
        clear hb
        obtain ⟨kw0, kw1, -, -⟩ := id Bw
        go_wp2_with fail
        refine (C1.out _ T sL).mono ?_
        rintro r w4 ⟨rfl, hb⟩
        clear kw0 kw1
        replace bel := bel_go bel hb
        replace T := T.below hb
        replace sL := sL.below hb
        replace Bw := Bw.below hb
        clear hb
        obtain ⟨kw0, kw1, -, -⟩ := id Bw
        go_wp2_with fail
        refine (C0.out _ T sL).mono ?_
        rintro r w5 ⟨rfl, hb⟩
        clear kw0 kw1
        replace bel := bel_go bel hb
        replace T := T.below hb
        replace sL := sL.below hb
        replace Bw := Bw.below hb
        clear hb
        obtain ⟨kw0, kw1, -, -⟩ := id Bw
        go_wp2_with fail
        refine (C4.out _ T sL).mono ?_
        rintro r w6 ⟨rfl, hb⟩
        clear kw0 kw1
        replace bel := bel_go bel hb
        replace T := T.below hb
        replace sL := sL.below hb
        replace Bw := Bw.below hb
        clear hb
        obtain ⟨kw0, kw1, -, -⟩ := id Bw
        go_wp2_with fail
        refine (C5.out _ T sL).mono ?_
        rintro r w7 ⟨rfl, hb⟩
        clear kw0 kw1
        replace bel := bel_go bel hb
        replace T := T.below hb
        replace sL := sL.below hb
        replace Bw := Bw.below hb
        clear hb
        obtain ⟨kw0, kw1, -, -⟩ := id Bw
        go_wp2_with fail
        refine (GO.out _ sL).mono ?_
        rintro r w8 ⟨rfl, hb⟩
        clear kw0 kw1
        replace bel := bel_go bel hb
        replace T := T.below hb
        replace sL := sL.below hb
        replace Bw := Bw.below hb
        clear hb
        obtain ⟨kw0, kw1, -, -⟩ := id Bw
        go_wp2
        all_goals go_ret
        all_goals exact ⟨rfl, bel⟩
      · subst hg1
        rw [h13] at C1
        clear h13
        have ne_x3 : (x3 != x3) = false := by simp
        have eq_x3 : (x3 == x3) = true := by simp
        have ne_x5 : (x5 != x5) = false := by simp
        have eq_x5 : (x5 == x5) = true := by simp
        clear OA OS
        replace T := T.below (al_b _ (.cells #[.bool false, .slice a Z.length c] 26))
        replace sL := sL.below (al_b _ (.cells #[.bool false, .slice a Z.length c] 26))
        replace bel := bel_al bel (.cells #[.bool false, .slice a Z.length c] 26)
        have Bw := R2.new w1 (.bool false) (.slice a Z.length c) 26
        obtain ⟨kw0, kw1, -, -⟩ := id Bw
        go_wp2_with fail
        refine (C3.out _ T sL).mono ?_
        rintro r w2 ⟨rfl, hb⟩
        clear kw0 kw1
        replace bel := bel_go bel hb
        replace T := T.below hb
        replace sL := sL.below hb
        replace Bw := Bw.below hb
        clear hb
        obtain ⟨kw0, kw1, -, -⟩ := id Bw
        go_wp2_with fail
        refine (C2.out _ T sL).mono ?_
        rintro r w3 ⟨rfl, hb⟩
        clear kw0 kw1
        replace bel := bel_go bel hb
        replace T := T.below hb
        replace sL := sL.below hb
        replace Bw := Bw.below hb
        clear hb
        obtain ⟨kw0, kw1, -, -⟩ := id Bw
        go_wp2_with fail
        refine (C1.out _ T sL).mono ?_
        rintro r w4 ⟨rfl, hb⟩
        clear kw0 kw1
        replace bel := bel_go bel hb
        replace T := T.below hb
        replace sL := sL.below hb
        replace Bw := Bw.below hb
        clear hb
        obtain ⟨kw0, kw1, -, -⟩ := id Bw
        go_wp2_with fail
        refine (C0.out _ T sL).mono ?_
        rintro r w5 ⟨rfl, hb⟩
        clear kw0 kw1
        replace bel := bel_go bel hb
        replace T := T.below hb
        replace sL := sL.below hb
        replace Bw := Bw.below hb
        clear hb
        obtain ⟨kw0, kw1, -, -⟩ := id Bw
        go_wp2_with fail
        refine (C4.out _ T sL).mono ?_
        rintro r w6 ⟨rfl, hb⟩
        clear kw0 kw1
        replace bel := bel_go bel hb
        replace T := T.below hb
        replace sL := sL.below hb
        replace Bw := Bw.below hb
        clear hb
        obtain ⟨kw0, kw1, -, -⟩ := id Bw
        go_wp2_with fail
        refine (C5.out _ T sL).mono ?_
        rintro r w7 ⟨rfl, hb⟩
        clear kw0 kw1
        replace bel := bel_go bel hb
        replace T := T.below hb
        replace sL := sL.below hb
        replace Bw := Bw.below hb
        clear hb
        obtain ⟨kw0, kw1, -, -⟩ := id Bw
        go_wp2_with fail
        refine (GO.out _ sL).mono ?_
        rintro r w8 ⟨rfl, hb⟩
        clear kw0 kw1
        replace bel := bel_go bel hb
        replace T := T.below hb
        replace sL := sL.below hb
        replace Bw := Bw.below hb
        clear hb
        obtain ⟨kw0, kw1, -, -⟩ := id Bw
        go_wp2
        all_goals go_ret
        all_goals exact ⟨rfl, bel⟩
    · obtain ⟨k4, k5⟩ := k3.out has
      rw [k4] at C5 OS k5
      rcases hzn with ⟨hg1, h12⟩ | ⟨hg1, h13⟩
      · subst hg1
        rw [h12] at C1 C5 OS k5
        have hne : x4 ≠ x2 := by rw [← h12, ← k4]; exact has
        have ea : (x4 == x2) = false := by simpa using hne
        have ea2 : (x4 != x2) = true := by simpa using hne
        have eb : (x2 == x4) = false := by simpa using (fun h => hne h.symm)
        have eb2 : (x2 != x4) = true := by simpa using (fun h => hne h.symm)
        replace k5 := hid k5
        have ne_x2 : (x2 != x2) = false := by simp
        have eq_x2 : (x2 == x2) = true := by simp
        have ne_x4 : (x4 != x4) = false := by simp
        have eq_x4 : (x4 == x4) = true := by simp
        rcases k2 with hn | hn
        · rw [hn] at C0
          clear hn hne has k4 h12 k3
          replace T := T.below (al_b _ (.cells #[.bool true, .slice a Z.length c] 26))
          replace sL := sL.below (al_b _ (.cells #[.bool true, .slice a Z.length c] 26))
          replace bel := bel_al bel (.cells #[.bool true, .slice a Z.length c] 26)
          have Bw := R2.new w1 (.bool true) (.slice a Z.length c) 26
          obtain ⟨kw0, kw1, -, -⟩ := id Bw
          go_wp2_with fail
          refine (C3.out _ T sL).mono ?_
          rintro r w2 ⟨rfl, hb⟩
          clear kw0 kw1
          replace bel := bel_go bel hb
          replace T := T.below hb
          replace sL := sL.below hb
          replace Bw := Bw.below hb
          clear hb
          obtain ⟨kw0, kw1, -, -⟩ := id Bw
          go_wp2_with fail
          refine (C2.out _ T sL).mono ?_
          rintro r w3 ⟨rfl, hb⟩
          clear kw0 kw1
          replace bel := bel_go bel hb
          replace T := T.below hb
          replace sL := sL.below hb
          replace Bw := Bw.below hb
          clear hb
          obtain ⟨kw0, kw1, -, -⟩ := id Bw
          go_wp2_with fail
          refine (C1.out _ T sL).mono ?_
          rintro r w4 ⟨rfl, hb⟩
          clear kw0 kw1
          replace bel := bel_go bel hb
          replace T := T.below hb
          replace sL := sL.below hb
          replace Bw := Bw.below hb
          clear hb
          obtain ⟨kw0, kw1, -, -⟩ := id Bw
          go_wp2_with fail
          refine (C0.out _ T sL).mono ?_
          rintro r w5 ⟨rfl, hb⟩
          clear kw0 kw1
          replace bel := bel_go bel hb
          replace T := T.below hb
          replace sL := sL.below hb
          replace Bw := Bw.below hb
          clear hb
          obtain ⟨kw0, kw1, -, -⟩ := id Bw
          go_wp2_with fail
          refine (C4.out _ T sL).mono ?_
          rintro r w6 ⟨rfl, hb⟩
          clear kw0 kw1
          replace bel := bel_go bel hb
          replace T := T.below hb
          replace sL := sL.below hb
          replace Bw := Bw.below hb
          clear hb
          obtain ⟨kw0, kw1, -, -⟩ := id Bw
          go_wp2_with fail
          refine (C5.out _ T sL).mono ?_
          rintro r w7 ⟨rfl, hb⟩
          clear kw0 kw1
          replace bel := bel_go bel hb
          replace T := T.below hb
          replace sL := sL.below hb
          replace Bw := Bw.below hb
          clear hb
          obtain ⟨kw0, kw1, -, -⟩ := id Bw
          go_wp2_with fail
          refine (GO.out _ sL).mono ?_
          rintro r w8 ⟨rfl, hb⟩
          clear kw0 kw1
          replace bel := bel_go bel hb
          replace T := T.below hb
          replace sL := sL.below hb
          replace Bw := Bw.below hb
          clear hb
          obtain ⟨kw0, kw1, -, -⟩ := id Bw
          go_wp2_with fail
          refine (OA.out _ T.s.f sL).mono ?_
          rintro r w9 ⟨D1, O1, a1, c1, rfl, h1, l1, s1, hb⟩
          clear kw0 kw1
          replace bel := bel_go bel hb
          replace T := T.below hb
          replace sL := sL.below hb
          replace Bw := Bw.below hb
          clear hb
          replace h1 := hid h1
          replace l1 := hid l1
          obtain ⟨g1, h_g1⟩ : ∃ q, q = Nm.wn D1 := ⟨_, rfl⟩
          obtain ⟨L1, e1⟩ : ∃ q, q = Nm.wl D1 := ⟨_, rfl⟩
          rw [← h_g1, ← e1]
          rw [← e1] at s1
          clear h_g1
          replace e1 := hid e1
          replace T := T.below (al_b _ (.cells #[.bool g1, .slice a1 L1.length c1] 26))
          replace sL := sL.below (al_b _ (.cells #[.bool g1, .slice a1 L1.length c1] 26))
          replace Bw := Bw.below (al_b _ (.cells #[.bool g1, .slice a1 L1.length c1] 26))
          replace s1 := s1.below (al_b _ (.cells #[.bool g1, .slice a1 L1.length c1] 26))
          replace bel := bel_al bel (.cells #[.bool g1, .slice a1 L1.length c1] 26)
          have B1 := R2.new w9 (.bool g1) (.slice a1 L1.length c1) 26
          obtain ⟨kw0, kw1, -, -⟩ := id Bw
          obtain ⟨k10, k11, -, -⟩ := id B1
          go_wp2_with fail
          refine (OS.out _ T.s.f sL).mono ?_
          rintro r w10 ⟨D2, O2, a2, c2, rfl, h2, l2, s2, hb⟩
          clear kw0 kw1 k10 k11
          replace bel := bel_go bel hb
          replace T := T.below hb
          replace sL := sL.below hb
          replace Bw := Bw.below hb
          replace s1 := s1.below hb
          replace B1 := B1.below hb
          clear hb
          replace h2 := hid h2
          replace l2 := hid l2
          obtain ⟨g2, h_g2⟩ : ∃ q, q = Nm.wn D2 := ⟨_, rfl⟩
          obtain ⟨L2, e2⟩ : ∃ q, q = Nm.wl D2 := ⟨_, rfl⟩
          rw [← h_g2, ← e2]
          rw [← e2] at s2
          clear h_g2
          replace e2 := hid e2
          replace T := T.below (al_b _ (.cells #[.bool g2, .slice a2 L2.length c2] 26))
          replace sL := sL.below (al_b _ (.cells #[.bool g2, .slice a2 L2.length c2] 26))
          replace Bw := Bw.below (al_b _ (.cells #[.bool g2, .slice a2 L2.length c2] 26))
          replace s1 := s1.below (al_b _ (.cells #[.bool g2, .slice a2 L2.length c2] 26))
          replace B1 := B1.below (al_b _ (.cells #[.bool g2, .slice a2 L2.length c2] 26))
          replace s2 := s2.below (al_b _ (.cells #[.bool g2, .slice a2 L2.length c2] 26))
          replace bel := bel_al bel (.cells #[.bool g2, .slice a2 L2.length c2] 26)
          have B2 := R2.new w10 (.bool g2) (.slice a2 L2.length c2) 26
          have q : O1 = true → O2 = true → L1 = L2 := fun h h' => by
            obtain ⟨f1, f2⟩ := h1.out h
            obtain ⟨f3, f4⟩ := h2.out h'
            rw [e1.out, e2.out]
            unfold Nm.wl
            rw [f2, f4]
            rw [k5.out f1 f3]
          have hl1 : L1.length ≤ 1048576 := by have := fit_k (x := D1) (by have := l1.out; omega); rw [e1.out]; omega
          clear h1 h2 e1 e2 l1 l2 k5 C3 C2 C1 C0 C4 C5 GO OA OS
          go_upto_region 18 with fail
          generalize (w10.alloc (.cells #[.bool g2, .slice a2 L2.length c2] 26)) = W at bel T sL Bw B1 B2 s1 s2 ⊢
          cases O1
          · cases O2
            · clear q hl1
              have belR := Below.drew (Below.refl W.heap.size W)
              refine wp_region_held_drew (S := fun w' => (w'.cell? ⟨w9.heap.size, 0, none⟩ = some (.bool g1) ∧ w'.cell? ⟨w9.heap.size, 1, none⟩ = some (.slice a1 L1.length c1)) ∧ (w'.cell? ⟨w10.heap.size, 0, none⟩ = some (.bool g2) ∧ w'.cell? ⟨w10.heap.size, 1, none⟩ = some (.slice a2 L2.length c2))) (by kernel_rfl) ?_ (fun hHeld => ?_)
              · exact ⟨⟨B1.c0, B1.c1⟩, B2.c0, B2.c1⟩
              generalize W.drew = v0 at belR hHeld ⊢
              refine tk 0 ?_ rfl (Or.inl ⟨by rfl, ?_⟩) ?_
              rotate_left
              · (intro w hSw; go_simp; try (with_reducible rfl))
              try simp only [Act.put, Ls]
              refine tk 1 ?_ rfl (Or.inl ⟨by rfl, ?_⟩) ?_
              rotate_left
              · (intro w hSw; go_simp; try (with_reducible rfl))
              try simp only [Act.put, Ls]
              refine tk 2 ?_ rfl (Or.inl ⟨by rfl, ?_⟩) ?_
              rotate_left
              · (intro w hSw; go_simp; try (with_reducible rfl))
              try simp only [Act.put, Ls]
              refine tk 3 ?_ rfl (Or.inl ⟨by rfl, ?_⟩) ?_
              rotate_left
              · (intro w hSw; go_simp; try (with_reducible rfl))
              try simp only [Act.put, Ls]
              refine tk 4 ?_ rfl (Or.inl ⟨by rfl, ?_⟩) ?_
              rotate_left
              · (intro w hSw; go_simp; try (with_reducible rfl))
              try simp only [Act.put, Ls]
              refine tk 5 ?_ rfl (Or.inl ⟨by rfl, ?_⟩) ?_
              rotate_left
              · (intro w hSw; go_simp; try (with_reducible rfl))
              try simp only [Act.put, Ls]
              refine tk 6 ?_ rfl (Or.inl ⟨by rfl, ?_⟩) ?_
              rotate_left
              · (intro w hSw; go_simp; try (with_reducible rfl))
              try simp only [Act.put, Ls]
              refine tk 7 undef rfl (Or.inr ⟨by rfl, rfl⟩) ?_
              try simp only [Act.put, Ls]
              refine tk 8 undef rfl (Or.inr ⟨by rfl, rfl⟩) ?_
              try simp only [Act.put, Ls]
              refine tk 9 ?_ rfl (Or.inl ⟨by rfl, ?_⟩) ?_
              rotate_left
              · (intro w hSw; go_simp; try (with_reducible rfl))
              try simp only [Act.put, Ls]
              refine tk 10 ?_ rfl (Or.inl ⟨by rfl, ?_⟩) ?_
              rotate_left
              · (intro w hSw; go_simp; try (with_reducible rfl))
              try simp only [Act.put, Ls]
              refine tk 11 undef rfl (Or.inr ⟨by rfl, rfl⟩) ?_
              try simp only [Act.put, Ls]
              refine tk 12 undef rfl (Or.inr ⟨by rfl, rfl⟩) ?_
              try simp only [Act.put, Ls]
              refine tk 13 undef rfl (Or.inr ⟨by rfl, rfl⟩) ?_
              try simp only [Act.put, Ls]
              refine tk 14 undef rfl (Or.inr ⟨by rfl, rfl⟩) ?_
              try simp only [Act.put, Ls]
              refine tk 15 undef rfl (Or.inr ⟨by rfl, rfl⟩) ?_
              try simp only [Act.put, Ls]
              refine tk 16 ?_ rfl (Or.inl ⟨by rfl, ?_⟩) ?_
              rotate_left
              · (intro w hSw; go_simp; try (with_reducible rfl))
              try simp only [Act.put, Ls]
              refine tk 17 ?_ rfl (Or.inl ⟨by rfl, ?_⟩) ?_
              rotate_left
              · (intro w hSw; go_simp; try (with_reducible rfl))
              try simp only [Act.put, Ls]
              refine rdy 18 rfl (fun K hK => ?_)
              go_simp
              refine hK.out _ _ ?_ (fun hHeld => ?_)
              · exact ⟨⟨(B1.below belR).c0, (B1.below belR).c1⟩, (B2.below belR).c0, (B2.below belR).c1⟩
              clear hK K
              try simp only [Act.put, Ls]
              refine wpAnyH_done (by kernel_rfl) ?_ _
              replace bel := bel.trans (belR.mono bel.size)
              clear belR
              go_wp2
              all_goals go_ret
              all_goals exact ⟨rfl, bel⟩
            · clear q hl1
              have belR := Below.drew (Below.refl W.heap.size W)
              refine wp_region_held_drew (S := fun w' => (w'.cell? ⟨w9.heap.size, 0, none⟩ = some (.bool g1) ∧ w'.cell? ⟨w9.heap.size, 1, none⟩ = some (.slice a1 L1.length c1)) ∧ (w'.cell? ⟨w10.heap.size, 0, none⟩ = some (.bool g2) ∧ w'.cell? ⟨w10.heap.size, 1, none⟩ = some (.slice a2 L2.length c2))) (by kernel_rfl) ?_ (fun hHeld => ?_)
              · exact ⟨⟨B1.c0, B1.c1⟩, B2.c0, B2.c1⟩
              generalize W.drew = v0 at belR hHeld ⊢
              refine tk 0 ?_ rfl (Or.inl ⟨by rfl, ?_⟩) ?_
              rotate_left
              · (intro w hSw; go_simp; try (with_reducible rfl))
              try simp only [Act.put, Ls]
              refine tk 1 ?_ rfl (Or.inl ⟨by rfl, ?_⟩) ?_
              rotate_left
              · (intro w hSw; go_simp; try (with_reducible rfl))
              try simp only [Act.put, Ls]
              refine tk 2 ?_ rfl (Or.inl ⟨by rfl, ?_⟩) ?_
              rotate_left
              · (intro w hSw; go_simp; try (with_reducible rfl))
              try simp only [Act.put, Ls]
              refine tk 3 ?_ rfl (Or.inl ⟨by rfl, ?_⟩) ?_
              rotate_left
              · (intro w hSw; go_simp; try (with_reducible rfl))
              try simp only [Act.put, Ls]
              refine tk 4 ?_ rfl (Or.inl ⟨by rfl, ?_⟩) ?_
              rotate_left
              · (intro w hSw; go_simp; try (with_reducible rfl))
              try simp only [Act.put, Ls]
              refine tk 5 ?_ rfl (Or.inl ⟨by rfl, ?_⟩) ?_
              rotate_left
              · (intro w hSw; go_simp; try (with_reducible rfl))
              try simp only [Act.put, Ls]
              refine tk 6 ?_ rfl (Or.inl ⟨by rfl, ?_⟩) ?_
              rotate_left
              · (intro w hSw; go_simp; try (with_reducible rfl))
              try simp only [Act.put, Ls]
              refine tk 7 undef rfl (Or.inr ⟨by rfl, rfl⟩) ?_
              try simp only [Act.put, Ls]
              refine tk 8 undef rfl (Or.inr ⟨by rfl, rfl⟩) ?_
              try simp only [Act.put, Ls]
              refine tk 9 ?_ rfl (Or.inl ⟨by rfl, ?_⟩) ?_
              rotate_left
              · (intro w hSw; go_simp; try (with_reducible rfl))
              try simp only [Act.put, Ls]
              refine tk 10 ?_ rfl (Or.inl ⟨by rfl, ?_⟩) ?_
              rotate_left
              · (intro w hSw; go_simp; try (with_reducible rfl))
              try simp only [Act.put, Ls]
              refine tk 11 undef rfl (Or.inr ⟨by rfl, rfl⟩) ?_
              try simp only [Act.put, Ls]
              refine tk 12 undef rfl (Or.inr ⟨by rfl, rfl⟩) ?_
              try simp only [Act.put, Ls]
              refine tk 13 undef rfl (Or.inr ⟨by rfl, rfl⟩) ?_
              try simp only [Act.put, Ls]
              refine tk 14 undef rfl (Or.inr ⟨by rfl, rfl⟩) ?_
              try simp only [Act.put, Ls]
              refine tk 15 undef rfl (Or.inr ⟨by rfl, rfl⟩) ?_
              try simp only [Act.put, Ls]
              refine tk 16 ?_ rfl (Or.inl ⟨by rfl, ?_⟩) ?_
              rotate_left
              · (intro w hSw; go_simp; try (with_reducible rfl))
              try simp only [Act.put, Ls]
              refine tk 17 ?_ rfl (Or.inl ⟨by rfl, ?_⟩) ?_
              rotate_left
              · (intro w hSw; go_simp; try (with_reducible rfl))
              try simp only [Act.put, Ls]
              refine rdy 18 rfl (fun K hK => ?_)
              go_simp
              refine hK.out _ _ ?_ (fun hHeld => ?_)
              · exact ⟨⟨(B1.below belR).c0, (B1.below belR).c1⟩, (B2.below belR).c0, (B2.below belR).c1⟩
              clear hK K
              try simp only [Act.put, Ls]
              refine wpAnyH_done (by kernel_rfl) ?_ _
              replace bel := bel.trans (belR.mono bel.size)
              clear belR
              go_wp2
              all_goals go_ret
              all_goals exact ⟨rfl, bel⟩
          · cases O2
            · clear q hl1
              have belR := Below.drew (Below.refl W.heap.size W)
              refine wp_region_held_drew (S := fun w' => (w'.cell? ⟨w9.heap.size, 0, none⟩ = some (.bool g1) ∧ w'.cell? ⟨w9.heap.size, 1, none⟩ = some (.slice a1 L1.length c1)) ∧ (w'.cell? ⟨w10.heap.size, 0, none⟩ = some (.bool g2) ∧ w'.cell? ⟨w10.heap.size, 1, none⟩ = some (.slice a2 L2.length c2))) (by kernel_rfl) ?_ (fun hHeld => ?_)
              · exact ⟨⟨B1.c0, B1.c1⟩, B2.c0, B2.c1⟩
              generalize W.drew = v0 at belR hHeld ⊢
              refine tk 0 ?_ rfl (Or.inl ⟨by rfl, ?_⟩) ?_
              rotate_left
              · (intro w hSw; go_simp; try (with_reducible rfl))
              try simp only [Act.put, Ls]
              refine tk 1 ?_ rfl (Or.inl ⟨by rfl, ?_⟩) ?_
              rotate_left
              · (intro w hSw; go_simp; try (with_reducible rfl))
              try simp only [Act.put, Ls]
              refine tk 2 ?_ rfl (Or.inl ⟨by rfl, ?_⟩) ?_
              rotate_left
              · (intro w hSw; go_simp; try (with_reducible rfl))
              try simp only [Act.put, Ls]
              refine tk 3 ?_ rfl (Or.inl ⟨by rfl, ?_⟩) ?_
              rotate_left
              · (intro w hSw; go_simp; try (with_reducible rfl))
              try simp only [Act.put, Ls]
              refine tk 4 ?_ rfl (Or.inl ⟨by rfl, ?_⟩) ?_
              rotate_left
              · (intro w hSw; go_simp; try (with_reducible rfl))
              try simp only [Act.put, Ls]
              refine tk 5 ?_ rfl (Or.inl ⟨by rfl, ?_⟩) ?_
              rotate_left
              · (intro w hSw; go_simp; try (with_reducible rfl))
              try simp only [Act.put, Ls]
              refine tk 6 ?_ rfl (Or.inl ⟨by rfl, ?_⟩) ?_
              rotate_left
              · (intro w hSw; go_simp; try (with_reducible rfl))
              try simp only [Act.put, Ls]
              refine tk 7 ?_ rfl (Or.inl ⟨by rfl, ?_⟩) ?_
              rotate_left
              · (intro w hSw; go_simp; try (with_reducible rfl))
              try simp only [Act.put, Ls]
              refine tk 8 ?_ rfl (Or.inl ⟨by rfl, ?_⟩) ?_
              rotate_left
              · (intro w hSw; go_simp; try (with_reducible rfl))
              try simp only [Act.put, Ls]
              refine tk 9 ?_ rfl (Or.inl ⟨by rfl, ?_⟩) ?_
              rotate_left
              · (intro w hSw; go_simp; try (with_reducible rfl))
              try simp only [Act.put, Ls]
              refine tk 10 ?_ rfl (Or.inl ⟨by rfl, ?_⟩) ?_
              rotate_left
              · (intro w hSw; go_simp; try (with_reducible rfl))
              try simp only [Act.put, Ls]
              refine tk 11 undef rfl (Or.inr ⟨by rfl, rfl⟩) ?_
              try simp only [Act.put, Ls]
              refine tk 12 undef rfl (Or.inr ⟨by rfl, rfl⟩) ?_
              try simp only [Act.put, Ls]
              refine tk 13 undef rfl (Or.inr ⟨by rfl, rfl⟩) ?_
              try simp only [Act.put, Ls]
              refine tk 14 undef rfl (Or.inr ⟨by rfl, rfl⟩) ?_
              try simp only [Act.put, Ls]
              refine tk 15 undef rfl (Or.inr ⟨by rfl, rfl⟩) ?_
              try simp only [Act.put, Ls]
              refine tk 16 ?_ rfl (Or.inl ⟨by rfl, ?_⟩) ?_
              rotate_left
              · (intro w hSw; go_simp; try (with_reducible rfl))
              try simp only [Act.put, Ls]
              refine tk 17 ?_ rfl (Or.inl ⟨by rfl, ?_⟩) ?_
              rotate_left
              · (intro w hSw; go_simp; try (with_reducible rfl))
              try simp only [Act.put, Ls]
              refine rdy 18 rfl (fun K hK => ?_)
              go_simp
              refine hK.out _ _ ?_ (fun hHeld => ?_)
              · exact ⟨⟨(B1.below belR).c0, (B1.below belR).c1⟩, (B2.below belR).c0, (B2.below belR).c1⟩
              clear hK K
              try simp only [Act.put, Ls]
              refine wpAnyH_done (by kernel_rfl) ?_ _
              replace bel := bel.trans (belR.mono bel.size)
              clear belR
              go_wp2
              all_goals go_ret
              all_goals exact ⟨rfl, bel⟩
            · have q := q rfl rfl
              subst q
              have belR := Below.drew (Below.refl W.heap.size W)
              refine wp_region_held_drew (S := fun w' => (w'.cell? ⟨w9.heap.size, 0, none⟩ = some (.bool g1) ∧ w'.cell? ⟨w9.heap.size, 1, none⟩ = some (.slice a1 L1.length c1)) ∧ (w'.cell? ⟨w10.heap.size, 0, none⟩ = some (.bool g2) ∧ w'.cell? ⟨w10.heap.size, 1, none⟩ = some (.slice a2 L1.length c2))) (by kernel_rfl) ?_ (fun hHeld => ?_)
              · exact ⟨⟨B1.c0, B1.c1⟩, B2.c0, B2.c1⟩
              generalize W.drew = v0 at belR hHeld ⊢
              refine tk 0 ?_ rfl (Or.inl ⟨by rfl, ?_⟩) ?_
              rotate_left
              · (intro w hSw; go_simp; try (with_reducible rfl))
              try simp only [Act.put, Ls]
              refine tk 1 ?_ rfl (Or.inl ⟨by rfl, ?_⟩) ?_
              rotate_left
              · (intro w hSw; go_simp; try (with_reducible rfl))
              try simp only [Act.put, Ls]
              refine tk 2 ?_ rfl (Or.inl ⟨by rfl, ?_⟩) ?_
              rotate_left
              · (intro w hSw; go_simp; try (with_reducible rfl))
              try simp only [Act.put, Ls]
              refine tk 3 ?_ rfl (Or.inl ⟨by rfl, ?_⟩) ?_
              rotate_left
              · (intro w hSw; go_simp; try (with_reducible rfl))
              try simp only [Act.put, Ls]
              refine tk 4 ?_ rfl (Or.inl ⟨by rfl, ?_⟩) ?_
              rotate_left
              · (intro w hSw; go_simp; try (with_reducible rfl))
              try simp only [Act.put, Ls]
              refine tk 5 ?_ rfl (Or.inl ⟨by rfl, ?_⟩) ?_
              rotate_left
              · (intro w hSw; go_simp; try (with_reducible rfl))
              try simp only [Act.put, Ls]
              refine tk 6 ?_ rfl (Or.inl ⟨by rfl, ?_⟩) ?_
              rotate_left
              · (intro w hSw; go_simp; try (with_reducible rfl))
              try simp only [Act.put, Ls]
              refine tk 7 ?_ rfl (Or.inl ⟨by rfl, ?_⟩) ?_
              rotate_left
              · (intro w hSw; go_simp; try (with_reducible rfl))
              try simp only [Act.put, Ls]
              refine tk 8 ?_ rfl (Or.inl ⟨by rfl, ?_⟩) ?_
              rotate_left
              · (intro w hSw; go_simp; try (with_reducible rfl))
              try simp only [Act.put, Ls]
              refine tk 9 ?_ rfl (Or.inl ⟨by rfl, ?_⟩) ?_
              rotate_left
              · (intro w hSw; go_simp; try (with_reducible rfl))
              try simp only [Act.put, Ls]
              refine tk 10 ?_ rfl (Or.inl ⟨by rfl, ?_⟩) ?_
              rotate_left
              · (intro w hSw; go_simp; try (with_reducible rfl))
              try simp only [Act.put, Ls]
              refine tk 11 ?_ rfl (Or.inl ⟨by rfl, ?_⟩) ?_
              rotate_left
              · (intro w hSw; (try dsimp only at hSw); obtain ⟨⟨hS0, hS1⟩, hS2, hS3⟩ := hSw; go_simp; try (with_reducible rfl))
              try simp only [Act.put, Ls]
              refine tk 13 ?_ rfl (Or.inl ⟨by rfl, ?_⟩) ?_
              rotate_left
              · (intro w hSw; (try dsimp only at hSw); obtain ⟨⟨hS0, hS1⟩, hS2, hS3⟩ := hSw; go_simp; try (with_reducible rfl))
              try simp only [Act.put, Ls]
              refine rdy 12 rfl (fun K hK => ?_)
              go_simp
              go_at_call 21
              refine (mag_w g1 a1 L1.length c1 _).mono ?_
              rintro r v1 ⟨rfl, hb'⟩
              have hz' := belR.size
              replace belR := bel_go belR hb'
              clear hb' hz'
              refine hK.out _ _ ?_ (fun hHeld => ?_)
              · exact ⟨⟨(B1.below belR).c0, (B1.below belR).c1⟩, (B2.below belR).c0, (B2.below belR).c1⟩
              clear hK K
              try simp only [Act.put, Ls]
              refine rdy 14 rfl (fun K hK => ?_)
              go_simp
              go_at_call 21
              refine (mag_w g2 a2 L1.length c2 _).mono ?_
              rintro r v2 ⟨rfl, hb'⟩
              have hz' := belR.size
              replace belR := bel_go belR hb'
              clear hb' hz'
              refine hK.out _ _ ?_ (fun hHeld => ?_)
              · exact ⟨⟨(B1.below belR).c0, (B1.below belR).c1⟩, (B2.below belR).c0, (B2.below belR).c1⟩
              clear hK K
              try simp only [Act.put, Ls]
              refine rdy 15 rfl (fun K hK => ?_)
              go_simp
              go_at_call 20
              refine (same_yes false a1 a2 c1 c2 L1 _ (s1.below belR) (s2.below belR) hl1).mono ?_
              rintro r v3 ⟨rfl, hb'⟩
              have hz' := belR.size
              replace belR := bel_go belR hb'
              clear hb' hz'
              refine hK.out _ _ ?_ (fun hHeld => ?_)
              · exact ⟨⟨(B1.below belR).c0, (B1.below belR).c1⟩, (B2.below belR).c0, (B2.below belR).c1⟩
              clear hK K
              try simp only [Act.put, Ls]
              refine tk 16 ?_ rfl (Or.inl ⟨by rfl, ?_⟩) ?_
              rotate_left
              · (intro w hSw; go_simp; try (with_reducible rfl))
              try simp only [Act.put, Ls]
              refine tk 17 ?_ rfl (Or.inl ⟨by rfl, ?_⟩) ?_
              rotate_left
              · (intro w hSw; go_simp; try (with_reducible rfl))
              try simp only [Act.put, Ls]
              refine rdy 18 rfl (fun K hK => ?_)
              go_simp
              refine hK.out _ _ ?_ (fun hHeld => ?_)
              · exact ⟨⟨(B1.below belR).c0, (B1.below belR).c1⟩, (B2.below belR).c0, (B2.below belR).c1⟩
              clear hK K
              try simp only [Act.put, Ls]
              refine wpAnyH_done (by kernel_rfl) ?_ _
              replace bel := bel.trans (belR.mono bel.size)
              clear belR
              go_wp2
              all_goals go_ret
              all_goals exact ⟨rfl, bel⟩
        · rw [hn, k4, h12] at C0
          clear hn hne has k4 h12 k3
          replace T := T.below (al_b _ (.cells #[.bool true, .slice a Z.length c] 26))
          replace sL := sL.below (al_b _ (.cells #[.bool true, .slice a Z.length c] 26))
          replace bel := bel_al bel (.cells #[.bool true, .slice a Z.length c] 26)
          have Bw := R2.new w1 (.bool true) (.slice a Z.length c) 26
          obtain ⟨kw0, kw1, -, -⟩ := id Bw
          go_wp2_with fail
          refine (C3.out _ T sL).mono ?_
          rintro r w2 ⟨rfl, hb⟩
          clear kw0 kw1
          replace bel := bel_go bel hb
          replace T := T.below hb
          replace sL := sL.below hb
          replace Bw := Bw.below hb
          clear hb
          obtain ⟨kw0, kw1, -, -⟩ := id Bw
          go_wp2_with fail
          refine (C2.out _ T sL).mono ?_
          rintro r w3 ⟨rfl, hb⟩
          clear kw0 kw1
          replace bel := bel_go bel hb
          replace T := T.below hb
          replace sL := sL.below hb
          replace Bw := Bw.below hb
          clear hb
          obtain ⟨kw0, kw1, -, -⟩ := id Bw
          go_wp2_with fail
          refine (C1.out _ T sL).mono ?_
          rintro r w4 ⟨rfl, hb⟩
          clear kw0 kw1
          replace bel := bel_go bel hb
          replace T := T.below hb
          replace sL := sL.below hb
          replace Bw := Bw.below hb
          clear hb
          obtain ⟨kw0, kw1, -, -⟩ := id Bw
          go_wp2_with fail
          refine (C0.out _ T sL).mono ?_
          rintro r w5 ⟨rfl, hb⟩
          clear kw0 kw1
          replace bel := bel_go bel hb
          replace T := T.below hb
          replace sL := sL.below hb
          replace Bw := Bw.below hb
          clear hb
          obtain ⟨kw0, kw1, -, -⟩ := id Bw
          go_wp2_with fail
          refine (C4.out _ T sL).mono ?_
          rintro r w6 ⟨rfl, hb⟩
          clear kw0 kw1
          replace bel := bel_go bel hb
          replace T := T.below hb
          replace sL := sL.below hb
          replace Bw := Bw.below hb
          clear hb
          obtain ⟨kw0, kw1, -, -⟩ := id Bw
          go_wp2_with fail
          refine (C5.out _ T sL).mono ?_
          rintro r w7 ⟨rfl, hb⟩
          clear kw0 kw1
          replace bel := bel_go bel hb
          replace T := T.below hb
          replace sL := sL.below hb
          replace Bw := Bw.below hb
          clear hb
          obtain ⟨kw0, kw1, -, -⟩ := id Bw
          go_wp2_with fail
          refine (GO.out _ sL).mono ?_
          rintro r w8 ⟨rfl, hb⟩
          clear kw0 kw1
          replace bel := bel_go bel hb
          replace T := T.below hb
          replace sL := sL.below hb
          replace Bw := Bw.below hb
          clear hb
          obtain ⟨kw0, kw1, -, -⟩ := id Bw
          go_wp2_with fail
          refine (OA.out _ T.s.f sL).mono ?_
          rintro r w9 ⟨D1, O1, a1, c1, rfl, h1, l1, s1, hb⟩
          clear kw0 kw1
          replace bel := bel_go bel hb
          replace T := T.below hb
          replace sL := sL.below hb
          replace Bw := Bw.below hb
          clear hb
          replace h1 := hid h1
          replace l1 := hid l1
          obtain ⟨g1, h_g1⟩ : ∃ q, q = Nm.wn D1 := ⟨_, rfl⟩
          obtain ⟨L1, e1⟩ : ∃ q, q = Nm.wl D1 := ⟨_, rfl⟩
          rw [← h_g1, ← e1]
          rw [← e1] at s1
          clear h_g1
          replace e1 := hid e1
          replace T := T.below (al_b _ (.cells #[.bool g1, .slice a1 L1.length c1] 26))
          replace sL := sL.below (al_b _ (.cells #[.bool g1, .slice a1 L1.length c1] 26))
          replace Bw := Bw.below (al_b _ (.cells #[.bool g1, .slice a1 L1.length c1] 26))
          replace s1 := s1.below (al_b _ (.cells #[.bool g1, .slice a1 L1.length c1] 26))
          replace bel := bel_al bel (.cells #[.bool g1, .slice a1 L1.length c1] 26)
          have B1 := R2.new w9 (.bool g1) (.slice a1 L1.length c1) 26
          obtain ⟨kw0, kw1, -, -⟩ := id Bw
          obtain ⟨k10, k11, -, -⟩ := id B1
          go_wp2_with fail
          refine (OS.out _ T.s.f sL).mono ?_
          rintro r w10 ⟨D2, O2, a2, c2, rfl, h2, l2, s2, hb⟩
          clear kw0 kw1 k10 k11
          replace bel := bel_go bel hb
          replace T := T.below hb
          replace sL := sL.below hb
          replace Bw := Bw.below hb
          replace s1 := s1.below hb
          replace B1 := B1.below hb
          clear hb
          replace h2 := hid h2
          replace l2 := hid l2
          obtain ⟨g2, h_g2⟩ : ∃ q, q = Nm.wn D2 := ⟨_, rfl⟩
          obtain ⟨L2, e2⟩ : ∃ q, q = Nm.wl D2 := ⟨_, rfl⟩
          rw [← h_g2, ← e2]
          rw [← e2] at s2
          clear h_g2
          replace e2 := hid e2
          replace T := T.below (al_b _ (.cells #[.bool g2, .slice a2 L2.length c2] 26))
          replace sL := sL.below (al_b _ (.cells #[.bool g2, .slice a2 L2.length c2] 26))
          replace Bw := Bw.below (al_b _ (.cells #[.bool g2, .slice a2 L2.length c2] 26))
          replace s1 := s1.below (al_b _ (.cells #[.bool g2, .slice a2 L2.length c2] 26))
          replace B1 := B1.below (al_b _ (.cells #[.bool g2, .slice a2 L2.length c2] 26))
          replace s2 := s2.below (al_b _ (.cells #[.bool g2, .slice a2 L2.length c2] 26))
          replace bel := bel_al bel (.cells #[.bool g2, .slice a2 L2.length c2] 26)
          have B2 := R2.new w10 (.bool g2) (.slice a2 L2.length c2) 26
          have q : O1 = true → O2 = true → L1 = L2 := fun h h' => by
            obtain ⟨f1, f2⟩ := h1.out h
            obtain ⟨f3, f4⟩ := h2.out h'
            rw [e1.out, e2.out]
            unfold Nm.wl
            rw [f2, f4]
            rw [k5.out f1 f3]
          have hl1 : L1.length ≤ 1048576 := by have := fit_k (x := D1) (by have := l1.out; omega); rw [e1.out]; omega
          clear h1 h2 e1 e2 l1 l2 k5 C3 C2 C1 C0 C4 C5 GO OA OS
          go_upto_region 18 with fail
          generalize (w10.alloc (.cells #[.bool g2, .slice a2 L2.length c2] 26)) = W at bel T sL Bw B1 B2 s1 s2 ⊢
          cases O1
          · cases O2
            · clear q hl1
              have belR := Below.drew (Below.refl W.heap.size W)
              refine wp_region_held_drew (S := fun w' => (w'.cell? ⟨w9.heap.size, 0, none⟩ = some (.bool g1) ∧ w'.cell? ⟨w9.heap.size, 1, none⟩ = some (.slice a1 L1.length c1)) ∧ (w'.cell? ⟨w10.heap.size, 0, none⟩ = some (.bool g2) ∧ w'.cell? ⟨w10.heap.size, 1, none⟩ = some (.slice a2 L2.length c2))) (by kernel_rfl) ?_ (fun hHeld => ?_)
              · exact ⟨⟨B1.c0, B1.c1⟩, B2.c0, B2.c1⟩
              generalize W.drew = v0 at belR hHeld ⊢
              refine tk 0 ?_ rfl (Or.inl ⟨by rfl, ?_⟩) ?_
              rotate_left
              · (intro w hSw; go_simp; try (with_reducible rfl))
              try simp only [Act.put, Ls]
              refine tk 1 ?_ rfl (Or.inl ⟨by rfl, ?_⟩) ?_
              rotate_left
              · (intro w hSw; go_simp; try (with_reducible rfl))
              try simp only [Act.put, Ls]
              refine tk 2 ?_ rfl (Or.inl ⟨by rfl, ?_⟩) ?_
              rotate_left
              · (intro w hSw; go_simp; try (with_reducible rfl))
              try simp only [Act.put, Ls]
              refine tk 3 ?_ rfl (Or.inl ⟨by rfl, ?_⟩) ?_
              rotate_left
              · (intro w hSw; go_simp; try (with_reducible rfl))
              try simp only [Act.put, Ls]
              refine tk 4 ?_ rfl (Or.inl ⟨by rfl, ?_⟩) ?_
              rotate_left
              · (intro w hSw; go_simp; try (with_reducible rfl))
              try simp only [Act.put, Ls]
              refine tk 5 ?_ rfl (Or.inl ⟨by rfl, ?_⟩) ?_
              rotate_left
              · (intro w hSw; go_simp; try (with_reducible rfl))
              try simp only [Act.put, Ls]
              refine tk 6 ?_ rfl (Or.inl ⟨by rfl, ?_⟩) ?_
              rotate_left
              · (intro w hSw; go_simp; try (with_reducible rfl))
              try simp only [Act.put, Ls]
              refine tk 7 undef rfl (Or.inr ⟨by rfl, rfl⟩) ?_
              try simp only [Act.put, Ls]
              refine tk 8 undef rfl (Or.inr ⟨by rfl, rfl⟩) ?_
              try simp only [Act.put, Ls]
              refine tk 9 ?_ rfl (Or.inl ⟨by rfl, ?_⟩) ?_
              rotate_left
              · (intro w hSw; go_simp; try (with_reducible rfl))
              try simp only [Act.put, Ls]
              refine tk 10 ?_ rfl (Or.inl ⟨by rfl, ?_⟩) ?_
              rotate_left
              · (intro w hSw; go_simp; try (with_reducible rfl))
              try simp only [Act.put, Ls]
              refine tk 11 undef rfl (Or.inr ⟨by rfl, rfl⟩) ?_
              try simp only [Act.put, Ls]
              refine tk 12 undef rfl (Or.inr ⟨by rfl, rfl⟩) ?_
              try simp only [Act.put, Ls]
              refine tk 13 undef rfl (Or.inr ⟨by rfl, rfl⟩) ?_
              try simp only [Act.put, Ls]
              refine tk 14 undef rfl (Or.inr ⟨by rfl, rfl⟩) ?_
              try simp only [Act.put, Ls]
              refine tk 15 undef rfl (Or.inr ⟨by rfl, rfl⟩) ?_
              try simp only [Act.put, Ls]
              refine tk 16 ?_ rfl (Or.inl ⟨by rfl, ?_⟩) ?_
              rotate_left
              · (intro w hSw; go_simp; try (with_reducible rfl))
              try simp only [Act.put, Ls]
              refine tk 17 ?_ rfl (Or.inl ⟨by rfl, ?_⟩) ?_
              rotate_left
              · (intro w hSw; go_simp; try (with_reducible rfl))
              try simp only [Act.put, Ls]
              refine rdy 18 rfl (fun K hK => ?_)
              go_simp
              refine hK.out _ _ ?_ (fun hHeld => ?_)
              · exact ⟨⟨(B1.below belR).c0, (B1.below belR).c1⟩, (B2.below belR).c0, (B2.below belR).c1⟩
              clear hK K
              try simp only [Act.put, Ls]
              refine wpAnyH_done (by kernel_rfl) ?_ _
              replace bel := bel.trans (belR.mono bel.size)
              clear belR
              go_wp2
              all_goals go_ret
              all_goals exact ⟨rfl, bel⟩
            · clear q hl1
              have belR := Below.drew (Below.refl W.heap.size W)
              refine wp_region_held_drew (S := fun w' => (w'.cell? ⟨w9.heap.size, 0, none⟩ = some (.bool g1) ∧ w'.cell? ⟨w9.heap.size, 1, none⟩ = some (.slice a1 L1.length c1)) ∧ (w'.cell? ⟨w10.heap.size, 0, none⟩ = some (.bool g2) ∧ w'.cell? ⟨w10.heap.size, 1, none⟩ = some (.slice a2 L2.length c2))) (by kernel_rfl) ?_ (fun hHeld => ?_)
              · exact ⟨⟨B1.c0, B1.c1⟩, B2.c0, B2.c1⟩
              generalize W.drew = v0 at belR hHeld ⊢
              refine tk 0 ?_ rfl (Or.inl ⟨by rfl, ?_⟩) ?_
              rotate_left
              · (intro w hSw; go_simp; try (with_reducible rfl))
              try simp only [Act.put, Ls]
              refine tk 1 ?_ rfl (Or.inl ⟨by rfl, ?_⟩) ?_
              rotate_left
              · (intro w hSw; go_simp; try (with_reducible rfl))
              try simp only [Act.put, Ls]
              refine tk 2 ?_ rfl (Or.inl ⟨by rfl, ?_⟩) ?_
              rotate_left
              · (intro w hSw; go_simp; try (with_reducible rfl))
              try simp only [Act.put, Ls]
              refine tk 3 ?_ rfl (Or.inl ⟨by rfl, ?_⟩) ?_
              rotate_left
              · (intro w hSw; go_simp; try (with_reducible rfl))
              try simp only [Act.put, Ls]
              refine tk 4 ?_ rfl (Or.inl ⟨by rfl, ?_⟩) ?_
              rotate_left
              · (intro w hSw; go_simp; try (with_reducible rfl))
              try simp only [Act.put, Ls]
              refine tk 5 ?_ rfl (Or.inl ⟨by rfl, ?_⟩) ?_
              rotate_left
              · (intro w hSw; go_simp; try (with_reducible rfl))
              try simp only [Act.put, Ls]
              refine tk 6 ?_ rfl (Or.inl ⟨by rfl, ?_⟩) ?_
              rotate_left
              · (intro w hSw; go_simp; try (with_reducible rfl))
              try simp only [Act.put, Ls]
              refine tk 7 undef rfl (Or.inr ⟨by rfl, rfl⟩) ?_
              try simp only [Act.put, Ls]
              refine tk 8 undef rfl (Or.inr ⟨by rfl, rfl⟩) ?_
              try simp only [Act.put, Ls]
              refine tk 9 ?_ rfl (Or.inl ⟨by rfl, ?_⟩) ?_
              rotate_left
              · (intro w hSw; go_simp; try (with_reducible rfl))
              try simp only [Act.put, Ls]
              refine tk 10 ?_ rfl (Or.inl ⟨by rfl, ?_⟩) ?_
              rotate_left
              · (intro w hSw; go_simp; try (with_reducible rfl))
              try simp only [Act.put, Ls]
              refine tk 11 undef rfl (Or.inr ⟨by rfl, rfl⟩) ?_
              try simp only [Act.put, Ls]
              refine tk 12 undef rfl (Or.inr ⟨by rfl, rfl⟩) ?_
              try simp only [Act.put, Ls]
              refine tk 13 undef rfl (Or.inr ⟨by rfl, rfl⟩) ?_
              try simp only [Act.put, Ls]
              refine tk 14 undef rfl (Or.inr ⟨by rfl, rfl⟩) ?_
              try simp only [Act.put, Ls]
              refine tk 15 undef rfl (Or.inr ⟨by rfl, rfl⟩) ?_
              try simp only [Act.put, Ls]
              refine tk 16 ?_ rfl (Or.inl ⟨by rfl, ?_⟩) ?_
              rotate_left
              · (intro w hSw; go_simp; try (with_reducible rfl))
              try simp only [Act.put, Ls]
              refine tk 17 ?_ rfl (Or.inl ⟨by rfl, ?_⟩) ?_
              rotate_left
              · (intro w hSw; go_simp; try (with_reducible rfl))
              try simp only [Act.put, Ls]
              refine rdy 18 rfl (fun K hK => ?_)
              go_simp
              refine hK.out _ _ ?_ (fun hHeld => ?_)
              · exact ⟨⟨(B1.below belR).c0, (B1.below belR).c1⟩, (B2.below belR).c0, (B2.below belR).c1⟩
              clear hK K
              try simp only [Act.put, Ls]
              refine wpAnyH_done (by kernel_rfl) ?_ _
              replace bel := bel.trans (belR.mono bel.size)
              clear belR
              go_wp2
              all_goals go_ret
              all_goals exact ⟨rfl, bel⟩
          · cases O2
            · clear q hl1
              have belR := Below.drew (Below.refl W.heap.size W)
              refine wp_region_held_drew (S := fun w' => (w'.cell? ⟨w9.heap.size, 0, none⟩ = some (.bool g1) ∧ w'.cell? ⟨w9.heap.size, 1, none⟩ = some (.slice a1 L1.length c1)) ∧ (w'.cell? ⟨w10.heap.size, 0, none⟩ = some (.bool g2) ∧ w'.cell? ⟨w10.heap.size, 1, none⟩ = some (.slice a2 L2.length c2))) (by kernel_rfl) ?_ (fun hHeld => ?_)
              · exact ⟨⟨B1.c0, B1.c1⟩, B2.c0, B2.c1⟩
              generalize W.drew = v0 at belR hHeld ⊢
              refine tk 0 ?_ rfl (Or.inl ⟨by rfl, ?_⟩) ?_
              rotate_left
              · (intro w hSw; go_simp; try (with_reducible rfl))
              try simp only [Act.put, Ls]
              refine tk 1 ?_ rfl (Or.inl ⟨by rfl, ?_⟩) ?_
              rotate_left
              · (intro w hSw; go_simp; try (with_reducible rfl))
              try simp only [Act.put, Ls]
              refine tk 2 ?_ rfl (Or.inl ⟨by rfl, ?_⟩) ?_
              rotate_left
              · (intro w hSw; go_simp; try (with_reducible rfl))
              try simp only [Act.put, Ls]
              refine tk 3 ?_ rfl (Or.inl ⟨by rfl, ?_⟩) ?_
              rotate_left
              · (intro w hSw; go_simp; try (with_reducible rfl))
              try simp only [Act.put, Ls]
              refine tk 4 ?_ rfl (Or.inl ⟨by rfl, ?_⟩) ?_
              rotate_left
              · (intro w hSw; go_simp; try (with_reducible rfl))
              try simp only [Act.put, Ls]
              refine tk 5 ?_ rfl (Or.inl ⟨by rfl, ?_⟩) ?_
              rotate_left
              · (intro w hSw; go_simp; try (with_reducible rfl))
              try simp only [Act.put, Ls]
              refine tk 6 ?_ rfl (Or.inl ⟨by rfl, ?_⟩) ?_
              rotate_left
              · (intro w hSw; go_simp; try (with_reducible rfl))
              try simp only [Act.put, Ls]
              refine tk 7 ?_ rfl (Or.inl ⟨by rfl, ?_⟩) ?_
              rotate_left
              · (intro w hSw; go_simp; try (with_reducible rfl))
              try simp only [Act.put, Ls]
              refine tk 8 ?_ rfl (Or.inl ⟨by rfl, ?_⟩) ?_
              rotate_left
              · (intro w hSw; go_simp; try (with_reducible rfl))
              try simp only [Act.put, Ls]
              refine tk 9 ?_ rfl (Or.inl ⟨by rfl, ?_⟩) ?_
              rotate_left
              · (intro w hSw; go_simp; try (with_reducible rfl))
              try simp only [Act.put, Ls]
              refine tk 10 ?_ rfl (Or.inl ⟨by rfl, ?_⟩) ?_
              rotate_left
              · (intro w hSw; go_simp; try (with_reducible rfl))
              try simp only [Act.put, Ls]
              refine tk 11 undef rfl (Or.inr ⟨by rfl, rfl⟩) ?_
              try simp only [Act.put, Ls]
              refine tk 12 undef rfl (Or.inr ⟨by rfl, rfl⟩) ?_
              try simp only [Act.put, Ls]
              refine tk 13 undef rfl (Or.inr ⟨by rfl, rfl⟩) ?_
              try simp only [Act.put, Ls]
              refine tk 14 undef rfl (Or.inr ⟨by rfl, rfl⟩) ?_
              try simp only [Act.put, Ls]
              refine tk 15 undef rfl (Or.inr ⟨by rfl, rfl⟩) ?_
              try simp only [Act.put, Ls]
              refine tk 16 ?_ rfl (Or.inl ⟨by rfl, ?_⟩) ?_
              rotate_left
              · (intro w hSw; go_simp; try (with_reducible rfl))
              try simp only [Act.put, Ls]
              refine tk 17 ?_ rfl (Or.inl ⟨by rfl, ?_⟩) ?_
              rotate_left
              · (intro w hSw; go_simp; try (with_reducible rfl))
              try simp only [Act.put, Ls]
              refine rdy 18 rfl (fun K hK => ?_)
              go_simp
              refine hK.out _ _ ?_ (fun hHeld => ?_)
              · exact ⟨⟨(B1.below belR).c0, (B1.below belR).c1⟩, (B2.below belR).c0, (B2.below belR).c1⟩
              clear hK K
              try simp only [Act.put, Ls]
              refine wpAnyH_done (by kernel_rfl) ?_ _
              replace bel := bel.trans (belR.mono bel.size)
              clear belR
              go_wp2
              all_goals go_ret
              all_goals exact ⟨rfl, bel⟩
            · have q := q rfl rfl
              subst q
              have belR := Below.drew (Below.refl W.heap.size W)
              refine wp_region_held_drew (S := fun w' => (w'.cell? ⟨w9.heap.size, 0, none⟩ = some (.bool g1) ∧ w'.cell? ⟨w9.heap.size, 1, none⟩ = some (.slice a1 L1.length c1)) ∧ (w'.cell? ⟨w10.heap.size, 0, none⟩ = some (.bool g2) ∧ w'.cell? ⟨w10.heap.size, 1, none⟩ = some (.slice a2 L1.length c2))) (by kernel_rfl) ?_ (fun hHeld => ?_)
              · exact ⟨⟨B1.c0, B1.c1⟩, B2.c0, B2.c1⟩
              generalize W.drew = v0 at belR hHeld ⊢
              refine tk 0 ?_ rfl (Or.inl ⟨by rfl, ?_⟩) ?_
              rotate_left
              · (intro w hSw; go_simp; try (with_reducible rfl))
              try simp only [Act.put, Ls]
              refine tk 1 ?_ rfl (Or.inl ⟨by rfl, ?_⟩) ?_
              rotate_left
              · (intro w hSw; go_simp; try (with_reducible rfl))
              try simp only [Act.put, Ls]
              refine tk 2 ?_ rfl (Or.inl ⟨by rfl, ?_⟩) ?_
              rotate_left
              · (intro w hSw; go_simp; try (with_reducible rfl))
              try simp only [Act.put, Ls]
              refine tk 3 ?_ rfl (Or.inl ⟨by rfl, ?_⟩) ?_
              rotate_left
              · (intro w hSw; go_simp; try (with_reducible rfl))
              try simp only [Act.put, Ls]
              refine tk 4 ?_ rfl (Or.inl ⟨by rfl, ?_⟩) ?_
              rotate_left
              · (intro w hSw; go_simp; try (with_reducible rfl))
              try simp only [Act.put, Ls]
              refine tk 5 ?_ rfl (Or.inl ⟨by rfl, ?_⟩) ?_
              rotate_left
              · (intro w hSw; go_simp; try (with_reducible rfl))
              try simp only [Act.put, Ls]
              refine tk 6 ?_ rfl (Or.inl ⟨by rfl, ?_⟩) ?_
              rotate_left
              · (intro w hSw; go_simp; try (with_reducible rfl))
              try simp only [Act.put, Ls]
              refine tk 7 ?_ rfl (Or.inl ⟨by rfl, ?_⟩) ?_
              rotate_left
              · (intro w hSw; go_simp; try (with_reducible rfl))
              try simp only [Act.put, Ls]
              refine tk 8 ?_ rfl (Or.inl ⟨by rfl, ?_⟩) ?_
              rotate_left
              · (intro w hSw; go_simp; try (with_reducible rfl))
              try simp only [Act.put, Ls]
              refine tk 9 ?_ rfl (Or.inl ⟨by rfl, ?_⟩) ?_
              rotate_left
              · (intro w hSw; go_simp; try (with_reducible rfl))
              try simp only [Act.put, Ls]
              refine tk 10 ?_ rfl (Or.inl ⟨by rfl, ?_⟩) ?_
              rotate_left
              · (intro w hSw; go_simp; try (with_reducible rfl))
              try simp only [Act.put, Ls]
              refine tk 11 ?_ rfl (Or.inl ⟨by rfl, ?_⟩) ?_
              rotate_left
              · (intro w hSw; (try dsimp only at hSw); obtain ⟨⟨hS0, hS1⟩, hS2, hS3⟩ := hSw; go_simp; try (with_reducible rfl))
              try simp only [Act.put, Ls]
              refine tk 13 ?_ rfl (Or.inl ⟨by rfl, ?_⟩) ?_
              rotate_left
              · (intro w hSw; (try dsimp only at hSw); obtain ⟨⟨hS0, hS1⟩, hS2, hS3⟩ := hSw; go_simp; try (with_reducible rfl))
              try simp only [Act.put, Ls]
              refine rdy 12 rfl (fun K hK => ?_)
              go_simp
              go_at_call 21
              refine (mag_w g1 a1 L1.length c1 _).mono ?_
              rintro r v1 ⟨rfl, hb'⟩
              have hz' := belR.size
              replace belR := bel_go belR hb'
              clear hb' hz'
              refine hK.out _ _ ?_ (fun hHeld => ?_)
              · exact ⟨⟨(B1.below belR).c0, (B1.below belR).c1⟩, (B2.below belR).c0, (B2.below belR).c1⟩
              clear hK K
              try simp only [Act.put, Ls]
              refine rdy 14 rfl (fun K hK => ?_)
              go_simp
              go_at_call 21
              refine (mag_w g2 a2 L1.length c2 _).mono ?_
              rintro r v2 ⟨rfl, hb'⟩
              have hz' := belR.size
              replace belR := bel_go belR hb'
              clear hb' hz'
              refine hK.out _ _ ?_ (fun hHeld => ?_)
              · exact ⟨⟨(B1.below belR).c0, (B1.below belR).c1⟩, (B2.below belR).c0, (B2.below belR).c1⟩
              clear hK K
              try simp only [Act.put, Ls]
              refine rdy 15 rfl (fun K hK => ?_)
              go_simp
              go_at_call 20
              refine (same_yes false a1 a2 c1 c2 L1 _ (s1.below belR) (s2.below belR) hl1).mono ?_
              rintro r v3 ⟨rfl, hb'⟩
              have hz' := belR.size
              replace belR := bel_go belR hb'
              clear hb' hz'
              refine hK.out _ _ ?_ (fun hHeld => ?_)
              · exact ⟨⟨(B1.below belR).c0, (B1.below belR).c1⟩, (B2.below belR).c0, (B2.below belR).c1⟩
              clear hK K
              try simp only [Act.put, Ls]
              refine tk 16 ?_ rfl (Or.inl ⟨by rfl, ?_⟩) ?_
              rotate_left
              · (intro w hSw; go_simp; try (with_reducible rfl))
              try simp only [Act.put, Ls]
              refine tk 17 ?_ rfl (Or.inl ⟨by rfl, ?_⟩) ?_
              rotate_left
              · (intro w hSw; go_simp; try (with_reducible rfl))
              try simp only [Act.put, Ls]
              refine rdy 18 rfl (fun K hK => ?_)
              go_simp
              refine hK.out _ _ ?_ (fun hHeld => ?_)
              · exact ⟨⟨(B1.below belR).c0, (B1.below belR).c1⟩, (B2.below belR).c0, (B2.below belR).c1⟩
              clear hK K
              try simp only [Act.put, Ls]
              refine wpAnyH_done (by kernel_rfl) ?_ _
              replace bel := bel.trans (belR.mono bel.size)
              clear belR
              go_wp2
              all_goals go_ret
              all_goals exact ⟨rfl, bel⟩
      · subst hg1
        rw [h13] at C1 C5 OS k5
        have hne : x4 ≠ x3 := by rw [← h13, ← k4]; exact has
        have ea : (x4 == x3) = false := by simpa using hne
        have ea2 : (x4 != x3) = true := by simpa using hne
        have eb : (x3 == x4) = false := by simpa using (fun h => hne h.symm)
        have eb2 : (x3 != x4) = true := by simpa using (fun h => hne h.symm)
        replace k5 := hid k5
        have ne_x3 : (x3 != x3) = false := by simp
        have eq_x3 : (x3 == x3) = true := by simp
        have ne_x4 : (x4 != x4) = false := by simp
        have eq_x4 : (x4 == x4) = true := by simp
        rcases k2 with hn | hn
        · rw [hn] at C0
          clear hn hne has k4 h13 k3
          replace T := T.below (al_b _ (.cells #[.bool false, .slice a Z.length c] 26))
          replace sL := sL.below (al_b _ (.cells #[.bool false, .slice a Z.length c] 26))
          replace bel := bel_al bel (.cells #[.bool false, .slice a Z.length c] 26)
          have Bw := R2.new w1 (.bool false) (.slice a Z.length c) 26
          obtain ⟨kw0, kw1, -, -⟩ := id Bw
          go_wp2_with fail
          refine (C3.out _ T sL).mono ?_
          rintro r w2 ⟨rfl, hb⟩
          clear kw0 kw1
          replace bel := bel_go bel hb
          replace T := T.below hb
          replace sL := sL.below hb
          replace Bw := Bw.below hb
          clear hb
          obtain ⟨kw0, kw1, -, -⟩ := id Bw
          go_wp2_with fail
          refine (C2.out _ T sL).mono ?_
          rintro r w3 ⟨rfl, hb⟩
          clear kw0 kw1
          replace bel := bel_go bel hb
          replace T := T.below hb
          replace sL := sL.below hb
          replace Bw := Bw.below hb
          clear hb
          obtain ⟨kw0, kw1, -, -⟩ := id Bw
          go_wp2_with fail
          refine (C1.out _ T sL).mono ?_
          rintro r w4 ⟨rfl, hb⟩
          clear kw0 kw1
          replace bel := bel_go bel hb
          replace T := T.below hb
          replace sL := sL.below hb
          replace Bw := Bw.below hb
          clear hb
          obtain ⟨kw0, kw1, -, -⟩ := id Bw
          go_wp2_with fail
          refine (C0.out _ T sL).mono ?_
          rintro r w5 ⟨rfl, hb⟩
          clear kw0 kw1
          replace bel := bel_go bel hb
          replace T := T.below hb
          replace sL := sL.below hb
          replace Bw := Bw.below hb
          clear hb
          obtain ⟨kw0, kw1, -, -⟩ := id Bw
          go_wp2_with fail
          refine (C4.out _ T sL).mono ?_
          rintro r w6 ⟨rfl, hb⟩
          clear kw0 kw1
          replace bel := bel_go bel hb
          replace T := T.below hb
          replace sL := sL.below hb
          replace Bw := Bw.below hb
          clear hb
          obtain ⟨kw0, kw1, -, -⟩ := id Bw
          go_wp2_with fail
          refine (C5.out _ T sL).mono ?_
          rintro r w7 ⟨rfl, hb⟩
          clear kw0 kw1
          replace bel := bel_go bel hb
          replace T := T.below hb
          replace sL := sL.below hb
          replace Bw := Bw.below hb
          clear hb
          obtain ⟨kw0, kw1, -, -⟩ := id Bw
          go_wp2_with fail
          refine (GO.out _ sL).mono ?_
          rintro r w8 ⟨rfl, hb⟩
          clear kw0 kw1
          replace bel := bel_go bel hb
          replace T := T.below hb
          replace sL := sL.below hb
          replace Bw := Bw.below hb
          clear hb
          obtain ⟨kw0, kw1, -, -⟩ := id Bw
          go_wp2_with fail
          refine (OA.out _ T.s.f sL).mono ?_
          rintro r w9 ⟨D1, O1, a1, c1, rfl, h1, l1, s1, hb⟩
          clear kw0 kw1
          replace bel := bel_go bel hb
          replace T := T.below hb
          replace sL := sL.below hb
          replace Bw := Bw.below hb
          clear hb
          replace h1 := hid h1
          replace l1 := hid l1
          obtain ⟨g1, h_g1⟩ : ∃ q, q = Nm.wn D1 := ⟨_, rfl⟩
          obtain ⟨L1, e1⟩ : ∃ q, q = Nm.wl D1 := ⟨_, rfl⟩
          rw [← h_g1, ← e1]
          rw [← e1] at s1
          clear h_g1
          replace e1 := hid e1
          replace T := T.below (al_b _ (.cells #[.bool g1, .slice a1 L1.length c1] 26))
          replace sL := sL.below (al_b _ (.cells #[.bool g1, .slice a1 L1.length c1] 26))
          replace Bw := Bw.below (al_b _ (.cells #[.bool g1, .slice a1 L1.length c1] 26))
          replace s1 := s1.below (al_b _ (.cells #[.bool g1, .slice a1 L1.length c1] 26))
          replace bel := bel_al bel (.cells #[.bool g1, .slice a1 L1.length c1] 26)
          have B1 := R2.new w9 (.bool g1) (.slice a1 L1.length c1) 26
          obtain ⟨kw0, kw1, -, -⟩ := id Bw
          obtain ⟨k10, k11, -, -⟩ := id B1
          go_wp2_with fail
          refine (OS.out _ T.s.f sL).mono ?_
          rintro r w10 ⟨D2, O2, a2, c2, rfl, h2, l2, s2, hb⟩
          clear kw0 kw1 k10 k11
          replace bel := bel_go bel hb
          replace T := T.below hb
          replace sL := sL.below hb
          replace Bw := Bw.below hb
          replace s1 := s1.below hb
          replace B1 := B1.below hb
          clear hb
          replace h2 := hid h2
          replace l2 := hid l2
          obtain ⟨g2, h_g2⟩ : ∃ q, q = Nm.wn D2 := ⟨_, rfl⟩
          obtain ⟨L2, e2⟩ : ∃ q, q = Nm.wl D2 := ⟨_, rfl⟩
          rw [← h_g2, ← e2]
          rw [← e2] at s2
          clear h_g2
          replace e2 := hid e2
          replace T := T.below (al_b _ (.cells #[.bool g2, .slice a2 L2.length c2] 26))
          replace sL := sL.below (al_b _ (.cells #[.bool g2, .slice a2 L2.length c2] 26))
          replace Bw := Bw.below (al_b _ (.cells #[.bool g2, .slice a2 L2.length c2] 26))
          replace s1 := s1.below (al_b _ (.cells #[.bool g2, .slice a2 L2.length c2] 26))
          replace B1 := B1.below (al_b _ (.cells #[.bool g2, .slice a2 L2.length c2] 26))
          replace s2 := s2.below (al_b _ (.cells #[.bool g2, .slice a2 L2.length c2] 26))
          replace bel := bel_al bel (.cells #[.bool g2, .slice a2 L2.length c2] 26)
          have B2 := R2.new w10 (.bool g2) (.slice a2 L2.length c2) 26
          have q : O1 = true → O2 = true → L1 = L2 := fun h h' => by
            obtain ⟨f1, f2⟩ := h1.out h
            obtain ⟨f3, f4⟩ := h2.out h'
            rw [e1.out, e2.out]
            unfold Nm.wl
            rw [f2, f4]
            rw [k5.out f1 f3]
          have hl1 : L1.length ≤ 1048576 := by have := fit_k (x := D1) (by have := l1.out; omega); rw [e1.out]; omega
          clear h1 h2 e1 e2 l1 l2 k5 C3 C2 C1 C0 C4 C5 GO OA OS
          go_upto_region 18 with fail
          generalize (w10.alloc (.cells #[.bool g2, .slice a2 L2.length c2] 26)) = W at bel T sL Bw B1 B2 s1 s2 ⊢
          cases O1
          · cases O2
            · clear q hl1
              have belR := Below.drew (Below.refl W.heap.size W)
              refine wp_region_held_drew (S := fun w' => (w'.cell? ⟨w9.heap.size, 0, none⟩ = some (.bool g1) ∧ w'.cell? ⟨w9.heap.size, 1, none⟩ = some (.slice a1 L1.length c1)) ∧ (w'.cell? ⟨w10.heap.size, 0, none⟩ = some (.bool g2) ∧ w'.cell? ⟨w10.heap.size, 1, none⟩ = some (.slice a2 L2.length c2))) (by kernel_rfl) ?_ (fun hHeld => ?_)
              · exact ⟨⟨B1.c0, B1.c1⟩, B2.c0, B2.c1⟩
              generalize W.drew = v0 at belR hHeld ⊢
              refine tk 0 ?_ rfl (Or.inl ⟨by rfl, ?_⟩) ?_
              rotate_left
              · (intro w hSw; go_simp; try (with_reducible rfl))
              try simp only [Act.put, Ls]
              refine tk 1 ?_ rfl (Or.inl ⟨by rfl, ?_⟩) ?_
              rotate_left
              · (intro w hSw; go_simp; try (with_reducible rfl))
              try simp only [Act.put, Ls]
              refine tk 2 ?_ rfl (Or.inl ⟨by rfl, ?_⟩) ?_
              rotate_left
              · (intro w hSw; go_simp; try (with_reducible rfl))
              try simp only [Act.put, Ls]
              refine tk 3 ?_ rfl (Or.inl ⟨by rfl, ?_⟩) ?_
              rotate_left
              · (intro w hSw; go_simp; try (with_reducible rfl))
              try simp only [Act.put, Ls]
              refine tk 4 ?_ rfl (Or.inl ⟨by rfl, ?_⟩) ?_
              rotate_left
              · (intro w hSw; go_simp; try (with_reducible rfl))
              try simp only [Act.put, Ls]
              refine tk 5 ?_ rfl (Or.inl ⟨by rfl, ?_⟩) ?_
              rotate_left
              · (intro w hSw; go_simp; try (with_reducible rfl))
              try simp only [Act.put, Ls]
              refine tk 6 ?_ rfl (Or.inl ⟨by rfl, ?_⟩) ?_
              rotate_left
              · (intro w hSw; go_simp; try (with_reducible rfl))
              try simp only [Act.put, Ls]
              refine tk 7 undef rfl (Or.inr ⟨by rfl, rfl⟩) ?_
              try simp only [Act.put, Ls]
              refine tk 8 undef rfl (Or.inr ⟨by rfl, rfl⟩) ?_
              try simp only [Act.put, Ls]
              refine tk 9 ?_ rfl (Or.inl ⟨by rfl, ?_⟩) ?_
              rotate_left
              · (intro w hSw; go_simp; try (with_reducible rfl))
              try simp only [Act.put, Ls]
              refine tk 10 ?_ rfl (Or.inl ⟨by rfl, ?_⟩) ?_
              rotate_left
              · (intro w hSw; go_simp; try (with_reducible rfl))
              try simp only [Act.put, Ls]
              refine tk 11 undef rfl (Or.inr ⟨by rfl, rfl⟩) ?_
              try simp only [Act.put, Ls]
              refine tk 12 undef rfl (Or.inr ⟨by rfl, rfl⟩) ?_
              try simp only [Act.put, Ls]
              refine tk 13 undef rfl (Or.inr ⟨by rfl, rfl⟩) ?_
              try simp only [Act.put, Ls]
              refine tk 14 undef rfl (Or.inr ⟨by rfl, rfl⟩) ?_
              try simp only [Act.put, Ls]
              refine tk 15 undef rfl (Or.inr ⟨by rfl, rfl⟩) ?_
              try simp only [Act.put, Ls]
              refine tk 16 ?_ rfl (Or.inl ⟨by rfl, ?_⟩) ?_
              rotate_left
              · (intro w hSw; go_simp; try (with_reducible rfl))
              try simp only [Act.put, Ls]
              refine tk 17 ?_ rfl (Or.inl ⟨by rfl, ?_⟩) ?_
              rotate_left
              · (intro w hSw; go_simp; try (with_reducible rfl))
              try simp only [Act.put, Ls]
              refine rdy 18 rfl (fun K hK => ?_)
              go_simp
              refine hK.out _ _ ?_ (fun hHeld => ?_)
              · exact ⟨⟨(B1.below belR).c0, (B1.below belR).c1⟩, (B2.below belR).c0, (B2.below belR).c1⟩
              clear hK K
              try simp only [Act.put, Ls]
              refine wpAnyH_done (by kernel_rfl) ?_ _
              replace bel := bel.trans (belR.mono bel.size)
              clear belR
              go_wp2
              all_goals go_ret
              all_goals exact ⟨rfl, bel⟩
            · clear q hl1
              have belR := Below.drew (Below.refl W.heap.size W)
              refine wp_region_held_drew (S := fun w' => (w'.cell? ⟨w9.heap.size, 0, none⟩ = some (.bool g1) ∧ w'.cell? ⟨w9.heap.size, 1, none⟩ = some (.slice a1 L1.length c1)) ∧ (w'.cell? ⟨w10.heap.size, 0, none⟩ = some (.bool g2) ∧ w'.cell? ⟨w10.heap.size, 1, none⟩ = some (.slice a2 L2.length c2))) (by kernel_rfl) ?_ (fun hHeld => ?_)
              · exact ⟨⟨B1.c0, B1.c1⟩, B2.c0, B2.c1⟩
              generalize W.drew = v0 at belR hHeld ⊢
              refine tk 0 ?_ rfl (Or.inl ⟨by rfl, ?_⟩) ?_
              rotate_left
              · (intro w hSw; go_simp; try (with_reducible rfl))
              try simp only [Act.put, Ls]
              refine tk 1 ?_ rfl (Or.inl ⟨by rfl, ?_⟩) ?_
              rotate_left
              · (intro w hSw; go_simp; try (with_reducible rfl))
              try simp only [Act.put, Ls]
              refine tk 2 ?_ rfl (Or.inl ⟨by rfl, ?_⟩) ?_
              rotate_left
              · (intro w hSw; go_simp; try (with_reducible rfl))
              try simp only [Act.put, Ls]
              refine tk 3 ?_ rfl (Or.inl ⟨by rfl, ?_⟩) ?_
              rotate_left
              · (intro w hSw; go_simp; try (with_reducible rfl))
              try simp only [Act.put, Ls]
              refine tk 4 ?_ rfl (Or.inl ⟨by rfl, ?_⟩) ?_
              rotate_left
              · (intro w hSw; go_simp; try (with_reducible rfl))
              try simp only [Act.put, Ls]
              refine tk 5 ?_ rfl (Or.inl ⟨by rfl, ?_⟩) ?_
              rotate_left
              · (intro w hSw; go_simp; try (with_reducible rfl))
              try simp only [Act.put, Ls]
              refine tk 6 ?_ rfl (Or.inl ⟨by rfl, ?_⟩) ?_
              rotate_left
              · (intro w hSw; go_simp; try (with_reducible rfl))
              try simp only [Act.put, Ls]
              refine tk 7 undef rfl (Or.inr ⟨by rfl, rfl⟩) ?_
              try simp only [Act.put, Ls]
              refine tk 8 undef rfl (Or.inr ⟨by rfl, rfl⟩) ?_
              try simp only [Act.put, Ls]
              refine tk 9 ?_ rfl (Or.inl ⟨by rfl, ?_⟩) ?_
              rotate_left
              · (intro w hSw; go_simp; try (with_reducible rfl))
              try simp only [Act.put, Ls]
              refine tk 10 ?_ rfl (Or.inl ⟨by rfl, ?_⟩) ?_
              rotate_left
              · (intro w hSw; go_simp; try (with_reducible rfl))
              try simp only [Act.put, Ls]
              refine tk 11 undef rfl (Or.inr ⟨by rfl, rfl⟩) ?_
              try simp only [Act.put, Ls]
              refine tk 12 undef rfl (Or.inr ⟨by rfl, rfl⟩) ?_
              try simp only [Act.put, Ls]
              refine tk 13 undef rfl (Or.inr ⟨by rfl, rfl⟩) ?_
              try simp only [Act.put, Ls]
              refine tk 14 undef rfl (Or.inr ⟨by rfl, rfl⟩) ?_
              try simp only [Act.put, Ls]
              refine tk 15 undef rfl (Or.inr ⟨by rfl, rfl⟩) ?_
              try simp only [Act.put, Ls]
              refine tk 16 ?_ rfl (Or.inl ⟨by rfl, ?_⟩) ?_
              rotate_left
              · (intro w hSw; go_simp; try (with_reducible rfl))
              try simp only [Act.put, Ls]
              refine tk 17 ?_ rfl (Or.inl ⟨by rfl, ?_⟩) ?_
              rotate_left
              · (intro w hSw; go_simp; try (with_reducible rfl))
              try simp only [Act.put, Ls]
              refine rdy 18 rfl (fun K hK => ?_)
              go_simp
              refine hK.out _ _ ?_ (fun hHeld => ?_)
              · exact ⟨⟨(B1.below belR).c0, (B1.below belR).c1⟩, (B2.below belR).c0, (B2.below belR).c1⟩
              clear hK K
              try simp only [Act.put, Ls]
              refine wpAnyH_done (by kernel_rfl) ?_ _
              replace bel := bel.trans (belR.mono bel.size)
              clear belR
              go_wp2
              all_goals go_ret
              all_goals exact ⟨rfl, bel⟩
          · cases O2
            · clear q hl1
              have belR := Below.drew (Below.refl W.heap.size W)
              refine wp_region_held_drew (S := fun w' => (w'.cell? ⟨w9.heap.size, 0, none⟩ = some (.bool g1) ∧ w'.cell? ⟨w9.heap.size, 1, none⟩ = some (.slice a1 L1.length c1)) ∧ (w'.cell? ⟨w10.heap.size, 0, none⟩ = some (.bool g2) ∧ w'.cell? ⟨w10.heap.size, 1, none⟩ = some (.slice a2 L2.length c2))) (by kernel_rfl) ?_ (fun hHeld => ?_)
              · exact ⟨⟨B1.c0, B1.c1⟩, B2.c0, B2.c1⟩
              generalize W.drew = v0 at belR hHeld ⊢
              refine tk 0 ?_ rfl (Or.inl ⟨by rfl, ?_⟩) ?_
              rotate_left
              · (intro w hSw; go_simp; try (with_reducible rfl))
              try simp only [Act.put, Ls]
              refine tk 1 ?_ rfl (Or.inl ⟨by rfl, ?_⟩) ?_
              rotate_left
              · (intro w hSw; go_simp; try (with_reducible rfl))
              try simp only [Act.put, Ls]
              refine tk 2 ?_ rfl (Or.inl ⟨by rfl, ?_⟩) ?_
              rotate_left
              · (intro w hSw; go_simp; try (with_reducible rfl))
              try simp only [Act.put, Ls]
              refine tk 3 ?_ rfl (Or.inl ⟨by rfl, ?_⟩) ?_
              rotate_left
              · (intro w hSw; go_simp; try (with_reducible rfl))
              try simp only [Act.put, Ls]
              refine tk 4 ?_ rfl (Or.inl ⟨by rfl, ?_⟩) ?_
              rotate_left
              · (intro w hSw; go_simp; try (with_reducible rfl))
              try simp only [Act.put, Ls]
              refine tk 5 ?_ rfl (Or.inl ⟨by rfl, ?_⟩) ?_
              rotate_left
              · (intro w hSw; go_simp; try (with_reducible rfl))
              try simp only [Act.put, Ls]
              refine tk 6 ?_ rfl (Or.inl ⟨by rfl, ?_⟩) ?_
              rotate_left
              · (intro w hSw; go_simp; try (with_reducible rfl))
              try simp only [Act.put, Ls]
              refine tk 7 ?_ rfl (Or.inl ⟨by rfl, ?_⟩) ?_
              rotate_left
              · (intro w hSw; go_simp; try (with_reducible rfl))
              try simp only [Act.put, Ls]
              refine tk 8 ?_ rfl (Or.inl ⟨by rfl, ?_⟩) ?_
              rotate_left
              · (intro w hSw; go_simp; try (with_reducible rfl))
              try simp only [Act.put, Ls]
              refine tk 9 ?_ rfl (Or.inl ⟨by rfl, ?_⟩) ?_
              rotate_left
              · (intro w hSw; go_simp; try (with_reducible rfl))
              try simp only [Act.put, Ls]
              refine tk 10 ?_ rfl (Or.inl ⟨by rfl, ?_⟩) ?_
              rotate_left
              · (intro w hSw; go_simp; try (with_reducible rfl))
              try simp only [Act.put, Ls]
              refine tk 11 undef rfl (Or.inr ⟨by rfl, rfl⟩) ?_
              try simp only [Act.put, Ls]
              refine tk 12 undef rfl (Or.inr ⟨by rfl, rfl⟩) ?_
              try simp only [Act.put, Ls]
              refine tk 13 undef rfl (Or.inr ⟨by rfl, rfl⟩) ?_
              try simp only [Act.put, Ls]
              refine tk 14 undef rfl (Or.inr ⟨by rfl, rfl⟩) ?_
              try simp only [Act.put, Ls]
              refine tk 15 undef rfl (Or.inr ⟨by rfl, rfl⟩) ?_
              try simp only [Act.put, Ls]
              refine tk 16 ?_ rfl (Or.inl ⟨by rfl, ?_⟩) ?_
              rotate_left
              · (intro w hSw; go_simp; try (with_reducible rfl))
              try simp only [Act.put, Ls]
              refine tk 17 ?_ rfl (Or.inl ⟨by rfl, ?_⟩) ?_
              rotate_left
              · (intro w hSw; go_simp; try (with_reducible rfl))
              try simp only [Act.put, Ls]
              refine rdy 18 rfl (fun K hK => ?_)
              go_simp
              refine hK.out _ _ ?_ (fun hHeld => ?_)
              · exact ⟨⟨(B1.below belR).c0, (B1.below belR).c1⟩, (B2.below belR).c0, (B2.below belR).c1⟩
              clear hK K
              try simp only [Act.put, Ls]
              refine wpAnyH_done (by kernel_rfl) ?_ _
              replace bel := bel.trans (belR.mono bel.size)
              clear belR
              go_wp2
              all_goals go_ret
              all_goals exact ⟨rfl, bel⟩
            · have q := q rfl rfl
              subst q
              have belR := Below.drew (Below.refl W.heap.size W)
              refine wp_region_held_drew (S := fun w' => (w'.cell? ⟨w9.heap.size, 0, none⟩ = some (.bool g1) ∧ w'.cell? ⟨w9.heap.size, 1, none⟩ = some (.slice a1 L1.length c1)) ∧ (w'.cell? ⟨w10.heap.size, 0, none⟩ = some (.bool g2) ∧ w'.cell? ⟨w10.heap.size, 1, none⟩ = some (.slice a2 L1.length c2))) (by kernel_rfl) ?_ (fun hHeld => ?_)
              · exact ⟨⟨B1.c0, B1.c1⟩, B2.c0, B2.c1⟩
              generalize W.drew = v0 at belR hHeld ⊢
              refine tk 0 ?_ rfl (Or.inl ⟨by rfl, ?_⟩) ?_
              rotate_left
              · (intro w hSw; go_simp; try (with_reducible rfl))
              try simp only [Act.put, Ls]
              refine tk 1 ?_ rfl (Or.inl ⟨by rfl, ?_⟩) ?_
              rotate_left
              · (intro w hSw; go_simp; try (with_reducible rfl))
              try simp only [Act.put, Ls]
              refine tk 2 ?_ rfl (Or.inl ⟨by rfl, ?_⟩) ?_
              rotate_left
              · (intro w hSw; go_simp; try (with_reducible rfl))
              try simp only [Act.put, Ls]
              refine tk 3 ?_ rfl (Or.inl ⟨by rfl, ?_⟩) ?_
              rotate_left
              · (intro w hSw; go_simp; try (with_reducible rfl))
              try simp only [Act.put, Ls]
              refine tk 4 ?_ rfl (Or.inl ⟨by rfl, ?_⟩) ?_
              rotate_left
              · (intro w hSw; go_simp; try (with_reducible rfl))
              try simp only [Act.put, Ls]
              refine tk 5 ?_ rfl (Or.inl ⟨by rfl, ?_⟩) ?_
              rotate_left
              · (intro w hSw; go_simp; try (with_reducible rfl))
              try simp only [Act.put, Ls]
              refine tk 6 ?_ rfl (Or.inl ⟨by rfl, ?_⟩) ?_
              rotate_left
              · (intro w hSw; go_simp; try (with_reducible rfl))
              try simp only [Act.put, Ls]
              refine tk 7 ?_ rfl (Or.inl ⟨by rfl, ?_⟩) ?_
              rotate_left
              · (intro w hSw; go_simp; try (with_reducible rfl))
              try simp only [Act.put, Ls]
              refine tk 8 ?_ rfl (Or.inl ⟨by rfl, ?_⟩) ?_
              rotate_left
              · (intro w hSw; go_simp; try (with_reducible rfl))
              try simp only [Act.put, Ls]
              refine tk 9 ?_ rfl (Or.inl ⟨by rfl, ?_⟩) ?_
              rotate_left
              · (intro w hSw; go_simp; try (with_reducible rfl))
              try simp only [Act.put, Ls]
              refine tk 10 ?_ rfl (Or.inl ⟨by rfl, ?_⟩) ?_
              rotate_left
              · (intro w hSw; go_simp; try (with_reducible rfl))
              try simp only [Act.put, Ls]
              refine tk 11 ?_ rfl (Or.inl ⟨by rfl, ?_⟩) ?_
              rotate_left
              · (intro w hSw; (try dsimp only at hSw); obtain ⟨⟨hS0, hS1⟩, hS2, hS3⟩ := hSw; go_simp; try (with_reducible rfl))
              try simp only [Act.put, Ls]
              refine tk 13 ?_ rfl (Or.inl ⟨by rfl, ?_⟩) ?_
              rotate_left
              · (intro w hSw; (try dsimp only at hSw); obtain ⟨⟨hS0, hS1⟩, hS2, hS3⟩ := hSw; go_simp; try (with_reducible rfl))
              try simp only [Act.put, Ls]
              refine rdy 12 rfl (fun K hK => ?_)
              go_simp
              go_at_call 21
              refine (mag_w g1 a1 L1.length c1 _).mono ?_
              rintro r v1 ⟨rfl, hb'⟩
              have hz' := belR.size
              replace belR := bel_go belR hb'
              clear hb' hz'
              refine hK.out _ _ ?_ (fun hHeld => ?_)
              · exact ⟨⟨(B1.below belR).c0, (B1.below belR).c1⟩, (B2.below belR).c0, (B2.below belR).c1⟩
              clear hK K
              try simp only [Act.put, Ls]
              refine rdy 14 rfl (fun K hK => ?_)
              go_simp
              go_at_call 21
              refine (mag_w g2 a2 L1.length c2 _).mono ?_
              rintro r v2 ⟨rfl, hb'⟩
              have hz' := belR.size
              replace belR := bel_go belR hb'
              clear hb' hz'
              refine hK.out _ _ ?_ (fun hHeld => ?_)
              · exact ⟨⟨(B1.below belR).c0, (B1.below belR).c1⟩, (B2.below belR).c0, (B2.below belR).c1⟩
              clear hK K
              try simp only [Act.put, Ls]
              refine rdy 15 rfl (fun K hK => ?_)
              go_simp
              go_at_call 20
              refine (same_yes false a1 a2 c1 c2 L1 _ (s1.below belR) (s2.below belR) hl1).mono ?_
              rintro r v3 ⟨rfl, hb'⟩
              have hz' := belR.size
              replace belR := bel_go belR hb'
              clear hb' hz'
              refine hK.out _ _ ?_ (fun hHeld => ?_)
              · exact ⟨⟨(B1.below belR).c0, (B1.below belR).c1⟩, (B2.below belR).c0, (B2.below belR).c1⟩
              clear hK K
              try simp only [Act.put, Ls]
              refine tk 16 ?_ rfl (Or.inl ⟨by rfl, ?_⟩) ?_
              rotate_left
              · (intro w hSw; go_simp; try (with_reducible rfl))
              try simp only [Act.put, Ls]
              refine tk 17 ?_ rfl (Or.inl ⟨by rfl, ?_⟩) ?_
              rotate_left
              · (intro w hSw; go_simp; try (with_reducible rfl))
              try simp only [Act.put, Ls]
              refine rdy 18 rfl (fun K hK => ?_)
              go_simp
              refine hK.out _ _ ?_ (fun hHeld => ?_)
              · exact ⟨⟨(B1.below belR).c0, (B1.below belR).c1⟩, (B2.below belR).c0, (B2.below belR).c1⟩
              clear hK K
              try simp only [Act.put, Ls]
              refine wpAnyH_done (by kernel_rfl) ?_ _
              replace bel := bel.trans (belR.mono bel.size)
              clear belR
              go_wp2
              all_goals go_ret
              all_goals exact ⟨rfl, bel⟩
        · rw [hn, k4, h13] at C0
          clear hn hne has k4 h13 k3
          replace T := T.below (al_b _ (.cells #[.bool false, .slice a Z.length c] 26))
          replace sL := sL.below (al_b _ (.cells #[.bool false, .slice a Z.length c] 26))
          replace bel := bel_al bel (.cells #[.bool false, .slice a Z.length c] 26)
          have Bw := R2.new w1 (.bool false) (.slice a Z.length c) 26
          obtain ⟨kw0, kw1, -, -⟩ := id Bw
          go_wp2_with fail
          refine (C3.out _ T sL).mono ?_
          rintro r w2 ⟨rfl, hb⟩
          clear kw0 kw1
          replace bel := bel_go bel hb
          replace T := T.below hb
          replace sL := sL.below hb
          replace Bw := Bw.below hb
          clear hb
          obtain ⟨kw0, kw1, -, -⟩ := id Bw
          go_wp2_with fail
          refine (C2.out _ T sL).mono ?_
          rintro r w3 ⟨rfl, hb⟩
          clear kw0 kw1
          replace bel := bel_go bel hb
          replace T := T.below hb
          replace sL := sL.below hb
          replace Bw := Bw.below hb
          clear hb
          obtain ⟨kw0, kw1, -, -⟩ := id Bw
          go_wp2_with fail
          refine (C1.out _ T sL).mono ?_
          rintro r w4 ⟨rfl, hb⟩
          clear kw0 kw1
          replace bel := bel_go bel hb
          replace T := T.below hb
          replace sL := sL.below hb
          replace Bw := Bw.below hb
          clear hb
          obtain ⟨kw0, kw1, -, -⟩ := id Bw
          go_wp2_with fail
          refine (C0.out _ T sL).mono ?_
          rintro r w5 ⟨rfl, hb⟩
          clear kw0 kw1
          replace bel := bel_go bel hb
          replace T := T.below hb
          replace sL := sL.below hb
          replace Bw := Bw.below hb
          clear hb
          obtain ⟨kw0, kw1, -, -⟩ := id Bw
          go_wp2_with fail
          refine (C4.out _ T sL).mono ?_
          rintro r w6 ⟨rfl, hb⟩
          clear kw0 kw1
          replace bel := bel_go bel hb
          replace T := T.below hb
          replace sL := sL.below hb
          replace Bw := Bw.below hb
          clear hb
          obtain ⟨kw0, kw1, -, -⟩ := id Bw
          go_wp2_with fail
          refine (C5.out _ T sL).mono ?_
          rintro r w7 ⟨rfl, hb⟩
          clear kw0 kw1
          replace bel := bel_go bel hb
          replace T := T.below hb
          replace sL := sL.below hb
          replace Bw := Bw.below hb
          clear hb
          obtain ⟨kw0, kw1, -, -⟩ := id Bw
          go_wp2_with fail
          refine (GO.out _ sL).mono ?_
          rintro r w8 ⟨rfl, hb⟩
          clear kw0 kw1
          replace bel := bel_go bel hb
          replace T := T.below hb
          replace sL := sL.below hb
          replace Bw := Bw.below hb
          clear hb
          obtain ⟨kw0, kw1, -, -⟩ := id Bw
          go_wp2_with fail
          refine (OA.out _ T.s.f sL).mono ?_
          rintro r w9 ⟨D1, O1, a1, c1, rfl, h1, l1, s1, hb⟩
          clear kw0 kw1
          replace bel := bel_go bel hb
          replace T := T.below hb
          replace sL := sL.below hb
          replace Bw := Bw.below hb
          clear hb
          replace h1 := hid h1
          replace l1 := hid l1
          obtain ⟨g1, h_g1⟩ : ∃ q, q = Nm.wn D1 := ⟨_, rfl⟩
          obtain ⟨L1, e1⟩ : ∃ q, q = Nm.wl D1 := ⟨_, rfl⟩
          rw [← h_g1, ← e1]
          rw [← e1] at s1
          clear h_g1
          replace e1 := hid e1
          replace T := T.below (al_b _ (.cells #[.bool g1, .slice a1 L1.length c1] 26))
          replace sL := sL.below (al_b _ (.cells #[.bool g1, .slice a1 L1.length c1] 26))
          replace Bw := Bw.below (al_b _ (.cells #[.bool g1, .slice a1 L1.length c1] 26))
          replace s1 := s1.below (al_b _ (.cells #[.bool g1, .slice a1 L1.length c1] 26))
          replace bel := bel_al bel (.cells #[.bool g1, .slice a1 L1.length c1] 26)
          have B1 := R2.new w9 (.bool g1) (.slice a1 L1.length c1) 26
          obtain ⟨kw0, kw1, -, -⟩ := id Bw
          obtain ⟨k10, k11, -, -⟩ := id B1
          go_wp2_with fail
          refine (OS.out _ T.s.f sL).mono ?_
          rintro r w10 ⟨D2, O2, a2, c2, rfl, h2, l2, s2, hb⟩
          clear kw0 kw1 k10 k11
          replace bel := bel_go bel hb
          replace T := T.below hb
          replace sL := sL.below hb
          replace Bw := Bw.below hb
          replace s1 := s1.below hb
          replace B1 := B1.below hb
          clear hb
          replace h2 := hid h2
          replace l2 := hid l2
          obtain ⟨g2, h_g2⟩ : ∃ q, q = Nm.wn D2 := ⟨_, rfl⟩
          obtain ⟨L2, e2⟩ : ∃ q, q = Nm.wl D2 := ⟨_, rfl⟩
          rw [← h_g2, ← e2]
          rw [← e2] at s2
          clear h_g2
          replace e2 := hid e2
          replace T := T.below (al_b _ (.cells #[.bool g2, .slice a2 L2.length c2] 26))
          replace sL := sL.below (al_b _ (.cells #[.bool g2, .slice a2 L2.length c2] 26))
          replace Bw := Bw.below (al_b _ (.cells #[.bool g2, .slice a2 L2.length c2] 26))
          replace s1 := s1.below (al_b _ (.cells #[.bool g2, .slice a2 L2.length c2] 26))
          replace B1 := B1.below (al_b _ (.cells #[.bool g2, .slice a2 L2.length c2] 26))
          replace s2 := s2.below (al_b _ (.cells #[.bool g2, .slice a2 L2.length c2] 26))
          replace bel := bel_al bel (.cells #[.bool g2, .slice a2 L2.length c2] 26)
          have B2 := R2.new w10 (.bool g2) (.slice a2 L2.length c2) 26
          have q : O1 = true → O2 = true → L1 = L2 := fun h h' => by
            obtain ⟨f1, f2⟩ := h1.out h
            obtain ⟨f3, f4⟩ := h2.out h'
            rw [e1.out, e2.out]
            unfold Nm.wl
            rw [f2, f4]
            rw [k5.out f1 f3]
          have hl1 : L1.length ≤ 1048576 := by have := fit_k (x := D1) (by have := l1.out; omega); rw [e1.out]; omega
          clear h1 h2 e1 e2 l1 l2 k5 C3 C2 C1 C0 C4 C5 GO OA OS
          go_upto_region 18 with fail
          generalize (w10.alloc (.cells #[.bool g2, .slice a2 L2.length c2] 26)) = W at bel T sL Bw B1 B2 s1 s2 ⊢
          cases O1
          · cases O2
            · clear q hl1
              have belR := Below.drew (Below.refl W.heap.size W)
              refine wp_region_held_drew (S := fun w' => (w'.cell? ⟨w9.heap.size, 0, none⟩ = some (.bool g1) ∧ w'.cell? ⟨w9.heap.size, 1, none⟩ = some (.slice a1 L1.length c1)) ∧ (w'.cell? ⟨w10.heap.size, 0, none⟩ = some (.bool g2) ∧ w'.cell? ⟨w10.heap.size, 1, none⟩ = some (.slice a2 L2.length c2))) (by kernel_rfl) ?_ (fun hHeld => ?_)
              · exact ⟨⟨B1.c0, B1.c1⟩, B2.c0, B2.c1⟩
              generalize W.drew = v0 at belR hHeld ⊢
              refine tk 0 ?_ rfl (Or.inl ⟨by rfl, ?_⟩) ?_
              rotate_left
              · (intro w hSw; go_simp; try (with_reducible rfl))
              try simp only [Act.put, Ls]
              refine tk 1 ?_ rfl (Or.inl ⟨by rfl, ?_⟩) ?_
              rotate_left
              · (intro w hSw; go_simp; try (with_reducible rfl))
              try simp only [Act.put, Ls]
              refine tk 2 ?_ rfl (Or.inl ⟨by rfl, ?_⟩) ?_
              rotate_left
              · (intro w hSw; go_simp; try (with_reducible rfl))
              try simp only [Act.put, Ls]
              refine tk 3 ?_ rfl (Or.inl ⟨by rfl, ?_⟩) ?_
              rotate_left
              · (intro w hSw; go_simp; try (with_reducible rfl))
              try simp only [Act.put, Ls]
              refine tk 4 ?_ rfl (Or.inl ⟨by rfl, ?_⟩) ?_
              rotate_left
              · (intro w hSw; go_simp; try (with_reducible rfl))
              try simp only [Act.put, Ls]
              refine tk 5 ?_ rfl (Or.inl ⟨by rfl, ?_⟩) ?_
              rotate_left
              · (intro w hSw; go_simp; try (with_reducible rfl))
              try simp only [Act.put, Ls]
              refine tk 6 ?_ rfl (Or.inl ⟨by rfl, ?_⟩) ?_
              rotate_left
              · (intro w hSw; go_simp; try (with_reducible rfl))
              try simp only [Act.put, Ls]
              refine tk 7 undef rfl (Or.inr ⟨by rfl, rfl⟩) ?_
              try simp only [Act.put, Ls]
              refine tk 8 undef rfl (Or.inr ⟨by rfl, rfl⟩) ?_
              try simp only [Act.put, Ls]
              refine tk 9 ?_ rfl (Or.inl ⟨by rfl, ?_⟩) ?_
              rotate_left
              · (intro w hSw; go_simp; try (with_reducible rfl))
              try simp only [Act.put, Ls]
              refine tk 10 ?_ rfl (Or.inl ⟨by rfl, ?_⟩) ?_
              rotate_left
              · (intro w hSw; go_simp; try (with_reducible rfl))
              try simp only [Act.put, Ls]
              refine tk 11 undef rfl (Or.inr ⟨by rfl, rfl⟩) ?_
              try simp only [Act.put, Ls]
              refine tk 12 undef rfl (Or.inr ⟨by rfl, rfl⟩) ?_
              try simp only [Act.put, Ls]
              refine tk 13 undef rfl (Or.inr ⟨by rfl, rfl⟩) ?_
              try simp only [Act.put, Ls]
              refine tk 14 undef rfl (Or.inr ⟨by rfl, rfl⟩) ?_
              try simp only [Act.put, Ls]
              refine tk 15 undef rfl (Or.inr ⟨by rfl, rfl⟩) ?_
              try simp only [Act.put, Ls]
              refine tk 16 ?_ rfl (Or.inl ⟨by rfl, ?_⟩) ?_
              rotate_left
              · (intro w hSw; go_simp; try (with_reducible rfl))
              try simp only [Act.put, Ls]
              refine tk 17 ?_ rfl (Or.inl ⟨by rfl, ?_⟩) ?_
              rotate_left
              · (intro w hSw; go_simp; try (with_reducible rfl))
              try simp only [Act.put, Ls]
              refine rdy 18 rfl (fun K hK => ?_)
              go_simp
              refine hK.out _ _ ?_ (fun hHeld => ?_)
              · exact ⟨⟨(B1.below belR).c0, (B1.below belR).c1⟩, (B2.below belR).c0, (B2.below belR).c1⟩
              clear hK K
              try simp only [Act.put, Ls]
              refine wpAnyH_done (by kernel_rfl) ?_ _
              replace bel := bel.trans (belR.mono bel.size)
              clear belR
              go_wp2
              all_goals go_ret
              all_goals exact ⟨rfl, bel⟩
            · clear q hl1
              have belR := Below.drew (Below.refl W.heap.size W)
              refine wp_region_held_drew (S := fun w' => (w'.cell? ⟨w9.heap.size, 0, none⟩ = some (.bool g1) ∧ w'.cell? ⟨w9.heap.size, 1, none⟩ = some (.slice a1 L1.length c1)) ∧ (w'.cell? ⟨w10.heap.size, 0, none⟩ = some (.bool g2) ∧ w'.cell? ⟨w10.heap.size, 1, none⟩ = some (.slice a2 L2.length c2))) (by kernel_rfl) ?_ (fun hHeld => ?_)
              · exact ⟨⟨B1.c0, B1.c1⟩, B2.c0, B2.c1⟩
              generalize W.drew = v0 at belR hHeld ⊢
              refine tk 0 ?_ rfl (Or.inl ⟨by rfl, ?_⟩) ?_
              rotate_left
              · (intro w hSw; go_simp; try (with_reducible rfl))
              try simp only [Act.put, Ls]
              refine tk 1 ?_ rfl (Or.inl ⟨by rfl, ?_⟩) ?_
              rotate_left
              · (intro w hSw; go_simp; try (with_reducible rfl))
              try simp only [Act.put, Ls]
              refine tk 2 ?_ rfl (Or.inl ⟨by rfl, ?_⟩) ?_
              rotate_left
              · (intro w hSw; go_simp; try (with_reducible rfl))
              try simp only [Act.put, Ls]
              refine tk 3 ?_ rfl (Or.inl ⟨by rfl, ?_⟩) ?_
              rotate_left
              · (intro w hSw; go_simp; try (with_reducible rfl))
              try simp only [Act.put, Ls]
              refine tk 4 ?_ rfl (Or.inl ⟨by rfl, ?_⟩) ?_
              rotate_left
              · (intro w hSw; go_simp; try (with_reducible rfl))
              try simp only [Act.put, Ls]
              refine tk 5 ?_ rfl (Or.inl ⟨by rfl, ?_⟩) ?_
              rotate_left
              · (intro w hSw; go_simp; try (with_reducible rfl))
              try simp only [Act.put, Ls]
              refine tk 6 ?_ rfl (Or.inl ⟨by rfl, ?_⟩) ?_
              rotate_left
              · (intro w hSw; go_simp; try (with_reducible rfl))
              try simp only [Act.put, Ls]
              refine tk 7 undef rfl (Or.inr ⟨by rfl, rfl⟩) ?_
              try simp only [Act.put, Ls]
              refine tk 8 undef rfl (Or.inr ⟨by rfl, rfl⟩) ?_
              try simp only [Act.put, Ls]
              refine tk 9 ?_ rfl (Or.inl ⟨by rfl, ?_⟩) ?_
              rotate_left
              · (intro w hSw; go_simp; try (with_reducible rfl))
              try simp only [Act.put, Ls]
              refine tk 10 ?_ rfl (Or.inl ⟨by rfl, ?_⟩) ?_
              rotate_left
              · (intro w hSw; go_simp; try (with_reducible rfl))
              try simp only [Act.put, Ls]
              refine tk 11 undef rfl (Or.inr ⟨by rfl, rfl⟩) ?_
              try simp only [Act.put, Ls]
              refine tk 12 undef rfl (Or.inr ⟨by rfl, rfl⟩) ?_
              try simp only [Act.put, Ls]
              refine tk 13 undef rfl (Or.inr ⟨by rfl, rfl⟩) ?_
              try simp only [Act.put, Ls]
              refine tk 14 undef rfl (Or.inr ⟨by rfl, rfl⟩) ?_
              try simp only [Act.put, Ls]
              refine tk 15 undef rfl (Or.inr ⟨by rfl, rfl⟩) ?_
              try simp only [Act.put, Ls]
              refine tk 16 ?_ rfl (Or.inl ⟨by rfl, ?_⟩) ?_
              rotate_left
              · (intro w hSw; go_simp; try (with_reducible rfl))
              try simp only [Act.put, Ls]
              refine tk 17 ?_ rfl (Or.inl ⟨by rfl, ?_⟩) ?_
              rotate_left
              · (intro w hSw; go_simp; try (with_reducible rfl))
              try simp only [Act.put, Ls]
              refine rdy 18 rfl (fun K hK => ?_)
              go_simp
              refine hK.out _ _ ?_ (fun hHeld => ?_)
              · exact ⟨⟨(B1.below belR).c0, (B1.below belR).c1⟩, (B2.below belR).c0, (B2.below belR).c1⟩
              clear hK K
              try simp only [Act.put, Ls]
              refine wpAnyH_done (by kernel_rfl) ?_ _
              replace bel := bel.trans (belR.mono bel.size)
              clear belR
              go_wp2
              all_goals go_ret
              all_goals exact ⟨rfl, bel⟩
          · cases O2
            · clear q hl1
              have belR := Below.drew (Below.refl W.heap.size W)
              refine wp_region_held_drew (S := fun w' => (w'.cell? ⟨w9.heap.size, 0, none⟩ = some (.bool g1) ∧ w'.cell? ⟨w9.heap.size, 1, none⟩ = some (.slice a1 L1.length c1)) ∧ (w'.cell? ⟨w10.heap.size, 0, none⟩ = some (.bool g2) ∧ w'.cell? ⟨w10.heap.size, 1, none⟩ = some (.slice a2 L2.length c2))) (by kernel_rfl) ?_ (fun hHeld => ?_)
              · exact ⟨⟨B1.c0, B1.c1⟩, B2.c0, B2.c1⟩
              generalize W.drew = v0 at belR hHeld ⊢
              refine tk 0 ?_ rfl (Or.inl ⟨by rfl, ?_⟩) ?_
              rotate_left
              · (intro w hSw; go_simp; try (with_reducible rfl))
              try simp only [Act.put, Ls]
              refine tk 1 ?_ rfl (Or.inl ⟨by rfl, ?_⟩) ?_
              rotate_left
              · (intro w hSw; go_simp; try (with_reducible rfl))
              try simp only [Act.put, Ls]
              refine tk 2 ?_ rfl (Or.inl ⟨by rfl, ?_⟩) ?_
              rotate_left
              · (intro w hSw; go_simp; try (with_reducible rfl))
              try simp only [Act.put, Ls]
              refine tk 3 ?_ rfl (Or.inl ⟨by rfl, ?_⟩) ?_
              rotate_left
              · (intro w hSw; go_simp; try (with_reducible rfl))
              try simp only [Act.put, Ls]
              refine tk 4 ?_ rfl (Or.inl ⟨by rfl, ?_⟩) ?_
              rotate_left
              · (intro w hSw; go_simp; try (with_reducible rfl))
              try simp only [Act.put, Ls]
              refine tk 5 ?_ rfl (Or.inl ⟨by rfl, ?_⟩) ?_
              rotate_left
              · (intro w hSw; go_simp; try (with_reducible rfl))
              try simp only [Act.put, Ls]
              refine tk 6 ?_ rfl (Or.inl ⟨by rfl, ?_⟩) ?_
              rotate_left
              · (intro w hSw; go_simp; try (with_reducible rfl))
              try simp only [Act.put, Ls]
              refine tk 7 ?_ rfl (Or.inl ⟨by rfl, ?_⟩) ?_
              rotate_left
              · (intro w hSw; go_simp; try (with_reducible rfl))
              try simp only [Act.put, Ls]
              refine tk 8 ?_ rfl (Or.inl ⟨by rfl, ?_⟩) ?_
              rotate_left
              · (intro w hSw; go_simp; try (with_reducible rfl))
              try simp only [Act.put, Ls]
              refine tk 9 ?_ rfl (Or.inl ⟨by rfl, ?_⟩) ?_
              rotate_left
              · (intro w hSw; go_simp; try (with_reducible rfl))
              try simp only [Act.put, Ls]
              refine tk 10 ?_ rfl (Or.inl ⟨by rfl, ?_⟩) ?_
              rotate_left
              · (intro w hSw; go_simp; try (with_reducible rfl))
              try simp only [Act.put, Ls]
              refine tk 11 undef rfl (Or.inr ⟨by rfl, rfl⟩) ?_
              try simp only [Act.put, Ls]
              refine tk 12 undef rfl (Or.inr ⟨by rfl, rfl⟩) ?_
              try simp only [Act.put, Ls]
              refine tk 13 undef rfl (Or.inr ⟨by rfl, rfl⟩) ?_
              try simp only [Act.put, Ls]
              refine tk 14 undef rfl (Or.inr ⟨by rfl, rfl⟩) ?_
              try simp only [Act.put, Ls]
              refine tk 15 undef rfl (Or.inr ⟨by rfl, rfl⟩) ?_
              try simp only [Act.put, Ls]
              refine tk 16 ?_ rfl (Or.inl ⟨by rfl, ?_⟩) ?_
              rotate_left
              · (intro w hSw; go_simp; try (with_reducible rfl))
              try simp only [Act.put, Ls]
              refine tk 17 ?_ rfl (Or.inl ⟨by rfl, ?_⟩) ?_
              rotate_left
              · (intro w hSw; go_simp; try (with_reducible rfl))
              try simp only [Act.put, Ls]
              refine rdy 18 rfl (fun K hK => ?_)
              go_simp
              refine hK.out _ _ ?_ (fun hHeld => ?_)
              · exact ⟨⟨(B1.below belR).c0, (B1.below belR).c1⟩, (B2.below belR).c0, (B2.below belR).c1⟩
              clear hK K
              try simp only [Act.put, Ls]
              refine wpAnyH_done (by kernel_rfl) ?_ _
              replace bel := bel.trans (belR.mono bel.size)
              clear belR
              go_wp2
              all_goals go_ret
              all_goals exact ⟨rfl, bel⟩
            · have q := q rfl rfl
              subst q
              have belR := Below.drew (Below.refl W.heap.size W)
              refine wp_region_held_drew (S := fun w' => (w'.cell? ⟨w9.heap.size, 0, none⟩ = some (.bool g1) ∧ w'.cell? ⟨w9.heap.size, 1, none⟩ = some (.slice a1 L1.length c1)) ∧ (w'.cell? ⟨w10.heap.size, 0, none⟩ = some (.bool g2) ∧ w'.cell? ⟨w10.heap.size, 1, none⟩ = some (.slice a2 L1.length c2))) (by kernel_rfl) ?_ (fun hHeld => ?_)
              · exact ⟨⟨B1.c0, B1.c1⟩, B2.c0, B2.c1⟩
              generalize W.drew = v0 at belR hHeld ⊢
              refine tk 0 ?_ rfl (Or.inl ⟨by rfl, ?_⟩) ?_
              rotate_left
              · (intro w hSw; go_simp; try (with_reducible rfl))
              try simp only [Act.put, Ls]
              refine tk 1 ?_ rfl (Or.inl ⟨by rfl, ?_⟩) ?_
              rotate_left
              · (intro w hSw; go_simp; try (with_reducible rfl))
              try simp only [Act.put, Ls]
              refine tk 2 ?_ rfl (Or.inl ⟨by rfl, ?_⟩) ?_
              rotate_left
              · (intro w hSw; go_simp; try (with_reducible rfl))
              try simp only [Act.put, Ls]
              refine tk 3 ?_ rfl (Or.inl ⟨by rfl, ?_⟩) ?_
              rotate_left
              · (intro w hSw; go_simp; try (with_reducible rfl))
              try simp only [Act.put, Ls]
              refine tk 4 ?_ rfl (Or.inl ⟨by rfl, ?_⟩) ?_
              rotate_left
              · (intro w hSw; go_simp; try (with_reducible rfl))
              try simp only [Act.put, Ls]
              refine tk 5 ?_ rfl (Or.inl ⟨by rfl, ?_⟩) ?_
              rotate_left
              · (intro w hSw; go_simp; try (with_reducible rfl))
              try simp only [Act.put, Ls]
              refine tk 6 ?_ rfl (Or.inl ⟨by rfl, ?_⟩) ?_
              rotate_left
              · (intro w hSw; go_simp; try (with_reducible rfl))
              try simp only [Act.put, Ls]
              refine tk 7 ?_ rfl (Or.inl ⟨by rfl, ?_⟩) ?_
              rotate_left
              · (intro w hSw; go_simp; try (with_reducible rfl))
              try simp only [Act.put, Ls]
              refine tk 8 ?_ rfl (Or.inl ⟨by rfl, ?_⟩) ?_
              rotate_left
              · (intro w hSw; go_simp; try (with_reducible rfl))
              try simp only [Act.put, Ls]
              refine tk 9 ?_ rfl (Or.inl ⟨by rfl, ?_⟩) ?_
              rotate_left
              · (intro w hSw; go_simp; try (with_reducible rfl))
              try simp only [Act.put, Ls]
              refine tk 10 ?_ rfl (Or.inl ⟨by rfl, ?_⟩) ?_
              rotate_left
              · (intro w hSw; go_simp; try (with_reducible rfl))
              try simp only [Act.put, Ls]
              refine tk 11 ?_ rfl (Or.inl ⟨by rfl, ?_⟩) ?_
              rotate_left
              · (intro w hSw; (try dsimp only at hSw); obtain ⟨⟨hS0, hS1⟩, hS2, hS3⟩ := hSw; go_simp; try (with_reducible rfl))
              try simp only [Act.put, Ls]
              refine tk 13 ?_ rfl (Or.inl ⟨by rfl, ?_⟩) ?_
              rotate_left
              · (intro w hSw; (try dsimp only at hSw); obtain ⟨⟨hS0, hS1⟩, hS2, hS3⟩ := hSw; go_simp; try (with_reducible rfl))
              try simp only [Act.put, Ls]
              refine rdy 12 rfl (fun K hK => ?_)
              go_simp
              go_at_call 21
              refine (mag_w g1 a1 L1.length c1 _).mono ?_
              rintro r v1 ⟨rfl, hb'⟩
              have hz' := belR.size
              replace belR := bel_go belR hb'
              clear hb' hz'
              refine hK.out _ _ ?_ (fun hHeld => ?_)
              · exact ⟨⟨(B1.below belR).c0, (B1.below belR).c1⟩, (B2.below belR).c0, (B2.below belR).c1⟩
              clear hK K
              try simp only [Act.put, Ls]
              refine rdy 14 rfl (fun K hK => ?_)
              go_simp
              go_at_call 21
              refine (mag_w g2 a2 L1.length c2 _).mono ?_
              rintro r v2 ⟨rfl, hb'⟩
              have hz' := belR.size
              replace belR := bel_go belR hb'
              clear hb' hz'
              refine hK.out _ _ ?_ (fun hHeld => ?_)
              · exact ⟨⟨(B1.below belR).c0, (B1.below belR).c1⟩, (B2.below belR).c0, (B2.below belR).c1⟩
              clear hK K
              try simp only [Act.put, Ls]
              refine rdy 15 rfl (fun K hK => ?_)
              go_simp
              go_at_call 20
              refine (same_yes false a1 a2 c1 c2 L1 _ (s1.below belR) (s2.below belR) hl1).mono ?_
              rintro r v3 ⟨rfl, hb'⟩
              have hz' := belR.size
              replace belR := bel_go belR hb'
              clear hb' hz'
              refine hK.out _ _ ?_ (fun hHeld => ?_)
              · exact ⟨⟨(B1.below belR).c0, (B1.below belR).c1⟩, (B2.below belR).c0, (B2.below belR).c1⟩
              clear hK K
              try simp only [Act.put, Ls]
              refine tk 16 ?_ rfl (Or.inl ⟨by rfl, ?_⟩) ?_
              rotate_left
              · (intro w hSw; go_simp; try (with_reducible rfl))
              try simp only [Act.put, Ls]
              refine tk 17 ?_ rfl (Or.inl ⟨by rfl, ?_⟩) ?_
              rotate_left
              · (intro w hSw; go_simp; try (with_reducible rfl))
              try simp only [Act.put, Ls]
              refine rdy 18 rfl (fun K hK => ?_)
              go_simp
              refine hK.out _ _ ?_ (fun hHeld => ?_)
              · exact ⟨⟨(B1.below belR).c0, (B1.below belR).c1⟩, (B2.below belR).c0, (B2.below belR).c1⟩
              clear hK K
              try simp only [Act.put, Ls]
              refine wpAnyH_done (by kernel_rfl) ?_ _
              replace bel := bel.trans (belR.mono bel.size)
              clear belR
              go_wp2
              all_goals go_ret
              all_goals exact ⟨rfl, bel⟩
theorem mdlaw_all (ca : Option Addr) (cc : Nat) (cs : List Int) (w : World) (hT : T3 w) (hs : Sl .u8 w (.slice ca cs.length cc) cs) (hby : ∀ i, 0 ≤ cs.getD i 0 ∧ cs.getD i 0 ≤ 255) :
    Calls Tryz.prog 3 #[.slice ca cs.length cc] w fun e w' => e = .returned (.bool true) ∧ Below w.heap.size w w' := by
  by_cases h : cs.length ≤ 1048576
  · exact mdlaw ca cc cs w hT hs hby h
  · have hn : cs.length ≤ 9223372036854775807 := by obtain ⟨_, h1, h2, _⟩ := hs.cells; unfold maxLen at h2; omega
    have CB := hid (big_any ca cs.length cc w hn true (by simp; omega))
    clear hs hby h hn
    go_enter Tryz.func3, Tryz.ntmps3
    go_wp2_with fail
    refine CB.out.mono ?_
    rintro e w0 ⟨rfl, rfl⟩
    go_wp2
    go_ret
    exact ⟨rfl, Below.refl _ _⟩
end Fd
end Go.Proofs.YtbhfbaogmkgmiaaGreatDoor
