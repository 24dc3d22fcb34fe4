/-
  What is needed of AX, AZ.
-/
import Derived.Test.YtmcflggionkhlaaGreatDoorF48
import Derived.Test.YtmcflggionkhlaaGreatDoorF50
set_option maxHeartbeats 16000000
set_option maxRecDepth 1000000
namespace Go.Proofs.YtmcflggionkhlaaGreatDoor
set_option linter.unusedVariables false
set_option linter.unusedSimpArgs false
open Go.RowKit Go.Deep
theorem mu_head {fm mode x y : Int} (x0 : 0 ≤ x) (x1 : x < 18446744073709551616) (y0 : 0 ≤ y) (y1 : y < 18446744073709551616) (hO : muO fm mode x y = true) : okF fm (muB fm mode x y) = true ∧ 0 ≤ muB fm mode x y ∧ muB fm mode x y < 18446744073709551616 ∧ (finB fm (muB fm mode x y) = true → finB fm x = true ∧ finB fm y = true) := by
  have hO' := hO
  unfold muO at hO'
  simp only [Bool.and_eq_true] at hO'
  obtain ⟨hm, hall⟩ := hO'
  obtain ⟨hx, hy⟩ := all2 hall
  have hfm := ok_fmt hx
  unfold muB
  rw [if_pos hO]
  cases hn : (nanB fm x || nanB fm y)
  · obtain ⟨nx, ny⟩ : nanB fm x = false ∧ nanB fm y = false := by simpa using hn
    simp only [Bool.false_eq_true, if_false]
    unfold mB
    have hna := Fd.nanOf_bd fm
    cases hi : (nI fm x || nI fm y)
    · obtain ⟨ix, iy⟩ : nI fm x = false ∧ nI fm y = false := by simpa using hi
      have fx := (nan_cases hx nx).resolve_right (by rw [ix]; decide)
      have fy := (nan_cases hy ny).resolve_right (by rw [iy]; decide)
      simp only [Bool.false_and, Bool.false_eq_true, if_false]
      have hsg := Fd.sgn_bd2 fm (sigB fm x != sigB fm y)
      split
      · exact ⟨(sg_okF hfm _).1, hsg.1, hsg.2.1, fun _ => ⟨fx, fy⟩⟩
      · have := Fd.RdB_bd fm mode (nZ fm x * nZ fm y) (nE fm x + nE fm y)
        obtain ⟨-, a0, a1⟩ := nZ_bd fm x
        obtain ⟨-, b0, b1⟩ := nZ_bd fm y
        exact ⟨rd_okF (rdo_any hfm hm (nZm_len fm x y) (by omega) (by omega)), this.1, this.2, fun _ => ⟨fx, fy⟩⟩
    · simp only [Bool.true_and, if_true]
      have hsg := Fd.sgn_bd2 fm (sigB fm x != sigB fm y)
      split
      · exact ⟨(nan_okF hfm).1, hna.1, hna.2, fun h => by rw [(nan_okF hfm).2] at h; cases h⟩
      · exact ⟨(sg_okF hfm _).2.1, hsg.2.2.1, hsg.2.2.2, fun h => by rw [(sg_okF hfm _).2.2] at h; cases h⟩
  · simp only [if_true]
    have := Fd.nanOf_bd fm
    exact ⟨(nan_okF hfm).1, this.1, this.2, fun h => by rw [(nan_okF hfm).2] at h; cases h⟩
theorem ams_spec (fm x y : Int) (w : World) (x0 : 0 ≤ x) (x1 : x < 18446744073709551616) (y0 : 0 ≤ y) (y1 : y < 18446744073709551616) (H T F : Int) (O : Bool) (hH : H = amB fm x y) (hT : T = amT fm x y) (hF : F = amF fm x y) (hO : O = muO fm 5 x y) :
    Calls Tryz.prog 43 #[.int .i64 fm, .int .u64 x, .int .u64 y] w fun r w' => r = .returned (.tuple #[.agg #[.int .u64 H, .int .u64 T], .int .i64 F, .bool O]) ∧ Below w.heap.size w w' := by
  have CA := hid (fun w' => mul_spec fm 5 x y w' x0 x1 y0 y1 _ _ _ rfl rfl rfl)
  cases ho : muO fm 5 x y
  · have e1 : muB fm 5 x y = 0 ∧ muF fm 5 x y = 0 := mu_no ho
    rw [e1.1, e1.2, ho] at CA
    have h1 : H = 0 := by rw [hH]; unfold amB; rw [ho]; rfl
    have h2 : T = 0 := by rw [hT]; unfold amT; rw [ho]; rfl
    have h3 : F = 0 := by rw [hF]; unfold amF; rw [ho]; rfl
    rw [h1, h2, h3, hO, ho]
    clear h1 h2 h3 hH hT hF hO ho e1
    have bel := Below.refl w.heap.size w
    go_enter Tryz.func43, Tryz.ntmps43
    replace bel := bel_al bel (.cells #[.int .u64 0, .int .u64 0] 54)
    have Br := R2.new w (.int .u64 0) (.int .u64 0) 54
    obtain ⟨kr0, kr1, -, -⟩ := id Br
    go_wp2_with fail
    refine (CA.out _).mono ?_
    rintro r w1 ⟨rfl, hb⟩
    clear kr0 kr1
    replace bel := bel_go bel hb
    replace Br := Br.below hb
    clear hb
    obtain ⟨kr0, kr1, -, -⟩ := id Br
    obtain ⟨-, -, lr0, lr1⟩ := id Br
    go_wp2
    refine bodyPost_ret (v := .tuple #[.agg #[.int .u64 0, .int .u64 0], .int .i64 0, .bool false]) (by simp [results, Tryz.results43, go_sem, kr0, kr1, lr0, lr1]) rfl ⟨rfl, ((bel.setCell (by simp) _).setCell (by simp) _)⟩
  · rw [ho] at CA
    rw [hO, ho]
    obtain ⟨k1, k2, k3, k4⟩ := mu_head (mode := 5) x0 x1 y0 y1 ho
    have hfm := ok_fmt (all2 (by have h := ho; unfold muO at h; simp only [Bool.and_eq_true] at h; exact h.2)).1
    have hx := (all2 (by have h := ho; unfold muO at h; simp only [Bool.and_eq_true] at h; exact h.2)).1
    have hy := (all2 (by have h := ho; unfold muO at h; simp only [Bool.and_eq_true] at h; exact h.2)).2
    have h1 : H = muB fm 5 x y := by rw [hH]; unfold amB; rw [if_pos ho]
    have h2 : T = auT fm (muB fm 5 x y) (amX fm x y) := by rw [hT]; unfold amT; rw [if_pos ho]
    have h3 : F = auF fm (muB fm 5 x y) (muF fm 5 x y) (amX fm x y) := by rw [hF]; unfold amF; rw [if_pos ho]
    have CQ := hid (fun w' => sQb fm w' hfm)
    have CF1 := hid (fun w' => spec_fin fm x w' x0 x1)
    have CF2 := hid (fun w' => spec_fin fm y w' y0 y1)
    have hq := unq_bd fm
    have hw1 : IntKind.i64.wrap (2 * unQ fm) = 2 * unQ fm := by rw [IntKind.wrap_i64]; omega
    have hw2 : wrap64 (2 * unQ fm) = 2 * unQ fm := by unfold wrap64; omega
    cases fx : finB fm x
    · rw [fx] at CF1
      have CL := hid (fun p c w' hs => l6r fm (muB fm 5 x y) (muF fm 5 x y) 0 (2 * unQ fm) (amX fm x y) p c w' hs hfm k1 k2 k3 (fun h => absurd (k4 h) (fun h' => by rw [h'.1] at fx; cases fx)) T F h2 h3)
      have e1 : Nm.wl 0 = [] := Nm.lim_zero
      have e2 : Nm.wn 0 = false := by decide
      rw [e1, e2] at CL
      clear e1 e2
      obtain ⟨h, h_h⟩ : ∃ q, q = muB fm 5 x y := ⟨_, rfl⟩
      obtain ⟨f, h_f⟩ : ∃ q, q = muF fm 5 x y := ⟨_, rfl⟩
      obtain ⟨q, h_q⟩ : ∃ q, q = unQ fm := ⟨_, rfl⟩
      rw [← h_h, ← h_f] at CA CL
      rw [← h_q] at CQ CL hw1 hw2
      rw [h1, ← h_h]
      clear hH hT hF hO h1 h2 h3 ho k1 k2 k3 k4 hfm hx hy h_h h_f h_q hq
      clear fx
      have bel := Below.refl w.heap.size w
      go_enter Tryz.func43, Tryz.ntmps43
      replace bel := bel_al bel (.cells #[.int .u64 0, .int .u64 0] 54)
      have Br := R2.new w (.int .u64 0) (.int .u64 0) 54
      obtain ⟨kr0, kr1, -, -⟩ := id Br
      go_wp2_with fail
      refine (CA.out _).mono ?_
      rintro r w1 ⟨rfl, hb⟩
      clear kr0 kr1
      replace bel := bel_go bel hb
      replace Br := Br.below hb
      clear hb
      have hz1 := World.block_lt_of_cell? _ _ Br.c0
      simp only [] at hz1
      replace Br := Br.below (al_b _ (.cells #[.bool false, .slice none 0 0] 31))
      replace bel := bel_al bel (.cells #[.bool false, .slice none 0 0] 31)
      have Bw := R2.new w1 (.bool false) (.slice none 0 0) 31
      obtain ⟨kr0, kr1, -, -⟩ := id Br
      obtain ⟨kw0, kw1, -, -⟩ := id Bw
      go_wp2_with fail
      refine (CQ.out _).mono ?_
      rintro r w2 ⟨rfl, hb⟩
      clear kr0 kr1 kw0 kw1
      replace bel := bel_go bel hb
      replace Br := Br.below hb
      replace Bw := Bw.below hb
      clear hb
      obtain ⟨kr0, kr1, -, -⟩ := id Br
      obtain ⟨kw0, kw1, -, -⟩ := id Bw
      go_wp2_with fail
      refine (CF1.out _).mono ?_
      rintro r w3 ⟨rfl, hb⟩
      clear kr0 kr1 kw0 kw1
      replace bel := bel_go bel hb
      replace Br := Br.below hb
      replace Bw := Bw.below hb
      clear hb
      obtain ⟨kr0, kr1, -, -⟩ := id Br
      obtain ⟨kw0, kw1, -, -⟩ := id Bw
      go_wp2_with fail
      refine (CL.out none 0 _ (Sl.nil _ _)).mono ?_
      rintro r w4 ⟨rfl, hb⟩
      clear kr0 kr1 kw0 kw1
      replace bel := bel_go bel hb
      replace Br := Br.below hb
      replace Bw := Bw.below hb
      clear hb
      obtain ⟨kr0, kr1, -, -⟩ := id Br
      obtain ⟨kw0, kw1, -, -⟩ := id Bw
      obtain ⟨-, -, lr0, lr1⟩ := id Br
      go_wp2
      refine bodyPost_ret (v := .tuple #[.agg #[.int .u64 h, .int .u64 T], .int .i64 F, .bool true]) (by simp [results, Tryz.results43, go_sem, kr0, kr1, kw0, kw1, lr0, lr1]) rfl ⟨rfl, ((bel.setCell (by simp) _).setCell (by simp) _)⟩
    · rw [fx] at CF1
      cases fy : finB fm y
      · rw [fy] at CF2
        have CL := hid (fun p c w' hs => l6r fm (muB fm 5 x y) (muF fm 5 x y) 0 (2 * unQ fm) (amX fm x y) p c w' hs hfm k1 k2 k3 (fun h => absurd (k4 h) (fun h' => by rw [h'.2] at fy; cases fy)) T F h2 h3)
        have e1 : Nm.wl 0 = [] := Nm.lim_zero
        have e2 : Nm.wn 0 = false := by decide
        rw [e1, e2] at CL
        clear e1 e2
        obtain ⟨h, h_h⟩ : ∃ q, q = muB fm 5 x y := ⟨_, rfl⟩
        obtain ⟨f, h_f⟩ : ∃ q, q = muF fm 5 x y := ⟨_, rfl⟩
        obtain ⟨q, h_q⟩ : ∃ q, q = unQ fm := ⟨_, rfl⟩
        rw [← h_h, ← h_f] at CA CL
        rw [← h_q] at CQ CL hw1 hw2
        rw [h1, ← h_h]
        clear hH hT hF hO h1 h2 h3 ho k1 k2 k3 k4 hfm hx hy h_h h_f h_q hq
        clear fx fy
        have bel := Below.refl w.heap.size w
        go_enter Tryz.func43, Tryz.ntmps43
        replace bel := bel_al bel (.cells #[.int .u64 0, .int .u64 0] 54)
        have Br := R2.new w (.int .u64 0) (.int .u64 0) 54
        obtain ⟨kr0, kr1, -, -⟩ := id Br
        go_wp2_with fail
        refine (CA.out _).mono ?_
        rintro r w1 ⟨rfl, hb⟩
        clear kr0 kr1
        replace bel := bel_go bel hb
        replace Br := Br.below hb
        clear hb
        have hz1 := World.block_lt_of_cell? _ _ Br.c0
        simp only [] at hz1
        replace Br := Br.below (al_b _ (.cells #[.bool false, .slice none 0 0] 31))
        replace bel := bel_al bel (.cells #[.bool false, .slice none 0 0] 31)
        have Bw := R2.new w1 (.bool false) (.slice none 0 0) 31
        obtain ⟨kr0, kr1, -, -⟩ := id Br
        obtain ⟨kw0, kw1, -, -⟩ := id Bw
        go_wp2_with fail
        refine (CQ.out _).mono ?_
        rintro r w2 ⟨rfl, hb⟩
        clear kr0 kr1 kw0 kw1
        replace bel := bel_go bel hb
        replace Br := Br.below hb
        replace Bw := Bw.below hb
        clear hb
        obtain ⟨kr0, kr1, -, -⟩ := id Br
        obtain ⟨kw0, kw1, -, -⟩ := id Bw
        go_wp2_with fail
        refine (CF1.out _).mono ?_
        rintro r w3 ⟨rfl, hb⟩
        clear kr0 kr1 kw0 kw1
        replace bel := bel_go bel hb
        replace Br := Br.below hb
        replace Bw := Bw.below hb
        clear hb
        obtain ⟨kr0, kr1, -, -⟩ := id Br
        obtain ⟨kw0, kw1, -, -⟩ := id Bw
        go_wp2_with fail
        refine (CF2.out _).mono ?_
        rintro r w4 ⟨rfl, hb⟩
        clear kr0 kr1 kw0 kw1
        replace bel := bel_go bel hb
        replace Br := Br.below hb
        replace Bw := Bw.below hb
        clear hb
        obtain ⟨kr0, kr1, -, -⟩ := id Br
        obtain ⟨kw0, kw1, -, -⟩ := id Bw
        go_wp2_with fail
        refine (CL.out none 0 _ (Sl.nil _ _)).mono ?_
        rintro r w5 ⟨rfl, hb⟩
        clear kr0 kr1 kw0 kw1
        replace bel := bel_go bel hb
        replace Br := Br.below hb
        replace Bw := Bw.below hb
        clear hb
        obtain ⟨kr0, kr1, -, -⟩ := id Br
        obtain ⟨kw0, kw1, -, -⟩ := id Bw
        obtain ⟨-, -, lr0, lr1⟩ := id Br
        go_wp2
        refine bodyPost_ret (v := .tuple #[.agg #[.int .u64 h, .int .u64 T], .int .i64 F, .bool true]) (by simp [results, Tryz.results43, go_sem, kr0, kr1, kw0, kw1, lr0, lr1]) rfl ⟨rfl, ((bel.setCell (by simp) _).setCell (by simp) _)⟩
      · rw [fy] at CF2
        have CP := hid (fun w' => exact4 fm x y w' fx fy x0 x1 y0 y1 hx hy _ _ _ rfl rfl rfl)
        obtain ⟨-, a0, a1⟩ := nZ_bd fm x
        obtain ⟨-, b0, b1⟩ := nZ_bd fm y
        have qx := pE_q fx
        have qy := pE_q fy
        rw [← (fin_facts hx fx).2.2.2.1] at qx
        rw [← (fin_facts hy fy).2.2.2.1] at qy
        have CL := hid (fun p c w' hs => l6r fm (muB fm 5 x y) (muF fm 5 x y) (nZ fm x * nZ fm y) (nE fm x + nE fm y) (amX fm x y) p c w' hs hfm k1 k2 k3 (fun _ => ⟨rfl, by omega, by omega, by have : bitLen (nZ fm x * nZ fm y).natAbs ≤ 106 := (Nm.bl_le_iff _ 106).2 (nZm_bd fm x y); omega, amX_bl fm x y⟩) T F h2 h3)
        clear a0 a1 b0 b1 qx qy
        obtain ⟨h, h_h⟩ : ∃ q, q = muB fm 5 x y := ⟨_, rfl⟩
        obtain ⟨f, h_f⟩ : ∃ q, q = muF fm 5 x y := ⟨_, rfl⟩
        obtain ⟨q, h_q⟩ : ∃ q, q = unQ fm := ⟨_, rfl⟩
        rw [← h_h, ← h_f] at CA CL
        rw [← h_q] at CQ hw1 hw2
        rw [h1, ← h_h]
        obtain ⟨gs, h_gs⟩ : ∃ q, q = Nm.wn (nZ fm x * nZ fm y) := ⟨_, rfl⟩
        obtain ⟨Ls, h_Ls⟩ : ∃ q, q = Nm.wl (nZ fm x * nZ fm y) := ⟨_, rfl⟩
        obtain ⟨E, h_E⟩ : ∃ q, q = nE fm x + nE fm y := ⟨_, rfl⟩
        rw [← h_gs, ← h_Ls, ← h_E] at CP CL
        clear h_gs h_Ls h_E
        clear hH hT hF hO h1 h2 h3 ho k1 k2 k3 k4 hfm hx hy h_h h_f h_q hq
        clear fx fy
        have bel := Below.refl w.heap.size w
        go_enter Tryz.func43, Tryz.ntmps43
        replace bel := bel_al bel (.cells #[.int .u64 0, .int .u64 0] 54)
        have Br := R2.new w (.int .u64 0) (.int .u64 0) 54
        obtain ⟨kr0, kr1, -, -⟩ := id Br
        go_wp2_with fail
        refine (CA.out _).mono ?_
        rintro r w1 ⟨rfl, hb⟩
        clear kr0 kr1
        replace bel := bel_go bel hb
        replace Br := Br.below hb
        clear hb
        have hz1 := World.block_lt_of_cell? _ _ Br.c0
        simp only [] at hz1
        replace Br := Br.below (al_b _ (.cells #[.bool false, .slice none 0 0] 31))
        replace bel := bel_al bel (.cells #[.bool false, .slice none 0 0] 31)
        have Bw := R2.new w1 (.bool false) (.slice none 0 0) 31
        obtain ⟨kr0, kr1, -, -⟩ := id Br
        obtain ⟨kw0, kw1, -, -⟩ := id Bw
        go_wp2_with fail
        refine (CQ.out _).mono ?_
        rintro r w2 ⟨rfl, hb⟩
        clear kr0 kr1 kw0 kw1
        replace bel := bel_go bel hb
        replace Br := Br.below hb
        replace Bw := Bw.below hb
        clear hb
        obtain ⟨kr0, kr1, -, -⟩ := id Br
        obtain ⟨kw0, kw1, -, -⟩ := id Bw
        go_wp2_with fail
        refine (CF1.out _).mono ?_
        rintro r w3 ⟨rfl, hb⟩
        clear kr0 kr1 kw0 kw1
        replace bel := bel_go bel hb
        replace Br := Br.below hb
        replace Bw := Bw.below hb
        clear hb
        obtain ⟨kr0, kr1, -, -⟩ := id Br
        obtain ⟨kw0, kw1, -, -⟩ := id Bw
        go_wp2_with fail
        refine (CF2.out _).mono ?_
        rintro r w4 ⟨rfl, hb⟩
        clear kr0 kr1 kw0 kw1
        replace bel := bel_go bel hb
        replace Br := Br.below hb
        replace Bw := Bw.below hb
        clear hb
        obtain ⟨kr0, kr1, -, -⟩ := id Br
        obtain ⟨kw0, kw1, -, -⟩ := id Bw
        go_wp2_with fail
        refine (CP.out _).mono ?_
        rintro r w5 ⟨as', cs', rfl, os, hb⟩
        clear kr0 kr1 kw0 kw1
        replace bel := bel_go bel hb
        replace Br := Br.below hb
        replace Bw := Bw.below hb
        clear hb
        have apw := fun (v : Bool) hc => own_apart os (b := w1.heap.size) v hc
        obtain ⟨kr0, kr1, -, -⟩ := id Br
        obtain ⟨kw0, kw1, -, -⟩ := id Bw
        have ap := apw _ kw0
        clear apw
        obtain ⟨-, -, lw0, lw1⟩ := id Bw
        have s9 := own_keep2 os ap (.bool gs) (.slice as' Ls.length cs')
        have Br9 := (Br.other (p := ⟨w1.heap.size, 0, none⟩) (by simp; omega) (.bool gs)).other (p := ⟨w1.heap.size, 1, none⟩) (by simp; omega) (.slice as' Ls.length cs')
        have Bw9 := R2.set Bw (.bool gs) (.slice as' Ls.length cs')
        have bel9 := (bel.setCell (p := ⟨w1.heap.size, 0, none⟩) (by simp; omega) (.bool gs)).setCell (p := ⟨w1.heap.size, 1, none⟩) (by simp; omega) (.slice as' Ls.length cs')
        clear os ap Br bel
        go_upto_region 8 with fail
        clear kr0 kr1 kw0 kw1 lw0 lw1 Bw
        generalize hWv : (w5.setCell ⟨w1.heap.size, 0, none⟩ (.bool gs)).setCell ⟨w1.heap.size, 1, none⟩ (.slice as' Ls.length cs') = W9 at s9 Br9 Bw9 bel9 ⊢
        clear hWv
        have Br := Br9
        have Bw := Bw9
        have bel := bel9
        clear Br9 Bw9 bel9
        obtain ⟨kr0, kr1, -, -⟩ := id Br
        obtain ⟨kw0, kw1, -, -⟩ := id Bw
        go_wp2_with fail
        refine (CL.out as' cs' _ s9).mono ?_
        rintro r w6 ⟨rfl, hb⟩
        clear kr0 kr1 kw0 kw1
        replace bel := bel_go bel hb
        replace Br := Br.below hb
        replace Bw := Bw.below hb
        replace s9 := s9.below hb
        clear hb
        obtain ⟨kr0, kr1, -, -⟩ := id Br
        obtain ⟨kw0, kw1, -, -⟩ := id Bw
        obtain ⟨-, -, lr0, lr1⟩ := id Br
        go_wp2
        refine bodyPost_ret (v := .tuple #[.agg #[.int .u64 h, .int .u64 T], .int .i64 F, .bool true]) (by simp [results, Tryz.results43, go_sem, kr0, kr1, kw0, kw1, lr0, lr1]) rfl ⟨rfl, ((bel.setCell (by simp) _).setCell (by simp) _)⟩
theorem nb_nan {fm x : Int} (hx : okF fm x = true) (h : nanB fm x = false) : nB fm x = false := by
  rcases nan_cases hx h with hf | hi
  · exact (fin_facts hx hf).2.2.2.2.2
  · have h3 : cls fm x = 3 := by simpa [nI] using hi
    unfold nB; rw [h3]; rfl
theorem prod_td {fm x y : Int} (x0 : 0 ≤ x) (x1 : x < 18446744073709551616) (y0 : 0 ≤ y) (y1 : y < 18446744073709551616) (ho : muO fm 5 x y = true) {sg inf G : Bool} {L : List Int} {E : Int} (hl : L.length ≤ 200) (hd : Nm.Dg L) (b0 : -3000 ≤ E) (b1 : E ≤ 4000) (hfn : (nanB fm x || nanB fm y || odd2 fm x y) = false → sg = (sigB fm x != sigB fm y) ∧ inf = (nI fm x || nI fm y) ∧ (inf = false → finB fm x = true ∧ finB fm y = true ∧ G = Nm.wn (nZ fm x * nZ fm y) ∧ L = Nm.wl (nZ fm x * nZ fm y) ∧ E = nE fm x + nE fm y)) :
    ∃ rb rf : Int, ((nanB fm x || nanB fm y || odd2 fm x y) = false → inf = false → L.length ≠ 0 → RdO fm 5 G L E = true ∧ rb = RdB fm 5 G L E ∧ rf = RdF fm 5 G L E) ∧ muB fm 5 x y = tdB (nanOf fm) (infOf fm) (sgOf fm) (nanB fm x || nanB fm y || odd2 fm x y) inf (decide (L.length = 0)) sg rb ∧ muF fm 5 x y = tdF (nanB fm x || nanB fm y || odd2 fm x y) (nB fm x || nB fm y || odd2 fm x y) inf (decide (L.length = 0)) rf := by
  have hall : allB fm [x, y] = true := by have k := ho; unfold muO at k; simp only [Bool.and_eq_true] at k; exact k.2
  obtain ⟨hx, hy⟩ := all2 hall
  have hfm := ok_fmt hx
  refine ⟨RdB fm 5 (Nm.wn (nZ fm x * nZ fm y)) (Nm.wl (nZ fm x * nZ fm y)) (nE fm x + nE fm y), RdF fm 5 (Nm.wn (nZ fm x * nZ fm y)) (Nm.wl (nZ fm x * nZ fm y)) (nE fm x + nE fm y), ?_, ?_, ?_⟩
  · intro n0 i0 hl0
    obtain ⟨fx, fy, rfl, rfl, rfl⟩ := (hfn n0).2.2 i0
    exact ⟨rdo_any hfm (by decide) (nZm_len fm x y) (by omega) (by omega), rfl, rfl⟩
  · unfold muB
    rw [if_pos ho]
    cases hn : (nanB fm x || nanB fm y)
    · obtain ⟨nx, ny⟩ : nanB fm x = false ∧ nanB fm y = false := by simpa using hn
      simp only [Bool.false_eq_true, if_false, Bool.false_or]
      have hoi := odd_iz hx hy
      unfold mB tdB
      cases hd2 : odd2 fm x y
      · rw [hn, hd2] at hfn
        obtain ⟨rfl, rfl, h3⟩ := hfn rfl
        rw [hoi] at hd2
        rw [hd2]
        simp only [Bool.false_eq_true, if_false]
        cases hi : (nI fm x || nI fm y)
        · obtain ⟨fx, fy, rfl, rfl, rfl⟩ := h3 hi
          simp only [Bool.false_eq_true, if_false]
          rw [zlen2 hx hy fx fy]
        · simp only [if_true]
      · rw [hoi] at hd2
        rw [hd2]
        simp only [if_true]
    · simp only [if_true, Bool.true_or]
      unfold tdB
      simp only [if_true]
  · unfold muF
    rw [if_pos ho]
    cases hn : (nanB fm x || nanB fm y)
    · obtain ⟨nx, ny⟩ : nanB fm x = false ∧ nanB fm y = false := by simpa using hn
      simp only [Bool.false_eq_true, if_false, Bool.false_or]
      have hoi := odd_iz hx hy
      have bx : nB fm x = false := nb_nan hx nx
      have bY : nB fm y = false := nb_nan hy ny
      rw [bx, bY]
      unfold mF tdF
      cases hd2 : odd2 fm x y
      · rw [hn, hd2] at hfn
        obtain ⟨rfl, rfl, h3⟩ := hfn rfl
        rw [hoi] at hd2
        rw [hd2]
        simp only [Bool.false_eq_true, if_false, Bool.false_or, Bool.or_false]
        cases hi : (nI fm x || nI fm y)
        · obtain ⟨fx, fy, rfl, rfl, rfl⟩ := h3 hi
          rw [zlen2 hx hy fx fy]
        · simp only [Bool.true_or]
      · rw [hoi] at hd2
        rw [hd2]
        simp only [if_true, Bool.or_true]
    · simp only [if_true]
      unfold tdF fl8
      cases hd2 : odd2 fm x y
      · simp only [Bool.or_false, Bool.true_or]
        cases (nB fm x || nB fm y) <;> simp
      · have : odd2 fm x y = false := odd_nan hx hy x0 y0 hn
        rw [this] at hd2; cases hd2
theorem ami_impl (fm x y : Int) (u : Value) (w : World) (hE : E3 u w) (x0 : 0 ≤ x) (x1 : x < 18446744073709551616) (y0 : 0 ≤ y) (y1 : y < 18446744073709551616) (H T F : Int) (O : Bool) (hH : H = amB fm x y) (hT : T = amT fm x y) (hF : F = amF fm x y) (hO : O = muO fm 5 x y) :
    Calls Tryz.prog 44 #[.int .i64 fm, .int .u64 x, .int .u64 y] w fun r w' => r = .returned (.tuple #[.agg #[.int .u64 H, .int .u64 T], .int .i64 F, .bool O]) ∧ Below w.heap.size w w' := by
  have CF := hid (fun w' k k' => fok_impl fm 5 (some ⟨w.heap.size + 1, 0, none⟩) 2 [x, y] w' k k' (d64_2 x0 x1 y0 y1) (by simp))
  cases ho : muO fm 5 x y
  · have ho' : (modeB 5 && allB fm [x, y]) = false := ho
    rw [ho'] at CF
    have g1 : H = 0 := by rw [hH]; unfold amB; rw [ho]; rfl
    have g2 : T = 0 := by rw [hT]; unfold amT; rw [ho]; rfl
    have g3 : F = 0 := by rw [hF]; unfold amF; rw [ho]; rfl
    rw [g1, g2, g3, hO, ho]
    clear g1 g2 g3 hH hT hF hO ho ho' x0 x1 y0 y1
    have bel := Below.refl w.heap.size w
    go_enter Tryz.func44, Tryz.ntmps44
    replace hE := hE.below (al_b _ (.cells #[.int .u64 0, .int .u64 0] 54))
    replace bel := bel_al bel (.cells #[.int .u64 0, .int .u64 0] 54)
    have Br := R2.new w (.int .u64 0) (.int .u64 0) 54
    have s2 := sl64_2 (w.alloc (.cells #[.int .u64 0, .int .u64 0] 54)) x y 24
    have hsz : (w.alloc (.cells #[.int .u64 0, .int .u64 0] 54)).heap.size = w.heap.size + 1 := by simp
    rw [hsz] at s2
    clear hsz
    replace Br := Br.below (al_b _ (.cells #[.int .u64 x, .int .u64 y] 24))
    replace hE := hE.below (al_b _ (.cells #[.int .u64 x, .int .u64 y] 24))
    replace bel := bel_al bel (.cells #[.int .u64 x, .int .u64 y] 24)
    obtain ⟨kr0, kr1, -, -⟩ := id Br
    go_wp2_with fail
    refine (CF.out _ hE.t.s.f s2).mono ?_
    rintro r w1 ⟨rfl, hb⟩
    clear kr0 kr1
    replace bel := bel_go bel hb
    replace hE := hE.below hb
    replace Br := Br.below hb
    clear hb
    clear s2
    obtain ⟨kr0, kr1, -, -⟩ := id Br
    obtain ⟨-, -, lr0, lr1⟩ := id Br
    go_wp2
    refine bodyPost_ret (v := .tuple #[.agg #[.int .u64 0, .int .u64 0], .int .i64 0, .bool false]) (by simp [results, Tryz.results44, go_sem, kr0, kr1, lr0, lr1]) rfl ⟨rfl, ((bel.setCell (by simp) _).setCell (by simp) _)⟩
  · have ho' : (modeB 5 && allB fm [x, y]) = true := ho
    rw [ho'] at CF
    rw [hO, ho]
    obtain ⟨k1, k2, k3, k4⟩ := mu_head (mode := 5) x0 x1 y0 y1 ho
    have hx := (all2 (by have k := ho; unfold muO at k; simp only [Bool.and_eq_true] at k; exact k.2)).1
    have hy := (all2 (by have k := ho; unfold muO at k; simp only [Bool.and_eq_true] at k; exact k.2)).2
    have hfm := ok_fmt hx
    have hq := unq_bd fm
    have g1 : H = muB fm 5 x y := by rw [hH]; unfold amB; rw [if_pos ho]
    have g2 : T = auT fm (muB fm 5 x y) (amX fm x y) := by rw [hT]; unfold amT; rw [if_pos ho]
    have g3 : F = auF fm (muB fm 5 x y) (muF fm 5 x y) (amX fm x y) := by rw [hF]; unfold amF; rw [if_pos ho]
    rw [← g1] at g2 g3 k1 k2 k3 k4
    obtain ⟨sg, inf, G, L, E, hp, hl, hd, b0, b1, hfn⟩ := prod_all fm 5 x y u x0 x1 y0 y1 ho
    obtain ⟨rb, rf, hro, hB, hF0⟩ := prod_td x0 x1 y0 y1 ho hl hd b0 b1 hfn
    rw [← g1] at hB
    generalize hn : (nanB fm x || nanB fm y || odd2 fm x y) = n at hp hro hB hF0 hfn
    generalize hb : (nB fm x || nB fm y || odd2 fm x y) = b at hp hro hB hF0
    have hz : finB fm H = true → inf = false ∧ ∃ z, G = Nm.wn z ∧ L = Nm.wl z ∧ amX fm x y = z * 2 ^ (E - 2 * unQ fm).toNat ∧ 2 * unQ fm ≤ E ∧ E ≤ 4000 ∧ bitLen z.natAbs + (E - 2 * unQ fm).toNat ≤ 6300 := fun k => by
      have ⟨n0, i0⟩ := fin_td hfm n inf (decide (L.length = 0)) sg rb (by rw [← hB]; exact k)
      obtain ⟨fx, fy, q1, q2, q3⟩ := (hfn n0).2.2 i0
      have qx := pE_q fx
      have qy := pE_q fy
      rw [← (fin_facts hx fx).2.2.2.1] at qx
      rw [← (fin_facts hy fy).2.2.2.1] at qy
      have e1 : amX fm x y = nZ fm x * nZ fm y * 2 ^ (E - 2 * unQ fm).toNat := by unfold amX; rw [q3]
      exact ⟨i0, nZ fm x * nZ fm y, q1, q2, e1, by omega, by omega, bz_of e1 (amX_bl fm x y) (by omega)⟩
    have CP := hid hp
    have CG := hid (fun a c ev hk w' k k' => aug_x fm hfm sg inf G L E a c u ev n b hk w' k k' hd hl rb rf hro H (muF fm 5 x y) (amX fm x y) T F hB hF0 k1 k2 k3 hz g2 g3)
    clear hH hT hF hO ho ho' k1 k2 k3 k4 hx hy hfm hq g1 g2 g3 hp hl hd hro hB hF0 hz hfn b0 b1 hn hb x0 x1 y0 y1
    have bel := Below.refl w.heap.size w
    go_enter Tryz.func44, Tryz.ntmps44
    replace hE := hE.below (al_b _ (.cells #[.int .u64 0, .int .u64 0] 54))
    replace bel := bel_al bel (.cells #[.int .u64 0, .int .u64 0] 54)
    have Br := R2.new w (.int .u64 0) (.int .u64 0) 54
    have s2 := sl64_2 (w.alloc (.cells #[.int .u64 0, .int .u64 0] 54)) x y 24
    have hsz : (w.alloc (.cells #[.int .u64 0, .int .u64 0] 54)).heap.size = w.heap.size + 1 := by simp
    rw [hsz] at s2
    clear hsz
    replace Br := Br.below (al_b _ (.cells #[.int .u64 x, .int .u64 y] 24))
    replace hE := hE.below (al_b _ (.cells #[.int .u64 x, .int .u64 y] 24))
    replace bel := bel_al bel (.cells #[.int .u64 x, .int .u64 y] 24)
    obtain ⟨kr0, kr1, -, -⟩ := id Br
    go_wp2_with fail
    refine (CF.out _ hE.t.s.f s2).mono ?_
    rintro r w1 ⟨rfl, hb⟩
    clear kr0 kr1
    replace bel := bel_go bel hb
    replace hE := hE.below hb
    replace Br := Br.below hb
    clear hb
    clear s2
    obtain ⟨kr0, kr1, -, -⟩ := id Br
    go_wp2_with fail
    refine (CP.out _ hE.ee).mono ?_
    rintro r w2 ⟨a2, c2, ev, rfl, kv, o2, hb⟩
    clear kr0 kr1
    replace bel := bel_go bel hb
    replace hE := hE.below hb
    replace Br := Br.below hb
    clear hb
    have s2 := o2.sl
    clear o2
    replace hE := hE.below (al_b _ (.cells #[.bool sg, .bool inf, .bool G, .slice a2 L.length c2, .int .i64 E] 99))
    replace Br := Br.below (al_b _ (.cells #[.bool sg, .bool inf, .bool G, .slice a2 L.length c2, .int .i64 E] 99))
    replace s2 := s2.below (al_b _ (.cells #[.bool sg, .bool inf, .bool G, .slice a2 L.length c2, .int .i64 E] 99))
    replace bel := bel_al bel (.cells #[.bool sg, .bool inf, .bool G, .slice a2 L.length c2, .int .i64 E] 99)
    have Bx := Q5.new w2 (.bool sg) (.bool inf) (.bool G) (.slice a2 L.length c2) (.int .i64 E) 99
    obtain ⟨kr0, kr1, -, -⟩ := id Br
    obtain ⟨kx0, kx1, kx2, kx3, kx4, -, -, -, -, -⟩ := id Bx
    go_wp2_with fail
    refine (CG.out a2 c2 ev kv _ hE s2).mono ?_
    rintro r w3 ⟨rfl, hb⟩
    clear kr0 kr1 kx0 kx1 kx2 kx3 kx4
    replace bel := bel_go bel hb
    replace hE := hE.below hb
    replace Br := Br.below hb
    replace s2 := s2.below hb
    replace Bx := Bx.below hb
    clear hb
    obtain ⟨kr0, kr1, -, -⟩ := id Br
    obtain ⟨kx0, kx1, kx2, kx3, kx4, -, -, -, -, -⟩ := id Bx
    obtain ⟨-, -, lr0, lr1⟩ := id Br
    go_wp2
    refine bodyPost_ret (v := .tuple #[.agg #[.int .u64 H, .int .u64 T], .int .i64 F, .bool true]) (by simp [results, Tryz.results44, go_sem, kr0, kr1, kx0, kx1, kx2, kx3, kx4, lr0, lr1]) rfl ⟨rfl, ((bel.setCell (by simp) _).setCell (by simp) _)⟩
end Go.Proofs.YtmcflggionkhlaaGreatDoor
