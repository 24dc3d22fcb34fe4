/-
  What is needed of AX.
-/
import Derived.Test.YtmcflggionkhlaaGreatDoorF45
import Derived.Test.YtmcflggionkhlaaGreatDoorF52
set_option maxHeartbeats 16000000
set_option maxRecDepth 1000000
namespace Go.Proofs.YtmcflggionkhlaaGreatDoor
set_option linter.unusedVariables false
set_option linter.unusedSimpArgs false
open Go.RowKit Go.Deep
theorem inf_nfin {fm x : Int} (h : nI fm x = true) : finB fm x = false := by
  have h3 : cls fm x = 3 := by simpa [nI] using h
  unfold finB; rw [h3]; decide
theorem ad_head {fm mode x y : Int} (x0 : 0 ≤ x) (x1 : x < 18446744073709551616) (y0 : 0 ≤ y) (y1 : y < 18446744073709551616) (hO : muO fm mode x y = true) : okF fm (adB fm mode x y) = true ∧ 0 ≤ adB fm mode x y ∧ adB fm mode x y < 18446744073709551616 ∧ (finB fm (adB fm mode x y) = true → finB fm x = true ∧ finB fm y = true) := by
  have hO' := hO
  unfold muO at hO'
  simp only [Bool.and_eq_true] at hO'
  obtain ⟨hm, hall⟩ := hO'
  obtain ⟨hx, hy⟩ := all2 hall
  have hfm := ok_fmt hx
  unfold adB
  rw [if_pos hO]
  cases hn : (nanB fm x || nanB fm y)
  · obtain ⟨nx, ny⟩ : nanB fm x = false ∧ nanB fm y = false := by simpa using hn
    simp only [Bool.false_eq_true, if_false]
    unfold aB
    cases ix : nI fm x
    · cases iy : nI fm y
      · have fx := (nan_cases hx nx).resolve_right (by rw [ix]; decide)
        have fy := (nan_cases hy ny).resolve_right (by rw [iy]; decide)
        simp only [Bool.false_and, Bool.false_eq_true, if_false]
        by_cases hz : unI fm x + unI fm y = 0
        · rw [if_pos hz]
          have := Fd.sgn_bd2 fm (sigB fm x && sigB fm y || ((sigB fm x != sigB fm y) && decide (mode = 3)))
          exact ⟨(sg_okF hfm _).1, this.1, this.2.1, fun _ => ⟨fx, fy⟩⟩
        · rw [if_neg hz]
          have := Fd.RdB_bd fm mode (unI fm x + unI fm y) (unQ fm)
          exact ⟨rd_okF (rdo_any hfm hm (uu_len fm x y) (by have := unq_bd fm; omega) (by have := unq_bd fm; omega)), this.1, this.2, fun _ => ⟨fx, fy⟩⟩
      · simp only [Bool.false_and, Bool.false_eq_true, if_false, if_true]
        exact ⟨hy, y0, y1, fun h => by rw [inf_nfin iy] at h; cases h⟩
    · simp only [Bool.true_and, if_true]
      split
      · have := Fd.nanOf_bd fm
        exact ⟨(nan_okF hfm).1, this.1, this.2, fun h => by rw [(nan_okF hfm).2] at h; cases h⟩
      · exact ⟨hx, x0, x1, fun h => by rw [inf_nfin ix] at h; cases h⟩
  · simp only [if_true]
    have := Fd.nanOf_bd fm
    exact ⟨(nan_okF hfm).1, this.1, this.2, fun h => by rw [(nan_okF hfm).2] at h; cases h⟩
theorem aas_spec (fm x y : Int) (w : World) (x0 : 0 ≤ x) (x1 : x < 18446744073709551616) (y0 : 0 ≤ y) (y1 : y < 18446744073709551616) (H T F : Int) (O : Bool) (hH : H = aaB fm x y) (hT : T = aaT fm x y) (hF : F = aaF fm x y) (hO : O = muO fm 5 x y) :
    Calls Tryz.prog 38 #[.int .i64 fm, .int .u64 x, .int .u64 y] w fun r w' => r = .returned (.tuple #[.agg #[.int .u64 H, .int .u64 T], .int .i64 F, .bool O]) ∧ Below w.heap.size w w' := by
  have CA := hid (fun w' => add_spec fm 5 x y w' x0 x1 y0 y1 _ _ _ rfl rfl rfl)
  cases ho : muO fm 5 x y
  · have e1 : adB fm 5 x y = 0 ∧ adF fm 5 x y = 0 := ad_no ho
    rw [e1.1, e1.2, ho] at CA
    have h1 : H = 0 := by rw [hH]; unfold aaB; rw [ho]; rfl
    have h2 : T = 0 := by rw [hT]; unfold aaT; rw [ho]; rfl
    have h3 : F = 0 := by rw [hF]; unfold aaF; rw [ho]; rfl
    rw [h1, h2, h3, hO, ho]
    clear h1 h2 h3 hH hT hF hO ho e1
    have bel := Below.refl w.heap.size w
    go_enter Tryz.func38, Tryz.ntmps38
    replace bel := bel_al bel (.cells #[.int .u64 0, .int .u64 0] 54)
    have Br := R2.new w (.int .u64 0) (.int .u64 0) 54
    obtain ⟨kr0, kr1, -, -⟩ := id Br
    go_wp2_with fail
    refine (CA.out _).mono ?_
    rintro r w1 ⟨rfl, hb⟩
    clear kr0 kr1
    replace bel := bel_go bel hb
    replace Br := Br.below hb
    clear hb
    obtain ⟨kr0, kr1, -, -⟩ := id Br
    obtain ⟨-, -, lr0, lr1⟩ := id Br
    go_wp2
    refine bodyPost_ret (v := .tuple #[.agg #[.int .u64 0, .int .u64 0], .int .i64 0, .bool false]) (by simp [results, Tryz.results38, go_sem, kr0, kr1, lr0, lr1]) rfl ⟨rfl, ((bel.setCell (by simp) _).setCell (by simp) _)⟩
  · rw [ho] at CA
    rw [hO, ho]
    obtain ⟨k1, k2, k3, k4⟩ := ad_head (mode := 5) x0 x1 y0 y1 ho
    have hfm := ok_fmt (all2 (by have h := ho; unfold muO at h; simp only [Bool.and_eq_true] at h; exact h.2)).1
    have hx := (all2 (by have h := ho; unfold muO at h; simp only [Bool.and_eq_true] at h; exact h.2)).1
    have hy := (all2 (by have h := ho; unfold muO at h; simp only [Bool.and_eq_true] at h; exact h.2)).2
    have h1 : H = adB fm 5 x y := by rw [hH]; unfold aaB; rw [if_pos ho]
    have h2 : T = auT fm (adB fm 5 x y) (asX fm x y) := by rw [hT]; unfold aaT; rw [if_pos ho]
    have h3 : F = auF fm (adB fm 5 x y) (adF fm 5 x y) (asX fm x y) := by rw [hF]; unfold aaF; rw [if_pos ho]
    have CQ := hid (fun w' => sQb fm w' hfm)
    have CF1 := hid (fun w' => spec_fin fm x w' x0 x1)
    have CF2 := hid (fun w' => spec_fin fm y w' y0 y1)
    have hq := unq_bd fm
    have hw1 : IntKind.i64.wrap (2 * unQ fm) = 2 * unQ fm := by rw [IntKind.wrap_i64]; omega
    have hw2 : wrap64 (2 * unQ fm) = 2 * unQ fm := by unfold wrap64; omega
    cases fx : finB fm x
    · rw [fx] at CF1
      have CL := hid (fun p c w' hs => l6r fm (adB fm 5 x y) (adF fm 5 x y) 0 (unQ fm) (asX fm x y) p c w' hs hfm k1 k2 k3 (fun h => absurd (k4 h) (fun h' => by rw [h'.1] at fx; cases fx)) T F h2 h3)
      have e1 : Nm.wl 0 = [] := Nm.lim_zero
      have e2 : Nm.wn 0 = false := by decide
      rw [e1, e2] at CL
      clear e1 e2
      obtain ⟨h, h_h⟩ : ∃ q, q = adB fm 5 x y := ⟨_, rfl⟩
      obtain ⟨f, h_f⟩ : ∃ q, q = adF fm 5 x y := ⟨_, rfl⟩
      obtain ⟨q, h_q⟩ : ∃ q, q = unQ fm := ⟨_, rfl⟩
      rw [← h_h, ← h_f] at CA CL
      rw [← h_q] at CQ CL hw1 hw2
      rw [h1, ← h_h]
      clear hH hT hF hO h1 h2 h3 ho k1 k2 k3 k4 hfm hx hy h_h h_f h_q hq
      clear fx
      have bel := Below.refl w.heap.size w
      go_enter Tryz.func38, Tryz.ntmps38
      replace bel := bel_al bel (.cells #[.int .u64 0, .int .u64 0] 54)
      have Br := R2.new w (.int .u64 0) (.int .u64 0) 54
      obtain ⟨kr0, kr1, -, -⟩ := id Br
      go_wp2_with fail
      refine (CA.out _).mono ?_
      rintro r w1 ⟨rfl, hb⟩
      clear kr0 kr1
      replace bel := bel_go bel hb
      replace Br := Br.below hb
      clear hb
      have hz1 := World.block_lt_of_cell? _ _ Br.c0
      simp only [] at hz1
      replace Br := Br.below (al_b _ (.cells #[.bool false, .slice none 0 0] 31))
      replace bel := bel_al bel (.cells #[.bool false, .slice none 0 0] 31)
      have Bw := R2.new w1 (.bool false) (.slice none 0 0) 31
      obtain ⟨kr0, kr1, -, -⟩ := id Br
      obtain ⟨kw0, kw1, -, -⟩ := id Bw
      go_wp2_with fail
      refine (CF1.out _).mono ?_
      rintro r w2 ⟨rfl, hb⟩
      clear kr0 kr1 kw0 kw1
      replace bel := bel_go bel hb
      replace Br := Br.below hb
      replace Bw := Bw.below hb
      clear hb
      go_upto_region 7 with fail
      generalize hWW : w2 = WW at bel Br Bw ⊢
      clear hWW
      have belR := Below.drew (Below.refl WW.heap.size WW)
      refine wp_region_held_drew (S := fun w' => (w'.cell? ⟨w1.heap.size, 0, none⟩ = some (.bool false) ∧ w'.cell? ⟨w1.heap.size, 1, none⟩ = some (.slice none 0 0))) (by kernel_rfl) ?_ (fun hHeld => ?_)
      · exact ⟨(Bw).c0, (Bw).c1⟩
      generalize WW.drew = v0 at belR hHeld ⊢
      refine tk 0 ?_ rfl (Or.inl ⟨by rfl, ?_⟩) ?_
      rotate_left
      · (intro w hSw; go_simp; try (with_reducible rfl))
      try simp only [Act.put, Ls]
      refine tk 1 ?_ rfl (Or.inl ⟨by rfl, ?_⟩) ?_
      rotate_left
      · (intro w hSw; go_simp; try (with_reducible rfl))
      try simp only [Act.put, Ls]
      refine tk 2 ?_ rfl (Or.inl ⟨by rfl, ?_⟩) ?_
      rotate_left
      · (intro w hSw; go_simp; try (with_reducible rfl))
      try simp only [Act.put, Ls]
      refine tk 3 ?_ rfl (Or.inl ⟨by rfl, ?_⟩) ?_
      rotate_left
      · (intro w hSw; (try dsimp only at hSw); obtain ⟨hS0, hS1⟩ := hSw; go_simp; try (with_reducible rfl))
      try simp only [Act.put, Ls]
      refine tk 4 ?_ rfl (Or.inl ⟨by rfl, ?_⟩) ?_
      rotate_left
      · (intro w hSw; go_simp; try (with_reducible rfl))
      try simp only [Act.put, Ls]
      refine rdy 5 rfl (fun K hK => ?_)
      go_simp
      go_at_call 98
      refine (CQ.out _).mono ?_
      rintro r v1 ⟨rfl, hb'⟩
      have hz' := belR.size
      replace belR := bel_go belR hb'
      clear hb' hz'
      refine hK.out _ _ ?_ (fun hHeld => ?_)
      · exact ⟨(Bw.below belR).c0, (Bw.below belR).c1⟩
      clear hK K
      try simp only [Act.put, Ls]
      refine rdy 6 rfl (fun K hK => ?_)
      go_simp
      go_at_call 123
      refine (CL.out none 0 _ (Sl.nil _ _)).mono ?_
      rintro r v2 ⟨rfl, hb'⟩
      have hz' := belR.size
      replace belR := bel_go belR hb'
      clear hb' hz'
      refine hK.out _ _ ?_ (fun hHeld => ?_)
      · exact ⟨(Bw.below belR).c0, (Bw.below belR).c1⟩
      clear hK K
      try simp only [Act.put, Ls]
      refine tk 7 ?_ rfl (Or.inl ⟨by rfl, ?_⟩) ?_
      rotate_left
      · (intro w hSw; go_simp; try (with_reducible rfl))
      try simp only [Act.put, Ls]
      refine tk 8 ?_ rfl (Or.inl ⟨by rfl, ?_⟩) ?_
      rotate_left
      · (intro w hSw; go_simp; try (with_reducible rfl))
      try simp only [Act.put, Ls]
      refine tk 9 ?_ rfl (Or.inl ⟨by rfl, ?_⟩) ?_
      rotate_left
      · (intro w hSw; go_simp; try (with_reducible rfl))
      try simp only [Act.put, Ls]
      refine rdy 10 rfl (fun K hK => ?_)
      have Br' := Br.below belR
      have ⟨y0, y1, y2, y3⟩ := Br'
      have Bw' := Bw.below belR
      go_simp
      have hne : w1.heap.size ≠ w.heap.size := by omega
      have Bw9 := (Bw'.other (p := ⟨w.heap.size, 0, none⟩) hne (.int .u64 h)).other (p := ⟨w.heap.size, 1, none⟩) hne (.int .u64 T)
      refine hK.out _ _ ?_ (fun hHeld => ?_)
      · exact ⟨Bw9.c0, Bw9.c1⟩
      clear hK K
      try simp only [Act.put, Ls]
      refine rdy 11 rfl (fun K hK => ?_)
      go_simp
      refine hK.out _ _ ?_ (fun hHeld => ?_)
      · exact ⟨Bw9.c0, Bw9.c1⟩
      clear hK K
      try simp only [Act.put, Ls]
      refine rdy 12 rfl (fun K hK => ?_)
      go_simp
      refine hK.out _ _ ?_ (fun hHeld => ?_)
      · exact ⟨Bw9.c0, Bw9.c1⟩
      clear hK K
      try simp only [Act.put, Ls]
      refine wpAnyH_done (by kernel_rfl) ?_ _
      obtain ⟨z0, z1, -, -⟩ := R2.set Br' (.int .u64 h) (.int .u64 T)
      go_wp2
      refine bodyPost_ret (v := .tuple #[.agg #[.int .u64 h, .int .u64 T], .int .i64 F, .bool true]) (by simp [results, Tryz.results38, go_sem, z0, z1]) rfl ⟨rfl, ((bel.trans (belR.mono bel.size)).setCell (by simp) _).setCell (by simp) _⟩
    · rw [fx] at CF1
      cases fy : finB fm y
      · rw [fy] at CF2
        have CL := hid (fun p c w' hs => l6r fm (adB fm 5 x y) (adF fm 5 x y) 0 (unQ fm) (asX fm x y) p c w' hs hfm k1 k2 k3 (fun h => absurd (k4 h) (fun h' => by rw [h'.2] at fy; cases fy)) T F h2 h3)
        have e1 : Nm.wl 0 = [] := Nm.lim_zero
        have e2 : Nm.wn 0 = false := by decide
        rw [e1, e2] at CL
        clear e1 e2
        obtain ⟨h, h_h⟩ : ∃ q, q = adB fm 5 x y := ⟨_, rfl⟩
        obtain ⟨f, h_f⟩ : ∃ q, q = adF fm 5 x y := ⟨_, rfl⟩
        obtain ⟨q, h_q⟩ : ∃ q, q = unQ fm := ⟨_, rfl⟩
        rw [← h_h, ← h_f] at CA CL
        rw [← h_q] at CQ CL hw1 hw2
        rw [h1, ← h_h]
        clear hH hT hF hO h1 h2 h3 ho k1 k2 k3 k4 hfm hx hy h_h h_f h_q hq
        clear fx fy
        have bel := Below.refl w.heap.size w
        go_enter Tryz.func38, Tryz.ntmps38
        replace bel := bel_al bel (.cells #[.int .u64 0, .int .u64 0] 54)
        have Br := R2.new w (.int .u64 0) (.int .u64 0) 54
        obtain ⟨kr0, kr1, -, -⟩ := id Br
        go_wp2_with fail
        refine (CA.out _).mono ?_
        rintro r w1 ⟨rfl, hb⟩
        clear kr0 kr1
        replace bel := bel_go bel hb
        replace Br := Br.below hb
        clear hb
        have hz1 := World.block_lt_of_cell? _ _ Br.c0
        simp only [] at hz1
        replace Br := Br.below (al_b _ (.cells #[.bool false, .slice none 0 0] 31))
        replace bel := bel_al bel (.cells #[.bool false, .slice none 0 0] 31)
        have Bw := R2.new w1 (.bool false) (.slice none 0 0) 31
        obtain ⟨kr0, kr1, -, -⟩ := id Br
        obtain ⟨kw0, kw1, -, -⟩ := id Bw
        go_wp2_with fail
        refine (CF1.out _).mono ?_
        rintro r w2 ⟨rfl, hb⟩
        clear kr0 kr1 kw0 kw1
        replace bel := bel_go bel hb
        replace Br := Br.below hb
        replace Bw := Bw.below hb
        clear hb
        obtain ⟨kr0, kr1, -, -⟩ := id Br
        obtain ⟨kw0, kw1, -, -⟩ := id Bw
        go_wp2_with fail
        refine (CF2.out _).mono ?_
        rintro r w3 ⟨rfl, hb⟩
        clear kr0 kr1 kw0 kw1
        replace bel := bel_go bel hb
        replace Br := Br.below hb
        replace Bw := Bw.below hb
        clear hb
        go_upto_region 7 with fail
        generalize hWW : w3 = WW at bel Br Bw ⊢
        clear hWW
        have belR := Below.drew (Below.refl WW.heap.size WW)
        refine wp_region_held_drew (S := fun w' => (w'.cell? ⟨w1.heap.size, 0, none⟩ = some (.bool false) ∧ w'.cell? ⟨w1.heap.size, 1, none⟩ = some (.slice none 0 0))) (by kernel_rfl) ?_ (fun hHeld => ?_)
        · exact ⟨(Bw).c0, (Bw).c1⟩
        generalize WW.drew = v0 at belR hHeld ⊢
        refine tk 0 ?_ rfl (Or.inl ⟨by rfl, ?_⟩) ?_
        rotate_left
        · (intro w hSw; go_simp; try (with_reducible rfl))
        try simp only [Act.put, Ls]
        refine tk 1 ?_ rfl (Or.inl ⟨by rfl, ?_⟩) ?_
        rotate_left
        · (intro w hSw; go_simp; try (with_reducible rfl))
        try simp only [Act.put, Ls]
        refine tk 2 ?_ rfl (Or.inl ⟨by rfl, ?_⟩) ?_
        rotate_left
        · (intro w hSw; go_simp; try (with_reducible rfl))
        try simp only [Act.put, Ls]
        refine tk 3 ?_ rfl (Or.inl ⟨by rfl, ?_⟩) ?_
        rotate_left
        · (intro w hSw; (try dsimp only at hSw); obtain ⟨hS0, hS1⟩ := hSw; go_simp; try (with_reducible rfl))
        try simp only [Act.put, Ls]
        refine tk 4 ?_ rfl (Or.inl ⟨by rfl, ?_⟩) ?_
        rotate_left
        · (intro w hSw; go_simp; try (with_reducible rfl))
        try simp only [Act.put, Ls]
        refine rdy 5 rfl (fun K hK => ?_)
        go_simp
        go_at_call 98
        refine (CQ.out _).mono ?_
        rintro r v1 ⟨rfl, hb'⟩
        have hz' := belR.size
        replace belR := bel_go belR hb'
        clear hb' hz'
        refine hK.out _ _ ?_ (fun hHeld => ?_)
        · exact ⟨(Bw.below belR).c0, (Bw.below belR).c1⟩
        clear hK K
        try simp only [Act.put, Ls]
        refine rdy 6 rfl (fun K hK => ?_)
        go_simp
        go_at_call 123
        refine (CL.out none 0 _ (Sl.nil _ _)).mono ?_
        rintro r v2 ⟨rfl, hb'⟩
        have hz' := belR.size
        replace belR := bel_go belR hb'
        clear hb' hz'
        refine hK.out _ _ ?_ (fun hHeld => ?_)
        · exact ⟨(Bw.below belR).c0, (Bw.below belR).c1⟩
        clear hK K
        try simp only [Act.put, Ls]
        refine tk 7 ?_ rfl (Or.inl ⟨by rfl, ?_⟩) ?_
        rotate_left
        · (intro w hSw; go_simp; try (with_reducible rfl))
        try simp only [Act.put, Ls]
        refine tk 8 ?_ rfl (Or.inl ⟨by rfl, ?_⟩) ?_
        rotate_left
        · (intro w hSw; go_simp; try (with_reducible rfl))
        try simp only [Act.put, Ls]
        refine tk 9 ?_ rfl (Or.inl ⟨by rfl, ?_⟩) ?_
        rotate_left
        · (intro w hSw; go_simp; try (with_reducible rfl))
        try simp only [Act.put, Ls]
        refine rdy 10 rfl (fun K hK => ?_)
        have Br' := Br.below belR
        have ⟨y0, y1, y2, y3⟩ := Br'
        have Bw' := Bw.below belR
        go_simp
        have hne : w1.heap.size ≠ w.heap.size := by omega
        have Bw9 := (Bw'.other (p := ⟨w.heap.size, 0, none⟩) hne (.int .u64 h)).other (p := ⟨w.heap.size, 1, none⟩) hne (.int .u64 T)
        refine hK.out _ _ ?_ (fun hHeld => ?_)
        · exact ⟨Bw9.c0, Bw9.c1⟩
        clear hK K
        try simp only [Act.put, Ls]
        refine rdy 11 rfl (fun K hK => ?_)
        go_simp
        refine hK.out _ _ ?_ (fun hHeld => ?_)
        · exact ⟨Bw9.c0, Bw9.c1⟩
        clear hK K
        try simp only [Act.put, Ls]
        refine rdy 12 rfl (fun K hK => ?_)
        go_simp
        refine hK.out _ _ ?_ (fun hHeld => ?_)
        · exact ⟨Bw9.c0, Bw9.c1⟩
        clear hK K
        try simp only [Act.put, Ls]
        refine wpAnyH_done (by kernel_rfl) ?_ _
        obtain ⟨z0, z1, -, -⟩ := R2.set Br' (.int .u64 h) (.int .u64 T)
        go_wp2
        refine bodyPost_ret (v := .tuple #[.agg #[.int .u64 h, .int .u64 T], .int .i64 F, .bool true]) (by simp [results, Tryz.results38, go_sem, z0, z1]) rfl ⟨rfl, ((bel.trans (belR.mono bel.size)).setCell (by simp) _).setCell (by simp) _⟩
      · rw [fy] at CF2
        have CU1 := hid (fun w' => l2units_any fm x w' fx x0 x1)
        have CU2 := hid (fun w' => l2units_any fm y w' fy y0 y1)
        have CP := hid (fun a c b d w' h h' => l1add_any (Nm.wn (unI fm x)) (Nm.wn (unI fm y)) a b c d (Nm.wl (unI fm x)) (Nm.wl (unI fm y)) w' h h' (Nm.wl_dg _) (Nm.wl_dg _) (Nm.wl_nz _) (Nm.wl_nz _) (by have := un_lenA fm x; omega) (by have := un_lenA fm y; omega) (unI fm x + unI fm y) (by rw [Nm.wv_out, Nm.wv_out]))
        have CL := hid (fun p c w' hs => l6r fm (adB fm 5 x y) (adF fm 5 x y) (unI fm x + unI fm y) (unQ fm) (asX fm x y) p c w' hs hfm k1 k2 k3 (fun _ => ⟨by unfold asX; rw [show unQ fm - 2 * unQ fm = -unQ fm by omega], by omega, by omega, by have := bl_add2 (un_blA fm x) (un_blA fm y); omega, by have := asX_bl fm x y; omega⟩) T F h2 h3)
        obtain ⟨h, h_h⟩ : ∃ q, q = adB fm 5 x y := ⟨_, rfl⟩
        obtain ⟨f, h_f⟩ : ∃ q, q = adF fm 5 x y := ⟨_, rfl⟩
        obtain ⟨q, h_q⟩ : ∃ q, q = unQ fm := ⟨_, rfl⟩
        rw [← h_h, ← h_f] at CA CL
        rw [← h_q] at CQ CL hw1 hw2
        rw [h1, ← h_h]
        obtain ⟨gx, h_gx⟩ : ∃ q, q = Nm.wn (unI fm x) := ⟨_, rfl⟩
        obtain ⟨Lx, h_Lx⟩ : ∃ q, q = Nm.wl (unI fm x) := ⟨_, rfl⟩
        obtain ⟨gy, h_gy⟩ : ∃ q, q = Nm.wn (unI fm y) := ⟨_, rfl⟩
        obtain ⟨Ly, h_Ly⟩ : ∃ q, q = Nm.wl (unI fm y) := ⟨_, rfl⟩
        obtain ⟨gs, h_gs⟩ : ∃ q, q = Nm.wn (unI fm x + unI fm y) := ⟨_, rfl⟩
        obtain ⟨Ls, h_Ls⟩ : ∃ q, q = Nm.wl (unI fm x + unI fm y) := ⟨_, rfl⟩
        rw [← h_gx, ← h_Lx] at CU1 CP
        rw [← h_gy, ← h_Ly] at CU2 CP
        rw [← h_gs, ← h_Ls] at CP CL
        clear h_gx h_Lx h_gy h_Ly h_gs h_Ls
        clear hH hT hF hO h1 h2 h3 ho k1 k2 k3 k4 hfm hx hy h_h h_f h_q hq
        clear fx fy
        have bel := Below.refl w.heap.size w
        go_enter Tryz.func38, Tryz.ntmps38
        replace bel := bel_al bel (.cells #[.int .u64 0, .int .u64 0] 54)
        have Br := R2.new w (.int .u64 0) (.int .u64 0) 54
        obtain ⟨kr0, kr1, -, -⟩ := id Br
        go_wp2_with fail
        refine (CA.out _).mono ?_
        rintro r w1 ⟨rfl, hb⟩
        clear kr0 kr1
        replace bel := bel_go bel hb
        replace Br := Br.below hb
        clear hb
        have hz1 := World.block_lt_of_cell? _ _ Br.c0
        simp only [] at hz1
        replace Br := Br.below (al_b _ (.cells #[.bool false, .slice none 0 0] 31))
        replace bel := bel_al bel (.cells #[.bool false, .slice none 0 0] 31)
        have Bw := R2.new w1 (.bool false) (.slice none 0 0) 31
        obtain ⟨kr0, kr1, -, -⟩ := id Br
        obtain ⟨kw0, kw1, -, -⟩ := id Bw
        go_wp2_with fail
        refine (CF1.out _).mono ?_
        rintro r w2 ⟨rfl, hb⟩
        clear kr0 kr1 kw0 kw1
        replace bel := bel_go bel hb
        replace Br := Br.below hb
        replace Bw := Bw.below hb
        clear hb
        obtain ⟨kr0, kr1, -, -⟩ := id Br
        obtain ⟨kw0, kw1, -, -⟩ := id Bw
        go_wp2_with fail
        refine (CF2.out _).mono ?_
        rintro r w3 ⟨rfl, hb⟩
        clear kr0 kr1 kw0 kw1
        replace bel := bel_go bel hb
        replace Br := Br.below hb
        replace Bw := Bw.below hb
        clear hb
        obtain ⟨kr0, kr1, -, -⟩ := id Br
        obtain ⟨kw0, kw1, -, -⟩ := id Bw
        go_wp2_with fail
        refine (CU1.out _).mono ?_
        rintro r w4 ⟨ax, cx, rfl, ox, hb⟩
        clear kr0 kr1 kw0 kw1
        replace bel := bel_go bel hb
        replace Br := Br.below hb
        replace Bw := Bw.below hb
        clear hb
        have sx := ox.sl
        clear ox
        obtain ⟨kr0, kr1, -, -⟩ := id Br
        obtain ⟨kw0, kw1, -, -⟩ := id Bw
        go_wp2_with fail
        refine (CU2.out _).mono ?_
        rintro r w5 ⟨ay, cy, rfl, oy, hb⟩
        clear kr0 kr1 kw0 kw1
        replace bel := bel_go bel hb
        replace Br := Br.below hb
        replace Bw := Bw.below hb
        replace sx := sx.below hb
        clear hb
        have sy := oy.sl
        clear oy
        obtain ⟨kr0, kr1, -, -⟩ := id Br
        obtain ⟨kw0, kw1, -, -⟩ := id Bw
        go_wp2_with fail
        refine (CP.out ax cx ay cy _ sx sy).mono ?_
        rintro r w6 ⟨as', cs', rfl, os, hb⟩
        clear kr0 kr1 kw0 kw1
        replace bel := bel_go bel hb
        replace Br := Br.below hb
        replace Bw := Bw.below hb
        replace sx := sx.below hb
        replace sy := sy.below hb
        clear hb
        have apw := fun (v : Bool) hc => own_apart os (b := w1.heap.size) v hc
        obtain ⟨kr0, kr1, -, -⟩ := id Br
        obtain ⟨kw0, kw1, -, -⟩ := id Bw
        have ap := apw _ kw0
        clear apw
        obtain ⟨-, -, lw0, lw1⟩ := id Bw
        have s9 := own_keep2 os ap (.bool gs) (.slice as' Ls.length cs')
        have Br9 := (Br.other (p := ⟨w1.heap.size, 0, none⟩) (by simp; omega) (.bool gs)).other (p := ⟨w1.heap.size, 1, none⟩) (by simp; omega) (.slice as' Ls.length cs')
        have Bw9 := R2.set Bw (.bool gs) (.slice as' Ls.length cs')
        have bel9 := (bel.setCell (p := ⟨w1.heap.size, 0, none⟩) (by simp; omega) (.bool gs)).setCell (p := ⟨w1.heap.size, 1, none⟩) (by simp; omega) (.slice as' Ls.length cs')
        clear os ap Br bel
        go_upto_region 7 with fail
        clear kr0 kr1 kw0 kw1 lw0 lw1 Bw
        generalize hWv : (w6.setCell ⟨w1.heap.size, 0, none⟩ (.bool gs)).setCell ⟨w1.heap.size, 1, none⟩ (.slice as' Ls.length cs') = W9 at s9 Br9 Bw9 bel9 ⊢
        clear hWv
        have Br := Br9
        have Bw := Bw9
        have bel := bel9
        clear Br9 Bw9 bel9
        go_upto_region 7 with fail
        generalize hWW : W9 = WW at bel Br Bw s9 ⊢
        clear hWW
        have belR := Below.drew (Below.refl WW.heap.size WW)
        refine wp_region_held_drew (S := fun w' => (w'.cell? ⟨w1.heap.size, 0, none⟩ = some (.bool gs) ∧ w'.cell? ⟨w1.heap.size, 1, none⟩ = some (.slice as' Ls.length cs'))) (by kernel_rfl) ?_ (fun hHeld => ?_)
        · exact ⟨(Bw).c0, (Bw).c1⟩
        generalize WW.drew = v0 at belR hHeld ⊢
        refine tk 0 ?_ rfl (Or.inl ⟨by rfl, ?_⟩) ?_
        rotate_left
        · (intro w hSw; go_simp; try (with_reducible rfl))
        try simp only [Act.put, Ls]
        refine tk 1 ?_ rfl (Or.inl ⟨by rfl, ?_⟩) ?_
        rotate_left
        · (intro w hSw; go_simp; try (with_reducible rfl))
        try simp only [Act.put, Ls]
        refine tk 2 ?_ rfl (Or.inl ⟨by rfl, ?_⟩) ?_
        rotate_left
        · (intro w hSw; go_simp; try (with_reducible rfl))
        try simp only [Act.put, Ls]
        refine tk 3 ?_ rfl (Or.inl ⟨by rfl, ?_⟩) ?_
        rotate_left
        · (intro w hSw; (try dsimp only at hSw); obtain ⟨hS0, hS1⟩ := hSw; go_simp; try (with_reducible rfl))
        try simp only [Act.put, Ls]
        refine tk 4 ?_ rfl (Or.inl ⟨by rfl, ?_⟩) ?_
        rotate_left
        · (intro w hSw; go_simp; try (with_reducible rfl))
        try simp only [Act.put, Ls]
        refine rdy 5 rfl (fun K hK => ?_)
        go_simp
        go_at_call 98
        refine (CQ.out _).mono ?_
        rintro r v1 ⟨rfl, hb'⟩
        have hz' := belR.size
        replace belR := bel_go belR hb'
        clear hb' hz'
        refine hK.out _ _ ?_ (fun hHeld => ?_)
        · exact ⟨(Bw.below belR).c0, (Bw.below belR).c1⟩
        clear hK K
        try simp only [Act.put, Ls]
        refine rdy 6 rfl (fun K hK => ?_)
        go_simp
        go_at_call 123
        refine (CL.out as' cs' _ (s9.below belR)).mono ?_
        rintro r v2 ⟨rfl, hb'⟩
        have hz' := belR.size
        replace belR := bel_go belR hb'
        clear hb' hz'
        refine hK.out _ _ ?_ (fun hHeld => ?_)
        · exact ⟨(Bw.below belR).c0, (Bw.below belR).c1⟩
        clear hK K
        try simp only [Act.put, Ls]
        refine tk 7 ?_ rfl (Or.inl ⟨by rfl, ?_⟩) ?_
        rotate_left
        · (intro w hSw; go_simp; try (with_reducible rfl))
        try simp only [Act.put, Ls]
        refine tk 8 ?_ rfl (Or.inl ⟨by rfl, ?_⟩) ?_
        rotate_left
        · (intro w hSw; go_simp; try (with_reducible rfl))
        try simp only [Act.put, Ls]
        refine tk 9 ?_ rfl (Or.inl ⟨by rfl, ?_⟩) ?_
        rotate_left
        · (intro w hSw; go_simp; try (with_reducible rfl))
        try simp only [Act.put, Ls]
        refine rdy 10 rfl (fun K hK => ?_)
        have Br' := Br.below belR
        have ⟨y0, y1, y2, y3⟩ := Br'
        have Bw' := Bw.below belR
        go_simp
        have hne : w1.heap.size ≠ w.heap.size := by omega
        have Bw9 := (Bw'.other (p := ⟨w.heap.size, 0, none⟩) hne (.int .u64 h)).other (p := ⟨w.heap.size, 1, none⟩) hne (.int .u64 T)
        refine hK.out _ _ ?_ (fun hHeld => ?_)
        · exact ⟨Bw9.c0, Bw9.c1⟩
        clear hK K
        try simp only [Act.put, Ls]
        refine rdy 11 rfl (fun K hK => ?_)
        go_simp
        refine hK.out _ _ ?_ (fun hHeld => ?_)
        · exact ⟨Bw9.c0, Bw9.c1⟩
        clear hK K
        try simp only [Act.put, Ls]
        refine rdy 12 rfl (fun K hK => ?_)
        go_simp
        refine hK.out _ _ ?_ (fun hHeld => ?_)
        · exact ⟨Bw9.c0, Bw9.c1⟩
        clear hK K
        try simp only [Act.put, Ls]
        refine wpAnyH_done (by kernel_rfl) ?_ _
        obtain ⟨z0, z1, -, -⟩ := R2.set Br' (.int .u64 h) (.int .u64 T)
        go_wp2
        refine bodyPost_ret (v := .tuple #[.agg #[.int .u64 h, .int .u64 T], .int .i64 F, .bool true]) (by simp [results, Tryz.results38, go_sem, z0, z1]) rfl ⟨rfl, ((bel.trans (belR.mono bel.size)).setCell (by simp) _).setCell (by simp) _⟩
end Go.Proofs.YtmcflggionkhlaaGreatDoor
