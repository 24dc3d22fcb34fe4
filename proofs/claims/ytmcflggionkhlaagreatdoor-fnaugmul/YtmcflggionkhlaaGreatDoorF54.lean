/-
  What is needed of WJ.
-/
import Derived.Test.YtmcflggionkhlaaGreatDoorF50
set_option maxHeartbeats 16000000
set_option maxRecDepth 1000000
namespace Go.Proofs.YtmcflggionkhlaaGreatDoor
set_option linter.unusedVariables false
set_option linter.unusedSimpArgs false
open Go.RowKit Go.Deep
namespace Fd
theorem pE_rng (fm x : Int) : -1074 ≤ pE fm x ∧ pE fm x ≤ 2000 := by
  cases h : finB fm x
  · unfold pE; rw [h]; simp
  · have h1 := pE_q h
    have h2 := unq_bd fm
    omega
/-- The product of two floats' M, with its sign. -/
def prdM (fm x y : Int) : Int := if (pS fm x != pS fm y) = true then -(pM fm x * pM fm y) else pM fm x * pM fm y
theorem prd_nZ {fm x y : Int} (fx : finB fm x = true) (fy : finB fm y = true) : prdM fm x y = nZ fm x * nZ fm y ∧ pE fm x = nE fm x ∧ pE fm y = nE fm y := by
  unfold prdM nZ nE
  rw [if_pos fx, if_pos fy, if_pos fx, if_pos fy]
  refine ⟨?_, rfl, rfl⟩
  cases pS fm x <;> cases pS fm y <;> simp [Int.neg_mul, Int.mul_neg]
theorem prd_bl (fm x y : Int) : bitLen (pM fm x * pM fm y).natAbs ≤ 106 := by
  obtain ⟨a0, a1⟩ := pM_bd fm x
  obtain ⟨b0, b1⟩ := pM_bd fm y
  refine (Nm.bl_le_iff _ 106).2 ?_
  rw [Int.natAbs_mul, show (2 : Nat) ^ 106 = 9007199254740992 * 9007199254740992 by decide]
  exact Nat.mul_lt_mul'' (by omega) (by omega)
/-- The product of two floats' M, and the sum of their E. -/
theorem product_x (fm x y : Int) (w : World) (hT : Tab w) (x0 : 0 ≤ x) (x1 : x < 18446744073709551616) (y0 : 0 ≤ y) (y1 : y < 18446744073709551616) :
    Calls Tryz.prog 49 #[.int .i64 fm, .int .u64 x, .int .u64 y] w fun e w' => ∃ a' c', e = .returned (.tuple #[.agg #[.bool (Nm.wn (prdM fm x y)), .slice a' (Nm.wl (prdM fm x y)).length c'], .int .i64 (pE fm x + pE fm y), .bool (finB fm x && finB fm y)]) ∧ Sl .u32 w' (.slice a' (Nm.wl (prdM fm x y)).length c') (Nm.wl (prdM fm x y)) ∧ Below w.heap.size w w' := by
  have PX := hid (fun w' h => impl_parts fm x w' h x0 x1)
  have PY := hid (fun w' h => impl_parts fm y w' h y0 y1)
  have bl := prd_bl fm x y
  have ex := pE_rng fm x
  have ey := pE_rng fm y
  obtain ⟨mx0, mx1⟩ := pM_bd fm x
  obtain ⟨my0, my1⟩ := pM_bd fm y
  have OX := hid (fun w' => wof_impl (pM fm x) w' (by omega) (by omega))
  have OY := hid (fun w' => wof_impl (pM fm y) w' (by omega) (by omega))
  have lx : (Nm.wl (pM fm x)).length ≤ 200 := fit_k (by have := (Nm.bl_le_iff (pM fm x).natAbs 53).2 (by omega); omega)
  have ly : (Nm.wl (pM fm y)).length ≤ 200 := fit_k (by have := (Nm.bl_le_iff (pM fm y).natAbs 53).2 (by omega); omega)
  have hf : Nm.fits (pM fm x * pM fm y) = true := by unfold Nm.fits; exact decide_eq_true (fit_k (by omega))
  have CM := hid (fun a b c d w' h h' => pmul_impl (pM fm x) (pM fm y) (pM fm x * pM fm y) (pM fm x * pM fm y) a b c d w' h h' lx ly rfl (by rw [hf]; rfl))
  rw [hf] at CM
  have CN := hid (fun a c w' h => eneg_impl (pM fm x * pM fm y) a c w' h (fit_k (by omega)))
  have E1 : prdM fm x y = if (pS fm x != pS fm y) = true then -(pM fm x * pM fm y) else pM fm x * pM fm y := rfl
  obtain ⟨Q, hQ⟩ : ∃ q, q = prdM fm x y := ⟨_, rfl⟩
  rw [← hQ] at E1 ⊢
  obtain ⟨P, hP⟩ : ∃ q, q = pM fm x * pM fm y := ⟨_, rfl⟩
  rw [← hP] at E1 CM CN
  clear hQ hf lx ly bl hP
  obtain ⟨sx, hsx⟩ : ∃ q, q = pS fm x := ⟨_, rfl⟩
  obtain ⟨sy, hsy⟩ : ∃ q, q = pS fm y := ⟨_, rfl⟩
  obtain ⟨mx, hmx⟩ : ∃ q, q = pM fm x := ⟨_, rfl⟩
  obtain ⟨my, hmy⟩ : ∃ q, q = pM fm y := ⟨_, rfl⟩
  obtain ⟨Ex, hEx⟩ : ∃ q, q = pE fm x := ⟨_, rfl⟩
  obtain ⟨Ey, hEy⟩ : ∃ q, q = pE fm y := ⟨_, rfl⟩
  obtain ⟨fx, hfx⟩ : ∃ q, q = finB fm x := ⟨_, rfl⟩
  obtain ⟨fy, hfy⟩ : ∃ q, q = finB fm y := ⟨_, rfl⟩
  rw [← hsx, ← hmx, ← hEx, ← hfx] at PX
  rw [← hsy, ← hmy, ← hEy, ← hfy] at PY
  rw [← hsx, ← hsy] at E1
  rw [← hmx] at OX
  rw [← hmy] at OY
  rw [← hmx, ← hmy] at CM
  rw [← hEx] at ex
  rw [← hEy] at ey
  rw [← hEx, ← hEy, ← hfx, ← hfy]
  clear hsx hsy hmx hmy hEx hEy hfx hfy x0 x1 y0 y1 mx0 mx1 my0 my1
  have hW : IntKind.i64.wrap (Ex + Ey) = Ex + Ey := by rw [IntKind.wrap_i64]; omega
  have hW2 : wrap64 (Ex + Ey) = Ex + Ey := by unfold wrap64; omega
  clear ex ey
  obtain ⟨gx, hgx⟩ : ∃ q, q = Nm.wn mx := ⟨_, rfl⟩
  obtain ⟨X, hX⟩ : ∃ q, q = Nm.wl mx := ⟨_, rfl⟩
  obtain ⟨gy, hgy⟩ : ∃ q, q = Nm.wn my := ⟨_, rfl⟩
  obtain ⟨Y, hY⟩ : ∃ q, q = Nm.wl my := ⟨_, rfl⟩
  obtain ⟨gp, hgp⟩ : ∃ q, q = Nm.wn P := ⟨_, rfl⟩
  obtain ⟨L, hL⟩ : ∃ q, q = Nm.wl P := ⟨_, rfl⟩
  obtain ⟨gn, hgn⟩ : ∃ q, q = Nm.wn (-P) := ⟨_, rfl⟩
  obtain ⟨N, hN⟩ : ∃ q, q = Nm.wl (-P) := ⟨_, rfl⟩
  obtain ⟨gq, hgq⟩ : ∃ q, q = Nm.wn Q := ⟨_, rfl⟩
  obtain ⟨Z, hZ⟩ : ∃ q, q = Nm.wl Q := ⟨_, rfl⟩
  rw [← hgx, ← hX] at OX CM
  rw [← hgy, ← hY] at OY CM
  rw [← hgp, ← hL] at CM CN
  rw [← hgn, ← hN] at CN
  rw [← hgq, ← hZ]
  have E2 : (sx = sy → gq = gp ∧ Z = L) ∧ (sx ≠ sy → gq = gn ∧ Z = N) := by
    constructor
    · intro h; subst h; simp at E1; subst E1; exact ⟨hgq.trans hgp.symm, hZ.trans hL.symm⟩
    · intro h; rw [if_pos (by simpa using h)] at E1; subst E1; exact ⟨hgq.trans hgn.symm, hZ.trans hN.symm⟩
  clear hgx hX hgy hY hgp hL hgn hN hgq hZ E1
  have E2 := hid E2
  have bel := Below.refl w.heap.size w
  go_enter Tryz.func49, Tryz.ntmps49
  replace hT := hT.below (al_b _ (.cells #[.bool false, .slice none 0 0] 31))
  replace bel := bel_al bel (.cells #[.bool false, .slice none 0 0] 31)
  have Br := R2.new w (.bool false) (.slice none 0 0) 31
  obtain ⟨kr0, kr1, -, -⟩ := id Br
  go_wp2_with fail
  refine (PX.out _ hT).mono ?_
  rintro r w1 ⟨rfl, hb⟩
  clear kr0 kr1
  replace bel := bel_go bel hb
  replace hT := hT.below hb
  replace Br := Br.below hb
  clear hb
  have hpr : w1.heap.size ≠ w.heap.size := by have := World.block_lt_of_cell? _ _ Br.c0; simp only [] at this; omega
  replace hT := hT.below (al_b _ (.cells #[.bool sx, .int .i64 mx, .int .i64 Ex] 77))
  replace Br := Br.below (al_b _ (.cells #[.bool sx, .int .i64 mx, .int .i64 Ex] 77))
  replace bel := bel_al bel (.cells #[.bool sx, .int .i64 mx, .int .i64 Ex] 77)
  have Bp := R3.new w1 (.bool sx) (.int .i64 mx) (.int .i64 Ex) 77
  obtain ⟨kr0, kr1, -, -⟩ := id Br
  obtain ⟨kp0, kp1, kp2, -, -, -⟩ := id Bp
  go_wp2_with fail
  refine (PY.out _ hT).mono ?_
  rintro r w2 ⟨rfl, hb⟩
  clear kr0 kr1 kp0 kp1 kp2
  replace bel := bel_go bel hb
  replace hT := hT.below hb
  replace Br := Br.below hb
  replace Bp := Bp.below hb
  clear hb
  have hqr : w2.heap.size ≠ w.heap.size := by have := World.block_lt_of_cell? _ _ Br.c0; simp only [] at this; omega
  replace hT := hT.below (al_b _ (.cells #[.bool sy, .int .i64 my, .int .i64 Ey] 77))
  replace Br := Br.below (al_b _ (.cells #[.bool sy, .int .i64 my, .int .i64 Ey] 77))
  replace Bp := Bp.below (al_b _ (.cells #[.bool sy, .int .i64 my, .int .i64 Ey] 77))
  replace bel := bel_al bel (.cells #[.bool sy, .int .i64 my, .int .i64 Ey] 77)
  have Bq := R3.new w2 (.bool sy) (.int .i64 my) (.int .i64 Ey) 77
  go_upto_region 3 with fail
  generalize hWW : w2.alloc (.cells #[.bool sy, .int .i64 my, .int .i64 Ey] 77) = W at bel hT Br Bp Bq ⊢
  clear hWW
  go_cut [13, 14] (fun s13 s14 wx => ∃ (b9 : Nat) (a8 : Option Addr) (c8 : Nat), s13 = .pointer (some ⟨b9, 0, none⟩) ∧ s14 = .bool true ∧ W.heap.size ≤ b9 ∧ R2 wx b9 (.bool gp) (.slice a8 L.length c8) ∧ Own wx W.heap.size a8 c8 L ∧ (∀ g, a8 = some ⟨g, 0, none⟩ → g ≠ b9) ∧ Below W.heap.size W wx)
  case first =>
    have belR := Below.drew (Below.refl W.heap.size W)
    refine wp_region_held_drew (S := fun w' => w'.cell? ⟨w1.heap.size, 1, none⟩ = some (.int .i64 mx) ∧ w'.cell? ⟨w2.heap.size, 1, none⟩ = some (.int .i64 my)) (by kernel_rfl) ?_ (fun hHeld => ?_)
    · exact ⟨Bp.c1, Bq.c1⟩
    generalize W.drew = v0 at belR hHeld ⊢
    refine tk 0 ?_ rfl (Or.inl ⟨by rfl, ?_⟩) ?_
    rotate_left
    · (intro w hSw; go_simp; try (with_reducible rfl))
    try simp only [Act.put, Ls]
    refine tk 1 ?_ rfl (Or.inl ⟨by rfl, ?_⟩) ?_
    rotate_left
    · (intro w hSw; (try dsimp only at hSw); obtain ⟨hS0, hS1⟩ := hSw; go_simp; try (with_reducible rfl))
    try simp only [Act.put, Ls]
    refine tk 3 ?_ rfl (Or.inl ⟨by rfl, ?_⟩) ?_
    rotate_left
    · (intro w hSw; go_simp; try (with_reducible rfl))
    try simp only [Act.put, Ls]
    refine tk 4 ?_ rfl (Or.inl ⟨by rfl, ?_⟩) ?_
    rotate_left
    · (intro w hSw; (try dsimp only at hSw); obtain ⟨hS0, hS1⟩ := hSw; go_simp; try (with_reducible rfl))
    try simp only [Act.put, Ls]
    refine wpAnyH_ready (rs := [2, 10]) (by kernel_rfl) (by simp) ?_
    refine AllReadyH.cons (o := _) rfl (fun K hK => ?_) (AllReadyH.cons (o := _) rfl (fun K hK => ?_) AllReadyH.nil)
    · go_simp
      go_at_call 29
      refine (OX.out _).mono ?_
      rintro r v1 ⟨a2, c2, rfl, o2, hb'⟩
      have hz' := belR.size
      replace belR := bel_go belR hb'
      replace o2 := Own.base o2 (B' := W.heap.size) (by omega)
      clear hb' hz'
      refine hK.out _ _ ?_ (fun hHeld => ?_)
      · exact ⟨(Bp.below belR).c1, (Bq.below belR).c1⟩
      clear hK K
      try simp only [Act.put, Ls]
      refine wpAnyH_ready (rs := [5, 10]) (by kernel_rfl) (by simp) ?_
      refine AllReadyH.cons (o := _) rfl (fun K hK => ?_) (AllReadyH.cons (o := _) rfl (fun K hK => ?_) AllReadyH.nil)
      · go_simp
        go_at_call 29
        refine (OY.out _).mono ?_
        rintro r v2 ⟨a5, c5, rfl, o5, hb'⟩
        replace o2 := o2.below hb'
        have hz' := belR.size
        replace belR := bel_go belR hb'
        replace o5 := Own.base o5 (B' := W.heap.size) (by omega)
        clear hb' hz'
        refine hK.out _ _ ?_ (fun hHeld => ?_)
        · exact ⟨(Bp.below belR).c1, (Bq.below belR).c1⟩
        clear hK K
        try simp only [Act.put, Ls]
        refine wpAnyH_ready (rs := [6, 10]) (by kernel_rfl) (by simp) ?_
        refine AllReadyH.cons (o := _) rfl (fun K hK => ?_) (AllReadyH.cons (o := _) rfl (fun K hK => ?_) AllReadyH.nil)
        · go_simp
          go_at_call 127
          refine (CM.out a2 a5 c2 c5 _ o2.sl o5.sl).mono ?_
          rintro r v3 ⟨a8, c8, rfl, o8, hb'⟩
          replace o2 := o2.below hb'
          replace o5 := o5.below hb'
          have hz' := belR.size
          replace belR := bel_go belR hb'
          replace o8 := Own.base o8 (B' := W.heap.size) (by omega)
          clear hb' hz'
          refine hK.out _ _ ?_ (fun hHeld => ?_)
          · exact ⟨(Bp.below belR).c1, (Bq.below belR).c1⟩
          clear hK K
          try simp only [Act.put, Ls]
          refine tk 7 ?_ rfl (Or.inl ⟨by rfl, ?_⟩) ?_
          rotate_left
          · (intro w hSw; go_simp; try (with_reducible rfl))
          try simp only [Act.put, Ls]
          refine tk 8 ?_ rfl (Or.inl ⟨by rfl, ?_⟩) ?_
          rotate_left
          · (intro w hSw; go_simp; try (with_reducible rfl))
          try simp only [Act.put, Ls]
          refine tk 9 ?_ rfl (Or.inl ⟨by rfl, ?_⟩) ?_
          rotate_left
          · (intro w hSw; go_simp; try (with_reducible rfl))
          try simp only [Act.put, Ls]
          refine rdy 10 rfl (fun K hK => ?_)
          go_simp
          refine hK.out _ _ ?_ (fun hHeld => ?_)
          · exact ⟨(Bp.below (bel_al belR (.cells #[.bool false, .slice none 0 0] 31))).c1, (Bq.below (bel_al belR (.cells #[.bool false, .slice none 0 0] 31))).c1⟩
          clear hK K
          try simp only [Act.put, Ls]
          obtain ⟨b9, h2⟩ : ∃ q, q = v3.heap.size := ⟨_, rfl⟩
          have hb9 : W.heap.size ≤ b9 := by have := belR.size; omega
          have B9 := R2.new v3 (.bool false) (.slice none 0 0) 31
          rw [← h2] at B9 ⊢
          have ng2_9 : ∀ g, a2 = some ⟨g, 0, none⟩ → g ≠ b9 := fun g h => by have := (own_at o2 g h).2; omega
          have ng5_9 : ∀ g, a5 = some ⟨g, 0, none⟩ → g ≠ b9 := fun g h => by have := (own_at o5 g h).2; omega
          have ng8_9 : ∀ g, a8 = some ⟨g, 0, none⟩ → g ≠ b9 := fun g h => by have := (own_at o8 g h).2; omega
          replace o2 := o2.below (al_b _ (.cells #[.bool false, .slice none 0 0] 31))
          replace o5 := o5.below (al_b _ (.cells #[.bool false, .slice none 0 0] 31))
          replace o8 := o8.below (al_b _ (.cells #[.bool false, .slice none 0 0] 31))
          replace belR := bel_al belR (.cells #[.bool false, .slice none 0 0] 31)
          clear h2
          generalize v3.alloc (.cells #[.bool false, .slice none 0 0] 31) = v4 at B9 belR hHeld o2 o5 o8 ⊢
          refine rdy 11 rfl (fun K hK => ?_)
          have ⟨y90, y91, y92, y93⟩ := B9
          go_simp
          have belS := ((belR.setCell (p := ⟨b9, 0, none⟩) (by simpa using hb9) (.bool gp)).setCell (p := ⟨b9, 1, none⟩) (by simpa using hb9) (.slice a8 L.length c8))
          refine hK.out _ _ ?_ (fun hHeld => ?_)
          · exact ⟨(Bp.below belS).c1, (Bq.below belS).c1⟩
          clear hK K
          try simp only [Act.put, Ls]
          refine rdy 12 rfl (fun K hK => ?_)
          go_simp
          refine hK.out _ _ ?_ (fun hHeld => ?_)
          · exact ⟨(Bp.below belS).c1, (Bq.below belS).c1⟩
          clear hK K
          try simp only [Act.put, Ls]
          refine wpAnyH_done (by kernel_rfl) ?_ _
          go_wp2_with fail
          go_meet
          exact ⟨b9, a8, c8, rfl, rfl, hb9, R2.set B9 _ _, ((o8.base (by have := belR.size; omega)).setOther ng8_9 _).setOther ng8_9 _, ng8_9, belS⟩
        · go_simp
          refine hK.out _ _ ?_ (fun hHeld => ?_)
          · exact ⟨(Bp.below (bel_al belR (.cells #[.bool false, .slice none 0 0] 31))).c1, (Bq.below (bel_al belR (.cells #[.bool false, .slice none 0 0] 31))).c1⟩
          clear hK K
          try simp only [Act.put, Ls]
          obtain ⟨b9, h2⟩ : ∃ q, q = v2.heap.size := ⟨_, rfl⟩
          have hb9 : W.heap.size ≤ b9 := by have := belR.size; omega
          have B9 := R2.new v2 (.bool false) (.slice none 0 0) 31
          rw [← h2] at B9 ⊢
          have ng2_9 : ∀ g, a2 = some ⟨g, 0, none⟩ → g ≠ b9 := fun g h => by have := (own_at o2 g h).2; omega
          have ng5_9 : ∀ g, a5 = some ⟨g, 0, none⟩ → g ≠ b9 := fun g h => by have := (own_at o5 g h).2; omega
          replace o2 := o2.below (al_b _ (.cells #[.bool false, .slice none 0 0] 31))
          replace o5 := o5.below (al_b _ (.cells #[.bool false, .slice none 0 0] 31))
          replace belR := bel_al belR (.cells #[.bool false, .slice none 0 0] 31)
          clear h2
          generalize v2.alloc (.cells #[.bool false, .slice none 0 0] 31) = v3 at B9 belR hHeld o2 o5 ⊢
          refine rdy 6 rfl (fun K hK => ?_)
          go_simp
          go_at_call 127
          refine (CM.out a2 a5 c2 c5 _ o2.sl o5.sl).mono ?_
          have hl9 : b9 < v3.heap.size := World.block_lt_of_cell? _ _ B9.c0
          rintro r v4 ⟨a8, c8, rfl, o8, hb'⟩
          replace o2 := o2.below hb'
          replace o5 := o5.below hb'
          replace B9 := B9.below hb'
          have hz' := belR.size
          replace belR := bel_go belR hb'
          have ng8_9 : ∀ g, a8 = some ⟨g, 0, none⟩ → g ≠ b9 := fun g h => by have := (own_at o8 g h).1; omega
          replace o8 := Own.base o8 (B' := W.heap.size) (by omega)
          clear hl9
          clear hb' hz'
          refine hK.out _ _ ?_ (fun hHeld => ?_)
          · exact ⟨(Bp.below belR).c1, (Bq.below belR).c1⟩
          clear hK K
          try simp only [Act.put, Ls]
          refine tk 7 ?_ rfl (Or.inl ⟨by rfl, ?_⟩) ?_
          rotate_left
          · (intro w hSw; go_simp; try (with_reducible rfl))
          try simp only [Act.put, Ls]
          refine tk 8 ?_ rfl (Or.inl ⟨by rfl, ?_⟩) ?_
          rotate_left
          · (intro w hSw; go_simp; try (with_reducible rfl))
          try simp only [Act.put, Ls]
          refine tk 9 ?_ rfl (Or.inl ⟨by rfl, ?_⟩) ?_
          rotate_left
          · (intro w hSw; go_simp; try (with_reducible rfl))
          try simp only [Act.put, Ls]
          refine rdy 11 rfl (fun K hK => ?_)
          have ⟨y90, y91, y92, y93⟩ := B9
          go_simp
          have belS := ((belR.setCell (p := ⟨b9, 0, none⟩) (by simpa using hb9) (.bool gp)).setCell (p := ⟨b9, 1, none⟩) (by simpa using hb9) (.slice a8 L.length c8))
          refine hK.out _ _ ?_ (fun hHeld => ?_)
          · exact ⟨(Bp.below belS).c1, (Bq.below belS).c1⟩
          clear hK K
          try simp only [Act.put, Ls]
          refine rdy 12 rfl (fun K hK => ?_)
          go_simp
          refine hK.out _ _ ?_ (fun hHeld => ?_)
          · exact ⟨(Bp.below belS).c1, (Bq.below belS).c1⟩
          clear hK K
          try simp only [Act.put, Ls]
          refine wpAnyH_done (by kernel_rfl) ?_ _
          go_wp2_with fail
          go_meet
          exact ⟨b9, a8, c8, rfl, rfl, hb9, R2.set B9 _ _, ((o8.base (by have := belR.size; omega)).setOther ng8_9 _).setOther ng8_9 _, ng8_9, belS⟩
      · go_simp
        refine hK.out _ _ ?_ (fun hHeld => ?_)
        · exact ⟨(Bp.below (bel_al belR (.cells #[.bool false, .slice none 0 0] 31))).c1, (Bq.below (bel_al belR (.cells #[.bool false, .slice none 0 0] 31))).c1⟩
        clear hK K
        try simp only [Act.put, Ls]
        obtain ⟨b9, h2⟩ : ∃ q, q = v1.heap.size := ⟨_, rfl⟩
        have hb9 : W.heap.size ≤ b9 := by have := belR.size; omega
        have B9 := R2.new v1 (.bool false) (.slice none 0 0) 31
        rw [← h2] at B9 ⊢
        have ng2_9 : ∀ g, a2 = some ⟨g, 0, none⟩ → g ≠ b9 := fun g h => by have := (own_at o2 g h).2; omega
        replace o2 := o2.below (al_b _ (.cells #[.bool false, .slice none 0 0] 31))
        replace belR := bel_al belR (.cells #[.bool false, .slice none 0 0] 31)
        clear h2
        generalize v1.alloc (.cells #[.bool false, .slice none 0 0] 31) = v2 at B9 belR hHeld o2 ⊢
        refine rdy 5 rfl (fun K hK => ?_)
        go_simp
        go_at_call 29
        refine (OY.out _).mono ?_
        have hl9 : b9 < v2.heap.size := World.block_lt_of_cell? _ _ B9.c0
        rintro r v3 ⟨a5, c5, rfl, o5, hb'⟩
        replace o2 := o2.below hb'
        replace B9 := B9.below hb'
        have hz' := belR.size
        replace belR := bel_go belR hb'
        have ng5_9 : ∀ g, a5 = some ⟨g, 0, none⟩ → g ≠ b9 := fun g h => by have := (own_at o5 g h).1; omega
        replace o5 := Own.base o5 (B' := W.heap.size) (by omega)
        clear hl9
        clear hb' hz'
        refine hK.out _ _ ?_ (fun hHeld => ?_)
        · exact ⟨(Bp.below belR).c1, (Bq.below belR).c1⟩
        clear hK K
        try simp only [Act.put, Ls]
        refine rdy 6 rfl (fun K hK => ?_)
        go_simp
        go_at_call 127
        refine (CM.out a2 a5 c2 c5 _ o2.sl o5.sl).mono ?_
        have hl9 : b9 < v3.heap.size := World.block_lt_of_cell? _ _ B9.c0
        rintro r v4 ⟨a8, c8, rfl, o8, hb'⟩
        replace o2 := o2.below hb'
        replace o5 := o5.below hb'
        replace B9 := B9.below hb'
        have hz' := belR.size
        replace belR := bel_go belR hb'
        have ng8_9 : ∀ g, a8 = some ⟨g, 0, none⟩ → g ≠ b9 := fun g h => by have := (own_at o8 g h).1; omega
        replace o8 := Own.base o8 (B' := W.heap.size) (by omega)
        clear hl9
        clear hb' hz'
        refine hK.out _ _ ?_ (fun hHeld => ?_)
        · exact ⟨(Bp.below belR).c1, (Bq.below belR).c1⟩
        clear hK K
        try simp only [Act.put, Ls]
        refine tk 7 ?_ rfl (Or.inl ⟨by rfl, ?_⟩) ?_
        rotate_left
        · (intro w hSw; go_simp; try (with_reducible rfl))
        try simp only [Act.put, Ls]
        refine tk 8 ?_ rfl (Or.inl ⟨by rfl, ?_⟩) ?_
        rotate_left
        · (intro w hSw; go_simp; try (with_reducible rfl))
        try simp only [Act.put, Ls]
        refine tk 9 ?_ rfl (Or.inl ⟨by rfl, ?_⟩) ?_
        rotate_left
        · (intro w hSw; go_simp; try (with_reducible rfl))
        try simp only [Act.put, Ls]
        refine rdy 11 rfl (fun K hK => ?_)
        have ⟨y90, y91, y92, y93⟩ := B9
        go_simp
        have belS := ((belR.setCell (p := ⟨b9, 0, none⟩) (by simpa using hb9) (.bool gp)).setCell (p := ⟨b9, 1, none⟩) (by simpa using hb9) (.slice a8 L.length c8))
        refine hK.out _ _ ?_ (fun hHeld => ?_)
        · exact ⟨(Bp.below belS).c1, (Bq.below belS).c1⟩
        clear hK K
        try simp only [Act.put, Ls]
        refine rdy 12 rfl (fun K hK => ?_)
        go_simp
        refine hK.out _ _ ?_ (fun hHeld => ?_)
        · exact ⟨(Bp.below belS).c1, (Bq.below belS).c1⟩
        clear hK K
        try simp only [Act.put, Ls]
        refine wpAnyH_done (by kernel_rfl) ?_ _
        go_wp2_with fail
        go_meet
        exact ⟨b9, a8, c8, rfl, rfl, hb9, R2.set B9 _ _, ((o8.base (by have := belR.size; omega)).setOther ng8_9 _).setOther ng8_9 _, ng8_9, belS⟩
    · go_simp
      refine hK.out _ _ ?_ (fun hHeld => ?_)
      · exact ⟨(Bp.below (bel_al belR (.cells #[.bool false, .slice none 0 0] 31))).c1, (Bq.below (bel_al belR (.cells #[.bool false, .slice none 0 0] 31))).c1⟩
      clear hK K
      try simp only [Act.put, Ls]
      obtain ⟨b9, h2⟩ : ∃ q, q = v0.heap.size := ⟨_, rfl⟩
      have hb9 : W.heap.size ≤ b9 := by have := belR.size; omega
      have B9 := R2.new v0 (.bool false) (.slice none 0 0) 31
      rw [← h2] at B9 ⊢
      replace belR := bel_al belR (.cells #[.bool false, .slice none 0 0] 31)
      clear h2
      generalize v0.alloc (.cells #[.bool false, .slice none 0 0] 31) = v1 at B9 belR hHeld ⊢
      refine rdy 2 rfl (fun K hK => ?_)
      go_simp
      go_at_call 29
      refine (OX.out _).mono ?_
      have hl9 : b9 < v1.heap.size := World.block_lt_of_cell? _ _ B9.c0
      rintro r v2 ⟨a2, c2, rfl, o2, hb'⟩
      replace B9 := B9.below hb'
      have hz' := belR.size
      replace belR := bel_go belR hb'
      have ng2_9 : ∀ g, a2 = some ⟨g, 0, none⟩ → g ≠ b9 := fun g h => by have := (own_at o2 g h).1; omega
      replace o2 := Own.base o2 (B' := W.heap.size) (by omega)
      clear hl9
      clear hb' hz'
      refine hK.out _ _ ?_ (fun hHeld => ?_)
      · exact ⟨(Bp.below belR).c1, (Bq.below belR).c1⟩
      clear hK K
      try simp only [Act.put, Ls]
      refine rdy 5 rfl (fun K hK => ?_)
      go_simp
      go_at_call 29
      refine (OY.out _).mono ?_
      have hl9 : b9 < v2.heap.size := World.block_lt_of_cell? _ _ B9.c0
      rintro r v3 ⟨a5, c5, rfl, o5, hb'⟩
      replace o2 := o2.below hb'
      replace B9 := B9.below hb'
      have hz' := belR.size
      replace belR := bel_go belR hb'
      have ng5_9 : ∀ g, a5 = some ⟨g, 0, none⟩ → g ≠ b9 := fun g h => by have := (own_at o5 g h).1; omega
      replace o5 := Own.base o5 (B' := W.heap.size) (by omega)
      clear hl9
      clear hb' hz'
      refine hK.out _ _ ?_ (fun hHeld => ?_)
      · exact ⟨(Bp.below belR).c1, (Bq.below belR).c1⟩
      clear hK K
      try simp only [Act.put, Ls]
      refine rdy 6 rfl (fun K hK => ?_)
      go_simp
      go_at_call 127
      refine (CM.out a2 a5 c2 c5 _ o2.sl o5.sl).mono ?_
      have hl9 : b9 < v3.heap.size := World.block_lt_of_cell? _ _ B9.c0
      rintro r v4 ⟨a8, c8, rfl, o8, hb'⟩
      replace o2 := o2.below hb'
      replace o5 := o5.below hb'
      replace B9 := B9.below hb'
      have hz' := belR.size
      replace belR := bel_go belR hb'
      have ng8_9 : ∀ g, a8 = some ⟨g, 0, none⟩ → g ≠ b9 := fun g h => by have := (own_at o8 g h).1; omega
      replace o8 := Own.base o8 (B' := W.heap.size) (by omega)
      clear hl9
      clear hb' hz'
      refine hK.out _ _ ?_ (fun hHeld => ?_)
      · exact ⟨(Bp.below belR).c1, (Bq.below belR).c1⟩
      clear hK K
      try simp only [Act.put, Ls]
      refine tk 7 ?_ rfl (Or.inl ⟨by rfl, ?_⟩) ?_
      rotate_left
      · (intro w hSw; go_simp; try (with_reducible rfl))
      try simp only [Act.put, Ls]
      refine tk 8 ?_ rfl (Or.inl ⟨by rfl, ?_⟩) ?_
      rotate_left
      · (intro w hSw; go_simp; try (with_reducible rfl))
      try simp only [Act.put, Ls]
      refine tk 9 ?_ rfl (Or.inl ⟨by rfl, ?_⟩) ?_
      rotate_left
      · (intro w hSw; go_simp; try (with_reducible rfl))
      try simp only [Act.put, Ls]
      refine rdy 11 rfl (fun K hK => ?_)
      have ⟨y90, y91, y92, y93⟩ := B9
      go_simp
      have belS := ((belR.setCell (p := ⟨b9, 0, none⟩) (by simpa using hb9) (.bool gp)).setCell (p := ⟨b9, 1, none⟩) (by simpa using hb9) (.slice a8 L.length c8))
      refine hK.out _ _ ?_ (fun hHeld => ?_)
      · exact ⟨(Bp.below belS).c1, (Bq.below belS).c1⟩
      clear hK K
      try simp only [Act.put, Ls]
      refine rdy 12 rfl (fun K hK => ?_)
      go_simp
      refine hK.out _ _ ?_ (fun hHeld => ?_)
      · exact ⟨(Bp.below belS).c1, (Bq.below belS).c1⟩
      clear hK K
      try simp only [Act.put, Ls]
      refine wpAnyH_done (by kernel_rfl) ?_ _
      go_wp2_with fail
      go_meet
      exact ⟨b9, a8, c8, rfl, rfl, hb9, R2.set B9 _ _, ((o8.base (by have := belR.size; omega)).setOther ng8_9 _).setOther ng8_9 _, ng8_9, belS⟩
  case rest =>
  obtain ⟨b9, a8, c8, rfl, rfl, hb9, B9, o8, ng, belR⟩ := hcut
  clear OX OY CM PX PY hT
  have hr0 := World.block_lt_of_cell? _ _ Br.c0
  have hp0 := World.block_lt_of_cell? _ _ Bp.c0
  have hq0 := World.block_lt_of_cell? _ _ Bq.c0
  simp only [] at hr0 hp0 hq0
  have h9r : b9 ≠ w.heap.size := by omega
  have h9p : w1.heap.size ≠ b9 := by omega
  have h9q : w2.heap.size ≠ b9 := by omega
  replace Br := Br.below belR
  replace Bp := Bp.below belR
  replace Bq := Bq.below belR
  replace bel := bel.trans (belR.mono bel.size)
  obtain ⟨kp0, kp1, kp2, -, -, -⟩ := id Bp
  obtain ⟨kq0, kq1, kq2, -, -, -⟩ := id Bq
  by_cases hss : sx = sy
  · subst hss
    obtain ⟨rfl, rfl⟩ := E2.out.1 rfl
    clear E2 CN
    have hse : (sx != sx) = false := by simp
    have ngr : ∀ g, a8 = some ⟨g, 0, none⟩ → g ≠ w.heap.size := fun g h => by have := (own_at o8 g h).1; omega
    go_upto_region 6 with fail
    clear kp0 kp1 kp2 kq0 kq1 kq2
    obtain ⟨aZ, rfl⟩ : ∃ q, q = a8 := ⟨_, rfl⟩
    obtain ⟨cZ, rfl⟩ : ∃ q, q = c8 := ⟨_, rfl⟩
    have oZ := o8
    clear o8
    generalize wc = V at B9 Br Bp Bq oZ bel ⊢
    cases fx
    · cases fy
      · refine wp_region_held_drew (S := fun w' => (w'.cell? ⟨b9, 0, none⟩ = some (.bool gq) ∧ w'.cell? ⟨b9, 1, none⟩ = some (.slice aZ Z.length cZ)) ∧ w'.cell? ⟨w1.heap.size, 2, none⟩ = some (.int .i64 Ex) ∧ w'.cell? ⟨w2.heap.size, 2, none⟩ = some (.int .i64 Ey)) (by kernel_rfl) ?_ (fun hHeld => ?_)
        · exact ⟨⟨B9.c0, B9.c1⟩, Bp.c2, Bq.c2⟩
        replace B9 := B9.drew
        replace Br := Br.drew
        replace Bp := Bp.dr
        replace Bq := Bq.dr
        replace oZ := oZ.drew
        replace bel := Below.drew bel
        generalize V.drew = v0 at B9 Br Bp Bq oZ bel hHeld ⊢
        refine tk 0 ?_ rfl (Or.inl ⟨by rfl, ?_⟩) ?_
        rotate_left
        · (intro w hSw; (try dsimp only at hSw); obtain ⟨⟨hS0, hS1⟩, hS2, hS3⟩ := hSw; go_simp; try (with_reducible rfl))
        try simp only [Act.put, Ls]
        refine tk 1 ?_ rfl (Or.inl ⟨by rfl, ?_⟩) ?_
        rotate_left
        · (intro w hSw; go_simp; try (with_reducible rfl))
        try simp only [Act.put, Ls]
        refine tk 2 ?_ rfl (Or.inl ⟨by rfl, ?_⟩) ?_
        rotate_left
        · (intro w hSw; (try dsimp only at hSw); obtain ⟨⟨hS0, hS1⟩, hS2, hS3⟩ := hSw; go_simp; try (with_reducible rfl))
        try simp only [Act.put, Ls]
        refine tk 3 ?_ rfl (Or.inl ⟨by rfl, ?_⟩) ?_
        rotate_left
        · (intro w hSw; go_simp; try (with_reducible rfl))
        try simp only [Act.put, Ls]
        refine tk 4 ?_ rfl (Or.inl ⟨by rfl, ?_⟩) ?_
        rotate_left
        · (intro w hSw; (try dsimp only at hSw); obtain ⟨⟨hS0, hS1⟩, hS2, hS3⟩ := hSw; go_simp; try (with_reducible rfl))
        try simp only [Act.put, Ls]
        refine tk 5 ?_ rfl (Or.inl ⟨by rfl, ?_⟩) ?_
        rotate_left
        · (intro w hSw; go_simp; try (with_reducible rfl))
        try simp only [Act.put, Ls]
        refine tk 6 ?_ rfl (Or.inl ⟨by rfl, ?_⟩) ?_
        rotate_left
        · (intro w hSw; go_simp; try (with_reducible rfl))
        try simp only [Act.put, Ls]
        refine tk 7 ?_ rfl (Or.inl ⟨by rfl, ?_⟩) ?_
        rotate_left
        · (intro w hSw; go_simp; try (with_reducible rfl))
        try simp only [Act.put, Ls]
        refine tk 8 undef rfl (Or.inr ⟨by rfl, rfl⟩) ?_
        try simp only [Act.put, Ls]
        refine tk 9 ?_ rfl (Or.inl ⟨by rfl, ?_⟩) ?_
        rotate_left
        · (intro w hSw; go_simp; try (with_reducible rfl))
        try simp only [Act.put, Ls]
        refine tk 10 ?_ rfl (Or.inl ⟨by rfl, ?_⟩) ?_
        rotate_left
        · (intro w hSw; go_simp; try (with_reducible rfl))
        try simp only [Act.put, Ls]
        refine tk 11 undef rfl (Or.inr ⟨by rfl, rfl⟩) ?_
        try simp only [Act.put, Ls]
        refine tk 12 ?_ rfl (Or.inl ⟨by rfl, ?_⟩) ?_
        rotate_left
        · (intro w hSw; go_simp; try (with_reducible rfl))
        try simp only [Act.put, Ls]
        refine rdy 13 rfl (fun K hK => ?_)
        obtain ⟨y0, y1, y2, y3⟩ := Br
        go_simp
        replace B9 := (B9.other (p := ⟨w.heap.size, 0, none⟩) h9r (.bool gq)).other (p := ⟨w.heap.size, 1, none⟩) h9r (.slice aZ Z.length cZ)
        replace Bp := (Bp.other (p := ⟨w.heap.size, 0, none⟩) hpr (.bool gq)).other (p := ⟨w.heap.size, 1, none⟩) hpr (.slice aZ Z.length cZ)
        replace Bq := (Bq.other (p := ⟨w.heap.size, 0, none⟩) hqr (.bool gq)).other (p := ⟨w.heap.size, 1, none⟩) hqr (.slice aZ Z.length cZ)
        refine hK.out _ _ ?_ (fun hHeld => ?_)
        · exact ⟨⟨B9.c0, B9.c1⟩, Bp.c2, Bq.c2⟩
        clear hK K
        try simp only [Act.put, Ls]
        refine rdy 14 rfl (fun K hK => ?_)
        go_simp
        refine hK.out _ _ ?_ (fun hHeld => ?_)
        · exact ⟨⟨B9.c0, B9.c1⟩, Bp.c2, Bq.c2⟩
        clear hK K
        try simp only [Act.put, Ls]
        refine rdy 15 rfl (fun K hK => ?_)
        go_simp
        refine hK.out _ _ ?_ (fun hHeld => ?_)
        · exact ⟨⟨B9.c0, B9.c1⟩, Bp.c2, Bq.c2⟩
        clear hK K
        try simp only [Act.put, Ls]
        refine wpAnyH_done (by kernel_rfl) ?_ _
        go_wp2
        refine bodyPost_ret (v := .tuple #[.agg #[.bool gq, .slice aZ Z.length cZ], .int .i64 (Ex + Ey), .bool false]) (by simp [results, Tryz.results49, go_sem, y0, y1, y2, y3]) rfl ⟨aZ, cZ, rfl, ((oZ.setOther ngr _).setOther ngr _).sl, (bel.setCell (by simp) _).setCell (by simp) _⟩
      · refine wp_region_held_drew (S := fun w' => (w'.cell? ⟨b9, 0, none⟩ = some (.bool gq) ∧ w'.cell? ⟨b9, 1, none⟩ = some (.slice aZ Z.length cZ)) ∧ w'.cell? ⟨w1.heap.size, 2, none⟩ = some (.int .i64 Ex) ∧ w'.cell? ⟨w2.heap.size, 2, none⟩ = some (.int .i64 Ey)) (by kernel_rfl) ?_ (fun hHeld => ?_)
        · exact ⟨⟨B9.c0, B9.c1⟩, Bp.c2, Bq.c2⟩
        replace B9 := B9.drew
        replace Br := Br.drew
        replace Bp := Bp.dr
        replace Bq := Bq.dr
        replace oZ := oZ.drew
        replace bel := Below.drew bel
        generalize V.drew = v0 at B9 Br Bp Bq oZ bel hHeld ⊢
        refine tk 0 ?_ rfl (Or.inl ⟨by rfl, ?_⟩) ?_
        rotate_left
        · (intro w hSw; (try dsimp only at hSw); obtain ⟨⟨hS0, hS1⟩, hS2, hS3⟩ := hSw; go_simp; try (with_reducible rfl))
        try simp only [Act.put, Ls]
        refine tk 1 ?_ rfl (Or.inl ⟨by rfl, ?_⟩) ?_
        rotate_left
        · (intro w hSw; go_simp; try (with_reducible rfl))
        try simp only [Act.put, Ls]
        refine tk 2 ?_ rfl (Or.inl ⟨by rfl, ?_⟩) ?_
        rotate_left
        · (intro w hSw; (try dsimp only at hSw); obtain ⟨⟨hS0, hS1⟩, hS2, hS3⟩ := hSw; go_simp; try (with_reducible rfl))
        try simp only [Act.put, Ls]
        refine tk 3 ?_ rfl (Or.inl ⟨by rfl, ?_⟩) ?_
        rotate_left
        · (intro w hSw; go_simp; try (with_reducible rfl))
        try simp only [Act.put, Ls]
        refine tk 4 ?_ rfl (Or.inl ⟨by rfl, ?_⟩) ?_
        rotate_left
        · (intro w hSw; (try dsimp only at hSw); obtain ⟨⟨hS0, hS1⟩, hS2, hS3⟩ := hSw; go_simp; try (with_reducible rfl))
        try simp only [Act.put, Ls]
        refine tk 5 ?_ rfl (Or.inl ⟨by rfl, ?_⟩) ?_
        rotate_left
        · (intro w hSw; go_simp; try (with_reducible rfl))
        try simp only [Act.put, Ls]
        refine tk 6 ?_ rfl (Or.inl ⟨by rfl, ?_⟩) ?_
        rotate_left
        · (intro w hSw; go_simp; try (with_reducible rfl))
        try simp only [Act.put, Ls]
        refine tk 7 ?_ rfl (Or.inl ⟨by rfl, ?_⟩) ?_
        rotate_left
        · (intro w hSw; go_simp; try (with_reducible rfl))
        try simp only [Act.put, Ls]
        refine tk 8 undef rfl (Or.inr ⟨by rfl, rfl⟩) ?_
        try simp only [Act.put, Ls]
        refine tk 9 ?_ rfl (Or.inl ⟨by rfl, ?_⟩) ?_
        rotate_left
        · (intro w hSw; go_simp; try (with_reducible rfl))
        try simp only [Act.put, Ls]
        refine tk 10 ?_ rfl (Or.inl ⟨by rfl, ?_⟩) ?_
        rotate_left
        · (intro w hSw; go_simp; try (with_reducible rfl))
        try simp only [Act.put, Ls]
        refine tk 11 undef rfl (Or.inr ⟨by rfl, rfl⟩) ?_
        try simp only [Act.put, Ls]
        refine tk 12 ?_ rfl (Or.inl ⟨by rfl, ?_⟩) ?_
        rotate_left
        · (intro w hSw; go_simp; try (with_reducible rfl))
        try simp only [Act.put, Ls]
        refine rdy 13 rfl (fun K hK => ?_)
        obtain ⟨y0, y1, y2, y3⟩ := Br
        go_simp
        replace B9 := (B9.other (p := ⟨w.heap.size, 0, none⟩) h9r (.bool gq)).other (p := ⟨w.heap.size, 1, none⟩) h9r (.slice aZ Z.length cZ)
        replace Bp := (Bp.other (p := ⟨w.heap.size, 0, none⟩) hpr (.bool gq)).other (p := ⟨w.heap.size, 1, none⟩) hpr (.slice aZ Z.length cZ)
        replace Bq := (Bq.other (p := ⟨w.heap.size, 0, none⟩) hqr (.bool gq)).other (p := ⟨w.heap.size, 1, none⟩) hqr (.slice aZ Z.length cZ)
        refine hK.out _ _ ?_ (fun hHeld => ?_)
        · exact ⟨⟨B9.c0, B9.c1⟩, Bp.c2, Bq.c2⟩
        clear hK K
        try simp only [Act.put, Ls]
        refine rdy 14 rfl (fun K hK => ?_)
        go_simp
        refine hK.out _ _ ?_ (fun hHeld => ?_)
        · exact ⟨⟨B9.c0, B9.c1⟩, Bp.c2, Bq.c2⟩
        clear hK K
        try simp only [Act.put, Ls]
        refine rdy 15 rfl (fun K hK => ?_)
        go_simp
        refine hK.out _ _ ?_ (fun hHeld => ?_)
        · exact ⟨⟨B9.c0, B9.c1⟩, Bp.c2, Bq.c2⟩
        clear hK K
        try simp only [Act.put, Ls]
        refine wpAnyH_done (by kernel_rfl) ?_ _
        go_wp2
        refine bodyPost_ret (v := .tuple #[.agg #[.bool gq, .slice aZ Z.length cZ], .int .i64 (Ex + Ey), .bool false]) (by simp [results, Tryz.results49, go_sem, y0, y1, y2, y3]) rfl ⟨aZ, cZ, rfl, ((oZ.setOther ngr _).setOther ngr _).sl, (bel.setCell (by simp) _).setCell (by simp) _⟩
    · cases fy
      · refine wp_region_held_drew (S := fun w' => (w'.cell? ⟨b9, 0, none⟩ = some (.bool gq) ∧ w'.cell? ⟨b9, 1, none⟩ = some (.slice aZ Z.length cZ)) ∧ w'.cell? ⟨w1.heap.size, 2, none⟩ = some (.int .i64 Ex) ∧ w'.cell? ⟨w2.heap.size, 2, none⟩ = some (.int .i64 Ey)) (by kernel_rfl) ?_ (fun hHeld => ?_)
        · exact ⟨⟨B9.c0, B9.c1⟩, Bp.c2, Bq.c2⟩
        replace B9 := B9.drew
        replace Br := Br.drew
        replace Bp := Bp.dr
        replace Bq := Bq.dr
        replace oZ := oZ.drew
        replace bel := Below.drew bel
        generalize V.drew = v0 at B9 Br Bp Bq oZ bel hHeld ⊢
        refine tk 0 ?_ rfl (Or.inl ⟨by rfl, ?_⟩) ?_
        rotate_left
        · (intro w hSw; (try dsimp only at hSw); obtain ⟨⟨hS0, hS1⟩, hS2, hS3⟩ := hSw; go_simp; try (with_reducible rfl))
        try simp only [Act.put, Ls]
        refine tk 1 ?_ rfl (Or.inl ⟨by rfl, ?_⟩) ?_
        rotate_left
        · (intro w hSw; go_simp; try (with_reducible rfl))
        try simp only [Act.put, Ls]
        refine tk 2 ?_ rfl (Or.inl ⟨by rfl, ?_⟩) ?_
        rotate_left
        · (intro w hSw; (try dsimp only at hSw); obtain ⟨⟨hS0, hS1⟩, hS2, hS3⟩ := hSw; go_simp; try (with_reducible rfl))
        try simp only [Act.put, Ls]
        refine tk 3 ?_ rfl (Or.inl ⟨by rfl, ?_⟩) ?_
        rotate_left
        · (intro w hSw; go_simp; try (with_reducible rfl))
        try simp only [Act.put, Ls]
        refine tk 4 ?_ rfl (Or.inl ⟨by rfl, ?_⟩) ?_
        rotate_left
        · (intro w hSw; (try dsimp only at hSw); obtain ⟨⟨hS0, hS1⟩, hS2, hS3⟩ := hSw; go_simp; try (with_reducible rfl))
        try simp only [Act.put, Ls]
        refine tk 5 ?_ rfl (Or.inl ⟨by rfl, ?_⟩) ?_
        rotate_left
        · (intro w hSw; go_simp; try (with_reducible rfl))
        try simp only [Act.put, Ls]
        refine tk 6 ?_ rfl (Or.inl ⟨by rfl, ?_⟩) ?_
        rotate_left
        · (intro w hSw; go_simp; try (with_reducible rfl))
        try simp only [Act.put, Ls]
        refine tk 7 ?_ rfl (Or.inl ⟨by rfl, ?_⟩) ?_
        rotate_left
        · (intro w hSw; go_simp; try (with_reducible rfl))
        try simp only [Act.put, Ls]
        refine tk 8 ?_ rfl (Or.inl ⟨by rfl, ?_⟩) ?_
        rotate_left
        · (intro w hSw; go_simp; try (with_reducible rfl))
        try simp only [Act.put, Ls]
        refine tk 9 ?_ rfl (Or.inl ⟨by rfl, ?_⟩) ?_
        rotate_left
        · (intro w hSw; go_simp; try (with_reducible rfl))
        try simp only [Act.put, Ls]
        refine tk 10 ?_ rfl (Or.inl ⟨by rfl, ?_⟩) ?_
        rotate_left
        · (intro w hSw; go_simp; try (with_reducible rfl))
        try simp only [Act.put, Ls]
        refine tk 11 undef rfl (Or.inr ⟨by rfl, rfl⟩) ?_
        try simp only [Act.put, Ls]
        refine tk 12 ?_ rfl (Or.inl ⟨by rfl, ?_⟩) ?_
        rotate_left
        · (intro w hSw; go_simp; try (with_reducible rfl))
        try simp only [Act.put, Ls]
        refine rdy 13 rfl (fun K hK => ?_)
        obtain ⟨y0, y1, y2, y3⟩ := Br
        go_simp
        replace B9 := (B9.other (p := ⟨w.heap.size, 0, none⟩) h9r (.bool gq)).other (p := ⟨w.heap.size, 1, none⟩) h9r (.slice aZ Z.length cZ)
        replace Bp := (Bp.other (p := ⟨w.heap.size, 0, none⟩) hpr (.bool gq)).other (p := ⟨w.heap.size, 1, none⟩) hpr (.slice aZ Z.length cZ)
        replace Bq := (Bq.other (p := ⟨w.heap.size, 0, none⟩) hqr (.bool gq)).other (p := ⟨w.heap.size, 1, none⟩) hqr (.slice aZ Z.length cZ)
        refine hK.out _ _ ?_ (fun hHeld => ?_)
        · exact ⟨⟨B9.c0, B9.c1⟩, Bp.c2, Bq.c2⟩
        clear hK K
        try simp only [Act.put, Ls]
        refine rdy 14 rfl (fun K hK => ?_)
        go_simp
        refine hK.out _ _ ?_ (fun hHeld => ?_)
        · exact ⟨⟨B9.c0, B9.c1⟩, Bp.c2, Bq.c2⟩
        clear hK K
        try simp only [Act.put, Ls]
        refine rdy 15 rfl (fun K hK => ?_)
        go_simp
        refine hK.out _ _ ?_ (fun hHeld => ?_)
        · exact ⟨⟨B9.c0, B9.c1⟩, Bp.c2, Bq.c2⟩
        clear hK K
        try simp only [Act.put, Ls]
        refine wpAnyH_done (by kernel_rfl) ?_ _
        go_wp2
        refine bodyPost_ret (v := .tuple #[.agg #[.bool gq, .slice aZ Z.length cZ], .int .i64 (Ex + Ey), .bool false]) (by simp [results, Tryz.results49, go_sem, y0, y1, y2, y3]) rfl ⟨aZ, cZ, rfl, ((oZ.setOther ngr _).setOther ngr _).sl, (bel.setCell (by simp) _).setCell (by simp) _⟩
      · refine wp_region_held_drew (S := fun w' => (w'.cell? ⟨b9, 0, none⟩ = some (.bool gq) ∧ w'.cell? ⟨b9, 1, none⟩ = some (.slice aZ Z.length cZ)) ∧ w'.cell? ⟨w1.heap.size, 2, none⟩ = some (.int .i64 Ex) ∧ w'.cell? ⟨w2.heap.size, 2, none⟩ = some (.int .i64 Ey)) (by kernel_rfl) ?_ (fun hHeld => ?_)
        · exact ⟨⟨B9.c0, B9.c1⟩, Bp.c2, Bq.c2⟩
        replace B9 := B9.drew
        replace Br := Br.drew
        replace Bp := Bp.dr
        replace Bq := Bq.dr
        replace oZ := oZ.drew
        replace bel := Below.drew bel
        generalize V.drew = v0 at B9 Br Bp Bq oZ bel hHeld ⊢
        refine tk 0 ?_ rfl (Or.inl ⟨by rfl, ?_⟩) ?_
        rotate_left
        · (intro w hSw; (try dsimp only at hSw); obtain ⟨⟨hS0, hS1⟩, hS2, hS3⟩ := hSw; go_simp; try (with_reducible rfl))
        try simp only [Act.put, Ls]
        refine tk 1 ?_ rfl (Or.inl ⟨by rfl, ?_⟩) ?_
        rotate_left
        · (intro w hSw; go_simp; try (with_reducible rfl))
        try simp only [Act.put, Ls]
        refine tk 2 ?_ rfl (Or.inl ⟨by rfl, ?_⟩) ?_
        rotate_left
        · (intro w hSw; (try dsimp only at hSw); obtain ⟨⟨hS0, hS1⟩, hS2, hS3⟩ := hSw; go_simp; try (with_reducible rfl))
        try simp only [Act.put, Ls]
        refine tk 3 ?_ rfl (Or.inl ⟨by rfl, ?_⟩) ?_
        rotate_left
        · (intro w hSw; go_simp; try (with_reducible rfl))
        try simp only [Act.put, Ls]
        refine tk 4 ?_ rfl (Or.inl ⟨by rfl, ?_⟩) ?_
        rotate_left
        · (intro w hSw; (try dsimp only at hSw); obtain ⟨⟨hS0, hS1⟩, hS2, hS3⟩ := hSw; go_simp; try (with_reducible rfl))
        try simp only [Act.put, Ls]
        refine tk 5 ?_ rfl (Or.inl ⟨by rfl, ?_⟩) ?_
        rotate_left
        · (intro w hSw; go_simp; try (with_reducible rfl))
        try simp only [Act.put, Ls]
        refine tk 6 ?_ rfl (Or.inl ⟨by rfl, ?_⟩) ?_
        rotate_left
        · (intro w hSw; go_simp; try (with_reducible rfl))
        try simp only [Act.put, Ls]
        refine tk 7 ?_ rfl (Or.inl ⟨by rfl, ?_⟩) ?_
        rotate_left
        · (intro w hSw; go_simp; try (with_reducible rfl))
        try simp only [Act.put, Ls]
        refine tk 8 ?_ rfl (Or.inl ⟨by rfl, ?_⟩) ?_
        rotate_left
        · (intro w hSw; go_simp; try (with_reducible rfl))
        try simp only [Act.put, Ls]
        refine tk 9 ?_ rfl (Or.inl ⟨by rfl, ?_⟩) ?_
        rotate_left
        · (intro w hSw; go_simp; try (with_reducible rfl))
        try simp only [Act.put, Ls]
        refine tk 10 ?_ rfl (Or.inl ⟨by rfl, ?_⟩) ?_
        rotate_left
        · (intro w hSw; go_simp; try (with_reducible rfl))
        try simp only [Act.put, Ls]
        refine tk 11 ?_ rfl (Or.inl ⟨by rfl, ?_⟩) ?_
        rotate_left
        · (intro w hSw; go_simp; try (with_reducible rfl))
        try simp only [Act.put, Ls]
        refine tk 12 ?_ rfl (Or.inl ⟨by rfl, ?_⟩) ?_
        rotate_left
        · (intro w hSw; go_simp; try (with_reducible rfl))
        try simp only [Act.put, Ls]
        refine rdy 13 rfl (fun K hK => ?_)
        obtain ⟨y0, y1, y2, y3⟩ := Br
        go_simp
        replace B9 := (B9.other (p := ⟨w.heap.size, 0, none⟩) h9r (.bool gq)).other (p := ⟨w.heap.size, 1, none⟩) h9r (.slice aZ Z.length cZ)
        replace Bp := (Bp.other (p := ⟨w.heap.size, 0, none⟩) hpr (.bool gq)).other (p := ⟨w.heap.size, 1, none⟩) hpr (.slice aZ Z.length cZ)
        replace Bq := (Bq.other (p := ⟨w.heap.size, 0, none⟩) hqr (.bool gq)).other (p := ⟨w.heap.size, 1, none⟩) hqr (.slice aZ Z.length cZ)
        refine hK.out _ _ ?_ (fun hHeld => ?_)
        · exact ⟨⟨B9.c0, B9.c1⟩, Bp.c2, Bq.c2⟩
        clear hK K
        try simp only [Act.put, Ls]
        refine rdy 14 rfl (fun K hK => ?_)
        go_simp
        refine hK.out _ _ ?_ (fun hHeld => ?_)
        · exact ⟨⟨B9.c0, B9.c1⟩, Bp.c2, Bq.c2⟩
        clear hK K
        try simp only [Act.put, Ls]
        refine rdy 15 rfl (fun K hK => ?_)
        go_simp
        refine hK.out _ _ ?_ (fun hHeld => ?_)
        · exact ⟨⟨B9.c0, B9.c1⟩, Bp.c2, Bq.c2⟩
        clear hK K
        try simp only [Act.put, Ls]
        refine wpAnyH_done (by kernel_rfl) ?_ _
        go_wp2
        refine bodyPost_ret (v := .tuple #[.agg #[.bool gq, .slice aZ Z.length cZ], .int .i64 (Ex + Ey), .bool true]) (by simp [results, Tryz.results49, go_sem, y0, y1, y2, y3]) rfl ⟨aZ, cZ, rfl, ((oZ.setOther ngr _).setOther ngr _).sl, (bel.setCell (by simp) _).setCell (by simp) _⟩
  · obtain ⟨rfl, rfl⟩ := E2.out.2 hss
    clear E2
    have hss' : (sx != sy) = true := by simpa using hss
    have hss2 : (sx == sy) = false := by simpa using hss
    obtain ⟨k90, k91, -, -⟩ := id B9
    go_wp2_with fail
    have h9 := World.block_lt_of_cell? _ _ B9.c0
    refine (CN.out a8 c8 _ o8.sl).mono ?_
    rintro r w5 ⟨a3, c3, rfl, o3, hb⟩
    clear kp0 kp1 kp2 kq0 kq1 kq2 k90 k91
    have ng3 : ∀ g, a3 = some ⟨g, 0, none⟩ → g ≠ b9 := fun g h => by have := (own_at o3 g h).1; simp only [] at h9; omega
    have hz' := belR.size
    replace o3 := o3.base (B' := W.heap.size) (by omega)
    have ngr : ∀ g, a3 = some ⟨g, 0, none⟩ → g ≠ w.heap.size := fun g h => by have := (own_at o3 g h).1; omega
    replace B9 := B9.below hb
    replace Br := Br.below hb
    replace Bp := Bp.below hb
    replace Bq := Bq.below hb
    replace bel := bel_go bel hb
    clear hb o8 ng CN h9
    obtain ⟨k90, k91, l90, l91⟩ := id B9
    go_upto_region 6 with fail
    clear k90 k91 l90 l91
    replace B9 := R2.set B9 (.bool gq) (.slice a3 Z.length c3)
    replace Br := (Br.other (p := ⟨b9, 0, none⟩) h9r.symm (.bool gq)).other (p := ⟨b9, 1, none⟩) h9r.symm (.slice a3 Z.length c3)
    replace Bp := (Bp.other (p := ⟨b9, 0, none⟩) h9p (.bool gq)).other (p := ⟨b9, 1, none⟩) h9p (.slice a3 Z.length c3)
    replace Bq := (Bq.other (p := ⟨b9, 0, none⟩) h9q (.bool gq)).other (p := ⟨b9, 1, none⟩) h9q (.slice a3 Z.length c3)
    obtain ⟨aZ, rfl⟩ : ∃ q, q = a3 := ⟨_, rfl⟩
    obtain ⟨cZ, rfl⟩ : ∃ q, q = c3 := ⟨_, rfl⟩
    have oZ := (o3.setOther (p := ⟨b9, 0, none⟩) ng3 (.bool gq)).setOther (p := ⟨b9, 1, none⟩) ng3 (.slice aZ Z.length cZ)
    clear o3 ng3
    replace bel := (bel.setCell (p := ⟨b9, 0, none⟩) (by simp; omega) (.bool gq)).setCell (p := ⟨b9, 1, none⟩) (by simp; omega) (.slice aZ Z.length cZ)
    generalize (w5.setCell ⟨b9, 0, none⟩ (.bool gq)).setCell ⟨b9, 1, none⟩ (.slice aZ Z.length cZ) = V at B9 Br Bp Bq oZ bel ⊢
    cases fx
    · cases fy
      · refine wp_region_held_drew (S := fun w' => (w'.cell? ⟨b9, 0, none⟩ = some (.bool gq) ∧ w'.cell? ⟨b9, 1, none⟩ = some (.slice aZ Z.length cZ)) ∧ w'.cell? ⟨w1.heap.size, 2, none⟩ = some (.int .i64 Ex) ∧ w'.cell? ⟨w2.heap.size, 2, none⟩ = some (.int .i64 Ey)) (by kernel_rfl) ?_ (fun hHeld => ?_)
        · exact ⟨⟨B9.c0, B9.c1⟩, Bp.c2, Bq.c2⟩
        replace B9 := B9.drew
        replace Br := Br.drew
        replace Bp := Bp.dr
        replace Bq := Bq.dr
        replace oZ := oZ.drew
        replace bel := Below.drew bel
        generalize V.drew = v0 at B9 Br Bp Bq oZ bel hHeld ⊢
        refine tk 0 ?_ rfl (Or.inl ⟨by rfl, ?_⟩) ?_
        rotate_left
        · (intro w hSw; (try dsimp only at hSw); obtain ⟨⟨hS0, hS1⟩, hS2, hS3⟩ := hSw; go_simp; try (with_reducible rfl))
        try simp only [Act.put, Ls]
        refine tk 1 ?_ rfl (Or.inl ⟨by rfl, ?_⟩) ?_
        rotate_left
        · (intro w hSw; go_simp; try (with_reducible rfl))
        try simp only [Act.put, Ls]
        refine tk 2 ?_ rfl (Or.inl ⟨by rfl, ?_⟩) ?_
        rotate_left
        · (intro w hSw; (try dsimp only at hSw); obtain ⟨⟨hS0, hS1⟩, hS2, hS3⟩ := hSw; go_simp; try (with_reducible rfl))
        try simp only [Act.put, Ls]
        refine tk 3 ?_ rfl (Or.inl ⟨by rfl, ?_⟩) ?_
        rotate_left
        · (intro w hSw; go_simp; try (with_reducible rfl))
        try simp only [Act.put, Ls]
        refine tk 4 ?_ rfl (Or.inl ⟨by rfl, ?_⟩) ?_
        rotate_left
        · (intro w hSw; (try dsimp only at hSw); obtain ⟨⟨hS0, hS1⟩, hS2, hS3⟩ := hSw; go_simp; try (with_reducible rfl))
        try simp only [Act.put, Ls]
        refine tk 5 ?_ rfl (Or.inl ⟨by rfl, ?_⟩) ?_
        rotate_left
        · (intro w hSw; go_simp; try (with_reducible rfl))
        try simp only [Act.put, Ls]
        refine tk 6 ?_ rfl (Or.inl ⟨by rfl, ?_⟩) ?_
        rotate_left
        · (intro w hSw; go_simp; try (with_reducible rfl))
        try simp only [Act.put, Ls]
        refine tk 7 ?_ rfl (Or.inl ⟨by rfl, ?_⟩) ?_
        rotate_left
        · (intro w hSw; go_simp; try (with_reducible rfl))
        try simp only [Act.put, Ls]
        refine tk 8 undef rfl (Or.inr ⟨by rfl, rfl⟩) ?_
        try simp only [Act.put, Ls]
        refine tk 9 ?_ rfl (Or.inl ⟨by rfl, ?_⟩) ?_
        rotate_left
        · (intro w hSw; go_simp; try (with_reducible rfl))
        try simp only [Act.put, Ls]
        refine tk 10 ?_ rfl (Or.inl ⟨by rfl, ?_⟩) ?_
        rotate_left
        · (intro w hSw; go_simp; try (with_reducible rfl))
        try simp only [Act.put, Ls]
        refine tk 11 undef rfl (Or.inr ⟨by rfl, rfl⟩) ?_
        try simp only [Act.put, Ls]
        refine tk 12 ?_ rfl (Or.inl ⟨by rfl, ?_⟩) ?_
        rotate_left
        · (intro w hSw; go_simp; try (with_reducible rfl))
        try simp only [Act.put, Ls]
        refine rdy 13 rfl (fun K hK => ?_)
        obtain ⟨y0, y1, y2, y3⟩ := Br
        go_simp
        replace B9 := (B9.other (p := ⟨w.heap.size, 0, none⟩) h9r (.bool gq)).other (p := ⟨w.heap.size, 1, none⟩) h9r (.slice aZ Z.length cZ)
        replace Bp := (Bp.other (p := ⟨w.heap.size, 0, none⟩) hpr (.bool gq)).other (p := ⟨w.heap.size, 1, none⟩) hpr (.slice aZ Z.length cZ)
        replace Bq := (Bq.other (p := ⟨w.heap.size, 0, none⟩) hqr (.bool gq)).other (p := ⟨w.heap.size, 1, none⟩) hqr (.slice aZ Z.length cZ)
        refine hK.out _ _ ?_ (fun hHeld => ?_)
        · exact ⟨⟨B9.c0, B9.c1⟩, Bp.c2, Bq.c2⟩
        clear hK K
        try simp only [Act.put, Ls]
        refine rdy 14 rfl (fun K hK => ?_)
        go_simp
        refine hK.out _ _ ?_ (fun hHeld => ?_)
        · exact ⟨⟨B9.c0, B9.c1⟩, Bp.c2, Bq.c2⟩
        clear hK K
        try simp only [Act.put, Ls]
        refine rdy 15 rfl (fun K hK => ?_)
        go_simp
        refine hK.out _ _ ?_ (fun hHeld => ?_)
        · exact ⟨⟨B9.c0, B9.c1⟩, Bp.c2, Bq.c2⟩
        clear hK K
        try simp only [Act.put, Ls]
        refine wpAnyH_done (by kernel_rfl) ?_ _
        go_wp2
        refine bodyPost_ret (v := .tuple #[.agg #[.bool gq, .slice aZ Z.length cZ], .int .i64 (Ex + Ey), .bool false]) (by simp [results, Tryz.results49, go_sem, y0, y1, y2, y3]) rfl ⟨aZ, cZ, rfl, ((oZ.setOther ngr _).setOther ngr _).sl, (bel.setCell (by simp) _).setCell (by simp) _⟩
      · refine wp_region_held_drew (S := fun w' => (w'.cell? ⟨b9, 0, none⟩ = some (.bool gq) ∧ w'.cell? ⟨b9, 1, none⟩ = some (.slice aZ Z.length cZ)) ∧ w'.cell? ⟨w1.heap.size, 2, none⟩ = some (.int .i64 Ex) ∧ w'.cell? ⟨w2.heap.size, 2, none⟩ = some (.int .i64 Ey)) (by kernel_rfl) ?_ (fun hHeld => ?_)
        · exact ⟨⟨B9.c0, B9.c1⟩, Bp.c2, Bq.c2⟩
        replace B9 := B9.drew
        replace Br := Br.drew
        replace Bp := Bp.dr
        replace Bq := Bq.dr
        replace oZ := oZ.drew
        replace bel := Below.drew bel
        generalize V.drew = v0 at B9 Br Bp Bq oZ bel hHeld ⊢
        refine tk 0 ?_ rfl (Or.inl ⟨by rfl, ?_⟩) ?_
        rotate_left
        · (intro w hSw; (try dsimp only at hSw); obtain ⟨⟨hS0, hS1⟩, hS2, hS3⟩ := hSw; go_simp; try (with_reducible rfl))
        try simp only [Act.put, Ls]
        refine tk 1 ?_ rfl (Or.inl ⟨by rfl, ?_⟩) ?_
        rotate_left
        · (intro w hSw; go_simp; try (with_reducible rfl))
        try simp only [Act.put, Ls]
        refine tk 2 ?_ rfl (Or.inl ⟨by rfl, ?_⟩) ?_
        rotate_left
        · (intro w hSw; (try dsimp only at hSw); obtain ⟨⟨hS0, hS1⟩, hS2, hS3⟩ := hSw; go_simp; try (with_reducible rfl))
        try simp only [Act.put, Ls]
        refine tk 3 ?_ rfl (Or.inl ⟨by rfl, ?_⟩) ?_
        rotate_left
        · (intro w hSw; go_simp; try (with_reducible rfl))
        try simp only [Act.put, Ls]
        refine tk 4 ?_ rfl (Or.inl ⟨by rfl, ?_⟩) ?_
        rotate_left
        · (intro w hSw; (try dsimp only at hSw); obtain ⟨⟨hS0, hS1⟩, hS2, hS3⟩ := hSw; go_simp; try (with_reducible rfl))
        try simp only [Act.put, Ls]
        refine tk 5 ?_ rfl (Or.inl ⟨by rfl, ?_⟩) ?_
        rotate_left
        · (intro w hSw; go_simp; try (with_reducible rfl))
        try simp only [Act.put, Ls]
        refine tk 6 ?_ rfl (Or.inl ⟨by rfl, ?_⟩) ?_
        rotate_left
        · (intro w hSw; go_simp; try (with_reducible rfl))
        try simp only [Act.put, Ls]
        refine tk 7 ?_ rfl (Or.inl ⟨by rfl, ?_⟩) ?_
        rotate_left
        · (intro w hSw; go_simp; try (with_reducible rfl))
        try simp only [Act.put, Ls]
        refine tk 8 undef rfl (Or.inr ⟨by rfl, rfl⟩) ?_
        try simp only [Act.put, Ls]
        refine tk 9 ?_ rfl (Or.inl ⟨by rfl, ?_⟩) ?_
        rotate_left
        · (intro w hSw; go_simp; try (with_reducible rfl))
        try simp only [Act.put, Ls]
        refine tk 10 ?_ rfl (Or.inl ⟨by rfl, ?_⟩) ?_
        rotate_left
        · (intro w hSw; go_simp; try (with_reducible rfl))
        try simp only [Act.put, Ls]
        refine tk 11 undef rfl (Or.inr ⟨by rfl, rfl⟩) ?_
        try simp only [Act.put, Ls]
        refine tk 12 ?_ rfl (Or.inl ⟨by rfl, ?_⟩) ?_
        rotate_left
        · (intro w hSw; go_simp; try (with_reducible rfl))
        try simp only [Act.put, Ls]
        refine rdy 13 rfl (fun K hK => ?_)
        obtain ⟨y0, y1, y2, y3⟩ := Br
        go_simp
        replace B9 := (B9.other (p := ⟨w.heap.size, 0, none⟩) h9r (.bool gq)).other (p := ⟨w.heap.size, 1, none⟩) h9r (.slice aZ Z.length cZ)
        replace Bp := (Bp.other (p := ⟨w.heap.size, 0, none⟩) hpr (.bool gq)).other (p := ⟨w.heap.size, 1, none⟩) hpr (.slice aZ Z.length cZ)
        replace Bq := (Bq.other (p := ⟨w.heap.size, 0, none⟩) hqr (.bool gq)).other (p := ⟨w.heap.size, 1, none⟩) hqr (.slice aZ Z.length cZ)
        refine hK.out _ _ ?_ (fun hHeld => ?_)
        · exact ⟨⟨B9.c0, B9.c1⟩, Bp.c2, Bq.c2⟩
        clear hK K
        try simp only [Act.put, Ls]
        refine rdy 14 rfl (fun K hK => ?_)
        go_simp
        refine hK.out _ _ ?_ (fun hHeld => ?_)
        · exact ⟨⟨B9.c0, B9.c1⟩, Bp.c2, Bq.c2⟩
        clear hK K
        try simp only [Act.put, Ls]
        refine rdy 15 rfl (fun K hK => ?_)
        go_simp
        refine hK.out _ _ ?_ (fun hHeld => ?_)
        · exact ⟨⟨B9.c0, B9.c1⟩, Bp.c2, Bq.c2⟩
        clear hK K
        try simp only [Act.put, Ls]
        refine wpAnyH_done (by kernel_rfl) ?_ _
        go_wp2
        refine bodyPost_ret (v := .tuple #[.agg #[.bool gq, .slice aZ Z.length cZ], .int .i64 (Ex + Ey), .bool false]) (by simp [results, Tryz.results49, go_sem, y0, y1, y2, y3]) rfl ⟨aZ, cZ, rfl, ((oZ.setOther ngr _).setOther ngr _).sl, (bel.setCell (by simp) _).setCell (by simp) _⟩
    · cases fy
      · refine wp_region_held_drew (S := fun w' => (w'.cell? ⟨b9, 0, none⟩ = some (.bool gq) ∧ w'.cell? ⟨b9, 1, none⟩ = some (.slice aZ Z.length cZ)) ∧ w'.cell? ⟨w1.heap.size, 2, none⟩ = some (.int .i64 Ex) ∧ w'.cell? ⟨w2.heap.size, 2, none⟩ = some (.int .i64 Ey)) (by kernel_rfl) ?_ (fun hHeld => ?_)
        · exact ⟨⟨B9.c0, B9.c1⟩, Bp.c2, Bq.c2⟩
        replace B9 := B9.drew
        replace Br := Br.drew
        replace Bp := Bp.dr
        replace Bq := Bq.dr
        replace oZ := oZ.drew
        replace bel := Below.drew bel
        generalize V.drew = v0 at B9 Br Bp Bq oZ bel hHeld ⊢
        refine tk 0 ?_ rfl (Or.inl ⟨by rfl, ?_⟩) ?_
        rotate_left
        · (intro w hSw; (try dsimp only at hSw); obtain ⟨⟨hS0, hS1⟩, hS2, hS3⟩ := hSw; go_simp; try (with_reducible rfl))
        try simp only [Act.put, Ls]
        refine tk 1 ?_ rfl (Or.inl ⟨by rfl, ?_⟩) ?_
        rotate_left
        · (intro w hSw; go_simp; try (with_reducible rfl))
        try simp only [Act.put, Ls]
        refine tk 2 ?_ rfl (Or.inl ⟨by rfl, ?_⟩) ?_
        rotate_left
        · (intro w hSw; (try dsimp only at hSw); obtain ⟨⟨hS0, hS1⟩, hS2, hS3⟩ := hSw; go_simp; try (with_reducible rfl))
        try simp only [Act.put, Ls]
        refine tk 3 ?_ rfl (Or.inl ⟨by rfl, ?_⟩) ?_
        rotate_left
        · (intro w hSw; go_simp; try (with_reducible rfl))
        try simp only [Act.put, Ls]
        refine tk 4 ?_ rfl (Or.inl ⟨by rfl, ?_⟩) ?_
        rotate_left
        · (intro w hSw; (try dsimp only at hSw); obtain ⟨⟨hS0, hS1⟩, hS2, hS3⟩ := hSw; go_simp; try (with_reducible rfl))
        try simp only [Act.put, Ls]
        refine tk 5 ?_ rfl (Or.inl ⟨by rfl, ?_⟩) ?_
        rotate_left
        · (intro w hSw; go_simp; try (with_reducible rfl))
        try simp only [Act.put, Ls]
        refine tk 6 ?_ rfl (Or.inl ⟨by rfl, ?_⟩) ?_
        rotate_left
        · (intro w hSw; go_simp; try (with_reducible rfl))
        try simp only [Act.put, Ls]
        refine tk 7 ?_ rfl (Or.inl ⟨by rfl, ?_⟩) ?_
        rotate_left
        · (intro w hSw; go_simp; try (with_reducible rfl))
        try simp only [Act.put, Ls]
        refine tk 8 ?_ rfl (Or.inl ⟨by rfl, ?_⟩) ?_
        rotate_left
        · (intro w hSw; go_simp; try (with_reducible rfl))
        try simp only [Act.put, Ls]
        refine tk 9 ?_ rfl (Or.inl ⟨by rfl, ?_⟩) ?_
        rotate_left
        · (intro w hSw; go_simp; try (with_reducible rfl))
        try simp only [Act.put, Ls]
        refine tk 10 ?_ rfl (Or.inl ⟨by rfl, ?_⟩) ?_
        rotate_left
        · (intro w hSw; go_simp; try (with_reducible rfl))
        try simp only [Act.put, Ls]
        refine tk 11 undef rfl (Or.inr ⟨by rfl, rfl⟩) ?_
        try simp only [Act.put, Ls]
        refine tk 12 ?_ rfl (Or.inl ⟨by rfl, ?_⟩) ?_
        rotate_left
        · (intro w hSw; go_simp; try (with_reducible rfl))
        try simp only [Act.put, Ls]
        refine rdy 13 rfl (fun K hK => ?_)
        obtain ⟨y0, y1, y2, y3⟩ := Br
        go_simp
        replace B9 := (B9.other (p := ⟨w.heap.size, 0, none⟩) h9r (.bool gq)).other (p := ⟨w.heap.size, 1, none⟩) h9r (.slice aZ Z.length cZ)
        replace Bp := (Bp.other (p := ⟨w.heap.size, 0, none⟩) hpr (.bool gq)).other (p := ⟨w.heap.size, 1, none⟩) hpr (.slice aZ Z.length cZ)
        replace Bq := (Bq.other (p := ⟨w.heap.size, 0, none⟩) hqr (.bool gq)).other (p := ⟨w.heap.size, 1, none⟩) hqr (.slice aZ Z.length cZ)
        refine hK.out _ _ ?_ (fun hHeld => ?_)
        · exact ⟨⟨B9.c0, B9.c1⟩, Bp.c2, Bq.c2⟩
        clear hK K
        try simp only [Act.put, Ls]
        refine rdy 14 rfl (fun K hK => ?_)
        go_simp
        refine hK.out _ _ ?_ (fun hHeld => ?_)
        · exact ⟨⟨B9.c0, B9.c1⟩, Bp.c2, Bq.c2⟩
        clear hK K
        try simp only [Act.put, Ls]
        refine rdy 15 rfl (fun K hK => ?_)
        go_simp
        refine hK.out _ _ ?_ (fun hHeld => ?_)
        · exact ⟨⟨B9.c0, B9.c1⟩, Bp.c2, Bq.c2⟩
        clear hK K
        try simp only [Act.put, Ls]
        refine wpAnyH_done (by kernel_rfl) ?_ _
        go_wp2
        refine bodyPost_ret (v := .tuple #[.agg #[.bool gq, .slice aZ Z.length cZ], .int .i64 (Ex + Ey), .bool false]) (by simp [results, Tryz.results49, go_sem, y0, y1, y2, y3]) rfl ⟨aZ, cZ, rfl, ((oZ.setOther ngr _).setOther ngr _).sl, (bel.setCell (by simp) _).setCell (by simp) _⟩
      · refine wp_region_held_drew (S := fun w' => (w'.cell? ⟨b9, 0, none⟩ = some (.bool gq) ∧ w'.cell? ⟨b9, 1, none⟩ = some (.slice aZ Z.length cZ)) ∧ w'.cell? ⟨w1.heap.size, 2, none⟩ = some (.int .i64 Ex) ∧ w'.cell? ⟨w2.heap.size, 2, none⟩ = some (.int .i64 Ey)) (by kernel_rfl) ?_ (fun hHeld => ?_)
        · exact ⟨⟨B9.c0, B9.c1⟩, Bp.c2, Bq.c2⟩
        replace B9 := B9.drew
        replace Br := Br.drew
        replace Bp := Bp.dr
        replace Bq := Bq.dr
        replace oZ := oZ.drew
        replace bel := Below.drew bel
        generalize V.drew = v0 at B9 Br Bp Bq oZ bel hHeld ⊢
        refine tk 0 ?_ rfl (Or.inl ⟨by rfl, ?_⟩) ?_
        rotate_left
        · (intro w hSw; (try dsimp only at hSw); obtain ⟨⟨hS0, hS1⟩, hS2, hS3⟩ := hSw; go_simp; try (with_reducible rfl))
        try simp only [Act.put, Ls]
        refine tk 1 ?_ rfl (Or.inl ⟨by rfl, ?_⟩) ?_
        rotate_left
        · (intro w hSw; go_simp; try (with_reducible rfl))
        try simp only [Act.put, Ls]
        refine tk 2 ?_ rfl (Or.inl ⟨by rfl, ?_⟩) ?_
        rotate_left
        · (intro w hSw; (try dsimp only at hSw); obtain ⟨⟨hS0, hS1⟩, hS2, hS3⟩ := hSw; go_simp; try (with_reducible rfl))
        try simp only [Act.put, Ls]
        refine tk 3 ?_ rfl (Or.inl ⟨by rfl, ?_⟩) ?_
        rotate_left
        · (intro w hSw; go_simp; try (with_reducible rfl))
        try simp only [Act.put, Ls]
        refine tk 4 ?_ rfl (Or.inl ⟨by rfl, ?_⟩) ?_
        rotate_left
        · (intro w hSw; (try dsimp only at hSw); obtain ⟨⟨hS0, hS1⟩, hS2, hS3⟩ := hSw; go_simp; try (with_reducible rfl))
        try simp only [Act.put, Ls]
        refine tk 5 ?_ rfl (Or.inl ⟨by rfl, ?_⟩) ?_
        rotate_left
        · (intro w hSw; go_simp; try (with_reducible rfl))
        try simp only [Act.put, Ls]
        refine tk 6 ?_ rfl (Or.inl ⟨by rfl, ?_⟩) ?_
        rotate_left
        · (intro w hSw; go_simp; try (with_reducible rfl))
        try simp only [Act.put, Ls]
        refine tk 7 ?_ rfl (Or.inl ⟨by rfl, ?_⟩) ?_
        rotate_left
        · (intro w hSw; go_simp; try (with_reducible rfl))
        try simp only [Act.put, Ls]
        refine tk 8 ?_ rfl (Or.inl ⟨by rfl, ?_⟩) ?_
        rotate_left
        · (intro w hSw; go_simp; try (with_reducible rfl))
        try simp only [Act.put, Ls]
        refine tk 9 ?_ rfl (Or.inl ⟨by rfl, ?_⟩) ?_
        rotate_left
        · (intro w hSw; go_simp; try (with_reducible rfl))
        try simp only [Act.put, Ls]
        refine tk 10 ?_ rfl (Or.inl ⟨by rfl, ?_⟩) ?_
        rotate_left
        · (intro w hSw; go_simp; try (with_reducible rfl))
        try simp only [Act.put, Ls]
        refine tk 11 ?_ rfl (Or.inl ⟨by rfl, ?_⟩) ?_
        rotate_left
        · (intro w hSw; go_simp; try (with_reducible rfl))
        try simp only [Act.put, Ls]
        refine tk 12 ?_ rfl (Or.inl ⟨by rfl, ?_⟩) ?_
        rotate_left
        · (intro w hSw; go_simp; try (with_reducible rfl))
        try simp only [Act.put, Ls]
        refine rdy 13 rfl (fun K hK => ?_)
        obtain ⟨y0, y1, y2, y3⟩ := Br
        go_simp
        replace B9 := (B9.other (p := ⟨w.heap.size, 0, none⟩) h9r (.bool gq)).other (p := ⟨w.heap.size, 1, none⟩) h9r (.slice aZ Z.length cZ)
        replace Bp := (Bp.other (p := ⟨w.heap.size, 0, none⟩) hpr (.bool gq)).other (p := ⟨w.heap.size, 1, none⟩) hpr (.slice aZ Z.length cZ)
        replace Bq := (Bq.other (p := ⟨w.heap.size, 0, none⟩) hqr (.bool gq)).other (p := ⟨w.heap.size, 1, none⟩) hqr (.slice aZ Z.length cZ)
        refine hK.out _ _ ?_ (fun hHeld => ?_)
        · exact ⟨⟨B9.c0, B9.c1⟩, Bp.c2, Bq.c2⟩
        clear hK K
        try simp only [Act.put, Ls]
        refine rdy 14 rfl (fun K hK => ?_)
        go_simp
        refine hK.out _ _ ?_ (fun hHeld => ?_)
        · exact ⟨⟨B9.c0, B9.c1⟩, Bp.c2, Bq.c2⟩
        clear hK K
        try simp only [Act.put, Ls]
        refine rdy 15 rfl (fun K hK => ?_)
        go_simp
        refine hK.out _ _ ?_ (fun hHeld => ?_)
        · exact ⟨⟨B9.c0, B9.c1⟩, Bp.c2, Bq.c2⟩
        clear hK K
        try simp only [Act.put, Ls]
        refine wpAnyH_done (by kernel_rfl) ?_ _
        go_wp2
        refine bodyPost_ret (v := .tuple #[.agg #[.bool gq, .slice aZ Z.length cZ], .int .i64 (Ex + Ey), .bool true]) (by simp [results, Tryz.results49, go_sem, y0, y1, y2, y3]) rfl ⟨aZ, cZ, rfl, ((oZ.setOther ngr _).setOther ngr _).sl, (bel.setCell (by simp) _).setCell (by simp) _⟩
end Fd
end Go.Proofs.YtmcflggionkhlaaGreatDoor
