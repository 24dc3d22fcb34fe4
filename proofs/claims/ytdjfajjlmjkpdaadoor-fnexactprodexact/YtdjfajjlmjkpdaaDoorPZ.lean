/-
  The exact product: by the specification.
-/
import Derived.Test.YtdjfajjlmjkpdaaDoorPY
namespace Go.Proofs.YtdjfajjlmjkpdaaDoor
set_option linter.unusedVariables false
set_option linter.unusedSimpArgs false
open Go.RowKit Go.Deep
set_option maxHeartbeats 4000000 in
set_option maxRecDepth 100000 in
theorem prs_no1 (fm : Int) (xs : List Int) (a : Option Addr) (cap : Nat) (w : World) (hx : Sl .u64 w (.slice a xs.length cap) xs) (dx : D64 xs) (hl : xs.length ≤ 1048576) (hv : (vecC fm 0 xs == 0) = false) :
    Calls Tryd.prog 9 #[.int .i64 fm, .slice a xs.length cap] w fun r w' => r = .returned (.tuple #[.agg #[.bool false, .slice none 0 0], .int .i64 0, .bool false]) ∧ Below w.heap.size w w' := by
  have CV := hid (fun w' h => evok_spec fm a cap xs w' h hl _ rfl)
  rw [hv] at CV
  clear hv dx
  have R := R2.new w (.bool false) (.slice none 0 0) 29
  go_enter Tryd.func9, Tryd.ntmps9
  go_wp2_with fail
  refine (CV.out _ (hx.alloc _)).mono ?_
  rintro r w1 ⟨rfl, hb1⟩
  obtain ⟨r0, r1, r2, r3⟩ := R.below hb1
  go_wp2
  refine bodyPost_ret (v := .tuple #[.agg #[.bool false, .slice none 0 0], .int .i64 0, .bool false]) (by simp [results, Tryd.results9, go_sem, r0, r1]) rfl ⟨rfl, ?_⟩
  exact (by repeat (first | (with_reducible refine Below.setCell ?_ ?_ _; rotate_left; focus (first | omega | (simp; done) | (simp; omega))) | (with_reducible exact Below.refl _ _) | (with_reducible refine Below.drew ?_) | (with_reducible refine bel_dn ?_ _) | (with_reducible refine bel_al ?_ _) | (with_reducible refine bel_go ?_ hb1) | (with_reducible refine Below.alloc ?_ ?_ _; rotate_left; focus (first | omega | (simp; done) | (simp; omega))) | (with_reducible refine Below.trans ?_ (Below.mono hb1 ?_); rotate_left; focus (first | omega | (simp; done) | (simp; omega)))))
set_option maxHeartbeats 16000000 in
set_option maxRecDepth 100000 in
theorem prs_yes (fm : Int) (xs : List Int) (a : Option Addr) (cap : Nat) (w : World) (hx : Sl .u64 w (.slice a xs.length cap) xs) (dx : D64 xs) (hl : xs.length ≤ 1048576) (hv : (vecC fm 0 xs == 0) = true) :
    Calls Tryd.prog 9 #[.int .i64 fm, .slice a xs.length cap] w fun r w' => AnsP w w' r fm xs := by
  have h300 := vec_300 hv
  have HO : Hid (∀ c d, c = finA fm xs → d = Nm.fits (qK fm xs xs.length) → prO fm xs = (c && d)) := hid (fun c d h h' => by rw [h, h']; unfold prO; rw [hv]; rfl)
  obtain ⟨-, hx1, hx2, hx3⟩ := hx.cells
  have CV := hid (fun w' h => evok_spec fm a cap xs w' h hl _ rfl)
  rw [hv] at CV
  have C1 := hid (fun w' => wof_spec 1 w' (by decide) (by decide))
  have CG := hid (fun k w' => spec_fin fm (xs.getD k 0) w' (dx.getD k).1 (dx.getD k).2)
  have CX := hid (fun k w' h => sparts_any fm (xs.getD k 0) w' h (dx.getD k).1 (dx.getD k).2)
  have CS := hid (fun k w' => l1uint_z (pM fm (xs.getD k 0)) (pS fm (xs.getD k 0)) w' (pM_bd fm _).1 (by have := (pM_bd fm (xs.getD k 0)).2; omega))
  have CM := hid (fun k (hk : k < xs.length) p q c d w' h h' => pmul_spec (qK fm xs k) (pmZ fm (xs.getD k 0)) p q c d w' h h' (qK_len fm xs k (by omega)) (pmZ_len fm _))
  have HK : Hid (∀ k, qK fm xs (k + 1) = qK fm xs k * pmZ fm (xs.getD k 0)) := hid (fun _ => rfl)
  have HS : Hid (∀ k, sK fm xs (k + 1) = sK fm xs k + pE fm (xs.getD k 0)) := hid (fun _ => rfl)
  have HB := hid (sK_bd fm xs)
  have HQ0 : Hid (qK fm xs 0 = 1) := hid rfl
  have HQL := hid (qK_len fm xs xs.length h300)
  have HFT : Hid (Nm.fits (qK fm xs xs.length) = decide ((Nm.wl (qK fm xs xs.length)).length ≤ 200)) := hid rfl
  obtain ⟨G', hG'⟩ : ∃ G, G = Nm.wn 1 := ⟨_, rfl⟩
  obtain ⟨L', hL'⟩ : ∃ L, L = Nm.wl 1 := ⟨_, rfl⟩
  rw [← hG', ← hL'] at C1
  have HG := hid hG'
  have HL := hid hL'
  clear hv hG' hL' dx
  have R := R2.new w (.bool false) (.slice none 0 0) 29
  go_enter Tryd.func9, Tryd.ntmps9
  go_wp2_with fail
  refine (CV.out _ (hx.alloc _)).mono ?_
  rintro r w1 ⟨rfl, hb1⟩
  have R1 := R.below hb1
  have bel1 : Below w.heap.size w w1 := (by repeat (first | exact Below.refl _ _ | refine Below.drew ?_ | refine bel_dn ?_ _ | refine bel_al ?_ _ | refine bel_go ?_ hb1 | refine Below.setCell ?_ (by first | omega | (simp; done) | (simp; omega)) _ | refine Below.alloc ?_ (by first | omega | (simp; done) | (simp; omega)) _ | refine Below.trans ?_ (Below.mono hb1 (by first | omega | (simp; done) | (simp; omega)))))
  have lw1 : w.heap.size < w1.heap.size := World.block_lt_of_cell? w1 _ R1.c0
  clear hb1 R
  go_wp2_with fail
  refine (C1.out _).mono ?_
  rintro r w3 ⟨a3, c3, rfl, o3, hb3⟩
  have lw3 := hb3.size
  have R3' := (R1.below hb3).alloc (.cells #[.bool G', .slice a3 L'.length c3] 29)
  have K3 := R2.new w3 (.bool G') (.slice a3 L'.length c3) 29
  have o4 := o3.alloc (.cells #[.bool G', .slice a3 L'.length c3] 29)
  have bel4 := bel_al (bel_go bel1 hb3) (.cells #[.bool G', .slice a3 L'.length c3] 29)
  have B3 : ∀ g, a3 = some ⟨g, 0, none⟩ → g ≠ w3.heap.size := fun g hg => by
    rcases o3.block with ⟨e, _⟩ | ⟨g', e, _, h3⟩
    · rw [e] at hg; cases hg
    · rw [e] at hg; cases hg; omega
  clear hb3 o3 R1 bel1
  go_wp2_with fail
  go_loopw [8, 9] (fun sc i wr => ∃ (k : Nat) (p : Option Addr) (c : Nat), k ≤ xs.length ∧ i = .int .i64 k ∧ sc = .int .i64 (sK fm xs k) ∧ (∀ j, j < k → finB fm (xs.getD j 0) = true) ∧ R2 wr w.heap.size (.bool false) (.slice none 0 0) ∧ R2 wr w3.heap.size (.bool (Nm.wn (qK fm xs k))) (.slice p (Nm.wl (qK fm xs k)).length c) ∧ Own wr (w.heap.size + 1) p c (Nm.wl (qK fm xs k)) ∧ (∀ g, p = some ⟨g, 0, none⟩ → g ≠ w3.heap.size) ∧ Below w.heap.size w wr) (fun _ i _ => xs.length - (intOf i).toNat)
  case atStart =>
    refine ⟨0, a3, c3, Nat.zero_le _, rfl, rfl, fun j hj => absurd hj (Nat.not_lt_zero _), R3', ?_, ?_, B3, bel4⟩
    · rw [HQ0.out, ← HG.out, ← HL.out]; exact K3
    · rw [HQ0.out, ← HL.out]; exact Own.base o4 (by omega)
  case round =>
    clear R3' K3 o4 bel4 B3
    obtain ⟨k, p, c, hk, rfl, rfl, hpre, R, A, O, hne, hb⟩ := hrel
    have PRE := hid hpre
    clear hpre
    have lA : w3.heap.size < wr.heap.size := World.block_lt_of_cell? wr _ A.c0
    by_cases hlt : k < xs.length
    · obtain ⟨g, off, rfl, hcx⟩ := hx3 (by omega)
      have h1 := hcx k hlt
      have h1 : wr.cell? ⟨g, off + k, none⟩ = some (.int .u64 (xs.getD k 0)) := (hb.cell (p := ⟨g, off + k, none⟩) (World.block_lt_of_cell? w _ h1)).trans h1
      clear hx3 hcx
      have CG' := hid (fun w' => CG.out k w')
      have C := hid (fun (h : finB fm (xs.getD k 0) = true) w' => CX.out k w' h)
      have CS' := hid (CS.out k)
      have CM' := hid (CM.out k hlt)
      have HS' := hid (HS.out k)
      have HK' := hid (HK.out k)
      have HB' := HB.out k
      have HE' := pE_bd fm (xs.getD k 0)
      have HM' := pM_bd fm (xs.getD k 0)
      have HNO := hid (finA_no (fm := fm) hlt)
      have PRE2 : Hid (finB fm (xs.getD k 0) = true → ∀ j, j < k + 1 → finB fm (xs.getD j 0) = true) := hid (fun h j hj => by
        by_cases e : j = k
        · subst e; exact h
        · exact PRE.out j (by omega))
      obtain ⟨x, hxk⟩ : ∃ x, x = xs.getD k 0 := ⟨_, rfl⟩
      obtain ⟨G, hG⟩ : ∃ y, y = pS fm x := ⟨_, rfl⟩
      obtain ⟨M, hM⟩ : ∃ y, y = pM fm x := ⟨_, rfl⟩
      obtain ⟨E, hE⟩ : ∃ y, y = pE fm x := ⟨_, rfl⟩
      obtain ⟨y, hy⟩ : ∃ y, y = pmZ fm x := ⟨_, rfl⟩
      have hy2 : (if G then -M else M) = y := by rw [hy, hG, hM]; rfl
      obtain ⟨s, hs⟩ : ∃ s, s = sK fm xs k := ⟨_, rfl⟩
      obtain ⟨z, hz⟩ : ∃ z, z = qK fm xs k := ⟨_, rfl⟩
      obtain ⟨z', hz'⟩ : ∃ z', z' = z * y := ⟨_, rfl⟩
      obtain ⟨o, hok⟩ : ∃ o, o = finB fm x := ⟨_, rfl⟩
      rw [← hxk] at h1 C CG' CS' CM' HNO HS' HK' HE' HM'
      simp only [← hG, ← hM, ← hE, ← hok] at C
      simp only [← hG, ← hM, hy2] at CS'
      rw [← hy, ← hz, ← hz'] at CM' HK'
      rw [← hz] at A O
      rw [← hs, ← hE] at HS'
      rw [← hs] at HB' ⊢
      rw [← hok] at HNO CG'
      rw [← hE] at HE'
      rw [← hM] at HM'
      have PRE2 : Hid (o = true → ∀ j, j < k + 1 → finB fm (xs.getD j 0) = true) := hid (fun h => PRE2.out (by rw [← hxk, ← hok]; exact h))
      have hw1 : wrap64 (s + E) = s + E := by unfold wrap64; omega
      have hw2 : IntKind.u64.wrap M = M := by rw [IntKind.wrap_u64]; omega
      clear hxk hok hG hM hE hy hy2 hz hz' hs CX CG CS CM HS HK HB PRE
      cases o with
      | false =>
        have HN2 := hid (HNO.out rfl)
        clear PRE2 HNO C
        go_wp2_with fail
        refine (CG'.out _).mono ?_
        rintro e w4 ⟨rfl, hb5⟩
        have bel5 := bel_go hb hb5
        obtain ⟨r0, r1, r2, r3⟩ := R.below hb5
        go_wp2
        refine bodyPost_ret (v := .tuple #[.agg #[.bool false, .slice none 0 0], .int .i64 0, .bool false]) (by simp [results, Tryd.results9, go_sem, r0, r1]) rfl (ansP_no (by rw [HO.out false _ HN2.out.symm rfl]; rfl) ?_)
        exact (by repeat (first | (with_reducible refine Below.setCell ?_ ?_ _; rotate_left; focus (first | omega | (simp; done) | (simp; omega))) | (with_reducible exact Below.refl _ _) | (with_reducible refine Below.drew ?_) | (with_reducible refine bel_dn ?_ _) | (with_reducible refine bel_al ?_ _) | (with_reducible refine bel_go ?_ bel5) | (with_reducible refine Below.alloc ?_ ?_ _; rotate_left; focus (first | omega | (simp; done) | (simp; omega))) | (with_reducible refine Below.trans ?_ (Below.mono bel5 ?_); rotate_left; focus (first | omega | (simp; done) | (simp; omega)))))
      | true =>
        have PRE3 := hid (PRE2.out rfl)
        have CC := hid (fun w' => C.out rfl w')
        clear PRE2 HNO C
        go_wp2_with fail
        refine (CG'.out _).mono ?_
        rintro e wq ⟨rfl, hbq⟩
        have h1 : wq.cell? ⟨g, off + k, none⟩ = some (.int .u64 x) := (hbq.cell (p := ⟨g, off + k, none⟩) (World.block_lt_of_cell? wr _ h1)).trans h1
        replace A := A.below hbq
        replace R := R.below hbq
        replace O := O.below hbq
        replace hb := bel_go hb hbq
        have lA : w3.heap.size < wq.heap.size := World.block_lt_of_cell? wq _ A.c0
        clear hbq
        go_wp2_with fail
        refine (CC.out _).mono ?_
        rintro e w4 ⟨rfl, hb5⟩
        have lw4 := hb5.size
        have bel5 := bel_al (bel_go hb hb5) (.cells #[.bool G, .int .i64 M, .int .i64 E] 52)
        have R5 := (R.below hb5).alloc (.cells #[.bool G, .int .i64 M, .int .i64 E] 52)
        have A5 := (A.below hb5).alloc (.cells #[.bool G, .int .i64 M, .int .i64 E] 52)
        have O5 := (O.below hb5).alloc (.cells #[.bool G, .int .i64 M, .int .i64 E] 52)
        have P5 := R3.new w4 (.bool G) (.int .i64 M) (.int .i64 E) 52
        clear hb5 A O R h1
        have m0 := P5.c0
        have m1 := P5.c1
        have m2 := P5.c2
        go_upto_region 9 with fail
        refine wp_region_held_drew (S := (fun w' => w'.cell? ⟨w4.heap.size, 0, none⟩ = some (.bool G) ∧ w'.cell? ⟨w4.heap.size, 1, none⟩ = some (.int .i64 M) ∧ w'.cell? ⟨w4.heap.size, 2, none⟩ = some (.int .i64 E))) (by kernel_rfl) ?_ (fun hHeld => ?_)
        · exact ⟨m0, m1, m2⟩
        refine wpAnyH_take (i := 1) (oi := _) (v := ?_) rfl (by kernel_rfl) (by kernel_rfl) (by kernel_rfl) (fun _ _ _ h => h) (Or.inl ⟨by rfl, ?_⟩) (by assumption) ?_
        rotate_left
        · (intro w hSw; (try dsimp only at hSw); (try obtain ⟨hS0, hS1, hS2⟩ := hSw); go_simp; try (with_reducible rfl))
        try simp only [Act.put, List.setIfInBounds_toArray, List.set_cons_zero, List.set_cons_succ, List.getElem_toArray, List.getElem_cons_zero, List.getElem_cons_succ]
        refine wpAnyH_take (i := 2) (oi := _) (v := ?_) rfl (by kernel_rfl) (by kernel_rfl) (by kernel_rfl) (fun _ _ _ h => h) (Or.inl ⟨by rfl, ?_⟩) (by assumption) ?_
        rotate_left
        · (intro w hSw; (try dsimp only at hSw); (try obtain ⟨hS0, hS1, hS2⟩ := hSw); go_simp; try (with_reducible rfl))
        try simp only [Act.put, List.setIfInBounds_toArray, List.set_cons_zero, List.set_cons_succ, List.getElem_toArray, List.getElem_cons_zero, List.getElem_cons_succ]
        refine wpAnyH_take (i := 3) (oi := _) (v := ?_) rfl (by kernel_rfl) (by kernel_rfl) (by kernel_rfl) (fun _ _ _ h => h) (Or.inl ⟨by rfl, ?_⟩) (by assumption) ?_
        rotate_left
        · (intro w hSw; (try dsimp only at hSw); (try obtain ⟨hS0, hS1, hS2⟩ := hSw); go_simp; try (with_reducible rfl))
        try simp only [Act.put, List.setIfInBounds_toArray, List.set_cons_zero, List.set_cons_succ, List.getElem_toArray, List.getElem_cons_zero, List.getElem_cons_succ]
        refine wpAnyH_take (i := 4) (oi := _) (v := ?_) rfl (by kernel_rfl) (by kernel_rfl) (by kernel_rfl) (fun _ _ _ h => h) (Or.inl ⟨by rfl, ?_⟩) (by assumption) ?_
        rotate_left
        · (intro w hSw; (try dsimp only at hSw); (try obtain ⟨hS0, hS1, hS2⟩ := hSw); go_simp; try (with_reducible rfl))
        try simp only [Act.put, List.setIfInBounds_toArray, List.set_cons_zero, List.set_cons_succ, List.getElem_toArray, List.getElem_cons_zero, List.getElem_cons_succ]
        refine wpAnyH_take (i := 5) (oi := _) (v := ?_) rfl (by kernel_rfl) (by kernel_rfl) (by kernel_rfl) (fun _ _ _ h => h) (Or.inl ⟨by rfl, ?_⟩) (by assumption) ?_
        rotate_left
        · (intro w hSw; (try dsimp only at hSw); (try obtain ⟨hS0, hS1, hS2⟩ := hSw); go_simp; try (with_reducible rfl))
        try simp only [Act.put, List.setIfInBounds_toArray, List.set_cons_zero, List.set_cons_succ, List.getElem_toArray, List.getElem_cons_zero, List.getElem_cons_succ]
        refine wpAnyH_ready (rs := [0, 6]) (by kernel_rfl) (by simp) ?_
        refine AllReadyH.cons (o := _) rfl (fun K hK => ?_) (AllReadyH.cons (o := _) rfl (fun K hK => ?_) AllReadyH.nil)
        · have B' := A5.drew
          obtain ⟨v0, v1, v2, v3⟩ := B'
          go_simp
          refine hK.out _ _ ?_ (fun hHeld => ?_)
          · exact ⟨m0, m1, m2⟩
          clear hK K
          try simp only [Act.put, List.setIfInBounds_toArray, List.set_cons_zero, List.set_cons_succ, List.getElem_toArray, List.getElem_cons_zero, List.getElem_cons_succ]
          clear v0 v1 v2 v3
          refine wpAnyH_ready (rs := [6]) (by kernel_rfl) (by simp) ?_
          refine AllReadyH.cons (o := _) rfl (fun K hK => ?_) AllReadyH.nil
          go_simp
          go_at_call 29; refine (CS'.out _).mono ?_; rintro r w6 ⟨a6, c6, rfl, o6, hb6⟩
          have P6 := P5.drew.below hb6
          have A6 := A5.drew.below hb6
          have R6 := R5.drew.below hb6
          have O6 := O5.drew.below hb6
          have lw6 : w4.heap.size < w6.heap.size := World.block_lt_of_cell? w6 _ P6.c0
          have bel6 : Below w.heap.size w w6 := bel_go (Below.drew bel5) hb6
          refine hK.out _ _ ?_ (fun hHeld => ?_)
          · exact ⟨P6.c0, P6.c1, P6.c2⟩
          clear hK K
          try simp only [Act.put, List.setIfInBounds_toArray, List.set_cons_zero, List.set_cons_succ, List.getElem_toArray, List.getElem_cons_zero, List.getElem_cons_succ]
          refine wpAnyH_ready (rs := [7]) (by kernel_rfl) (by simp) ?_
          refine AllReadyH.cons (o := _) rfl (fun K hK => ?_) AllReadyH.nil
          go_simp
          go_at_call 37; refine (CM'.out p a6 c c6 _ O6.sl o6.sl).mono ?_; rintro r w7 ⟨a7, c7, rfl, o7, hb7⟩
          have P7 := P6.below hb7
          have A7 := A6.below hb7
          have R7 := R6.below hb7
          have bel7 := bel_go bel6 hb7
          have B7 : ∀ g, a7 = some ⟨g, 0, none⟩ → g ≠ w3.heap.size := fun g hg => by
            rcases o7.block with ⟨e, _⟩ | ⟨g', e, h3, _⟩
            · rw [e] at hg; cases hg
            · rw [e] at hg; cases hg; have : w4.heap.size < w6.heap.size := lw6; omega
          refine hK.out _ _ ?_ (fun hHeld => ?_)
          · exact ⟨P7.c0, P7.c1, P7.c2⟩
          clear hK K
          try simp only [Act.put, List.setIfInBounds_toArray, List.set_cons_zero, List.set_cons_succ, List.getElem_toArray, List.getElem_cons_zero, List.getElem_cons_succ]
          refine wpAnyH_ready (rs := [8]) (by kernel_rfl) (by simp) ?_
          refine AllReadyH.cons (o := _) rfl (fun K hK => ?_) AllReadyH.nil
          have B' := A7
          obtain ⟨v0, v1, v2, v3⟩ := B'
          go_simp
          have P8 := (P7.other (p := ⟨w3.heap.size, 0, none⟩) (by simp; omega) (.bool (Nm.wn z'))).other (p := ⟨w3.heap.size, 1, none⟩) (by simp; omega) (.slice a7 (Nm.wl z').length c7)
          refine hK.out _ _ ?_ (fun hHeld => ?_)
          · exact ⟨P8.c0, P8.c1, P8.c2⟩
          clear hK K
          try simp only [Act.put, List.setIfInBounds_toArray, List.set_cons_zero, List.set_cons_succ, List.getElem_toArray, List.getElem_cons_zero, List.getElem_cons_succ]
          refine wpAnyH_done (by kernel_rfl) ?_ _
          obtain ⟨u0, u1, u2, -, -, -⟩ := P8
          go_wp2
          go_roundw
          case rel =>
            refine ⟨k + 1, a7, c7, by omega, by go_num, by rw [HS'.out], PRE3.out, ?_, ?_, ?_, B7, ?_⟩
            · exact (R7.other (p := ⟨w3.heap.size, 0, none⟩) (by simp; omega) _).other (p := ⟨w3.heap.size, 1, none⟩) (by simp; omega) _
            · rw [HK'.out]; exact R2.set A7 _ _
            · rw [HK'.out]; exact Own.base ((o7.setBelow (by simp; omega) _).setBelow (by simp; omega) _) (by omega)
            · exact (by repeat (first | (with_reducible refine Below.setCell ?_ ?_ _; rotate_left; focus (first | omega | (simp; done) | (simp; omega))) | (with_reducible exact Below.refl _ _) | (with_reducible refine Below.drew ?_) | (with_reducible refine bel_dn ?_ _) | (with_reducible refine bel_al ?_ _) | (with_reducible refine bel_go ?_ bel7) | (with_reducible refine Below.alloc ?_ ?_ _; rotate_left; focus (first | omega | (simp; done) | (simp; omega))) | (with_reducible refine Below.trans ?_ (Below.mono bel7 ?_); rotate_left; focus (first | omega | (simp; done) | (simp; omega)))))
          case measure => simp [intOf]; omega
        · go_simp
          go_at_call 29; refine (CS'.out _).mono ?_; rintro r w6 ⟨a6, c6, rfl, o6, hb6⟩
          have P6 := P5.drew.below hb6
          have A6 := A5.drew.below hb6
          have R6 := R5.drew.below hb6
          have O6 := O5.drew.below hb6
          have lw6 : w4.heap.size < w6.heap.size := World.block_lt_of_cell? w6 _ P6.c0
          have bel6 : Below w.heap.size w w6 := bel_go (Below.drew bel5) hb6
          refine hK.out _ _ ?_ (fun hHeld => ?_)
          · exact ⟨P6.c0, P6.c1, P6.c2⟩
          clear hK K
          try simp only [Act.put, List.setIfInBounds_toArray, List.set_cons_zero, List.set_cons_succ, List.getElem_toArray, List.getElem_cons_zero, List.getElem_cons_succ]
          refine wpAnyH_ready (rs := [0]) (by kernel_rfl) (by simp) ?_
          refine AllReadyH.cons (o := _) rfl (fun K hK => ?_) AllReadyH.nil
          have B' := A6
          obtain ⟨v0, v1, v2, v3⟩ := B'
          go_simp
          refine hK.out _ _ ?_ (fun hHeld => ?_)
          · exact ⟨P6.c0, P6.c1, P6.c2⟩
          clear hK K
          try simp only [Act.put, List.setIfInBounds_toArray, List.set_cons_zero, List.set_cons_succ, List.getElem_toArray, List.getElem_cons_zero, List.getElem_cons_succ]
          clear v0 v1 v2 v3
          refine wpAnyH_ready (rs := [7]) (by kernel_rfl) (by simp) ?_
          refine AllReadyH.cons (o := _) rfl (fun K hK => ?_) AllReadyH.nil
          go_simp
          go_at_call 37; refine (CM'.out p a6 c c6 _ O6.sl o6.sl).mono ?_; rintro r w7 ⟨a7, c7, rfl, o7, hb7⟩
          have P7 := P6.below hb7
          have A7 := A6.below hb7
          have R7 := R6.below hb7
          have bel7 := bel_go bel6 hb7
          have B7 : ∀ g, a7 = some ⟨g, 0, none⟩ → g ≠ w3.heap.size := fun g hg => by
            rcases o7.block with ⟨e, _⟩ | ⟨g', e, h3, _⟩
            · rw [e] at hg; cases hg
            · rw [e] at hg; cases hg; have : w4.heap.size < w6.heap.size := lw6; omega
          refine hK.out _ _ ?_ (fun hHeld => ?_)
          · exact ⟨P7.c0, P7.c1, P7.c2⟩
          clear hK K
          try simp only [Act.put, List.setIfInBounds_toArray, List.set_cons_zero, List.set_cons_succ, List.getElem_toArray, List.getElem_cons_zero, List.getElem_cons_succ]
          refine wpAnyH_ready (rs := [8]) (by kernel_rfl) (by simp) ?_
          refine AllReadyH.cons (o := _) rfl (fun K hK => ?_) AllReadyH.nil
          have B' := A7
          obtain ⟨v0, v1, v2, v3⟩ := B'
          go_simp
          have P8 := (P7.other (p := ⟨w3.heap.size, 0, none⟩) (by simp; omega) (.bool (Nm.wn z'))).other (p := ⟨w3.heap.size, 1, none⟩) (by simp; omega) (.slice a7 (Nm.wl z').length c7)
          refine hK.out _ _ ?_ (fun hHeld => ?_)
          · exact ⟨P8.c0, P8.c1, P8.c2⟩
          clear hK K
          try simp only [Act.put, List.setIfInBounds_toArray, List.set_cons_zero, List.set_cons_succ, List.getElem_toArray, List.getElem_cons_zero, List.getElem_cons_succ]
          refine wpAnyH_done (by kernel_rfl) ?_ _
          obtain ⟨u0, u1, u2, -, -, -⟩ := P8
          go_wp2
          go_roundw
          case rel =>
            refine ⟨k + 1, a7, c7, by omega, by go_num, by rw [HS'.out], PRE3.out, ?_, ?_, ?_, B7, ?_⟩
            · exact (R7.other (p := ⟨w3.heap.size, 0, none⟩) (by simp; omega) _).other (p := ⟨w3.heap.size, 1, none⟩) (by simp; omega) _
            · rw [HK'.out]; exact R2.set A7 _ _
            · rw [HK'.out]; exact Own.base ((o7.setBelow (by simp; omega) _).setBelow (by simp; omega) _) (by omega)
            · exact (by repeat (first | (with_reducible refine Below.setCell ?_ ?_ _; rotate_left; focus (first | omega | (simp; done) | (simp; omega))) | (with_reducible exact Below.refl _ _) | (with_reducible refine Below.drew ?_) | (with_reducible refine bel_dn ?_ _) | (with_reducible refine bel_al ?_ _) | (with_reducible refine bel_go ?_ bel7) | (with_reducible refine Below.alloc ?_ ?_ _; rotate_left; focus (first | omega | (simp; done) | (simp; omega))) | (with_reducible refine Below.trans ?_ (Below.mono bel7 ?_); rotate_left; focus (first | omega | (simp; done) | (simp; omega)))))
          case measure => simp [intOf]; omega
    · obtain rfl : k = xs.length := by omega
      have hfa := finA_yes PRE.out
      clear hx3 CX CG CS CM HS HK HB PRE
      have lq := HQL.out
      by_cases h200 : (Nm.wl (qK fm xs xs.length)).length ≤ 200
      · have HY : Hid (prO fm xs = true) := hid (by rw [HO.out true _ hfa.symm rfl, HFT.out, decide_eq_true h200]; rfl)
        have h200' : ¬ (200 : Int) < (Nm.wl (qK fm xs xs.length)).length := by omega
        clear HO hfa HFT HQL
        obtain ⟨v0, v1, v2, v3⟩ := A
        obtain ⟨r0, r1, r2, r3⟩ := R
        go_wp2
        refine bodyPost_ret (v := .tuple #[.agg #[.bool (Nm.wn (qK fm xs xs.length)), .slice p (Nm.wl (qK fm xs xs.length)).length c], .int .i64 (sK fm xs xs.length), .bool true]) (by simp [results, Tryd.results9, go_sem, r0, r1]) rfl (ansP_yes HY.out ?_ ?_)
        · exact Own.base ((O.setBelow (by simp) _).setBelow (by simp) _) (by omega)
        · exact (by repeat (first | (with_reducible refine Below.setCell ?_ ?_ _; rotate_left; focus (first | omega | (simp; done) | (simp; omega))) | (with_reducible exact Below.refl _ _) | (with_reducible refine Below.drew ?_) | (with_reducible refine bel_dn ?_ _) | (with_reducible refine bel_al ?_ _) | (with_reducible refine bel_go ?_ hb) | (with_reducible refine Below.alloc ?_ ?_ _; rotate_left; focus (first | omega | (simp; done) | (simp; omega))) | (with_reducible refine Below.trans ?_ (Below.mono hb ?_); rotate_left; focus (first | omega | (simp; done) | (simp; omega)))))
      · have HY : Hid (prO fm xs = false) := hid (by rw [HO.out true _ hfa.symm rfl, HFT.out, decide_eq_false h200]; rfl)
        have h200' : (200 : Int) < (Nm.wl (qK fm xs xs.length)).length := by omega
        clear HO hfa HFT HQL
        obtain ⟨v0, v1, v2, v3⟩ := A
        obtain ⟨r0, r1, r2, r3⟩ := R
        go_wp2
        refine bodyPost_ret (v := .tuple #[.agg #[.bool false, .slice none 0 0], .int .i64 0, .bool false]) (by simp [results, Tryd.results9, go_sem, r0, r1]) rfl (ansP_no HY.out ?_)
        exact (by repeat (first | (with_reducible refine Below.setCell ?_ ?_ _; rotate_left; focus (first | omega | (simp; done) | (simp; omega))) | (with_reducible exact Below.refl _ _) | (with_reducible refine Below.drew ?_) | (with_reducible refine bel_dn ?_ _) | (with_reducible refine bel_al ?_ _) | (with_reducible refine bel_go ?_ hb) | (with_reducible refine Below.alloc ?_ ?_ _; rotate_left; focus (first | omega | (simp; done) | (simp; omega))) | (with_reducible refine Below.trans ?_ (Below.mono hb ?_); rotate_left; focus (first | omega | (simp; done) | (simp; omega)))))
theorem prs_all (fm : Int) (xs : List Int) (a : Option Addr) (cap : Nat) (w : World) (hx : Sl .u64 w (.slice a xs.length cap) xs) (dx : D64 xs) (hl : xs.length ≤ 1048576) :
    Calls Tryd.prog 9 #[.int .i64 fm, .slice a xs.length cap] w fun r w' => AnsP w w' r fm xs := by
  cases hv : (vecC fm 0 xs == 0)
  · refine (prs_no1 fm xs a cap w hx dx hl hv).mono ?_
    rintro r w1 ⟨rfl, hb⟩
    exact ansP_no (by unfold prO; rw [hv]; rfl) hb
  · exact prs_yes fm xs a cap w hx dx hl hv
end Go.Proofs.YtdjfajjlmjkpdaaDoor
