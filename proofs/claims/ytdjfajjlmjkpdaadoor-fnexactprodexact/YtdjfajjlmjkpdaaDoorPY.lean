/-
  The exact product: by the program.
-/
import Derived.Test.YtdjfajjlmjkpdaaDoorPX
namespace Go.Proofs.YtdjfajjlmjkpdaaDoor
set_option linter.unusedVariables false
set_option linter.unusedSimpArgs false
open Go.RowKit Go.Deep
theorem R3.drew {w : World} {b : Nat} {v0 v1 v2 : Value} (h : R3 w b v0 v1 v2) : R3 w.drew b v0 v1 v2 := ⟨h.c0, h.c1, h.c2, h.f0, h.f1, h.f2⟩
set_option maxHeartbeats 4000000 in
set_option maxRecDepth 100000 in
theorem pri_no1 (fm : Int) (xs : List Int) (a : Option Addr) (cap : Nat) (w : World) (hT : Tab w) (hx : Sl .u64 w (.slice a xs.length cap) xs) (dx : D64 xs) (hl : xs.length ≤ 1048576) (hv : (vecC fm 0 xs == 0) = false) :
    Calls Tryd.prog 11 #[.int .i64 fm, .slice a xs.length cap] w fun r w' => r = .returned (.tuple #[.agg #[.bool false, .slice none 0 0], .int .i64 0, .bool false]) ∧ Below w.heap.size w w' := by
  have CV := hid (fun w' h h' => evok_impl fm a cap xs w' h h' dx hl _ rfl)
  rw [hv] at CV
  clear hv dx
  have R := R2.new w (.bool false) (.slice none 0 0) 29
  go_enter Tryd.func11, Tryd.ntmps11
  go_wp2_with fail
  refine (CV.out _ (hT.al _) (hx.alloc _)).mono ?_
  rintro r w1 ⟨rfl, hb1⟩
  obtain ⟨r0, r1, r2, r3⟩ := R.below hb1
  go_wp2
  refine bodyPost_ret (v := .tuple #[.agg #[.bool false, .slice none 0 0], .int .i64 0, .bool false]) (by simp [results, Tryd.results11, go_sem, r0, r1]) rfl ⟨rfl, ?_⟩
  exact (by repeat (first | (with_reducible refine Below.setCell ?_ ?_ _; rotate_left; focus (first | omega | (simp; done) | (simp; omega))) | (with_reducible exact Below.refl _ _) | (with_reducible refine Below.drew ?_) | (with_reducible refine bel_dn ?_ _) | (with_reducible refine bel_al ?_ _) | (with_reducible refine bel_go ?_ hb1) | (with_reducible refine Below.alloc ?_ ?_ _; rotate_left; focus (first | omega | (simp; done) | (simp; omega))) | (with_reducible refine Below.trans ?_ (Below.mono hb1 ?_); rotate_left; focus (first | omega | (simp; done) | (simp; omega)))))
set_option maxHeartbeats 16000000 in
set_option maxRecDepth 100000 in
theorem pri_yes (fm : Int) (xs : List Int) (a : Option Addr) (cap : Nat) (w : World) (hT : Tab w) (hx : Sl .u64 w (.slice a xs.length cap) xs) (dx : D64 xs) (hl : xs.length ≤ 1048576) (hv : (vecC fm 0 xs == 0) = true) :
    Calls Tryd.prog 11 #[.int .i64 fm, .slice a xs.length cap] w fun r w' => AnsP w w' r fm xs := by
  have h300 := vec_300 hv
  have HO : Hid (∀ c d, c = finA fm xs → d = Nm.fits (qK fm xs xs.length) → prO fm xs = (c && d)) := hid (fun c d h h' => by rw [h, h']; unfold prO; rw [hv]; rfl)
  obtain ⟨-, hx1, hx2, hx3⟩ := hx.cells
  have CV := hid (fun w' h h' => evok_impl fm a cap xs w' h h' dx hl _ rfl)
  rw [hv] at CV
  have C1 := hid (fun w' => wof_impl 1 w' (by decide) (by decide))
  have CX := hid (fun k w' h => impl_parts fm (xs.getD k 0) w' h (dx.getD k).1 (dx.getD k).2)
  have CS := hid (fun k w' => signedM_z (pS fm (xs.getD k 0)) (pM fm (xs.getD k 0)) (pE fm (xs.getD k 0)) w' (pM_bd fm _).1 (by have := (pM_bd fm (xs.getD k 0)).2; omega))
  have CM := hid (fun k p q c d w' h h' => pmul_impl (zK fm xs k) (pmZ fm (xs.getD k 0)) (zK fm xs k * pmZ fm (xs.getD k 0)) _ p q c d w' h h' (zK_len fm xs k) (pmZ_len fm _) rfl rfl)
  have HF : Hid (∀ k, Nm.fits (qK fm xs k) = true → zK fm xs k * pmZ fm (xs.getD k 0) = qK fm xs (k + 1)) := hid (fun k h => by unfold zK; rw [h, if_pos rfl]; rfl)
  have HD : Hid (∀ k, (if Nm.fits (qK fm xs k) then qK fm xs k else 0) = zK fm xs k) := hid (fun _ => rfl)
  have HZ : Hid (zK fm xs 0 = 1 ∧ Nm.fits (qK fm xs 0) = true) := hid (by unfold zK; show (if Nm.fits 1 then (1 : Int) else 0) = 1 ∧ Nm.fits 1 = true; rw [fits_one]; exact ⟨rfl, rfl⟩)
  have H0 := hid (zK_zero fm xs)
  have H1 := hid (zK_not fm xs)
  have HS : Hid (∀ k, sK fm xs (k + 1) = sK fm xs k + pE fm (xs.getD k 0)) := hid (fun _ => rfl)
  have HB := hid (sK_bd fm xs)
  obtain ⟨G', hG'⟩ : ∃ G, G = Nm.wn 1 := ⟨_, rfl⟩
  obtain ⟨L', hL'⟩ : ∃ L, L = Nm.wl 1 := ⟨_, rfl⟩
  rw [← hG', ← hL'] at C1
  have HG := hid hG'
  have HL := hid hL'
  clear hv hG' hL' dx
  have R := R2.new w (.bool false) (.slice none 0 0) 29
  go_enter Tryd.func11, Tryd.ntmps11
  go_wp2_with fail
  refine (CV.out _ (hT.al _) (hx.alloc _)).mono ?_
  rintro r w1 ⟨rfl, hb1⟩
  have R1 := R.below hb1
  have bel1 : Below w.heap.size w w1 := (by repeat (first | exact Below.refl _ _ | refine Below.drew ?_ | refine bel_dn ?_ _ | refine bel_al ?_ _ | refine bel_go ?_ hb1 | refine Below.setCell ?_ (by first | omega | (simp; done) | (simp; omega)) _ | refine Below.alloc ?_ (by first | omega | (simp; done) | (simp; omega)) _ | refine Below.trans ?_ (Below.mono hb1 (by first | omega | (simp; done) | (simp; omega)))))
  have lw1 : w.heap.size < w1.heap.size := World.block_lt_of_cell? w1 _ R1.c0
  clear hb1 R
  go_wp2_with fail
  refine (C1.out _).mono ?_
  rintro r w3 ⟨a3, c3, rfl, o3, hb3⟩
  have lw3 := hb3.size
  have R3' := (R1.below hb3).alloc (.cells #[.bool G', .slice a3 L'.length c3] 29)
  have K3 := R2.new w3 (.bool G') (.slice a3 L'.length c3) 29
  have o4 := o3.alloc (.cells #[.bool G', .slice a3 L'.length c3] 29)
  have bel4 := bel_al (bel_go bel1 hb3) (.cells #[.bool G', .slice a3 L'.length c3] 29)
  have B3 : ∀ g, a3 = some ⟨g, 0, none⟩ → g ≠ w3.heap.size := fun g hg => by
    rcases o3.block with ⟨e, _⟩ | ⟨g', e, _, h3⟩
    · rw [e] at hg; cases hg
    · rw [e] at hg; cases hg; omega
  clear hb3 o3 R1 bel1
  go_wp2_with fail
  go_loopw [8, 9, 22] (fun sc ft i wr => ∃ (k : Nat) (p : Option Addr) (c : Nat), k ≤ xs.length ∧ i = .int .i64 k ∧ sc = .int .i64 (sK fm xs k) ∧ ft = .bool (Nm.fits (qK fm xs k)) ∧ (∀ j, j < k → finB fm (xs.getD j 0) = true) ∧ R2 wr w.heap.size (.bool false) (.slice none 0 0) ∧ R2 wr w3.heap.size (.bool (Nm.wn (zK fm xs k))) (.slice p (Nm.wl (zK fm xs k)).length c) ∧ Own wr (w.heap.size + 1) p c (Nm.wl (zK fm xs k)) ∧ (∀ g, p = some ⟨g, 0, none⟩ → g ≠ w3.heap.size) ∧ Below w.heap.size w wr) (fun _ _ i _ => xs.length - (intOf i).toNat)
  case atStart =>
    refine ⟨0, a3, c3, Nat.zero_le _, rfl, rfl, by rw [HZ.out.2], fun j hj => absurd hj (Nat.not_lt_zero _), R3', ?_, ?_, B3, bel4⟩
    · rw [HZ.out.1, ← HG.out, ← HL.out]; exact K3
    · rw [HZ.out.1, ← HL.out]; exact Own.base o4 (by omega)
  case round =>
    clear R3' K3 o4 bel4 B3
    obtain ⟨k, p, c, hk, rfl, rfl, rfl, hpre, R, A, O, hne, hb⟩ := hrel
    have PRE := hid hpre
    clear hpre
    have lA : w3.heap.size < wr.heap.size := World.block_lt_of_cell? wr _ A.c0
    by_cases hlt : k < xs.length
    · obtain ⟨g, off, rfl, hcx⟩ := hx3 (by omega)
      have h1 := hcx k hlt
      have h1 : wr.cell? ⟨g, off + k, none⟩ = some (.int .u64 (xs.getD k 0)) := (hb.cell (p := ⟨g, off + k, none⟩) (World.block_lt_of_cell? w _ h1)).trans h1
      clear hx3 hcx
      have C := hid (fun w' h => CX.out k w' h)
      have CS' := hid (CS.out k)
      have CM' := hid (CM.out k)
      have HS' := hid (HS.out k)
      have H0' := hid (H0.out k)
      have H1' := hid (H1.out k)
      have HF' := hid (HF.out k)
      have HD' := HD.out (k + 1)
      have HB' := HB.out k
      have HE' := pE_bd fm (xs.getD k 0)
      have HNO := hid (finA_no (fm := fm) hlt)
      have PRE2 : Hid (finB fm (xs.getD k 0) = true → ∀ j, j < k + 1 → finB fm (xs.getD j 0) = true) := hid (fun h j hj => by
        by_cases e : j = k
        · subst e; exact h
        · exact PRE.out j (by omega))
      obtain ⟨x, hxk⟩ : ∃ x, x = xs.getD k 0 := ⟨_, rfl⟩
      obtain ⟨G, hG⟩ : ∃ y, y = pS fm x := ⟨_, rfl⟩
      obtain ⟨M, hM⟩ : ∃ y, y = pM fm x := ⟨_, rfl⟩
      obtain ⟨E, hE⟩ : ∃ y, y = pE fm x := ⟨_, rfl⟩
      obtain ⟨y, hy⟩ : ∃ y, y = pmZ fm x := ⟨_, rfl⟩
      have hy2 : (if G then -M else M) = y := by rw [hy, hG, hM]; rfl
      obtain ⟨s, hs⟩ : ∃ s, s = sK fm xs k := ⟨_, rfl⟩
      obtain ⟨o, hok⟩ : ∃ o, o = finB fm x := ⟨_, rfl⟩
      rw [← hxk] at h1 C CS' CM' HNO HS' H0' H1' HF' HE'
      simp only [← hG, ← hM, ← hE, ← hok] at C
      simp only [← hG, ← hM, ← hE, hy2] at CS'
      rw [← hy] at CM' HF'
      rw [← hs, ← hE] at HS'
      rw [← hs] at HB' ⊢
      rw [← hM] at H0' H1'
      rw [← hok] at HNO
      rw [← hE] at HE'
      have PRE2 : Hid (o = true → ∀ j, j < k + 1 → finB fm (xs.getD j 0) = true) := hid (fun h => PRE2.out (by rw [← hxk, ← hok]; exact h))
      have hw1 : wrap64 (s + E) = s + E := by unfold wrap64; omega
      clear hxk hok hG hM hE hy hy2 hs CX CS CM HS H0 H1 HF HD HB PRE
      cases o with
      | false =>
        have HN2 := hid (HNO.out rfl)
        clear PRE2 HNO
        go_wp2_with fail
        refine (C.out _ (hT.below hb)).mono ?_
        rintro e w4 ⟨rfl, hb5⟩
        have bel5 := bel_go hb hb5
        obtain ⟨r0, r1, r2, r3⟩ := (R.below hb5).alloc (.cells #[.bool G, .int .i64 M, .int .i64 E] 52)
        go_wp2
        refine bodyPost_ret (v := .tuple #[.agg #[.bool false, .slice none 0 0], .int .i64 0, .bool false]) (by simp [results, Tryd.results11, go_sem, r0, r1]) rfl (ansP_no (by rw [HO.out false _ HN2.out.symm rfl]; rfl) ?_)
        exact (by repeat (first | (with_reducible refine Below.setCell ?_ ?_ _; rotate_left; focus (first | omega | (simp; done) | (simp; omega))) | (with_reducible exact Below.refl _ _) | (with_reducible refine Below.drew ?_) | (with_reducible refine bel_dn ?_ _) | (with_reducible refine bel_al ?_ _) | (with_reducible refine bel_go ?_ bel5) | (with_reducible refine Below.alloc ?_ ?_ _; rotate_left; focus (first | omega | (simp; done) | (simp; omega))) | (with_reducible refine Below.trans ?_ (Below.mono bel5 ?_); rotate_left; focus (first | omega | (simp; done) | (simp; omega)))))
      | true =>
        have PRE3 := hid (PRE2.out rfl)
        clear PRE2 HNO
        by_cases hz : M = 0
        · obtain ⟨q1, q2⟩ := H0'.out hz
          have QZ := hid q1
          have QF := hid q2
          subst hz
          clear q1 q2 H0' H1' HF' HD' CM' CS'
          go_wp2_with fail
          refine (C.out _ (hT.below hb)).mono ?_
          rintro e w4 ⟨rfl, hb5⟩
          have bel5 := bel_go hb hb5
          have R5 := (R.below hb5).alloc (.cells #[.bool G, .int .i64 0, .int .i64 E] 52)
          have A5 := (A.below hb5).alloc (.cells #[.bool G, .int .i64 0, .int .i64 E] 52)
          clear hb5 A O R
          have A5' := A5
          obtain ⟨v0, v1, v2, v3⟩ := A5'
          go_wp2
          go_roundw
          case rel =>
            refine ⟨k + 1, none, 0, by omega, by go_num, by rw [HS'.out], by rw [QF.out], PRE3.out, ?_, ?_, ?_, fun g hg => (by cases hg), ?_⟩
            · exact (R5.other (p := ⟨w3.heap.size, 0, none⟩) (by simp; omega) _).other (p := ⟨w3.heap.size, 1, none⟩) (by simp; omega) _
            · rw [QZ.out, wn_zero, wl_zero]; exact R2.set A5 _ _
            · rw [QZ.out, wl_zero]; exact Own.nil _ _
            · exact (by repeat (first | (with_reducible refine Below.setCell ?_ ?_ _; rotate_left; focus (first | omega | (simp; done) | (simp; omega))) | (with_reducible exact Below.refl _ _) | (with_reducible refine Below.drew ?_) | (with_reducible refine bel_dn ?_ _) | (with_reducible refine bel_al ?_ _) | (with_reducible refine bel_go ?_ bel5) | (with_reducible refine Below.alloc ?_ ?_ _; rotate_left; focus (first | omega | (simp; done) | (simp; omega))) | (with_reducible refine Below.trans ?_ (Below.mono bel5 ?_); rotate_left; focus (first | omega | (simp; done) | (simp; omega)))))
          case measure => simp [intOf]; omega
        · have hz' : (M == 0) = false := by simpa using hz
          obtain ⟨f, hf⟩ : ∃ f, f = Nm.fits (qK fm xs k) := ⟨_, rfl⟩
          rw [← hf] at H1' HF' ⊢
          cases f with
          | false =>
            obtain ⟨q1, q2⟩ := H1'.out hz rfl
            have QZ := hid q1
            have QF := hid q2
            clear q1 q2 H0' H1' HF' HD' CM' CS' hf hz
            go_wp2_with fail
            refine (C.out _ (hT.below hb)).mono ?_
            rintro e w4 ⟨rfl, hb5⟩
            have bel5 := bel_al (bel_go hb hb5) (.cells #[.bool G, .int .i64 M, .int .i64 E] 52)
            have R5 := (R.below hb5).alloc (.cells #[.bool G, .int .i64 M, .int .i64 E] 52)
            have A5 := (A.below hb5).alloc (.cells #[.bool G, .int .i64 M, .int .i64 E] 52)
            have O5 := (O.below hb5).alloc (.cells #[.bool G, .int .i64 M, .int .i64 E] 52)
            clear hb5 A O R
            go_wp2
            go_roundw
            case rel =>
              refine ⟨k + 1, p, c, by omega, by go_num, by rw [HS'.out], by rw [QF.out], PRE3.out, R5, ?_, ?_, hne, bel5⟩
              · rw [QZ.out]; exact A5
              · rw [QZ.out]; exact O5
            case measure => simp [intOf]; omega
          | true =>
            rw [HF'.out rfl, HD'] at CM'
            clear H0' H1' HF' HD' hf hz
            go_wp2_with fail
            refine (C.out _ (hT.below hb)).mono ?_
            rintro e w4 ⟨rfl, hb5⟩
            have lw4 := hb5.size
            have bel5 := bel_al (bel_go hb hb5) (.cells #[.bool G, .int .i64 M, .int .i64 E] 52)
            have R5 := (R.below hb5).alloc (.cells #[.bool G, .int .i64 M, .int .i64 E] 52)
            have A5 := (A.below hb5).alloc (.cells #[.bool G, .int .i64 M, .int .i64 E] 52)
            have O5 := (O.below hb5).alloc (.cells #[.bool G, .int .i64 M, .int .i64 E] 52)
            have P5 := R3.new w4 (.bool G) (.int .i64 M) (.int .i64 E) 52
            clear hb5 A O R
            have m0 := P5.c0
            have m1 := P5.c1
            have m2 := P5.c2
            go_upto_region 9 with fail
            refine wp_region_held_drew (S := (fun w' => w'.cell? ⟨w4.heap.size, 0, none⟩ = some (.bool G) ∧ w'.cell? ⟨w4.heap.size, 1, none⟩ = some (.int .i64 M) ∧ w'.cell? ⟨w4.heap.size, 2, none⟩ = some (.int .i64 E))) (by kernel_rfl) ?_ (fun hHeld => ?_)
            · exact ⟨m0, m1, m2⟩
            refine wpAnyH_take (i := 1) (oi := _) (v := ?_) rfl (by kernel_rfl) (by kernel_rfl) (by kernel_rfl) (fun _ _ _ h => h) (Or.inl ⟨by rfl, ?_⟩) (by assumption) ?_
            rotate_left
            · (intro w hSw; (try dsimp only at hSw); (try obtain ⟨hS0, hS1, hS2⟩ := hSw); go_simp; try (with_reducible rfl))
            try simp only [Act.put, List.setIfInBounds_toArray, List.set_cons_zero, List.set_cons_succ, List.getElem_toArray, List.getElem_cons_zero, List.getElem_cons_succ]
            refine wpAnyH_ready (rs := [0, 2]) (by kernel_rfl) (by simp) ?_
            refine AllReadyH.cons (o := _) rfl (fun K hK => ?_) (AllReadyH.cons (o := _) rfl (fun K hK => ?_) AllReadyH.nil)
            · have B' := A5.drew
              obtain ⟨v0, v1, v2, v3⟩ := B'
              go_simp
              refine hK.out _ _ ?_ (fun hHeld => ?_)
              · exact ⟨m0, m1, m2⟩
              clear hK K
              try simp only [Act.put, List.setIfInBounds_toArray, List.set_cons_zero, List.set_cons_succ, List.getElem_toArray, List.getElem_cons_zero, List.getElem_cons_succ]
              clear v0 v1 v2 v3
              refine wpAnyH_ready (rs := [2]) (by kernel_rfl) (by simp) ?_
              refine AllReadyH.cons (o := _) rfl (fun K hK => ?_) AllReadyH.nil
              go_simp
              go_at_call 41; refine (CS'.out _).mono ?_; rintro r w6 ⟨a6, c6, rfl, o6, hb6⟩
              have P6 := P5.drew.below hb6
              have A6 := A5.drew.below hb6
              have R6 := R5.drew.below hb6
              have O6 := O5.drew.below hb6
              have lw6 : w4.heap.size < w6.heap.size := World.block_lt_of_cell? w6 _ P6.c0
              have bel6 : Below w.heap.size w w6 := bel_go (Below.drew bel5) hb6
              refine hK.out _ _ ?_ (fun hHeld => ?_)
              · exact ⟨P6.c0, P6.c1, P6.c2⟩
              clear hK K
              try simp only [Act.put, List.setIfInBounds_toArray, List.set_cons_zero, List.set_cons_succ, List.getElem_toArray, List.getElem_cons_zero, List.getElem_cons_succ]
              refine wpAnyH_ready (rs := [3]) (by kernel_rfl) (by simp) ?_
              refine AllReadyH.cons (o := _) rfl (fun K hK => ?_) AllReadyH.nil
              go_simp
              go_at_call 40; refine (CM'.out p a6 c c6 _ O6.sl o6.sl).mono ?_; rintro r w7 ⟨a7, c7, rfl, o7, hb7⟩
              have P7 := P6.below hb7
              have A7 := A6.below hb7
              have R7 := R6.below hb7
              have bel7 := bel_go bel6 hb7
              have B7 : ∀ g, a7 = some ⟨g, 0, none⟩ → g ≠ w3.heap.size := fun g hg => by
                rcases o7.block with ⟨e, _⟩ | ⟨g', e, h3, _⟩
                · rw [e] at hg; cases hg
                · rw [e] at hg; cases hg; have : w4.heap.size < w6.heap.size := lw6; omega
              refine hK.out _ _ ?_ (fun hHeld => ?_)
              · exact ⟨P7.c0, P7.c1, P7.c2⟩
              clear hK K
              try simp only [Act.put, List.setIfInBounds_toArray, List.set_cons_zero, List.set_cons_succ, List.getElem_toArray, List.getElem_cons_zero, List.getElem_cons_succ]
              refine wpAnyH_take (i := 4) (oi := _) (v := ?_) rfl (by kernel_rfl) (by kernel_rfl) (by kernel_rfl) (fun _ _ _ h => h) (Or.inl ⟨by rfl, ?_⟩) (by assumption) ?_
              rotate_left
              · (intro w hSw; (try dsimp only at hSw); (try obtain ⟨hS0, hS1, hS2⟩ := hSw); go_simp; try (with_reducible rfl))
              try simp only [Act.put, List.setIfInBounds_toArray, List.set_cons_zero, List.set_cons_succ, List.getElem_toArray, List.getElem_cons_zero, List.getElem_cons_succ]
              refine wpAnyH_take (i := 5) (oi := _) (v := ?_) rfl (by kernel_rfl) (by kernel_rfl) (by kernel_rfl) (fun _ _ _ h => h) (Or.inl ⟨by rfl, ?_⟩) (by assumption) ?_
              rotate_left
              · (intro w hSw; (try dsimp only at hSw); (try obtain ⟨hS0, hS1, hS2⟩ := hSw); go_simp; try (with_reducible rfl))
              try simp only [Act.put, List.setIfInBounds_toArray, List.set_cons_zero, List.set_cons_succ, List.getElem_toArray, List.getElem_cons_zero, List.getElem_cons_succ]
              refine wpAnyH_take (i := 6) (oi := _) (v := ?_) rfl (by kernel_rfl) (by kernel_rfl) (by kernel_rfl) (fun _ _ _ h => h) (Or.inl ⟨by rfl, ?_⟩) (by assumption) ?_
              rotate_left
              · (intro w hSw; (try dsimp only at hSw); (try obtain ⟨hS0, hS1, hS2⟩ := hSw); go_simp; try (with_reducible rfl))
              try simp only [Act.put, List.setIfInBounds_toArray, List.set_cons_zero, List.set_cons_succ, List.getElem_toArray, List.getElem_cons_zero, List.getElem_cons_succ]
              refine wpAnyH_ready (rs := [7]) (by kernel_rfl) (by simp) ?_
              refine AllReadyH.cons (o := _) rfl (fun K hK => ?_) AllReadyH.nil
              have B' := A7
              obtain ⟨v0, v1, v2, v3⟩ := B'
              go_simp
              refine hK.out _ _ ?_ (fun hHeld => ?_)
              · exact ⟨(P7.other (p := ⟨w3.heap.size, 0, none⟩) (by simp; omega) _).other (p := ⟨w3.heap.size, 1, none⟩) (by simp; omega) _ |>.c0, (P7.other (p := ⟨w3.heap.size, 0, none⟩) (by simp; omega) _).other (p := ⟨w3.heap.size, 1, none⟩) (by simp; omega) _ |>.c1, (P7.other (p := ⟨w3.heap.size, 0, none⟩) (by simp; omega) _).other (p := ⟨w3.heap.size, 1, none⟩) (by simp; omega) _ |>.c2⟩
              clear hK K
              try simp only [Act.put, List.setIfInBounds_toArray, List.set_cons_zero, List.set_cons_succ, List.getElem_toArray, List.getElem_cons_zero, List.getElem_cons_succ]
              refine wpAnyH_take (i := 8) (oi := _) (v := ?_) rfl (by kernel_rfl) (by kernel_rfl) (by kernel_rfl) (fun _ _ _ h => h) (Or.inl ⟨by rfl, ?_⟩) (by assumption) ?_
              rotate_left
              · (intro w hSw; (try dsimp only at hSw); (try obtain ⟨hS0, hS1, hS2⟩ := hSw); go_simp; try (with_reducible rfl))
              try simp only [Act.put, List.setIfInBounds_toArray, List.set_cons_zero, List.set_cons_succ, List.getElem_toArray, List.getElem_cons_zero, List.getElem_cons_succ]
              refine wpAnyH_done (by kernel_rfl) ?_ _
              go_wp2
              go_roundw
              case rel =>
                refine ⟨k + 1, a7, c7, by omega, by go_num, by rw [HS'.out], rfl, PRE3.out, ?_, ?_, ?_, B7, ?_⟩
                · exact (R7.other (p := ⟨w3.heap.size, 0, none⟩) (by simp; omega) _).other (p := ⟨w3.heap.size, 1, none⟩) (by simp; omega) _
                · exact R2.set A7 _ _
                · exact Own.base ((o7.setBelow (by simp; omega) _).setBelow (by simp; omega) _) (by omega)
                · exact (by repeat (first | (with_reducible refine Below.setCell ?_ ?_ _; rotate_left; focus (first | omega | (simp; done) | (simp; omega))) | (with_reducible exact Below.refl _ _) | (with_reducible refine Below.drew ?_) | (with_reducible refine bel_dn ?_ _) | (with_reducible refine bel_al ?_ _) | (with_reducible refine bel_go ?_ bel7) | (with_reducible refine Below.alloc ?_ ?_ _; rotate_left; focus (first | omega | (simp; done) | (simp; omega))) | (with_reducible refine Below.trans ?_ (Below.mono bel7 ?_); rotate_left; focus (first | omega | (simp; done) | (simp; omega)))))
              case measure => simp [intOf]; omega
            · go_simp
              go_at_call 41; refine (CS'.out _).mono ?_; rintro r w6 ⟨a6, c6, rfl, o6, hb6⟩
              have P6 := P5.drew.below hb6
              have A6 := A5.drew.below hb6
              have R6 := R5.drew.below hb6
              have O6 := O5.drew.below hb6
              have lw6 : w4.heap.size < w6.heap.size := World.block_lt_of_cell? w6 _ P6.c0
              have bel6 : Below w.heap.size w w6 := bel_go (Below.drew bel5) hb6
              refine hK.out _ _ ?_ (fun hHeld => ?_)
              · exact ⟨P6.c0, P6.c1, P6.c2⟩
              clear hK K
              try simp only [Act.put, List.setIfInBounds_toArray, List.set_cons_zero, List.set_cons_succ, List.getElem_toArray, List.getElem_cons_zero, List.getElem_cons_succ]
              refine wpAnyH_ready (rs := [0]) (by kernel_rfl) (by simp) ?_
              refine AllReadyH.cons (o := _) rfl (fun K hK => ?_) AllReadyH.nil
              have B' := A6
              obtain ⟨v0, v1, v2, v3⟩ := B'
              go_simp
              refine hK.out _ _ ?_ (fun hHeld => ?_)
              · exact ⟨P6.c0, P6.c1, P6.c2⟩
              clear hK K
              try simp only [Act.put, List.setIfInBounds_toArray, List.set_cons_zero, List.set_cons_succ, List.getElem_toArray, List.getElem_cons_zero, List.getElem_cons_succ]
              clear v0 v1 v2 v3
              refine wpAnyH_ready (rs := [3]) (by kernel_rfl) (by simp) ?_
              refine AllReadyH.cons (o := _) rfl (fun K hK => ?_) AllReadyH.nil
              go_simp
              go_at_call 40; refine (CM'.out p a6 c c6 _ O6.sl o6.sl).mono ?_; rintro r w7 ⟨a7, c7, rfl, o7, hb7⟩
              have P7 := P6.below hb7
              have A7 := A6.below hb7
              have R7 := R6.below hb7
              have bel7 := bel_go bel6 hb7
              have B7 : ∀ g, a7 = some ⟨g, 0, none⟩ → g ≠ w3.heap.size := fun g hg => by
                rcases o7.block with ⟨e, _⟩ | ⟨g', e, h3, _⟩
                · rw [e] at hg; cases hg
                · rw [e] at hg; cases hg; have : w4.heap.size < w6.heap.size := lw6; omega
              refine hK.out _ _ ?_ (fun hHeld => ?_)
              · exact ⟨P7.c0, P7.c1, P7.c2⟩
              clear hK K
              try simp only [Act.put, List.setIfInBounds_toArray, List.set_cons_zero, List.set_cons_succ, List.getElem_toArray, List.getElem_cons_zero, List.getElem_cons_succ]
              refine wpAnyH_take (i := 4) (oi := _) (v := ?_) rfl (by kernel_rfl) (by kernel_rfl) (by kernel_rfl) (fun _ _ _ h => h) (Or.inl ⟨by rfl, ?_⟩) (by assumption) ?_
              rotate_left
              · (intro w hSw; (try dsimp only at hSw); (try obtain ⟨hS0, hS1, hS2⟩ := hSw); go_simp; try (with_reducible rfl))
              try simp only [Act.put, List.setIfInBounds_toArray, List.set_cons_zero, List.set_cons_succ, List.getElem_toArray, List.getElem_cons_zero, List.getElem_cons_succ]
              refine wpAnyH_take (i := 5) (oi := _) (v := ?_) rfl (by kernel_rfl) (by kernel_rfl) (by kernel_rfl) (fun _ _ _ h => h) (Or.inl ⟨by rfl, ?_⟩) (by assumption) ?_
              rotate_left
              · (intro w hSw; (try dsimp only at hSw); (try obtain ⟨hS0, hS1, hS2⟩ := hSw); go_simp; try (with_reducible rfl))
              try simp only [Act.put, List.setIfInBounds_toArray, List.set_cons_zero, List.set_cons_succ, List.getElem_toArray, List.getElem_cons_zero, List.getElem_cons_succ]
              refine wpAnyH_take (i := 6) (oi := _) (v := ?_) rfl (by kernel_rfl) (by kernel_rfl) (by kernel_rfl) (fun _ _ _ h => h) (Or.inl ⟨by rfl, ?_⟩) (by assumption) ?_
              rotate_left
              · (intro w hSw; (try dsimp only at hSw); (try obtain ⟨hS0, hS1, hS2⟩ := hSw); go_simp; try (with_reducible rfl))
              try simp only [Act.put, List.setIfInBounds_toArray, List.set_cons_zero, List.set_cons_succ, List.getElem_toArray, List.getElem_cons_zero, List.getElem_cons_succ]
              refine wpAnyH_ready (rs := [7]) (by kernel_rfl) (by simp) ?_
              refine AllReadyH.cons (o := _) rfl (fun K hK => ?_) AllReadyH.nil
              have B' := A7
              obtain ⟨v0, v1, v2, v3⟩ := B'
              go_simp
              refine hK.out _ _ ?_ (fun hHeld => ?_)
              · exact ⟨(P7.other (p := ⟨w3.heap.size, 0, none⟩) (by simp; omega) _).other (p := ⟨w3.heap.size, 1, none⟩) (by simp; omega) _ |>.c0, (P7.other (p := ⟨w3.heap.size, 0, none⟩) (by simp; omega) _).other (p := ⟨w3.heap.size, 1, none⟩) (by simp; omega) _ |>.c1, (P7.other (p := ⟨w3.heap.size, 0, none⟩) (by simp; omega) _).other (p := ⟨w3.heap.size, 1, none⟩) (by simp; omega) _ |>.c2⟩
              clear hK K
              try simp only [Act.put, List.setIfInBounds_toArray, List.set_cons_zero, List.set_cons_succ, List.getElem_toArray, List.getElem_cons_zero, List.getElem_cons_succ]
              refine wpAnyH_take (i := 8) (oi := _) (v := ?_) rfl (by kernel_rfl) (by kernel_rfl) (by kernel_rfl) (fun _ _ _ h => h) (Or.inl ⟨by rfl, ?_⟩) (by assumption) ?_
              rotate_left
              · (intro w hSw; (try dsimp only at hSw); (try obtain ⟨hS0, hS1, hS2⟩ := hSw); go_simp; try (with_reducible rfl))
              try simp only [Act.put, List.setIfInBounds_toArray, List.set_cons_zero, List.set_cons_succ, List.getElem_toArray, List.getElem_cons_zero, List.getElem_cons_succ]
              refine wpAnyH_done (by kernel_rfl) ?_ _
              go_wp2
              go_roundw
              case rel =>
                refine ⟨k + 1, a7, c7, by omega, by go_num, by rw [HS'.out], rfl, PRE3.out, ?_, ?_, ?_, B7, ?_⟩
                · exact (R7.other (p := ⟨w3.heap.size, 0, none⟩) (by simp; omega) _).other (p := ⟨w3.heap.size, 1, none⟩) (by simp; omega) _
                · exact R2.set A7 _ _
                · exact Own.base ((o7.setBelow (by simp; omega) _).setBelow (by simp; omega) _) (by omega)
                · exact (by repeat (first | (with_reducible refine Below.setCell ?_ ?_ _; rotate_left; focus (first | omega | (simp; done) | (simp; omega))) | (with_reducible exact Below.refl _ _) | (with_reducible refine Below.drew ?_) | (with_reducible refine bel_dn ?_ _) | (with_reducible refine bel_al ?_ _) | (with_reducible refine bel_go ?_ bel7) | (with_reducible refine Below.alloc ?_ ?_ _; rotate_left; focus (first | omega | (simp; done) | (simp; omega))) | (with_reducible refine Below.trans ?_ (Below.mono bel7 ?_); rotate_left; focus (first | omega | (simp; done) | (simp; omega)))))
              case measure => simp [intOf]; omega
    · obtain rfl : k = xs.length := by omega
      have hfa := finA_yes PRE.out
      clear hx3 CX CS CM HS H0 H1 HF HB PRE
      obtain ⟨f, hf⟩ : ∃ f, f = Nm.fits (qK fm xs xs.length) := ⟨_, rfl⟩
      have HY := hid (HO.out true f hfa.symm hf)
      have HDD := HD.out xs.length
      rw [← hf] at HDD ⊢
      clear hf hfa HO HD
      cases f with
      | false =>
        obtain ⟨r0, r1, r2, r3⟩ := R
        go_wp2
        refine bodyPost_ret (v := .tuple #[.agg #[.bool false, .slice none 0 0], .int .i64 0, .bool false]) (by simp [results, Tryd.results11, go_sem, r0, r1]) rfl (ansP_no (by rw [HY.out]; rfl) ?_)
        exact (by repeat (first | (with_reducible refine Below.setCell ?_ ?_ _; rotate_left; focus (first | omega | (simp; done) | (simp; omega))) | (with_reducible exact Below.refl _ _) | (with_reducible refine Below.drew ?_) | (with_reducible refine bel_dn ?_ _) | (with_reducible refine bel_al ?_ _) | (with_reducible refine bel_go ?_ hb) | (with_reducible refine Below.alloc ?_ ?_ _; rotate_left; focus (first | omega | (simp; done) | (simp; omega))) | (with_reducible refine Below.trans ?_ (Below.mono hb ?_); rotate_left; focus (first | omega | (simp; done) | (simp; omega)))))
      | true =>
        have HQ : zK fm xs xs.length = qK fm xs xs.length := by rw [← HDD]; rfl
        rw [HQ] at A O
        clear HDD HQ
        obtain ⟨v0, v1, v2, v3⟩ := A
        obtain ⟨r0, r1, r2, r3⟩ := R
        go_wp2
        refine bodyPost_ret (v := .tuple #[.agg #[.bool (Nm.wn (qK fm xs xs.length)), .slice p (Nm.wl (qK fm xs xs.length)).length c], .int .i64 (sK fm xs xs.length), .bool true]) (by simp [results, Tryd.results11, go_sem, r0, r1]) rfl (ansP_yes (by rw [HY.out]; rfl) ?_ ?_)
        · exact Own.base ((O.setBelow (by simp) _).setBelow (by simp) _) (by omega)
        · exact (by repeat (first | (with_reducible refine Below.setCell ?_ ?_ _; rotate_left; focus (first | omega | (simp; done) | (simp; omega))) | (with_reducible exact Below.refl _ _) | (with_reducible refine Below.drew ?_) | (with_reducible refine bel_dn ?_ _) | (with_reducible refine bel_al ?_ _) | (with_reducible refine bel_go ?_ hb) | (with_reducible refine Below.alloc ?_ ?_ _; rotate_left; focus (first | omega | (simp; done) | (simp; omega))) | (with_reducible refine Below.trans ?_ (Below.mono hb ?_); rotate_left; focus (first | omega | (simp; done) | (simp; omega)))))
theorem pri_all (fm : Int) (xs : List Int) (a : Option Addr) (cap : Nat) (w : World) (hT : Tab w) (hx : Sl .u64 w (.slice a xs.length cap) xs) (dx : D64 xs) (hl : xs.length ≤ 1048576) :
    Calls Tryd.prog 11 #[.int .i64 fm, .slice a xs.length cap] w fun r w' => AnsP w w' r fm xs := by
  cases hv : (vecC fm 0 xs == 0)
  · refine (pri_no1 fm xs a cap w hT hx dx hl hv).mono ?_
    rintro r w1 ⟨rfl, hb⟩
    exact ansP_no (by unfold prO; rw [hv]; rfl) hb
  · exact pri_yes fm xs a cap w hT hx dx hl hv
end Go.Proofs.YtdjfajjlmjkpdaaDoor
