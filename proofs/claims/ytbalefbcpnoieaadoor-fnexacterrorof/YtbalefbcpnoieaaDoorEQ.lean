/-
  What a sum lacks: by the specification.
-/
import Derived.Test.YtbalefbcpnoieaaDoorEO
import Derived.Deep.RegionHeld3
namespace Go.Proofs.YtbalefbcpnoieaaDoor
set_option linter.unusedVariables false
set_option linter.unusedSimpArgs false
open Go.RowKit Go.Deep
set_option maxHeartbeats 4000000 in
set_option maxRecDepth 100000 in
theorem errs_no1 (fm b : Int) (xs : List Int) (a : Option Addr) (cap : Nat) (w : World) (hx : Sl .u64 w (.slice a xs.length cap) xs) (hl : xs.length ≤ 1048576) (hv : (vecC fm 0 xs == 0) = false) :
    Calls Tryd.prog 12 #[.int .i64 fm, .slice a xs.length cap, .int .u64 b] w fun r w' => r = .returned (.tuple #[.agg #[.bool false, .slice none 0 0], .bool false]) ∧ Below w.heap.size w w' := by
  have CV := hid (fun w' h => evok_spec fm a cap xs w' h hl _ rfl)
  rw [hv] at CV
  clear hv
  have R := R2.new w (.bool false) (.slice none 0 0) 30
  go_enter Tryd.func12, Tryd.ntmps12
  go_wp2_with fail
  refine (CV.out _ (hx.alloc _)).mono ?_
  rintro r w1 ⟨rfl, hb1⟩
  obtain ⟨r0, r1, r2, r3⟩ := R.below hb1
  go_wp2
  refine bodyPost_ret (v := .tuple #[.agg #[.bool false, .slice none 0 0], .bool false]) (by simp [results, Tryd.results12, go_sem, r0, r1]) rfl ⟨rfl, ?_⟩
  exact (by repeat (first | (with_reducible refine Below.setCell ?_ ?_ _; rotate_left; focus (first | omega | (simp; done) | (simp; omega))) | (with_reducible exact Below.refl _ _) | (with_reducible refine Below.drew ?_) | (with_reducible refine bel_dn ?_ _) | (with_reducible refine bel_al ?_ _) | (with_reducible refine bel_go ?_ hb1) | (with_reducible refine Below.alloc ?_ ?_ _; rotate_left; focus (first | omega | (simp; done) | (simp; omega))) | (with_reducible refine Below.trans ?_ (Below.mono hb1 ?_); rotate_left; focus (first | omega | (simp; done) | (simp; omega)))))
set_option maxHeartbeats 4000000 in
set_option maxRecDepth 100000 in
theorem errs_no2 (fm b : Int) (xs : List Int) (a : Option Addr) (cap : Nat) (w : World) (x0 : 0 ≤ b) (x1 : b < 18446744073709551616) (hx : Sl .u64 w (.slice a xs.length cap) xs) (hl : xs.length ≤ 1048576) (hv : (vecC fm 0 xs == 0) = true) (hf : finB fm b = false) :
    Calls Tryd.prog 12 #[.int .i64 fm, .slice a xs.length cap, .int .u64 b] w fun r w' => r = .returned (.tuple #[.agg #[.bool false, .slice none 0 0], .bool false]) ∧ Below w.heap.size w w' := by
  have CV := hid (fun w' h => evok_spec fm a cap xs w' h hl _ rfl)
  have CF := hid (fun w' => spec_fin fm b w' x0 x1)
  rw [hv] at CV
  rw [hf] at CF
  clear hv hf
  have R := R2.new w (.bool false) (.slice none 0 0) 30
  go_enter Tryd.func12, Tryd.ntmps12
  go_wp2_with fail
  refine (CV.out _ (hx.alloc _)).mono ?_
  rintro r w1 ⟨rfl, hb1⟩
  go_wp2_with fail
  refine (CF.out _).mono ?_
  rintro r w2 ⟨rfl, hb2⟩
  obtain ⟨r0, r1, r2, r3⟩ := (R.below hb1).below hb2
  go_wp2
  refine bodyPost_ret (v := .tuple #[.agg #[.bool false, .slice none 0 0], .bool false]) (by simp [results, Tryd.results12, go_sem, r0, r1]) rfl ⟨rfl, ?_⟩
  exact (by repeat (first | (with_reducible refine Below.setCell ?_ ?_ _; rotate_left; focus (first | omega | (simp; done) | (simp; omega))) | (with_reducible exact Below.refl _ _) | (with_reducible refine Below.drew ?_) | (with_reducible refine bel_dn ?_ _) | (with_reducible refine bel_al ?_ _) | (with_reducible refine bel_go ?_ hb2) | (with_reducible refine bel_go ?_ hb1) | (with_reducible refine Below.alloc ?_ ?_ _; rotate_left; focus (first | omega | (simp; done) | (simp; omega))) | (with_reducible refine Below.trans ?_ (Below.mono hb2 ?_); rotate_left; focus (first | omega | (simp; done) | (simp; omega))) | (with_reducible refine Below.trans ?_ (Below.mono hb1 ?_); rotate_left; focus (first | omega | (simp; done) | (simp; omega)))))
set_option maxHeartbeats 16000000 in
set_option maxRecDepth 100000 in
theorem errs_yes (fm b : Int) (xs : List Int) (a : Option Addr) (cap : Nat) (w : World) (x0 : 0 ≤ b) (x1 : b < 18446744073709551616) (hx : Sl .u64 w (.slice a xs.length cap) xs) (dx : D64 xs) (hl : xs.length ≤ 1048576) (hf : finB fm b = true) (hv : (vecC fm 0 xs == 0) = true) :
    Calls Tryd.prog 12 #[.int .i64 fm, .slice a xs.length cap, .int .u64 b] w fun r w' => AnsE w w' r fm b xs := by
  have h300 := vec_300 hv
  have HO : Hid (∀ c, c = finA fm xs → eO fm b xs = c) := hid (fun c h => by rw [h]; unfold eO; rw [hv, hf]; rfl)
  obtain ⟨-, hx1, hx2, hx3⟩ := hx.cells
  have CV := hid (fun w' h => evok_spec fm a cap xs w' h hl _ rfl)
  have CF := hid (fun w' => spec_fin fm b w' x0 x1)
  have CU := hid (fun w' => l2units_any fm b w' hf x0 x1)
  rw [hf] at CF
  rw [hv] at CV
  have CN := hid (fun p c w' h => eneg_spec (unI fm b) p c w' h (un_len fm b))
  have CG := hid (fun k w' => spec_fin fm (xs.getD k 0) w' (dx.getD k).1 (dx.getD k).2)
  have CX := hid (fun k w' h => l2units_any fm (xs.getD k 0) w' h (dx.getD k).1 (dx.getD k).2)
  have CA := hid (fun k (hk : k < xs.length) p q c d w' h h' => eadd_spec (eK fm b xs k) (unI fm (xs.getD k 0)) p q c d w' h h' (eK_len fm b xs k (by omega)) (un_len fm _))
  have HK : Hid (eK fm b xs 0 = -unI fm b ∧ ∀ k, eK fm b xs (k + 1) = eK fm b xs k + unI fm (xs.getD k 0)) := hid ⟨rfl, fun _ => rfl⟩
  obtain ⟨G, hG⟩ : ∃ G, G = Nm.wn (unI fm b) := ⟨_, rfl⟩
  obtain ⟨L, hL⟩ : ∃ L, L = Nm.wl (unI fm b) := ⟨_, rfl⟩
  obtain ⟨G', hG'⟩ : ∃ G, G = Nm.wn (-unI fm b) := ⟨_, rfl⟩
  obtain ⟨L', hL'⟩ : ∃ L, L = Nm.wl (-unI fm b) := ⟨_, rfl⟩
  rw [← hG, ← hL] at CU
  rw [← hG, ← hL, ← hG', ← hL'] at CN
  have HG := hid hG'
  have HL := hid hL'
  clear hf hv hG hL hG' hL' dx
  have R := R2.new w (.bool false) (.slice none 0 0) 30
  go_enter Tryd.func12, Tryd.ntmps12
  go_wp2_with fail
  refine (CV.out _ (hx.alloc _)).mono ?_
  rintro r w1 ⟨rfl, hb1⟩
  go_wp2_with fail
  refine (CF.out _).mono ?_
  rintro r w2 ⟨rfl, hb2⟩
  go_wp2_with fail
  refine (CU.out _).mono ?_
  rintro r w2' ⟨a1, c1, rfl, o1, hb2'⟩
  have R1 := ((R.below hb1).below hb2).below hb2'
  have bel3 : Below w.heap.size w w2' := (by repeat (first | exact Below.refl _ _ | refine Below.drew ?_ | refine bel_dn ?_ _ | refine bel_al ?_ _ | refine bel_go ?_ hb2' | refine bel_go ?_ hb2 | refine bel_go ?_ hb1 | refine Below.setCell ?_ (by first | omega | (simp; done) | (simp; omega)) _ | refine Below.alloc ?_ (by first | omega | (simp; done) | (simp; omega)) _ | refine Below.trans ?_ (Below.mono hb2' (by first | omega | (simp; done) | (simp; omega))) | refine Below.trans ?_ (Below.mono hb2 (by first | omega | (simp; done) | (simp; omega))) | refine Below.trans ?_ (Below.mono hb1 (by first | omega | (simp; done) | (simp; omega)))))
  have lw2 : w.heap.size < w2'.heap.size := World.block_lt_of_cell? w2' _ R1.c0
  clear hb1 hb2 hb2' R
  go_wp2_with fail
  refine (CN.out a1 c1 _ o1.sl).mono ?_
  rintro r w3 ⟨a3, c3, rfl, o3, hb3⟩
  have lw3 := hb3.size
  have R3' := (R1.below hb3).alloc (.cells #[.bool G', .slice a3 L'.length c3] 30)
  have K3 := R2.new w3 (.bool G') (.slice a3 L'.length c3) 30
  have o4 := o3.alloc (.cells #[.bool G', .slice a3 L'.length c3] 30)
  have bel4 := bel_al (bel_go bel3 hb3) (.cells #[.bool G', .slice a3 L'.length c3] 30)
  have B3 : ∀ g, a3 = some ⟨g, 0, none⟩ → g ≠ w3.heap.size := fun g hg => by
    rcases o3.block with ⟨e, _⟩ | ⟨g', e, _, h3⟩
    · rw [e] at hg; cases hg
    · rw [e] at hg; cases hg; omega
  clear hb3 o3 R1 o1 bel3
  go_wp2_with fail
  go_loopw [9] (fun i wr => ∃ (k : Nat) (p : Option Addr) (c : Nat), k ≤ xs.length ∧ i = .int .i64 k ∧ (∀ j, j < k → finB fm (xs.getD j 0) = true) ∧ R2 wr w.heap.size (.bool false) (.slice none 0 0) ∧ R2 wr w3.heap.size (.bool (Nm.wn (eK fm b xs k))) (.slice p (Nm.wl (eK fm b xs k)).length c) ∧ Own wr (w.heap.size + 1) p c (Nm.wl (eK fm b xs k)) ∧ (∀ g, p = some ⟨g, 0, none⟩ → g ≠ w3.heap.size) ∧ Below w.heap.size w wr) (fun i _ => xs.length - (intOf i).toNat)
  case atStart =>
    refine ⟨0, a3, c3, Nat.zero_le _, rfl, fun j hj => absurd hj (Nat.not_lt_zero _), R3', ?_, ?_, B3, bel4⟩
    · rw [HK.out.1, ← HG.out, ← HL.out]; exact K3
    · rw [HK.out.1, ← HL.out]; exact Own.base o4 (by omega)
  case round =>
    clear R3' K3 o4 bel4 B3
    obtain ⟨k, p, c, hk, rfl, hpre, R, A, O, hne, hb⟩ := hrel
    have PRE := hid hpre
    clear hpre
    have lA : w3.heap.size < wr.heap.size := World.block_lt_of_cell? wr _ A.c0
    by_cases hlt : k < xs.length
    · obtain ⟨g, off, rfl, hcx⟩ := hx3 (by omega)
      have h1 := hcx k hlt
      have hgw : g < w.heap.size := World.block_lt_of_cell? w _ h1
      have hgn : g ≠ w3.heap.size := by omega
      have h1 : wr.cell? ⟨g, off + k, none⟩ = some (.int .u64 (xs.getD k 0)) := (hb.cell (p := ⟨g, off + k, none⟩) hgw).trans h1
      clear hx3 hcx
      have CG' := hid (fun w' => CG.out k w')
      have C := hid (fun (h : finB fm (xs.getD k 0) = true) w' => CX.out k w' h)
      have CA' := hid (fun p q c d w' h h' => CA.out k hlt p q c d w' h h')
      have HK' := hid (HK.out.2 k)
      have HNO := hid (finA_no (fm := fm) hlt)
      have PRE2 : Hid (finB fm (xs.getD k 0) = true → ∀ j, j < k + 1 → finB fm (xs.getD j 0) = true) := hid (fun h j hj => by
        by_cases e : j = k
        · subst e; exact h
        · exact PRE.out j (by omega))
      obtain ⟨x, hxk⟩ : ∃ x, x = xs.getD k 0 := ⟨_, rfl⟩
      obtain ⟨y, hy⟩ : ∃ y, y = unI fm x := ⟨_, rfl⟩
      obtain ⟨z, hz⟩ : ∃ z, z = eK fm b xs k := ⟨_, rfl⟩
      obtain ⟨z', hz'⟩ : ∃ z', z' = z + y := ⟨_, rfl⟩
      obtain ⟨o, hok⟩ : ∃ o, o = finB fm x := ⟨_, rfl⟩
      rw [← hxk] at h1 C CG' HNO CA' HK'
      rw [← hy, ← hok] at C
      rw [← hok] at HNO CG'
      rw [← hy, ← hz, ← hz'] at CA' HK'
      rw [← hz] at A O
      have PRE2 : Hid (o = true → ∀ j, j < k + 1 → finB fm (xs.getD j 0) = true) := hid (fun h => PRE2.out (by rw [← hxk, ← hok]; exact h))
      clear hxk hok hy hz hz' CX CG CA HK PRE
      cases o with
      | false =>
        have HN2 := hid (HNO.out rfl)
        clear PRE2 HNO C
        go_wp2_with fail
        refine (CG'.out _).mono ?_
        rintro e w4 ⟨rfl, hb5⟩
        have bel5 := bel_go hb hb5
        obtain ⟨r0, r1, r2, r3⟩ := R.below hb5
        go_wp2
        refine bodyPost_ret (v := .tuple #[.agg #[.bool false, .slice none 0 0], .bool false]) (by simp [results, Tryd.results12, go_sem, r0, r1]) rfl (ansE_no (HO.out false HN2.out.symm) ?_)
        exact (by repeat (first | (with_reducible refine Below.setCell ?_ ?_ _; rotate_left; focus (first | omega | (simp; done) | (simp; omega))) | (with_reducible exact Below.refl _ _) | (with_reducible refine Below.drew ?_) | (with_reducible refine bel_dn ?_ _) | (with_reducible refine bel_al ?_ _) | (with_reducible refine bel_go ?_ bel5) | (with_reducible refine Below.alloc ?_ ?_ _; rotate_left; focus (first | omega | (simp; done) | (simp; omega))) | (with_reducible refine Below.trans ?_ (Below.mono bel5 ?_); rotate_left; focus (first | omega | (simp; done) | (simp; omega)))))
      | true =>
        have PRE3 := hid (PRE2.out rfl)
        have CC := hid (fun w' => C.out rfl w')
        clear PRE2 HNO C
        go_wp2_with fail
        refine (CG'.out _).mono ?_
        rintro e wq ⟨rfl, hbq⟩
        have h1 : wq.cell? ⟨g, off + k, none⟩ = some (.int .u64 x) := (hbq.cell (p := ⟨g, off + k, none⟩) (World.block_lt_of_cell? wr _ h1)).trans h1
        have lwq := hbq.size
        replace A := A.below hbq
        replace R := R.below hbq
        replace O := O.below hbq
        replace hb := bel_go hb hbq
        clear hbq
        have hbl : g < wq.drew.heap.size := World.block_lt_of_cell? wq _ h1
        go_upto_region 9 with fail
        refine wp_region_held_drew (S := fun w' => w'.cell? ⟨g, off + k, none⟩ = some (.int .u64 x)) (by kernel_rfl) ?_ (fun hHeld => ?_)
        · exact h1
        refine wpAnyH_take (i := 1) (oi := _) (v := ?_) rfl (by kernel_rfl) (by kernel_rfl) (by kernel_rfl) (fun _ _ _ h => h) (Or.inl ⟨by rfl, ?_⟩) (by assumption) ?_
        rotate_left
        · (intro w hSw; (try dsimp only at hSw); go_simp; try (with_reducible rfl))
        try simp only [Act.put, List.setIfInBounds_toArray, List.set_cons_zero, List.set_cons_succ]
        refine wpAnyH_take (i := 2) (oi := _) (v := ?_) rfl (by kernel_rfl) (by kernel_rfl) (by kernel_rfl) (fun _ _ _ h => h) (Or.inl ⟨by rfl, ?_⟩) (by assumption) ?_
        rotate_left
        · (intro w hSw; (try dsimp only at hSw); go_simp; try (with_reducible rfl))
        try simp only [Act.put, List.setIfInBounds_toArray, List.set_cons_zero, List.set_cons_succ]
        refine wpAnyH_take (i := 3) (oi := _) (v := ?_) rfl (by kernel_rfl) (by kernel_rfl) (by kernel_rfl) (fun _ _ _ h => h) (Or.inl ⟨by rfl, ?_⟩) (by assumption) ?_
        rotate_left
        · (intro w hSw; (try dsimp only at hSw); go_simp; try (with_reducible rfl))
        try simp only [Act.put, List.setIfInBounds_toArray, List.set_cons_zero, List.set_cons_succ]
        refine wpAnyH_take (i := 4) (oi := _) (v := ?_) rfl (by kernel_rfl) (by kernel_rfl) (by kernel_rfl) (fun _ _ _ h => h) (Or.inl ⟨by rfl, ?_⟩) (by assumption) ?_
        rotate_left
        · (intro w hSw; (try dsimp only at hSw); go_simp; try (with_reducible rfl))
        try simp only [Act.put, List.setIfInBounds_toArray, List.set_cons_zero, List.set_cons_succ]
        refine wpAnyH_take (i := 5) (oi := _) (v := ?_) rfl (by kernel_rfl) (by kernel_rfl) (by kernel_rfl) (fun _ _ _ h => h) (Or.inl ⟨by rfl, ?_⟩) (by assumption) ?_
        rotate_left
        · (intro w hSw; (try dsimp only at hSw); go_simp; try (with_reducible rfl))
        try simp only [Act.put, List.setIfInBounds_toArray, List.set_cons_zero, List.set_cons_succ]
        refine wpAnyH_ready (rs := [0, 6]) (by kernel_rfl) (by simp) ?_
        refine AllReadyH.cons (o := _) rfl (fun K hK => ?_) (AllReadyH.cons (o := _) rfl (fun K hK => ?_) AllReadyH.nil)
        · have B' := A.drew
          obtain ⟨v0, v1, v2, v3⟩ := B'
          go_simp
          refine hK.out _ _ ?_ (fun hHeld => ?_)
          · exact h1
          clear hK K
          try simp only [Act.put, List.setIfInBounds_toArray, List.set_cons_zero, List.set_cons_succ]
          clear v0 v1 v2 v3
          refine wpAnyH_ready (rs := [6]) (by kernel_rfl) (by simp) ?_
          refine AllReadyH.cons (o := _) rfl (fun K hK => ?_) AllReadyH.nil
          go_simp
          go_at_call 32; refine (CC.out _).mono ?_; rintro r w4 ⟨a4, c4, rfl, o4, hb4⟩
          have h2 : w4.cell? ⟨g, off + k, none⟩ = some (.int .u64 x) := (hb4.cell (p := ⟨g, off + k, none⟩) hbl).trans h1
          have A4 := A.drew.below hb4
          have R4 := R.drew.below hb4
          have O4 := O.drew.below hb4
          have lw4 := hb4.size
          have lw4' : wq.heap.size ≤ w4.heap.size := lw4
          have bel4 : Below w.heap.size w w4 := bel_go (Below.drew hb) hb4
          refine hK.out _ _ ?_ (fun hHeld => ?_)
          · exact h2
          clear hK K
          try simp only [Act.put, List.setIfInBounds_toArray, List.set_cons_zero, List.set_cons_succ]
          refine wpAnyH_ready (rs := [7]) (by kernel_rfl) (by simp) ?_
          refine AllReadyH.cons (o := _) rfl (fun K hK => ?_) AllReadyH.nil
          go_simp
          go_at_call 42; refine (CA'.out p a4 c c4 _ O4.sl o4.sl).mono ?_; rintro r w5 ⟨a5, c5, rfl, o5, hb5⟩
          have h3 : w5.cell? ⟨g, off + k, none⟩ = some (.int .u64 x) := (hb5.cell (p := ⟨g, off + k, none⟩) (Nat.lt_of_lt_of_le hbl lw4)).trans h2
          have A5 := A4.below hb5
          have R5 := R4.below hb5
          have lw5 := hb5.size
          have bel5 := bel_go bel4 hb5
          have B5 : ∀ g, a5 = some ⟨g, 0, none⟩ → g ≠ w3.heap.size := fun g hg => by
            rcases o5.block with ⟨e, _⟩ | ⟨g', e, h3, _⟩
            · rw [e] at hg; cases hg
            · rw [e] at hg; cases hg; omega
          refine hK.out _ _ ?_ (fun hHeld => ?_)
          · exact h3
          clear hK K
          try simp only [Act.put, List.setIfInBounds_toArray, List.set_cons_zero, List.set_cons_succ]
          refine wpAnyH_ready (rs := [8]) (by kernel_rfl) (by simp) ?_
          refine AllReadyH.cons (o := _) rfl (fun K hK => ?_) AllReadyH.nil
          have A5' := A5
          obtain ⟨v0, v1, v2, v3⟩ := A5'
          go_simp
          refine hK.out _ _ ?_ (fun hHeld => ?_)
          · exact (World.cell?_of_block (a := ⟨g, off + k, none⟩) ((Below.heap_setCell _ _ _ _ hgn).trans (Below.heap_setCell _ _ _ _ hgn))).trans h3
          clear hK K
          try simp only [Act.put, List.setIfInBounds_toArray, List.set_cons_zero, List.set_cons_succ]
          refine wpAnyH_done (by kernel_rfl) ?_ _
          go_wp2
          go_roundw
          case rel =>
            refine ⟨k + 1, a5, c5, by omega, by go_num, PRE3.out, ?_, ?_, ?_, B5, ?_⟩
            · exact (R5.other (p := ⟨w3.heap.size, 0, none⟩) (by simp; omega) _).other (p := ⟨w3.heap.size, 1, none⟩) (by simp; omega) _
            · rw [HK'.out]; exact R2.set A5 _ _
            · rw [HK'.out]
              exact Own.base ((o5.setBelow (by simp; omega) _).setBelow (by simp; omega) _) (by omega)
            · exact (by repeat (first | (with_reducible refine Below.setCell ?_ ?_ _; rotate_left; focus (first | omega | (simp; done) | (simp; omega))) | (with_reducible exact Below.refl _ _) | (with_reducible refine Below.drew ?_) | (with_reducible refine bel_dn ?_ _) | (with_reducible refine bel_al ?_ _) | (with_reducible refine bel_go ?_ bel5) | (with_reducible refine Below.alloc ?_ ?_ _; rotate_left; focus (first | omega | (simp; done) | (simp; omega))) | (with_reducible refine Below.trans ?_ (Below.mono bel5 ?_); rotate_left; focus (first | omega | (simp; done) | (simp; omega)))))
          case measure => simp [intOf]; omega
        · go_simp
          go_at_call 32; refine (CC.out _).mono ?_; rintro r w4 ⟨a4, c4, rfl, o4, hb4⟩
          have h2 : w4.cell? ⟨g, off + k, none⟩ = some (.int .u64 x) := (hb4.cell (p := ⟨g, off + k, none⟩) hbl).trans h1
          have A4 := A.drew.below hb4
          have R4 := R.drew.below hb4
          have O4 := O.drew.below hb4
          have lw4 := hb4.size
          have lw4' : wq.heap.size ≤ w4.heap.size := lw4
          have bel4 : Below w.heap.size w w4 := bel_go (Below.drew hb) hb4
          refine hK.out _ _ ?_ (fun hHeld => ?_)
          · exact h2
          clear hK K
          try simp only [Act.put, List.setIfInBounds_toArray, List.set_cons_zero, List.set_cons_succ]
          refine wpAnyH_ready (rs := [0]) (by kernel_rfl) (by simp) ?_
          refine AllReadyH.cons (o := _) rfl (fun K hK => ?_) AllReadyH.nil
          have B' := A4
          obtain ⟨v0, v1, v2, v3⟩ := B'
          go_simp
          refine hK.out _ _ ?_ (fun hHeld => ?_)
          · exact h2
          clear hK K
          try simp only [Act.put, List.setIfInBounds_toArray, List.set_cons_zero, List.set_cons_succ]
          clear v0 v1 v2 v3
          refine wpAnyH_ready (rs := [7]) (by kernel_rfl) (by simp) ?_
          refine AllReadyH.cons (o := _) rfl (fun K hK => ?_) AllReadyH.nil
          go_simp
          go_at_call 42; refine (CA'.out p a4 c c4 _ O4.sl o4.sl).mono ?_; rintro r w5 ⟨a5, c5, rfl, o5, hb5⟩
          have h3 : w5.cell? ⟨g, off + k, none⟩ = some (.int .u64 x) := (hb5.cell (p := ⟨g, off + k, none⟩) (Nat.lt_of_lt_of_le hbl lw4)).trans h2
          have A5 := A4.below hb5
          have R5 := R4.below hb5
          have lw5 := hb5.size
          have bel5 := bel_go bel4 hb5
          have B5 : ∀ g, a5 = some ⟨g, 0, none⟩ → g ≠ w3.heap.size := fun g hg => by
            rcases o5.block with ⟨e, _⟩ | ⟨g', e, h3, _⟩
            · rw [e] at hg; cases hg
            · rw [e] at hg; cases hg; omega
          refine hK.out _ _ ?_ (fun hHeld => ?_)
          · exact h3
          clear hK K
          try simp only [Act.put, List.setIfInBounds_toArray, List.set_cons_zero, List.set_cons_succ]
          refine wpAnyH_ready (rs := [8]) (by kernel_rfl) (by simp) ?_
          refine AllReadyH.cons (o := _) rfl (fun K hK => ?_) AllReadyH.nil
          have A5' := A5
          obtain ⟨v0, v1, v2, v3⟩ := A5'
          go_simp
          refine hK.out _ _ ?_ (fun hHeld => ?_)
          · exact (World.cell?_of_block (a := ⟨g, off + k, none⟩) ((Below.heap_setCell _ _ _ _ hgn).trans (Below.heap_setCell _ _ _ _ hgn))).trans h3
          clear hK K
          try simp only [Act.put, List.setIfInBounds_toArray, List.set_cons_zero, List.set_cons_succ]
          refine wpAnyH_done (by kernel_rfl) ?_ _
          go_wp2
          go_roundw
          case rel =>
            refine ⟨k + 1, a5, c5, by omega, by go_num, PRE3.out, ?_, ?_, ?_, B5, ?_⟩
            · exact (R5.other (p := ⟨w3.heap.size, 0, none⟩) (by simp; omega) _).other (p := ⟨w3.heap.size, 1, none⟩) (by simp; omega) _
            · rw [HK'.out]; exact R2.set A5 _ _
            · rw [HK'.out]
              exact Own.base ((o5.setBelow (by simp; omega) _).setBelow (by simp; omega) _) (by omega)
            · exact (by repeat (first | (with_reducible refine Below.setCell ?_ ?_ _; rotate_left; focus (first | omega | (simp; done) | (simp; omega))) | (with_reducible exact Below.refl _ _) | (with_reducible refine Below.drew ?_) | (with_reducible refine bel_dn ?_ _) | (with_reducible refine bel_al ?_ _) | (with_reducible refine bel_go ?_ bel5) | (with_reducible refine Below.alloc ?_ ?_ _; rotate_left; focus (first | omega | (simp; done) | (simp; omega))) | (with_reducible refine Below.trans ?_ (Below.mono bel5 ?_); rotate_left; focus (first | omega | (simp; done) | (simp; omega)))))
          case measure => simp [intOf]; omega
    · obtain rfl : k = xs.length := by omega
      have HY := hid (HO.out true (finA_yes PRE.out).symm)
      clear hx3 CX CG CA HK PRE
      obtain ⟨v0, v1, v2, v3⟩ := A
      obtain ⟨r0, r1, r2, r3⟩ := R
      go_wp2
      refine bodyPost_ret (v := .tuple #[.agg #[.bool (Nm.wn (eK fm b xs xs.length)), .slice p (Nm.wl (eK fm b xs xs.length)).length c], .bool true]) (by simp [results, Tryd.results12, go_sem, r0, r1]) rfl (ansE_yes HY.out ?_ ?_)
      · exact Own.base ((O.setBelow (by simp) _).setBelow (by simp) _) (by omega)
      · exact (by repeat (first | (with_reducible refine Below.setCell ?_ ?_ _; rotate_left; focus (first | omega | (simp; done) | (simp; omega))) | (with_reducible exact Below.refl _ _) | (with_reducible refine Below.drew ?_) | (with_reducible refine bel_dn ?_ _) | (with_reducible refine bel_al ?_ _) | (with_reducible refine bel_go ?_ hb) | (with_reducible refine Below.alloc ?_ ?_ _; rotate_left; focus (first | omega | (simp; done) | (simp; omega))) | (with_reducible refine Below.trans ?_ (Below.mono hb ?_); rotate_left; focus (first | omega | (simp; done) | (simp; omega)))))
theorem errs_all (fm b : Int) (xs : List Int) (a : Option Addr) (cap : Nat) (w : World) (x0 : 0 ≤ b) (x1 : b < 18446744073709551616) (hx : Sl .u64 w (.slice a xs.length cap) xs) (dx : D64 xs) (hl : xs.length ≤ 1048576) :
    Calls Tryd.prog 12 #[.int .i64 fm, .slice a xs.length cap, .int .u64 b] w fun r w' => AnsE w w' r fm b xs := by
  cases hv : (vecC fm 0 xs == 0)
  · refine (errs_no1 fm b xs a cap w hx hl hv).mono ?_
    rintro r w1 ⟨rfl, hb⟩
    exact ansE_no (by unfold eO; rw [hv]; rfl) hb
  · cases hf : finB fm b
    · refine (errs_no2 fm b xs a cap w x0 x1 hx hl hv hf).mono ?_
      rintro r w1 ⟨rfl, hb⟩
      exact ansE_no (by unfold eO; rw [hf, Bool.and_false, Bool.false_and]) hb
    · exact errs_yes fm b xs a cap w x0 x1 hx dx hl hf hv
end Go.Proofs.YtbalefbcpnoieaaDoor
