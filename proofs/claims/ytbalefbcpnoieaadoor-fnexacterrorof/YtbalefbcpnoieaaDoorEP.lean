/-
  What a sum lacks: by the program.
-/
import Derived.Test.YtbalefbcpnoieaaDoorEO
namespace Go.Proofs.YtbalefbcpnoieaaDoor
set_option linter.unusedVariables false
set_option linter.unusedSimpArgs false
open Go.RowKit Go.Deep
set_option maxHeartbeats 4000000 in
set_option maxRecDepth 100000 in
theorem erri_no1 (fm b : Int) (xs : List Int) (a : Option Addr) (cap : Nat) (w : World) (hT : Tab w) (x0 : 0 ≤ b) (x1 : b < 18446744073709551616) (hf : finB fm b = false) :
    Calls Tryd.prog 14 #[.int .i64 fm, .slice a xs.length cap, .int .u64 b] w fun r w' => r = .returned (.tuple #[.agg #[.bool false, .slice none 0 0], .bool false]) ∧ Below w.heap.size w w' := by
  have CU := hid (fun w' h => units_impl fm b w' h x0 x1)
  unfold Ans at CU
  rw [hf] at CU
  obtain ⟨G, hG⟩ : ∃ G, G = Nm.wn (unI fm b) := ⟨_, rfl⟩
  obtain ⟨L, hL⟩ : ∃ L, L = Nm.wl (unI fm b) := ⟨_, rfl⟩
  rw [← hG, ← hL] at CU
  clear hG hL hf
  have R := R2.new w (.bool false) (.slice none 0 0) 30
  go_enter Tryd.func14, Tryd.ntmps14
  go_wp2_with fail
  refine (CU.out _ (hT.al _)).mono ?_
  rintro r w1 ⟨a1, c1, rfl, ho1, hb1⟩
  have R1 := R.below hb1
  have lw1 : w.heap.size < w1.heap.size := by have := hb1.size; simp at this; omega
  obtain ⟨c0, c1', f0, f1⟩ := R1
  go_wp2
  refine bodyPost_ret (v := .tuple #[.agg #[.bool false, .slice none 0 0], .bool false]) (by simp [results, Tryd.results14, go_sem, c0, c1', lw1]) rfl ⟨rfl, ?_⟩
  exact (by repeat (first | (with_reducible refine Below.setCell ?_ ?_ _; rotate_left; focus (first | omega | (simp; done) | (simp; omega))) | (with_reducible exact Below.refl _ _) | (with_reducible refine Below.drew ?_) | (with_reducible refine bel_dn ?_ _) | (with_reducible refine bel_al ?_ _) | (with_reducible refine bel_go ?_ hb1) | (with_reducible refine Below.alloc ?_ ?_ _; rotate_left; focus (first | omega | (simp; done) | (simp; omega))) | (with_reducible refine Below.trans ?_ (Below.mono hb1 ?_); rotate_left; focus (first | omega | (simp; done) | (simp; omega)))))
set_option maxHeartbeats 4000000 in
set_option maxRecDepth 100000 in
theorem erri_no2 (fm b : Int) (xs : List Int) (a : Option Addr) (cap : Nat) (w : World) (hT : Tab w) (x0 : 0 ≤ b) (x1 : b < 18446744073709551616) (hx : Sl .u64 w (.slice a xs.length cap) xs) (dx : D64 xs) (hl : xs.length ≤ 1048576) (hf : finB fm b = true) (hv : (vecC fm 0 xs == 0) = false) :
    Calls Tryd.prog 14 #[.int .i64 fm, .slice a xs.length cap, .int .u64 b] w fun r w' => r = .returned (.tuple #[.agg #[.bool false, .slice none 0 0], .bool false]) ∧ Below w.heap.size w w' := by
  have CU := hid (fun w' h => units_impl fm b w' h x0 x1)
  unfold Ans at CU
  have CV := hid (fun w' h h' => evok_impl fm a cap xs w' h h' dx hl _ rfl)
  rw [hf] at CU
  rw [hv] at CV
  obtain ⟨G, hG⟩ : ∃ G, G = Nm.wn (unI fm b) := ⟨_, rfl⟩
  obtain ⟨L, hL⟩ : ∃ L, L = Nm.wl (unI fm b) := ⟨_, rfl⟩
  rw [← hG, ← hL] at CU
  clear hf hv hG hL dx
  have R := R2.new w (.bool false) (.slice none 0 0) 30
  go_enter Tryd.func14, Tryd.ntmps14
  go_wp2_with fail
  refine (CU.out _ (hT.al _)).mono ?_
  rintro r w1 ⟨a1, c1, rfl, ho1, hb1⟩
  have R1 := (R.below hb1).alloc (.cells #[.bool G, .slice a1 L.length c1] 30)
  have bel1 : Below w.heap.size w w1 := (by repeat (first | exact Below.refl _ _ | refine Below.drew ?_ | refine bel_dn ?_ _ | refine bel_al ?_ _ | refine bel_go ?_ hb1 | refine Below.setCell ?_ (by first | omega | (simp; done) | (simp; omega)) _ | refine Below.alloc ?_ (by first | omega | (simp; done) | (simp; omega)) _ | refine Below.trans ?_ (Below.mono hb1 (by first | omega | (simp; done) | (simp; omega)))))
  have bel2 := bel_al bel1 (.cells #[.bool G, .slice a1 L.length c1] 30)
  clear hb1
  go_wp2_with fail
  refine (CV.out _ (hT.below bel2) (hx.below bel2)).mono ?_
  rintro r w2 ⟨rfl, hb2⟩
  obtain ⟨c0, c1', f0, f1⟩ := R1.below hb2
  have bel3 := bel_go bel2 hb2
  go_wp2
  refine bodyPost_ret (v := .tuple #[.agg #[.bool false, .slice none 0 0], .bool false]) (by simp [results, Tryd.results14, go_sem, c0, c1']) rfl ⟨rfl, ?_⟩
  exact (by repeat (first | (with_reducible refine Below.setCell ?_ ?_ _; rotate_left; focus (first | omega | (simp; done) | (simp; omega))) | (with_reducible exact Below.refl _ _) | (with_reducible refine Below.drew ?_) | (with_reducible refine bel_dn ?_ _) | (with_reducible refine bel_al ?_ _) | (with_reducible refine bel_go ?_ bel3) | (with_reducible refine Below.alloc ?_ ?_ _; rotate_left; focus (first | omega | (simp; done) | (simp; omega))) | (with_reducible refine Below.trans ?_ (Below.mono bel3 ?_); rotate_left; focus (first | omega | (simp; done) | (simp; omega)))))
set_option maxHeartbeats 16000000 in
set_option maxRecDepth 100000 in
theorem erri_yes (fm b : Int) (xs : List Int) (a : Option Addr) (cap : Nat) (w : World) (hT : Tab w) (x0 : 0 ≤ b) (x1 : b < 18446744073709551616) (hx : Sl .u64 w (.slice a xs.length cap) xs) (dx : D64 xs) (hl : xs.length ≤ 1048576) (hf : finB fm b = true) (hv : (vecC fm 0 xs == 0) = true) :
    Calls Tryd.prog 14 #[.int .i64 fm, .slice a xs.length cap, .int .u64 b] w fun r w' => AnsE w w' r fm b xs := by
  have h300 := vec_300 hv
  have HO : Hid (∀ c, c = finA fm xs → eO fm b xs = c) := hid (fun c h => by rw [h]; unfold eO; rw [hv, hf]; rfl)
  obtain ⟨-, hx1, hx2, hx3⟩ := hx.cells
  have CU := hid (fun w' h => units_impl fm b w' h x0 x1)
  unfold Ans at CU
  have CV := hid (fun w' h h' => evok_impl fm a cap xs w' h h' dx hl _ rfl)
  rw [hf] at CU
  rw [hv] at CV
  have CN := hid (fun p c w' h => eneg_impl (unI fm b) p c w' h (un_len fm b))
  have CX := hid (fun k w' h => units_impl fm (xs.getD k 0) w' h (dx.getD k).1 (dx.getD k).2)
  unfold Ans at CX
  have CA := hid (fun k (hk : k < xs.length) p q c d w' h h' => eadd_impl (eK fm b xs k) (unI fm (xs.getD k 0)) p q c d w' h h' (eK_len fm b xs k (by omega)) (un_len fm _) (eK_len fm b xs (k + 1) (by omega)))
  have HK : Hid (eK fm b xs 0 = -unI fm b ∧ ∀ k, eK fm b xs (k + 1) = eK fm b xs k + unI fm (xs.getD k 0)) := hid ⟨rfl, fun _ => rfl⟩
  obtain ⟨G, hG⟩ : ∃ G, G = Nm.wn (unI fm b) := ⟨_, rfl⟩
  obtain ⟨L, hL⟩ : ∃ L, L = Nm.wl (unI fm b) := ⟨_, rfl⟩
  obtain ⟨G', hG'⟩ : ∃ G, G = Nm.wn (-unI fm b) := ⟨_, rfl⟩
  obtain ⟨L', hL'⟩ : ∃ L, L = Nm.wl (-unI fm b) := ⟨_, rfl⟩
  rw [← hG, ← hL] at CU
  rw [← hG, ← hL, ← hG', ← hL'] at CN
  have HG := hid hG'
  have HL := hid hL'
  clear hf hv hG hL hG' hL' dx
  have R := R2.new w (.bool false) (.slice none 0 0) 30
  go_enter Tryd.func14, Tryd.ntmps14
  go_wp2_with fail
  refine (CU.out _ (hT.al _)).mono ?_
  rintro r w1 ⟨a1, c1, rfl, ho1, hb1⟩
  have R1 := (R.below hb1).alloc (.cells #[.bool G, .slice a1 L.length c1] 30)
  have O1 := R2.new w1 (.bool G) (.slice a1 L.length c1) 30
  have o1 := ho1.alloc (.cells #[.bool G, .slice a1 L.length c1] 30)
  have bel1 : Below w.heap.size w w1 := (by repeat (first | exact Below.refl _ _ | refine Below.drew ?_ | refine bel_dn ?_ _ | refine bel_al ?_ _ | refine bel_go ?_ hb1 | refine Below.setCell ?_ (by first | omega | (simp; done) | (simp; omega)) _ | refine Below.alloc ?_ (by first | omega | (simp; done) | (simp; omega)) _ | refine Below.trans ?_ (Below.mono hb1 (by first | omega | (simp; done) | (simp; omega)))))
  have bel2 := bel_al bel1 (.cells #[.bool G, .slice a1 L.length c1] 30)
  have lw1 : w.heap.size < w1.heap.size := by have := hb1.size; simp at this; omega
  clear hb1 ho1
  go_wp2_with fail
  refine (CV.out _ (hT.below bel2) (hx.below bel2)).mono ?_
  rintro r w2 ⟨rfl, hb2⟩
  have R2' := R1.below hb2
  have O2 := O1.below hb2
  have o2 := o1.below hb2
  have bel3 := bel_go bel2 hb2
  have lw2 : w1.heap.size < w2.heap.size := by have := hb2.size; simp at this; omega
  obtain ⟨d0, d1, d2, d3⟩ := O2
  clear hb2
  go_wp2_with fail
  refine (CN.out a1 c1 _ o2.sl).mono ?_
  rintro r w3 ⟨a3, c3, rfl, o3, hb3⟩
  clear d0 d1 d2 d3
  have lw3 := hb3.size
  have R3' := (R2'.below hb3).alloc (.cells #[.bool G', .slice a3 L'.length c3] 30)
  have K3 := R2.new w3 (.bool G') (.slice a3 L'.length c3) 30
  have o4 := o3.alloc (.cells #[.bool G', .slice a3 L'.length c3] 30)
  have bel4 := bel_al (bel_go bel3 hb3) (.cells #[.bool G', .slice a3 L'.length c3] 30)
  have B3 : ∀ g, a3 = some ⟨g, 0, none⟩ → g ≠ w3.heap.size := fun g hg => by
    rcases o3.block with ⟨e, _⟩ | ⟨g', e, _, h3⟩
    · rw [e] at hg; cases hg
    · rw [e] at hg; cases hg; omega
  clear hb3 o3 R1 R2' O1 o1 o2 bel1 bel2 bel3
  go_wp2_with fail
  go_loopw [34] (fun i wr => ∃ (k : Nat) (p : Option Addr) (c : Nat), k ≤ xs.length ∧ i = .int .i64 k ∧ (∀ j, j < k → finB fm (xs.getD j 0) = true) ∧ R2 wr w.heap.size (.bool false) (.slice none 0 0) ∧ R2 wr w3.heap.size (.bool (Nm.wn (eK fm b xs k))) (.slice p (Nm.wl (eK fm b xs k)).length c) ∧ Own wr (w.heap.size + 1) p c (Nm.wl (eK fm b xs k)) ∧ (∀ g, p = some ⟨g, 0, none⟩ → g ≠ w3.heap.size) ∧ Below w.heap.size w wr) (fun i _ => xs.length - (intOf i).toNat)
  case atStart =>
    refine ⟨0, a3, c3, Nat.zero_le _, rfl, fun j hj => absurd hj (Nat.not_lt_zero _), R3', ?_, ?_, ?_, bel4⟩
    · rw [HK.out.1, ← HG.out, ← HL.out]; exact K3
    · rw [HK.out.1, ← HL.out]; exact Own.base o4 (by omega)
    · exact B3
  case round =>
    clear R3' K3 o4 bel4 B3
    obtain ⟨k, p, c, hk, rfl, hpre, R, A, O, hne, hb⟩ := hrel
    have PRE := hid hpre
    clear hpre
    have lA : w3.heap.size < wr.heap.size := World.block_lt_of_cell? wr _ A.c0
    by_cases hlt : k < xs.length
    · obtain ⟨g, off, rfl, hcx⟩ := hx3 (by omega)
      have h1 := hcx k hlt
      have h1 : wr.cell? ⟨g, off + k, none⟩ = some (.int .u64 (xs.getD k 0)) := (hb.cell (p := ⟨g, off + k, none⟩) (World.block_lt_of_cell? w _ h1)).trans h1
      clear hx3 hcx
      have C := hid (fun w' h => CX.out k w' h)
      have CA' := hid (fun p q c d w' h h' => CA.out k hlt p q c d w' h h')
      have HK' := hid (HK.out.2 k)
      have HNO := hid (finA_no (fm := fm) hlt)
      have PRE2 : Hid (finB fm (xs.getD k 0) = true → ∀ j, j < k + 1 → finB fm (xs.getD j 0) = true) := hid (fun h j hj => by
        by_cases e : j = k
        · subst e; exact h
        · exact PRE.out j (by omega))
      obtain ⟨x, hxk⟩ : ∃ x, x = xs.getD k 0 := ⟨_, rfl⟩
      obtain ⟨y, hy⟩ : ∃ y, y = unI fm x := ⟨_, rfl⟩
      obtain ⟨z, hz⟩ : ∃ z, z = eK fm b xs k := ⟨_, rfl⟩
      obtain ⟨z', hz'⟩ : ∃ z', z' = z + y := ⟨_, rfl⟩
      obtain ⟨o, hok⟩ : ∃ o, o = finB fm x := ⟨_, rfl⟩
      rw [← hxk] at h1 C HNO CA' HK'
      rw [← hy, ← hok] at C
      rw [← hok] at HNO
      rw [← hy, ← hz, ← hz'] at CA' HK'
      rw [← hz] at A O
      have PRE2 : Hid (o = true → ∀ j, j < k + 1 → finB fm (xs.getD j 0) = true) := hid (fun h => PRE2.out (by rw [← hxk, ← hok]; exact h))
      clear hxk hok hy hz hz' CX CA HK PRE
      cases o with
      | false =>
        have HN2 := hid (HNO.out rfl)
        clear PRE2 HNO
        go_wp2_with fail
        refine (C.out _ (hT.below hb)).mono ?_
        rintro e w4 ⟨a4, c4, rfl, o5, hb5⟩
        have bel5 := bel_go hb hb5
        obtain ⟨r0, r1, r2, r3⟩ := (R.below hb5).alloc (.cells #[.bool (Nm.wn y), .slice a4 (Nm.wl y).length c4] 30)
        go_wp2
        refine bodyPost_ret (v := .tuple #[.agg #[.bool false, .slice none 0 0], .bool false]) (by simp [results, Tryd.results14, go_sem, r0, r1]) rfl (ansE_no (HO.out false HN2.out.symm) ?_)
        exact (by repeat (first | (with_reducible refine Below.setCell ?_ ?_ _; rotate_left; focus (first | omega | (simp; done) | (simp; omega))) | (with_reducible exact Below.refl _ _) | (with_reducible refine Below.drew ?_) | (with_reducible refine bel_dn ?_ _) | (with_reducible refine bel_al ?_ _) | (with_reducible refine bel_go ?_ bel5) | (with_reducible refine Below.alloc ?_ ?_ _; rotate_left; focus (first | omega | (simp; done) | (simp; omega))) | (with_reducible refine Below.trans ?_ (Below.mono bel5 ?_); rotate_left; focus (first | omega | (simp; done) | (simp; omega)))))
      | true =>
        have PRE3 := hid (PRE2.out rfl)
        clear PRE2 HNO
        go_wp2_with fail
        refine (C.out _ (hT.below hb)).mono ?_
        rintro e w4 ⟨a4, c4, rfl, o5, hb5⟩
        have lw4 := hb5.size
        have bel5 := bel_al (bel_go hb hb5) (.cells #[.bool (Nm.wn y), .slice a4 (Nm.wl y).length c4] 30)
        have R5 := (R.below hb5).alloc (.cells #[.bool (Nm.wn y), .slice a4 (Nm.wl y).length c4] 30)
        have A5 := (A.below hb5).alloc (.cells #[.bool (Nm.wn y), .slice a4 (Nm.wl y).length c4] 30)
        have O5 := (O.below hb5).alloc (.cells #[.bool (Nm.wn y), .slice a4 (Nm.wl y).length c4] 30)
        have Y5 := R2.new w4 (.bool (Nm.wn y)) (.slice a4 (Nm.wl y).length c4) 30
        have o5' := o5.alloc (.cells #[.bool (Nm.wn y), .slice a4 (Nm.wl y).length c4] 30)
        obtain ⟨y0, y1, -, -⟩ := Y5
        have v0 := A5.c0
        have v1 := A5.c1
        clear hb5 o5 A O R
        go_wp2_with fail
        refine (CA'.out p a4 c c4 _ O5.sl o5'.sl).mono ?_
        rintro e w5 ⟨a5, c5, rfl, o6, hb6⟩
        have lw5 := hb6.size
        have o6 : Own w5 (w4.heap.size + 1) a5 c5 (Nm.wl z') := by simpa using o6
        have bel6 := bel_go bel5 hb6
        have A6 := A5.below hb6
        have R6 := R5.below hb6
        have B6 : ∀ g, a5 = some ⟨g, 0, none⟩ → g ≠ w3.heap.size := fun g hg => by
          rcases o6.block with ⟨e, _⟩ | ⟨g', e, h3, _⟩
          · rw [e] at hg; cases hg
          · rw [e] at hg; cases hg; omega
        clear v0 v1 y0 y1 o5' O5 A5 R5 hb6
        have A6' := A6
        obtain ⟨v0, v1, v2, v3⟩ := A6'
        go_wp2
        go_roundw
        case rel =>
          refine ⟨k + 1, a5, c5, by omega, by go_num, PRE3.out, ?_, ?_, ?_, B6, ?_⟩
          · exact (R6.other (p := ⟨w3.heap.size, 0, none⟩) (by simp; omega) _).other (p := ⟨w3.heap.size, 1, none⟩) (by simp; omega) _
          · rw [HK'.out]; exact R2.set A6 _ _
          · rw [HK'.out]
            exact Own.base ((o6.setBelow (by simp; omega) _).setBelow (by simp; omega) _) (by omega)
          · exact (by repeat (first | (with_reducible refine Below.setCell ?_ ?_ _; rotate_left; focus (first | omega | (simp; done) | (simp; omega))) | (with_reducible exact Below.refl _ _) | (with_reducible refine Below.drew ?_) | (with_reducible refine bel_dn ?_ _) | (with_reducible refine bel_al ?_ _) | (with_reducible refine bel_go ?_ bel6) | (with_reducible refine Below.alloc ?_ ?_ _; rotate_left; focus (first | omega | (simp; done) | (simp; omega))) | (with_reducible refine Below.trans ?_ (Below.mono bel6 ?_); rotate_left; focus (first | omega | (simp; done) | (simp; omega)))))
        case measure => simp [intOf]; omega
    · obtain rfl : k = xs.length := by omega
      have HY := hid (HO.out true (finA_yes PRE.out).symm)
      clear hx3 CX CA HK PRE
      obtain ⟨v0, v1, v2, v3⟩ := A
      obtain ⟨r0, r1, r2, r3⟩ := R
      go_wp2
      refine bodyPost_ret (v := .tuple #[.agg #[.bool (Nm.wn (eK fm b xs xs.length)), .slice p (Nm.wl (eK fm b xs xs.length)).length c], .bool true]) (by simp [results, Tryd.results14, go_sem, r0, r1]) rfl (ansE_yes HY.out ?_ ?_)
      · exact Own.base ((O.setBelow (by simp) _).setBelow (by simp) _) (by omega)
      · exact (by repeat (first | (with_reducible refine Below.setCell ?_ ?_ _; rotate_left; focus (first | omega | (simp; done) | (simp; omega))) | (with_reducible exact Below.refl _ _) | (with_reducible refine Below.drew ?_) | (with_reducible refine bel_dn ?_ _) | (with_reducible refine bel_al ?_ _) | (with_reducible refine bel_go ?_ hb) | (with_reducible refine Below.alloc ?_ ?_ _; rotate_left; focus (first | omega | (simp; done) | (simp; omega))) | (with_reducible refine Below.trans ?_ (Below.mono hb ?_); rotate_left; focus (first | omega | (simp; done) | (simp; omega)))))
theorem erri_all (fm b : Int) (xs : List Int) (a : Option Addr) (cap : Nat) (w : World) (hT : Tab w) (x0 : 0 ≤ b) (x1 : b < 18446744073709551616) (hx : Sl .u64 w (.slice a xs.length cap) xs) (dx : D64 xs) (hl : xs.length ≤ 1048576) :
    Calls Tryd.prog 14 #[.int .i64 fm, .slice a xs.length cap, .int .u64 b] w fun r w' => AnsE w w' r fm b xs := by
  cases hf : finB fm b
  · refine (erri_no1 fm b xs a cap w hT x0 x1 hf).mono ?_
    rintro r w1 ⟨rfl, hb⟩
    exact ansE_no (by unfold eO; rw [hf, Bool.and_false, Bool.false_and]) hb
  · cases hv : (vecC fm 0 xs == 0)
    · refine (erri_no2 fm b xs a cap w hT x0 x1 hx dx hl hf hv).mono ?_
      rintro r w1 ⟨rfl, hb⟩
      exact ansE_no (by unfold eO; rw [hv]; rfl) hb
    · exact erri_yes fm b xs a cap w hT x0 x1 hx dx hl hf hv
end Go.Proofs.YtbalefbcpnoieaaDoor
