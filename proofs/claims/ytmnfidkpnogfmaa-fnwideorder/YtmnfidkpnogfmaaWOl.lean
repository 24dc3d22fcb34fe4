/-
  Wides are ordered as the signs of their differences: the law.
-/
import Derived.Test.YtmnfidkpnogfmaaK29
import Derived.Test.YtmnfidkpnogfmaaK28
import Derived.Test.YtmnfidkpnogfmaaK17
import Derived.Test.YtmnfidkpnogfmaaK07
import Derived.Test.YtmnfidkpnogfmaaK20
import Derived.Test.YtmnfidkpnogfmaaK25
import Derived.Test.YtmnfidkpnogfmaaK03
import Derived.Test.YtmnfidkpnogfmaaK15
namespace Go.Proofs.Ytmnfidkpnogfmaa
set_option linter.unusedVariables false
set_option linter.unusedSimpArgs false
open Go.RowKit Go.Deep
namespace Fw
open Go.Proofs.Ytmnfidkpnogfmaa.Fd (bl_shl fit_k wl_abs wn_abs byteOf_any)
theorem cmp_sub (x y : Int) : cmpI (x - y) 0 = cmpI x y := by
  unfold cmpI
  repeat' split
  all_goals first | rfl | omega
theorem cmp_turn (x y : Int) : cmpI y x = -cmpI x y := by
  unfold cmpI
  repeat' split
  all_goals first | rfl | omega
theorem cmp_more (x : Int) : cmpI x (x + 1) = -1 := by
  unfold cmpI; rw [if_pos (by omega)]
theorem cmp_same (x : Int) : cmpI x x = 0 := by
  unfold cmpI; rw [if_neg (by omega), if_neg (by omega)]
theorem cmp_bd (x y : Int) : -1 ≤ cmpI x y ∧ cmpI x y ≤ 1 := by
  unfold cmpI
  repeat' split
  all_goals omega
set_option maxHeartbeats 16000000 in
set_option maxRecDepth 100000 in
theorem wolaw (ca : Option Addr) (cc : Nat) (cs : List Int) (w : World) (hs : Sl .u8 w (.slice ca cs.length cc) cs) (hby : ∀ i, 0 ≤ cs.getD i 0 ∧ cs.getD i 0 ≤ 255) (hl : cs.length ≤ 1048576) :
    Calls Try.prog 12 #[.slice ca cs.length cc] w fun e w' => e = .returned (.bool true) ∧ Below w.heap.size w w' := by
  go_enter Try.func12, Try.ntmps12
  go_wp2_with fail
  refine (big_any ca cs.length cc _ (by omega) false (by simp; omega)).mono ?_
  rintro r w0 ⟨rfl, rfl⟩
  go_wp2_with fail
  refine (drawCmp_any ca cc cs _ hs hby hl).mono ?_
  rintro r w1 ⟨na, nb, xs, ys, aa, ab, cA, cB, rfl, lx, ly, dx, dy, oa, ob, bel⟩
  have sa := oa.sl
  have sb := ob.sl
  clear oa ob hs hby hl
  have KI := hid (fun w' h h' => wcmp_impl na nb aa ab cA cB xs ys w' h h' (by omega) (by omega))
  have KS := hid (fun w' h h' => wcmp_spec na nb aa ab cA cB xs ys w' h h' (by omega) (by omega))
  by_cases hok : (okB na xs && okB nb ys) = true
  rotate_left
  · have hk : wcmp na nb xs ys = 2 := by unfold wcmp; rw [if_neg hok]
    rw [hk] at KI KS
    clear hk hok
    replace sa := sa.below (al_b _ (.cells #[.bool na, .slice aa xs.length cA] 65))
    replace sb := sb.below (al_b _ (.cells #[.bool na, .slice aa xs.length cA] 65))
    replace bel := bel_al bel (.cells #[.bool na, .slice aa xs.length cA] 65)
    have Ba := R2.new w1 (.bool na) (.slice aa xs.length cA) 65
    replace sa := sa.below (al_b _ (.cells #[.bool nb, .slice ab ys.length cB] 65))
    replace sb := sb.below (al_b _ (.cells #[.bool nb, .slice ab ys.length cB] 65))
    replace Ba := Ba.below (al_b _ (.cells #[.bool nb, .slice ab ys.length cB] 65))
    replace bel := bel_al bel (.cells #[.bool nb, .slice ab ys.length cB] 65)
    have Bb := R2.new (w1.alloc (.cells #[.bool na, .slice aa xs.length cA] 65)) (.bool nb) (.slice ab ys.length cB) 65
    have hsz : (w1.alloc (.cells #[.bool na, .slice aa xs.length cA] 65)).heap.size = w1.heap.size + 1 := by simp
    rw [hsz] at Bb
    clear hsz
    obtain ⟨ka0, ka1, -, -⟩ := id Ba
    obtain ⟨kb0, kb1, -, -⟩ := id Bb
    go_wp2_with fail
    refine (KI.out _ sa sb).mono ?_
    rintro r w2 ⟨rfl, hb⟩
    clear ka0 ka1 kb0 kb1
    replace bel := bel_go bel hb
    replace sa := sa.below hb
    replace sb := sb.below hb
    replace Ba := Ba.below hb
    replace Bb := Bb.below hb
    clear hb
    obtain ⟨ka0, ka1, -, -⟩ := id Ba
    obtain ⟨kb0, kb1, -, -⟩ := id Bb
    go_wp2_with fail
    refine (KS.out _ sa sb).mono ?_
    rintro r w3 ⟨rfl, hb⟩
    clear ka0 ka1 kb0 kb1
    replace bel := bel_go bel hb
    replace sa := sa.below hb
    replace sb := sb.below hb
    replace Ba := Ba.below hb
    replace Bb := Bb.below hb
    clear hb
    obtain ⟨ka0, ka1, -, -⟩ := id Ba
    obtain ⟨kb0, kb1, -, -⟩ := id Bb
    go_wp2_with fail
    refine (KS.out _ sa sb).mono ?_
    rintro r w4 ⟨rfl, hb⟩
    clear ka0 ka1 kb0 kb1
    replace bel := bel_go bel hb
    replace sa := sa.below hb
    replace sb := sb.below hb
    replace Ba := Ba.below hb
    replace Bb := Bb.below hb
    clear hb
    obtain ⟨ka0, ka1, -, -⟩ := id Ba
    obtain ⟨kb0, kb1, -, -⟩ := id Bb
    go_wp2
    all_goals go_ret
    all_goals exact ⟨rfl, bel⟩
  obtain ⟨h1, h2⟩ := Bool.and_eq_true_iff.1 hok
  obtain ⟨x, rfl, rfl, hx⟩ := okB_is dx h1
  obtain ⟨y, rfl, rfl, hy⟩ := okB_is dy h2
  have hk : wcmp (Nm.wn x) (Nm.wn y) (Nm.wl x) (Nm.wl y) = cmpI x y := Fd.wcmp_int hx hy
  rw [hk] at KI KS
  have hxy : (Nm.wl (-y)).length ≤ 200 := wl_le (y := y) (by omega) hy
  have CN := hid (fun a c w' h => neg_z y a c w' h hy)
  have CD := hid (fun a b c d w' h h' => add_z x (-y) a b c d w' h h' hx hxy)
  have CO := hid (fun w' => wof_impl 1 w' (by decide) (by decide))
  have CM := hid (fun a b c d w' h h' => add_z x 1 a b c d w' h h' hx (by decide +kernel))
  have CB := hid (fun a b c d w' h h' => cmp_z y x a b c d w' h h' hy hx)
  have CZ := hid (fun w' => wof_impl 0 w' (by decide) (by decide))
  have CA := hid (fun a b c d w' h h' => cmp_z x x a b c d w' h h' hx hx)
  have CE := hid (fun a b c d w' h h' (hf : Nm.fits (x + -y) = true) => cmp_z (x + -y) 0 a b c d w' h h' (by unfold Nm.fits at hf; simpa using hf) (by decide +kernel))
  have CF := hid (fun a b c d w' h h' (hf : Nm.fits (x + 1) = true) => cmp_z x (x + 1) a b c d w' h h' hx (by unfold Nm.fits at hf; simpa using hf))
  rw [cmp_turn] at CB
  rw [← Int.sub_eq_add_neg, cmp_sub, Int.sub_eq_add_neg] at CE
  rw [cmp_more] at CF
  rw [cmp_same] at CA
  have kb := cmp_bd x y
  have F1 := hid (out_fits (x := x + -y))
  have F2 := hid (out_fits (x := x + 1))
  obtain ⟨k, h_k⟩ : ∃ q, q = cmpI x y := ⟨_, rfl⟩
  obtain ⟨gx, h_gx⟩ : ∃ q, q = Nm.wn x := ⟨_, rfl⟩
  obtain ⟨X, h_X⟩ : ∃ q, q = Nm.wl x := ⟨_, rfl⟩
  obtain ⟨gy, h_gy⟩ : ∃ q, q = Nm.wn y := ⟨_, rfl⟩
  obtain ⟨Y, h_Y⟩ : ∃ q, q = Nm.wl y := ⟨_, rfl⟩
  obtain ⟨gn, h_gn⟩ : ∃ q, q = Nm.wn (-y) := ⟨_, rfl⟩
  obtain ⟨N, h_N⟩ : ∃ q, q = Nm.wl (-y) := ⟨_, rfl⟩
  obtain ⟨g1, h_g1⟩ : ∃ q, q = Nm.wn 1 := ⟨_, rfl⟩
  obtain ⟨L1, h_L1⟩ : ∃ q, q = Nm.wl 1 := ⟨_, rfl⟩
  obtain ⟨g0, h_g0⟩ : ∃ q, q = Nm.wn 0 := ⟨_, rfl⟩
  obtain ⟨L0, h_L0⟩ : ∃ q, q = Nm.wl 0 := ⟨_, rfl⟩
  obtain ⟨gd, h_gd⟩ : ∃ q, q = Nm.outN (x + -y) := ⟨_, rfl⟩
  obtain ⟨D, h_D⟩ : ∃ q, q = Nm.outL (x + -y) := ⟨_, rfl⟩
  obtain ⟨gm, h_gm⟩ : ∃ q, q = Nm.outN (x + 1) := ⟨_, rfl⟩
  obtain ⟨M, h_M⟩ : ∃ q, q = Nm.outL (x + 1) := ⟨_, rfl⟩
  obtain ⟨o1, h_o1⟩ : ∃ q, q = Nm.fits (x + -y) := ⟨_, rfl⟩
  obtain ⟨o2, h_o2⟩ : ∃ q, q = Nm.fits (x + 1) := ⟨_, rfl⟩
  have E1 : o1 = true → Nm.wn (x + -y) = gd ∧ Nm.wl (x + -y) = D := fun h => by
    have := F1.out (by rw [← h_o1]; exact h)
    exact ⟨by rw [h_gd, this.2], by rw [h_D, this.1]⟩
  have E2 : o2 = true → Nm.wn (x + 1) = gm ∧ Nm.wl (x + 1) = M := fun h => by
    have := F2.out (by rw [← h_o2]; exact h)
    exact ⟨by rw [h_gm, this.2], by rw [h_M, this.1]⟩
  rw [← h_gx, ← h_X, ← h_gy, ← h_Y, ← h_k] at KI KS
  rw [← h_gy, ← h_Y, ← h_gn, ← h_N] at CN
  rw [← h_gx, ← h_X, ← h_gn, ← h_N, ← h_gd, ← h_D, ← h_o1] at CD
  rw [← h_g1, ← h_L1] at CO
  rw [← h_gx, ← h_X, ← h_g1, ← h_L1, ← h_gm, ← h_M, ← h_o2] at CM
  rw [← h_gx, ← h_X, ← h_gy, ← h_Y, ← h_k] at CB
  rw [← h_g0, ← h_L0] at CZ CE
  rw [← h_gx, ← h_X] at CA CF ⊢
  rw [← h_gy, ← h_Y]
  rw [← h_o1, ← h_k] at CE
  rw [← h_o2] at CF
  rw [← h_X] at sa
  rw [← h_Y] at sb
  rw [← h_k] at kb
  clear h_k h_gx h_X h_gy h_Y h_gn h_N h_g1 h_L1 h_g0 h_L0 h_gd h_D h_gm h_M h_o1 h_o2 F1 F2 hk hxy hx hy h1 h2 hok dx dy lx ly
  have hW : IntKind.i64.wrap (-k) = -k := by rw [IntKind.wrap_i64]; omega
  have hW2 : wrap64 (-k) = -k := by unfold wrap64; omega
  have hk2 : (k == 2) = false := by rw [beq_eq_false_iff_ne]; omega
  have ne_k : (k != k) = false := by simp
  have eq_k : (k == k) = true := by simp
  have eq_nk : (-k == -k) = true := by simp
  clear kb
  replace sa := sa.below (al_b _ (.cells #[.bool gx, .slice aa X.length cA] 65))
  replace sb := sb.below (al_b _ (.cells #[.bool gx, .slice aa X.length cA] 65))
  replace bel := bel_al bel (.cells #[.bool gx, .slice aa X.length cA] 65)
  have Ba := R2.new w1 (.bool gx) (.slice aa X.length cA) 65
  replace sa := sa.below (al_b _ (.cells #[.bool gy, .slice ab Y.length cB] 65))
  replace sb := sb.below (al_b _ (.cells #[.bool gy, .slice ab Y.length cB] 65))
  replace Ba := Ba.below (al_b _ (.cells #[.bool gy, .slice ab Y.length cB] 65))
  replace bel := bel_al bel (.cells #[.bool gy, .slice ab Y.length cB] 65)
  have Bb := R2.new (w1.alloc (.cells #[.bool gx, .slice aa X.length cA] 65)) (.bool gy) (.slice ab Y.length cB) 65
  have hsz : (w1.alloc (.cells #[.bool gx, .slice aa X.length cA] 65)).heap.size = w1.heap.size + 1 := by simp
  rw [hsz] at Bb
  clear hsz
  obtain ⟨ka0, ka1, -, -⟩ := id Ba
  obtain ⟨kb0, kb1, -, -⟩ := id Bb
  go_wp2_with fail
  refine (KI.out _ sa sb).mono ?_
  rintro r w2 ⟨rfl, hb⟩
  clear ka0 ka1 kb0 kb1
  replace bel := bel_go bel hb
  replace sa := sa.below hb
  replace sb := sb.below hb
  replace Ba := Ba.below hb
  replace Bb := Bb.below hb
  clear hb
  obtain ⟨ka0, ka1, -, -⟩ := id Ba
  obtain ⟨kb0, kb1, -, -⟩ := id Bb
  go_wp2_with fail
  refine (KS.out _ sa sb).mono ?_
  rintro r w3 ⟨rfl, hb⟩
  clear ka0 ka1 kb0 kb1
  replace bel := bel_go bel hb
  replace sa := sa.below hb
  replace sb := sb.below hb
  replace Ba := Ba.below hb
  replace Bb := Bb.below hb
  clear hb
  go_upto_region 7 with fail
  generalize w3 = W7 at bel sa sb Ba Bb ⊢
  go_cut [6, 7] (fun s1 s2 wx => ∃ (b9 : Nat) (a8 : Option Addr) (c8 : Nat), s1 = .pointer (some ⟨b9, 0, none⟩) ∧ s2 = .bool o1 ∧ W7.heap.size ≤ b9 ∧ R2 wx b9 (.bool gd) (.slice a8 D.length c8) ∧ Own wx W7.heap.size a8 c8 D ∧ Below W7.heap.size W7 wx)
  case first =>
    have belR := Below.drew (Below.refl W7.heap.size W7)
    refine wp_region_held_drew (S := fun w' => (w'.cell? ⟨w1.heap.size, 0, none⟩ = some (.bool gx) ∧ w'.cell? ⟨w1.heap.size, 1, none⟩ = some (.slice aa X.length cA)) ∧ (w'.cell? ⟨(w1.heap.size + 1), 0, none⟩ = some (.bool gy) ∧ w'.cell? ⟨(w1.heap.size + 1), 1, none⟩ = some (.slice ab Y.length cB))) (by kernel_rfl) ?_ (fun hHeld => ?_)
    · exact ⟨⟨(Ba).c0, (Ba).c1⟩, ⟨(Bb).c0, (Bb).c1⟩⟩
    generalize W7.drew = v0 at belR hHeld ⊢
    refine tk 0 ?_ rfl (Or.inl ⟨by rfl, ?_⟩) ?_
    rotate_left
    · (intro w hSw; (try dsimp only at hSw); obtain ⟨⟨hS0, hS1⟩, ⟨hS2, hS3⟩⟩ := hSw; go_simp; try (with_reducible rfl))
    try simp only [Act.put, Ls]
    refine tk 1 ?_ rfl (Or.inl ⟨by rfl, ?_⟩) ?_
    rotate_left
    · (intro w hSw; (try dsimp only at hSw); obtain ⟨⟨hS0, hS1⟩, ⟨hS2, hS3⟩⟩ := hSw; go_simp; try (with_reducible rfl))
    try simp only [Act.put, Ls]
    refine wpAnyH_ready (rs := [2, 7]) (by kernel_rfl) (by simp) ?_
    refine AllReadyH.cons (o := _) rfl (fun K hK => ?_) (AllReadyH.cons (o := _) rfl (fun K hK => ?_) AllReadyH.nil)
    · go_simp
      go_at_call 64
      refine (CN.out ab cB _ (sb.below belR)).mono ?_
      rintro r v1 ⟨a7, c7, rfl, o7, hb'⟩
      have hz' := belR.size
      replace belR := bel_go belR hb'
      replace o7 := Own.base o7 (B' := W7.heap.size) (by omega)
      clear hb' hz'
      refine hK.out _ _ ?_ (fun hHeld => ?_)
      · exact ⟨⟨(Ba.below belR).c0, (Ba.below belR).c1⟩, ⟨(Bb.below belR).c0, (Bb.below belR).c1⟩⟩
      clear hK K
      try simp only [Act.put, Ls]
      refine wpAnyH_ready (rs := [3, 7]) (by kernel_rfl) (by simp) ?_
      refine AllReadyH.cons (o := _) rfl (fun K hK => ?_) (AllReadyH.cons (o := _) rfl (fun K hK => ?_) AllReadyH.nil)
      · go_simp
        go_at_call 63
        refine (CD.out aa a7 cA c7 _ (sa.below belR) o7.sl).mono ?_
        rintro r v2 ⟨a8, c8, rfl, o8, hb'⟩
        replace o7 := o7.below hb'
        have hz' := belR.size
        replace belR := bel_go belR hb'
        replace o8 := Own.base o8 (B' := W7.heap.size) (by omega)
        clear hb' hz'
        refine hK.out _ _ ?_ (fun hHeld => ?_)
        · exact ⟨⟨(Ba.below belR).c0, (Ba.below belR).c1⟩, ⟨(Bb.below belR).c0, (Bb.below belR).c1⟩⟩
        clear hK K
        try simp only [Act.put, Ls]
        refine tk 4 ?_ rfl (Or.inl ⟨by rfl, ?_⟩) ?_
        rotate_left
        · (intro w hSw; go_simp; try (with_reducible rfl))
        try simp only [Act.put, Ls]
        refine tk 5 ?_ rfl (Or.inl ⟨by rfl, ?_⟩) ?_
        rotate_left
        · (intro w hSw; go_simp; try (with_reducible rfl))
        try simp only [Act.put, Ls]
        refine tk 6 ?_ rfl (Or.inl ⟨by rfl, ?_⟩) ?_
        rotate_left
        · (intro w hSw; go_simp; try (with_reducible rfl))
        try simp only [Act.put, Ls]
        refine rdy 7 rfl (fun K hK => ?_)
        go_simp
        refine hK.out _ _ ?_ (fun hHeld => ?_)
        · exact ⟨⟨(Ba.below (bel_al belR (.cells #[.bool false, .slice none 0 0] 65))).c0, (Ba.below (bel_al belR (.cells #[.bool false, .slice none 0 0] 65))).c1⟩, ⟨(Bb.below (bel_al belR (.cells #[.bool false, .slice none 0 0] 65))).c0, (Bb.below (bel_al belR (.cells #[.bool false, .slice none 0 0] 65))).c1⟩⟩
        clear hK K
        try simp only [Act.put, Ls]
        obtain ⟨b9, h2⟩ : ∃ q, q = v2.heap.size := ⟨_, rfl⟩
        have hb9 : W7.heap.size ≤ b9 := by have := belR.size; omega
        have B9 := R2.new v2 (.bool false) (.slice none 0 0) 65
        rw [← h2] at B9 ⊢
        have ng7_9 : ∀ g, a7 = some ⟨g, 0, none⟩ → g ≠ b9 := fun g h => by have := (own_at o7 g h).2; omega
        have ng8_9 : ∀ g, a8 = some ⟨g, 0, none⟩ → g ≠ b9 := fun g h => by have := (own_at o8 g h).2; omega
        replace o7 := o7.below (al_b _ (.cells #[.bool false, .slice none 0 0] 65))
        replace o8 := o8.below (al_b _ (.cells #[.bool false, .slice none 0 0] 65))
        replace belR := bel_al belR (.cells #[.bool false, .slice none 0 0] 65)
        clear h2
        generalize v2.alloc (.cells #[.bool false, .slice none 0 0] 65) = v3 at B9 belR hHeld o7 o8 ⊢
        refine rdy 8 rfl (fun K hK => ?_)
        have ⟨y90, y91, y92, y93⟩ := B9
        go_simp
        have belS := ((belR.setCell (p := ⟨b9, 0, none⟩) (by simpa using hb9) (.bool gd)).setCell (p := ⟨b9, 1, none⟩) (by simpa using hb9) (.slice a8 D.length c8))
        refine hK.out _ _ ?_ (fun hHeld => ?_)
        · exact ⟨⟨(Ba.below belS).c0, (Ba.below belS).c1⟩, ⟨(Bb.below belS).c0, (Bb.below belS).c1⟩⟩
        clear hK K
        try simp only [Act.put, Ls]
        refine rdy 9 rfl (fun K hK => ?_)
        go_simp
        refine hK.out _ _ ?_ (fun hHeld => ?_)
        · exact ⟨⟨(Ba.below belS).c0, (Ba.below belS).c1⟩, ⟨(Bb.below belS).c0, (Bb.below belS).c1⟩⟩
        clear hK K
        try simp only [Act.put, Ls]
        refine wpAnyH_done (by kernel_rfl) ?_ _
        go_wp2_with fail
        go_meet
        exact ⟨b9, a8, c8, rfl, rfl, hb9, R2.set B9 _ _, ((o8.base (by have := belR.size; omega)).setOther ng8_9 _).setOther ng8_9 _, belS⟩
      · go_simp
        refine hK.out _ _ ?_ (fun hHeld => ?_)
        · exact ⟨⟨(Ba.below (bel_al belR (.cells #[.bool false, .slice none 0 0] 65))).c0, (Ba.below (bel_al belR (.cells #[.bool false, .slice none 0 0] 65))).c1⟩, ⟨(Bb.below (bel_al belR (.cells #[.bool false, .slice none 0 0] 65))).c0, (Bb.below (bel_al belR (.cells #[.bool false, .slice none 0 0] 65))).c1⟩⟩
        clear hK K
        try simp only [Act.put, Ls]
        obtain ⟨b9, h2⟩ : ∃ q, q = v1.heap.size := ⟨_, rfl⟩
        have hb9 : W7.heap.size ≤ b9 := by have := belR.size; omega
        have B9 := R2.new v1 (.bool false) (.slice none 0 0) 65
        rw [← h2] at B9 ⊢
        have ng7_9 : ∀ g, a7 = some ⟨g, 0, none⟩ → g ≠ b9 := fun g h => by have := (own_at o7 g h).2; omega
        replace o7 := o7.below (al_b _ (.cells #[.bool false, .slice none 0 0] 65))
        replace belR := bel_al belR (.cells #[.bool false, .slice none 0 0] 65)
        clear h2
        generalize v1.alloc (.cells #[.bool false, .slice none 0 0] 65) = v2 at B9 belR hHeld o7 ⊢
        refine rdy 3 rfl (fun K hK => ?_)
        go_simp
        go_at_call 63
        refine (CD.out aa a7 cA c7 _ (sa.below belR) o7.sl).mono ?_
        have hl9 : b9 < v2.heap.size := World.block_lt_of_cell? _ _ B9.c0
        rintro r v3 ⟨a8, c8, rfl, o8, hb'⟩
        replace o7 := o7.below hb'
        replace B9 := B9.below hb'
        have hz' := belR.size
        replace belR := bel_go belR hb'
        have ng8_9 : ∀ g, a8 = some ⟨g, 0, none⟩ → g ≠ b9 := fun g h => by have := (own_at o8 g h).1; omega
        replace o8 := Own.base o8 (B' := W7.heap.size) (by omega)
        clear hl9
        clear hb' hz'
        refine hK.out _ _ ?_ (fun hHeld => ?_)
        · exact ⟨⟨(Ba.below belR).c0, (Ba.below belR).c1⟩, ⟨(Bb.below belR).c0, (Bb.below belR).c1⟩⟩
        clear hK K
        try simp only [Act.put, Ls]
        refine tk 4 ?_ rfl (Or.inl ⟨by rfl, ?_⟩) ?_
        rotate_left
        · (intro w hSw; go_simp; try (with_reducible rfl))
        try simp only [Act.put, Ls]
        refine tk 5 ?_ rfl (Or.inl ⟨by rfl, ?_⟩) ?_
        rotate_left
        · (intro w hSw; go_simp; try (with_reducible rfl))
        try simp only [Act.put, Ls]
        refine tk 6 ?_ rfl (Or.inl ⟨by rfl, ?_⟩) ?_
        rotate_left
        · (intro w hSw; go_simp; try (with_reducible rfl))
        try simp only [Act.put, Ls]
        refine rdy 8 rfl (fun K hK => ?_)
        have ⟨y90, y91, y92, y93⟩ := B9
        go_simp
        have belS := ((belR.setCell (p := ⟨b9, 0, none⟩) (by simpa using hb9) (.bool gd)).setCell (p := ⟨b9, 1, none⟩) (by simpa using hb9) (.slice a8 D.length c8))
        refine hK.out _ _ ?_ (fun hHeld => ?_)
        · exact ⟨⟨(Ba.below belS).c0, (Ba.below belS).c1⟩, ⟨(Bb.below belS).c0, (Bb.below belS).c1⟩⟩
        clear hK K
        try simp only [Act.put, Ls]
        refine rdy 9 rfl (fun K hK => ?_)
        go_simp
        refine hK.out _ _ ?_ (fun hHeld => ?_)
        · exact ⟨⟨(Ba.below belS).c0, (Ba.below belS).c1⟩, ⟨(Bb.below belS).c0, (Bb.below belS).c1⟩⟩
        clear hK K
        try simp only [Act.put, Ls]
        refine wpAnyH_done (by kernel_rfl) ?_ _
        go_wp2_with fail
        go_meet
        exact ⟨b9, a8, c8, rfl, rfl, hb9, R2.set B9 _ _, ((o8.base (by have := belR.size; omega)).setOther ng8_9 _).setOther ng8_9 _, belS⟩
    · go_simp
      refine hK.out _ _ ?_ (fun hHeld => ?_)
      · exact ⟨⟨(Ba.below (bel_al belR (.cells #[.bool false, .slice none 0 0] 65))).c0, (Ba.below (bel_al belR (.cells #[.bool false, .slice none 0 0] 65))).c1⟩, ⟨(Bb.below (bel_al belR (.cells #[.bool false, .slice none 0 0] 65))).c0, (Bb.below (bel_al belR (.cells #[.bool false, .slice none 0 0] 65))).c1⟩⟩
      clear hK K
      try simp only [Act.put, Ls]
      obtain ⟨b9, h2⟩ : ∃ q, q = v0.heap.size := ⟨_, rfl⟩
      have hb9 : W7.heap.size ≤ b9 := by have := belR.size; omega
      have B9 := R2.new v0 (.bool false) (.slice none 0 0) 65
      rw [← h2] at B9 ⊢
      replace belR := bel_al belR (.cells #[.bool false, .slice none 0 0] 65)
      clear h2
      generalize v0.alloc (.cells #[.bool false, .slice none 0 0] 65) = v1 at B9 belR hHeld ⊢
      refine rdy 2 rfl (fun K hK => ?_)
      go_simp
      go_at_call 64
      refine (CN.out ab cB _ (sb.below belR)).mono ?_
      have hl9 : b9 < v1.heap.size := World.block_lt_of_cell? _ _ B9.c0
      rintro r v2 ⟨a7, c7, rfl, o7, hb'⟩
      replace B9 := B9.below hb'
      have hz' := belR.size
      replace belR := bel_go belR hb'
      have ng7_9 : ∀ g, a7 = some ⟨g, 0, none⟩ → g ≠ b9 := fun g h => by have := (own_at o7 g h).1; omega
      replace o7 := Own.base o7 (B' := W7.heap.size) (by omega)
      clear hl9
      clear hb' hz'
      refine hK.out _ _ ?_ (fun hHeld => ?_)
      · exact ⟨⟨(Ba.below belR).c0, (Ba.below belR).c1⟩, ⟨(Bb.below belR).c0, (Bb.below belR).c1⟩⟩
      clear hK K
      try simp only [Act.put, Ls]
      refine rdy 3 rfl (fun K hK => ?_)
      go_simp
      go_at_call 63
      refine (CD.out aa a7 cA c7 _ (sa.below belR) o7.sl).mono ?_
      have hl9 : b9 < v2.heap.size := World.block_lt_of_cell? _ _ B9.c0
      rintro r v3 ⟨a8, c8, rfl, o8, hb'⟩
      replace o7 := o7.below hb'
      replace B9 := B9.below hb'
      have hz' := belR.size
      replace belR := bel_go belR hb'
      have ng8_9 : ∀ g, a8 = some ⟨g, 0, none⟩ → g ≠ b9 := fun g h => by have := (own_at o8 g h).1; omega
      replace o8 := Own.base o8 (B' := W7.heap.size) (by omega)
      clear hl9
      clear hb' hz'
      refine hK.out _ _ ?_ (fun hHeld => ?_)
      · exact ⟨⟨(Ba.below belR).c0, (Ba.below belR).c1⟩, ⟨(Bb.below belR).c0, (Bb.below belR).c1⟩⟩
      clear hK K
      try simp only [Act.put, Ls]
      refine tk 4 ?_ rfl (Or.inl ⟨by rfl, ?_⟩) ?_
      rotate_left
      · (intro w hSw; go_simp; try (with_reducible rfl))
      try simp only [Act.put, Ls]
      refine tk 5 ?_ rfl (Or.inl ⟨by rfl, ?_⟩) ?_
      rotate_left
      · (intro w hSw; go_simp; try (with_reducible rfl))
      try simp only [Act.put, Ls]
      refine tk 6 ?_ rfl (Or.inl ⟨by rfl, ?_⟩) ?_
      rotate_left
      · (intro w hSw; go_simp; try (with_reducible rfl))
      try simp only [Act.put, Ls]
      refine rdy 8 rfl (fun K hK => ?_)
      have ⟨y90, y91, y92, y93⟩ := B9
      go_simp
      have belS := ((belR.setCell (p := ⟨b9, 0, none⟩) (by simpa using hb9) (.bool gd)).setCell (p := ⟨b9, 1, none⟩) (by simpa using hb9) (.slice a8 D.length c8))
      refine hK.out _ _ ?_ (fun hHeld => ?_)
      · exact ⟨⟨(Ba.below belS).c0, (Ba.below belS).c1⟩, ⟨(Bb.below belS).c0, (Bb.below belS).c1⟩⟩
      clear hK K
      try simp only [Act.put, Ls]
      refine rdy 9 rfl (fun K hK => ?_)
      go_simp
      refine hK.out _ _ ?_ (fun hHeld => ?_)
      · exact ⟨⟨(Ba.below belS).c0, (Ba.below belS).c1⟩, ⟨(Bb.below belS).c0, (Bb.below belS).c1⟩⟩
      clear hK K
      try simp only [Act.put, Ls]
      refine wpAnyH_done (by kernel_rfl) ?_ _
      go_wp2_with fail
      go_meet
      exact ⟨b9, a8, c8, rfl, rfl, hb9, R2.set B9 _ _, ((o8.base (by have := belR.size; omega)).setOther ng8_9 _).setOther ng8_9 _, belS⟩
  case rest =>
  obtain ⟨bd, ad, cd, rfl, rfl, hb9, Bd, od, belR⟩ := hcut
  replace sa := sa.below belR
  replace sb := sb.below belR
  replace Ba := Ba.below belR
  replace Bb := Bb.below belR
  replace bel := bel.trans (belR.mono bel.size)
  have sd := od.sl
  clear od hb9 belR
  go_upto_region 8 with fail
  generalize wc = W8 at bel sa sb Ba Bb Bd sd ⊢
  go_cut [8, 9] (fun s1 s2 wx => ∃ (b9 : Nat) (a8 : Option Addr) (c8 : Nat), s1 = .pointer (some ⟨b9, 0, none⟩) ∧ s2 = .bool o2 ∧ W8.heap.size ≤ b9 ∧ R2 wx b9 (.bool gm) (.slice a8 M.length c8) ∧ Own wx W8.heap.size a8 c8 M ∧ Below W8.heap.size W8 wx)
  case first =>
    have belR := Below.drew (Below.refl W8.heap.size W8)
    refine wp_region_held_drew (S := fun w' => (w'.cell? ⟨w1.heap.size, 0, none⟩ = some (.bool gx) ∧ w'.cell? ⟨w1.heap.size, 1, none⟩ = some (.slice aa X.length cA))) (by kernel_rfl) ?_ (fun hHeld => ?_)
    · exact ⟨(Ba).c0, (Ba).c1⟩
    generalize W8.drew = v0 at belR hHeld ⊢
    refine tk 0 ?_ rfl (Or.inl ⟨by rfl, ?_⟩) ?_
    rotate_left
    · (intro w hSw; (try dsimp only at hSw); obtain ⟨hS0, hS1⟩ := hSw; go_simp; try (with_reducible rfl))
    try simp only [Act.put, Ls]
    refine wpAnyH_ready (rs := [1, 6]) (by kernel_rfl) (by simp) ?_
    refine AllReadyH.cons (o := _) rfl (fun K hK => ?_) (AllReadyH.cons (o := _) rfl (fun K hK => ?_) AllReadyH.nil)
    · go_simp
      go_at_call 57
      refine (CO.out _).mono ?_
      rintro r v1 ⟨a7, c7, rfl, o7, hb'⟩
      have hz' := belR.size
      replace belR := bel_go belR hb'
      replace o7 := Own.base o7 (B' := W8.heap.size) (by omega)
      clear hb' hz'
      refine hK.out _ _ ?_ (fun hHeld => ?_)
      · exact ⟨(Ba.below belR).c0, (Ba.below belR).c1⟩
      clear hK K
      try simp only [Act.put, Ls]
      refine wpAnyH_ready (rs := [2, 6]) (by kernel_rfl) (by simp) ?_
      refine AllReadyH.cons (o := _) rfl (fun K hK => ?_) (AllReadyH.cons (o := _) rfl (fun K hK => ?_) AllReadyH.nil)
      · go_simp
        go_at_call 63
        refine (CM.out aa a7 cA c7 _ (sa.below belR) o7.sl).mono ?_
        rintro r v2 ⟨a8, c8, rfl, o8, hb'⟩
        replace o7 := o7.below hb'
        have hz' := belR.size
        replace belR := bel_go belR hb'
        replace o8 := Own.base o8 (B' := W8.heap.size) (by omega)
        clear hb' hz'
        refine hK.out _ _ ?_ (fun hHeld => ?_)
        · exact ⟨(Ba.below belR).c0, (Ba.below belR).c1⟩
        clear hK K
        try simp only [Act.put, Ls]
        refine tk 3 ?_ rfl (Or.inl ⟨by rfl, ?_⟩) ?_
        rotate_left
        · (intro w hSw; go_simp; try (with_reducible rfl))
        try simp only [Act.put, Ls]
        refine tk 4 ?_ rfl (Or.inl ⟨by rfl, ?_⟩) ?_
        rotate_left
        · (intro w hSw; go_simp; try (with_reducible rfl))
        try simp only [Act.put, Ls]
        refine tk 5 ?_ rfl (Or.inl ⟨by rfl, ?_⟩) ?_
        rotate_left
        · (intro w hSw; go_simp; try (with_reducible rfl))
        try simp only [Act.put, Ls]
        refine rdy 6 rfl (fun K hK => ?_)
        go_simp
        refine hK.out _ _ ?_ (fun hHeld => ?_)
        · exact ⟨(Ba.below (bel_al belR (.cells #[.bool false, .slice none 0 0] 65))).c0, (Ba.below (bel_al belR (.cells #[.bool false, .slice none 0 0] 65))).c1⟩
        clear hK K
        try simp only [Act.put, Ls]
        obtain ⟨b9, h2⟩ : ∃ q, q = v2.heap.size := ⟨_, rfl⟩
        have hb9 : W8.heap.size ≤ b9 := by have := belR.size; omega
        have B9 := R2.new v2 (.bool false) (.slice none 0 0) 65
        rw [← h2] at B9 ⊢
        have ng7_9 : ∀ g, a7 = some ⟨g, 0, none⟩ → g ≠ b9 := fun g h => by have := (own_at o7 g h).2; omega
        have ng8_9 : ∀ g, a8 = some ⟨g, 0, none⟩ → g ≠ b9 := fun g h => by have := (own_at o8 g h).2; omega
        replace o7 := o7.below (al_b _ (.cells #[.bool false, .slice none 0 0] 65))
        replace o8 := o8.below (al_b _ (.cells #[.bool false, .slice none 0 0] 65))
        replace belR := bel_al belR (.cells #[.bool false, .slice none 0 0] 65)
        clear h2
        generalize v2.alloc (.cells #[.bool false, .slice none 0 0] 65) = v3 at B9 belR hHeld o7 o8 ⊢
        refine rdy 7 rfl (fun K hK => ?_)
        have ⟨y90, y91, y92, y93⟩ := B9
        go_simp
        have belS := ((belR.setCell (p := ⟨b9, 0, none⟩) (by simpa using hb9) (.bool gm)).setCell (p := ⟨b9, 1, none⟩) (by simpa using hb9) (.slice a8 M.length c8))
        refine hK.out _ _ ?_ (fun hHeld => ?_)
        · exact ⟨(Ba.below belS).c0, (Ba.below belS).c1⟩
        clear hK K
        try simp only [Act.put, Ls]
        refine rdy 8 rfl (fun K hK => ?_)
        go_simp
        refine hK.out _ _ ?_ (fun hHeld => ?_)
        · exact ⟨(Ba.below belS).c0, (Ba.below belS).c1⟩
        clear hK K
        try simp only [Act.put, Ls]
        refine wpAnyH_done (by kernel_rfl) ?_ _
        go_wp2_with fail
        go_meet
        exact ⟨b9, a8, c8, rfl, rfl, hb9, R2.set B9 _ _, ((o8.base (by have := belR.size; omega)).setOther ng8_9 _).setOther ng8_9 _, belS⟩
      · go_simp
        refine hK.out _ _ ?_ (fun hHeld => ?_)
        · exact ⟨(Ba.below (bel_al belR (.cells #[.bool false, .slice none 0 0] 65))).c0, (Ba.below (bel_al belR (.cells #[.bool false, .slice none 0 0] 65))).c1⟩
        clear hK K
        try simp only [Act.put, Ls]
        obtain ⟨b9, h2⟩ : ∃ q, q = v1.heap.size := ⟨_, rfl⟩
        have hb9 : W8.heap.size ≤ b9 := by have := belR.size; omega
        have B9 := R2.new v1 (.bool false) (.slice none 0 0) 65
        rw [← h2] at B9 ⊢
        have ng7_9 : ∀ g, a7 = some ⟨g, 0, none⟩ → g ≠ b9 := fun g h => by have := (own_at o7 g h).2; omega
        replace o7 := o7.below (al_b _ (.cells #[.bool false, .slice none 0 0] 65))
        replace belR := bel_al belR (.cells #[.bool false, .slice none 0 0] 65)
        clear h2
        generalize v1.alloc (.cells #[.bool false, .slice none 0 0] 65) = v2 at B9 belR hHeld o7 ⊢
        refine rdy 2 rfl (fun K hK => ?_)
        go_simp
        go_at_call 63
        refine (CM.out aa a7 cA c7 _ (sa.below belR) o7.sl).mono ?_
        have hl9 : b9 < v2.heap.size := World.block_lt_of_cell? _ _ B9.c0
        rintro r v3 ⟨a8, c8, rfl, o8, hb'⟩
        replace o7 := o7.below hb'
        replace B9 := B9.below hb'
        have hz' := belR.size
        replace belR := bel_go belR hb'
        have ng8_9 : ∀ g, a8 = some ⟨g, 0, none⟩ → g ≠ b9 := fun g h => by have := (own_at o8 g h).1; omega
        replace o8 := Own.base o8 (B' := W8.heap.size) (by omega)
        clear hl9
        clear hb' hz'
        refine hK.out _ _ ?_ (fun hHeld => ?_)
        · exact ⟨(Ba.below belR).c0, (Ba.below belR).c1⟩
        clear hK K
        try simp only [Act.put, Ls]
        refine tk 3 ?_ rfl (Or.inl ⟨by rfl, ?_⟩) ?_
        rotate_left
        · (intro w hSw; go_simp; try (with_reducible rfl))
        try simp only [Act.put, Ls]
        refine tk 4 ?_ rfl (Or.inl ⟨by rfl, ?_⟩) ?_
        rotate_left
        · (intro w hSw; go_simp; try (with_reducible rfl))
        try simp only [Act.put, Ls]
        refine tk 5 ?_ rfl (Or.inl ⟨by rfl, ?_⟩) ?_
        rotate_left
        · (intro w hSw; go_simp; try (with_reducible rfl))
        try simp only [Act.put, Ls]
        refine rdy 7 rfl (fun K hK => ?_)
        have ⟨y90, y91, y92, y93⟩ := B9
        go_simp
        have belS := ((belR.setCell (p := ⟨b9, 0, none⟩) (by simpa using hb9) (.bool gm)).setCell (p := ⟨b9, 1, none⟩) (by simpa using hb9) (.slice a8 M.length c8))
        refine hK.out _ _ ?_ (fun hHeld => ?_)
        · exact ⟨(Ba.below belS).c0, (Ba.below belS).c1⟩
        clear hK K
        try simp only [Act.put, Ls]
        refine rdy 8 rfl (fun K hK => ?_)
        go_simp
        refine hK.out _ _ ?_ (fun hHeld => ?_)
        · exact ⟨(Ba.below belS).c0, (Ba.below belS).c1⟩
        clear hK K
        try simp only [Act.put, Ls]
        refine wpAnyH_done (by kernel_rfl) ?_ _
        go_wp2_with fail
        go_meet
        exact ⟨b9, a8, c8, rfl, rfl, hb9, R2.set B9 _ _, ((o8.base (by have := belR.size; omega)).setOther ng8_9 _).setOther ng8_9 _, belS⟩
    · go_simp
      refine hK.out _ _ ?_ (fun hHeld => ?_)
      · exact ⟨(Ba.below (bel_al belR (.cells #[.bool false, .slice none 0 0] 65))).c0, (Ba.below (bel_al belR (.cells #[.bool false, .slice none 0 0] 65))).c1⟩
      clear hK K
      try simp only [Act.put, Ls]
      obtain ⟨b9, h2⟩ : ∃ q, q = v0.heap.size := ⟨_, rfl⟩
      have hb9 : W8.heap.size ≤ b9 := by have := belR.size; omega
      have B9 := R2.new v0 (.bool false) (.slice none 0 0) 65
      rw [← h2] at B9 ⊢
      replace belR := bel_al belR (.cells #[.bool false, .slice none 0 0] 65)
      clear h2
      generalize v0.alloc (.cells #[.bool false, .slice none 0 0] 65) = v1 at B9 belR hHeld ⊢
      refine rdy 1 rfl (fun K hK => ?_)
      go_simp
      go_at_call 57
      refine (CO.out _).mono ?_
      have hl9 : b9 < v1.heap.size := World.block_lt_of_cell? _ _ B9.c0
      rintro r v2 ⟨a7, c7, rfl, o7, hb'⟩
      replace B9 := B9.below hb'
      have hz' := belR.size
      replace belR := bel_go belR hb'
      have ng7_9 : ∀ g, a7 = some ⟨g, 0, none⟩ → g ≠ b9 := fun g h => by have := (own_at o7 g h).1; omega
      replace o7 := Own.base o7 (B' := W8.heap.size) (by omega)
      clear hl9
      clear hb' hz'
      refine hK.out _ _ ?_ (fun hHeld => ?_)
      · exact ⟨(Ba.below belR).c0, (Ba.below belR).c1⟩
      clear hK K
      try simp only [Act.put, Ls]
      refine rdy 2 rfl (fun K hK => ?_)
      go_simp
      go_at_call 63
      refine (CM.out aa a7 cA c7 _ (sa.below belR) o7.sl).mono ?_
      have hl9 : b9 < v2.heap.size := World.block_lt_of_cell? _ _ B9.c0
      rintro r v3 ⟨a8, c8, rfl, o8, hb'⟩
      replace o7 := o7.below hb'
      replace B9 := B9.below hb'
      have hz' := belR.size
      replace belR := bel_go belR hb'
      have ng8_9 : ∀ g, a8 = some ⟨g, 0, none⟩ → g ≠ b9 := fun g h => by have := (own_at o8 g h).1; omega
      replace o8 := Own.base o8 (B' := W8.heap.size) (by omega)
      clear hl9
      clear hb' hz'
      refine hK.out _ _ ?_ (fun hHeld => ?_)
      · exact ⟨(Ba.below belR).c0, (Ba.below belR).c1⟩
      clear hK K
      try simp only [Act.put, Ls]
      refine tk 3 ?_ rfl (Or.inl ⟨by rfl, ?_⟩) ?_
      rotate_left
      · (intro w hSw; go_simp; try (with_reducible rfl))
      try simp only [Act.put, Ls]
      refine tk 4 ?_ rfl (Or.inl ⟨by rfl, ?_⟩) ?_
      rotate_left
      · (intro w hSw; go_simp; try (with_reducible rfl))
      try simp only [Act.put, Ls]
      refine tk 5 ?_ rfl (Or.inl ⟨by rfl, ?_⟩) ?_
      rotate_left
      · (intro w hSw; go_simp; try (with_reducible rfl))
      try simp only [Act.put, Ls]
      refine rdy 7 rfl (fun K hK => ?_)
      have ⟨y90, y91, y92, y93⟩ := B9
      go_simp
      have belS := ((belR.setCell (p := ⟨b9, 0, none⟩) (by simpa using hb9) (.bool gm)).setCell (p := ⟨b9, 1, none⟩) (by simpa using hb9) (.slice a8 M.length c8))
      refine hK.out _ _ ?_ (fun hHeld => ?_)
      · exact ⟨(Ba.below belS).c0, (Ba.below belS).c1⟩
      clear hK K
      try simp only [Act.put, Ls]
      refine rdy 8 rfl (fun K hK => ?_)
      go_simp
      refine hK.out _ _ ?_ (fun hHeld => ?_)
      · exact ⟨(Ba.below belS).c0, (Ba.below belS).c1⟩
      clear hK K
      try simp only [Act.put, Ls]
      refine wpAnyH_done (by kernel_rfl) ?_ _
      go_wp2_with fail
      go_meet
      exact ⟨b9, a8, c8, rfl, rfl, hb9, R2.set B9 _ _, ((o8.base (by have := belR.size; omega)).setOther ng8_9 _).setOther ng8_9 _, belS⟩
  case rest =>
  obtain ⟨bm, am, cm, rfl, rfl, hb9, Bm, om, belR⟩ := hcut
  replace sa := sa.below belR
  replace sb := sb.below belR
  replace Ba := Ba.below belR
  replace Bb := Bb.below belR
  replace Bd := Bd.below belR
  replace sd := sd.below belR
  replace bel := bel.trans (belR.mono bel.size)
  have sm := om.sl
  clear om hb9 belR
  cases o1
  · cases o2
    · 
      go_upto_region 9 with fail
      generalize wc = W9 at bel sa sb Ba Bb Bd sd Bm sm ⊢
      have belR := Below.drew (Below.refl W9.heap.size W9)
      refine wp_region_held_drew (S := fun w' => (w'.cell? ⟨w1.heap.size, 0, none⟩ = some (.bool gx) ∧ w'.cell? ⟨w1.heap.size, 1, none⟩ = some (.slice aa X.length cA)) ∧ (w'.cell? ⟨(w1.heap.size + 1), 0, none⟩ = some (.bool gy) ∧ w'.cell? ⟨(w1.heap.size + 1), 1, none⟩ = some (.slice ab Y.length cB)) ∧ (w'.cell? ⟨bd, 0, none⟩ = some (.bool gd) ∧ w'.cell? ⟨bd, 1, none⟩ = some (.slice ad D.length cd)) ∧ (w'.cell? ⟨bm, 0, none⟩ = some (.bool gm) ∧ w'.cell? ⟨bm, 1, none⟩ = some (.slice am M.length cm))) (by kernel_rfl) ?_ (fun hHeld => ?_)
      · exact ⟨⟨(Ba).c0, (Ba).c1⟩, ⟨(Bb).c0, (Bb).c1⟩, ⟨(Bd).c0, (Bd).c1⟩, ⟨(Bm).c0, (Bm).c1⟩⟩
      generalize W9.drew = v0 at belR hHeld ⊢
      refine tk 0 ?_ rfl (Or.inl ⟨by rfl, ?_⟩) ?_
      rotate_left
      · (intro w hSw; (try dsimp only at hSw); obtain ⟨⟨hS0, hS1⟩, ⟨hS2, hS3⟩, ⟨hS4, hS5⟩, ⟨hS6, hS7⟩⟩ := hSw; go_simp; try (with_reducible rfl))
      try simp only [Act.put, Ls]
      refine tk 1 ?_ rfl (Or.inl ⟨by rfl, ?_⟩) ?_
      rotate_left
      · (intro w hSw; (try dsimp only at hSw); obtain ⟨⟨hS0, hS1⟩, ⟨hS2, hS3⟩, ⟨hS4, hS5⟩, ⟨hS6, hS7⟩⟩ := hSw; go_simp; try (with_reducible rfl))
      try simp only [Act.put, Ls]
      refine tk 3 ?_ rfl (Or.inl ⟨by rfl, ?_⟩) ?_
      rotate_left
      · (intro w hSw; go_simp; try (with_reducible rfl))
      try simp only [Act.put, Ls]
      refine tk 4 ?_ rfl (Or.inl ⟨by rfl, ?_⟩) ?_
      rotate_left
      · (intro w hSw; go_simp; try (with_reducible rfl))
      try simp only [Act.put, Ls]
      try rw [hW]
      try rw [hW2]
      refine rdy 2 rfl (fun K hK => ?_)
      go_simp
      go_at_call 59
      refine (CB.out ab aa cB cA _ (sb.below belR) (sa.below belR)).mono ?_
      rintro r v1 ⟨rfl, hb'⟩
      have hz' := belR.size
      replace belR := bel_go belR hb'
      clear hb' hz'
      refine hK.out _ _ ?_ (fun hHeld => ?_)
      · exact ⟨⟨(Ba.below belR).c0, (Ba.below belR).c1⟩, ⟨(Bb.below belR).c0, (Bb.below belR).c1⟩, ⟨(Bd.below belR).c0, (Bd.below belR).c1⟩, ⟨(Bm.below belR).c0, (Bm.below belR).c1⟩⟩
      clear hK K
      try simp only [Act.put, Ls]
      refine tk 5 ?_ rfl (Or.inl ⟨by rfl, ?_⟩) ?_
      rotate_left
      · (intro w hSw; go_simp; try (with_reducible rfl))
      try simp only [Act.put, Ls]
      try rw [eq_nk]
      refine tk 6 ?_ rfl (Or.inl ⟨by rfl, ?_⟩) ?_
      rotate_left
      · (intro w hSw; go_simp; try (with_reducible rfl))
      try simp only [Act.put, Ls]
      refine tk 7 ?_ rfl (Or.inl ⟨by rfl, ?_⟩) ?_
      rotate_left
      · (intro w hSw; go_simp; try (with_reducible rfl))
      try simp only [Act.put, Ls]
      refine tk 8 ?_ rfl (Or.inl ⟨by rfl, ?_⟩) ?_
      rotate_left
      · (intro w hSw; go_simp; try (with_reducible rfl))
      try simp only [Act.put, Ls]
      refine tk 9 ?_ rfl (Or.inl ⟨by rfl, ?_⟩) ?_
      rotate_left
      · (intro w hSw; go_simp; try (with_reducible rfl))
      try simp only [Act.put, Ls]
      refine tk 10 undef rfl (Or.inr ⟨by rfl, rfl⟩) ?_
      try simp only [Act.put, Ls]
      refine tk 11 undef rfl (Or.inr ⟨by rfl, rfl⟩) ?_
      try simp only [Act.put, Ls]
      refine tk 12 undef rfl (Or.inr ⟨by rfl, rfl⟩) ?_
      try simp only [Act.put, Ls]
      refine tk 13 undef rfl (Or.inr ⟨by rfl, rfl⟩) ?_
      try simp only [Act.put, Ls]
      refine tk 14 undef rfl (Or.inr ⟨by rfl, rfl⟩) ?_
      try simp only [Act.put, Ls]
      refine tk 15 ?_ rfl (Or.inl ⟨by rfl, ?_⟩) ?_
      rotate_left
      · (intro w hSw; go_simp; try (with_reducible rfl))
      try simp only [Act.put, Ls]
      refine tk 16 ?_ rfl (Or.inl ⟨by rfl, ?_⟩) ?_
      rotate_left
      · (intro w hSw; go_simp; try (with_reducible rfl))
      try simp only [Act.put, Ls]
      refine tk 17 ?_ rfl (Or.inl ⟨by rfl, ?_⟩) ?_
      rotate_left
      · (intro w hSw; go_simp; try (with_reducible rfl))
      try simp only [Act.put, Ls]
      refine tk 18 ?_ rfl (Or.inl ⟨by rfl, ?_⟩) ?_
      rotate_left
      · (intro w hSw; go_simp; try (with_reducible rfl))
      try simp only [Act.put, Ls]
      refine tk 19 ?_ rfl (Or.inl ⟨by rfl, ?_⟩) ?_
      rotate_left
      · (intro w hSw; go_simp; try (with_reducible rfl))
      try simp only [Act.put, Ls]
      refine tk 20 ?_ rfl (Or.inl ⟨by rfl, ?_⟩) ?_
      rotate_left
      · (intro w hSw; go_simp; try (with_reducible rfl))
      try simp only [Act.put, Ls]
      refine tk 21 undef rfl (Or.inr ⟨by rfl, rfl⟩) ?_
      try simp only [Act.put, Ls]
      refine tk 22 undef rfl (Or.inr ⟨by rfl, rfl⟩) ?_
      try simp only [Act.put, Ls]
      refine tk 23 undef rfl (Or.inr ⟨by rfl, rfl⟩) ?_
      try simp only [Act.put, Ls]
      refine tk 24 undef rfl (Or.inr ⟨by rfl, rfl⟩) ?_
      try simp only [Act.put, Ls]
      refine tk 25 ?_ rfl (Or.inl ⟨by rfl, ?_⟩) ?_
      rotate_left
      · (intro w hSw; go_simp; try (with_reducible rfl))
      try simp only [Act.put, Ls]
      refine tk 26 ?_ rfl (Or.inl ⟨by rfl, ?_⟩) ?_
      rotate_left
      · (intro w hSw; go_simp; try (with_reducible rfl))
      try simp only [Act.put, Ls]
      refine tk 27 ?_ rfl (Or.inl ⟨by rfl, ?_⟩) ?_
      rotate_left
      · (intro w hSw; go_simp; try (with_reducible rfl))
      try simp only [Act.put, Ls]
      refine tk 28 ?_ rfl (Or.inl ⟨by rfl, ?_⟩) ?_
      rotate_left
      · (intro w hSw; (try dsimp only at hSw); obtain ⟨⟨hS0, hS1⟩, ⟨hS2, hS3⟩, ⟨hS4, hS5⟩, ⟨hS6, hS7⟩⟩ := hSw; go_simp; try (with_reducible rfl))
      try simp only [Act.put, Ls]
      refine tk 29 ?_ rfl (Or.inl ⟨by rfl, ?_⟩) ?_
      rotate_left
      · (intro w hSw; (try dsimp only at hSw); obtain ⟨⟨hS0, hS1⟩, ⟨hS2, hS3⟩, ⟨hS4, hS5⟩, ⟨hS6, hS7⟩⟩ := hSw; go_simp; try (with_reducible rfl))
      try simp only [Act.put, Ls]
      refine rdy 30 rfl (fun K hK => ?_)
      go_simp
      go_at_call 59
      refine (CA.out aa aa cA cA _ (sa.below belR) (sa.below belR)).mono ?_
      rintro r v2 ⟨rfl, hb'⟩
      have hz' := belR.size
      replace belR := bel_go belR hb'
      clear hb' hz'
      refine hK.out _ _ ?_ (fun hHeld => ?_)
      · exact ⟨⟨(Ba.below belR).c0, (Ba.below belR).c1⟩, ⟨(Bb.below belR).c0, (Bb.below belR).c1⟩, ⟨(Bd.below belR).c0, (Bd.below belR).c1⟩, ⟨(Bm.below belR).c0, (Bm.below belR).c1⟩⟩
      clear hK K
      try simp only [Act.put, Ls]
      refine tk 31 ?_ rfl (Or.inl ⟨by rfl, ?_⟩) ?_
      rotate_left
      · (intro w hSw; go_simp; try (with_reducible rfl))
      try simp only [Act.put, Ls]
      refine tk 32 ?_ rfl (Or.inl ⟨by rfl, ?_⟩) ?_
      rotate_left
      · (intro w hSw; go_simp; try (with_reducible rfl))
      try simp only [Act.put, Ls]
      refine rdy 33 rfl (fun K hK => ?_)
      go_simp
      refine hK.out _ _ ?_ (fun hHeld => ?_)
      · exact ⟨⟨(Ba.below belR).c0, (Ba.below belR).c1⟩, ⟨(Bb.below belR).c0, (Bb.below belR).c1⟩, ⟨(Bd.below belR).c0, (Bd.below belR).c1⟩, ⟨(Bm.below belR).c0, (Bm.below belR).c1⟩⟩
      clear hK K
      try simp only [Act.put, Ls]
      refine wpAnyH_done (by kernel_rfl) ?_ _
      replace bel := bel.trans (belR.mono bel.size)
      replace sa := sa.below belR
      replace sb := sb.below belR
      replace Ba := Ba.below belR
      replace Bb := Bb.below belR
      replace Bd := Bd.below belR
      replace sd := sd.below belR
      replace Bm := Bm.below belR
      replace sm := sm.below belR
      clear belR
      obtain ⟨ka0, ka1, -, -⟩ := id Ba
      obtain ⟨kb0, kb1, -, -⟩ := id Bb
      obtain ⟨kd0, kd1, -, -⟩ := id Bd
      obtain ⟨km0, km1, -, -⟩ := id Bm
      go_wp2
      all_goals go_ret
      all_goals exact ⟨rfl, bel⟩
    · obtain ⟨e3, e4⟩ := E2 rfl
      rw [e3, e4] at CF
      go_upto_region 9 with fail
      generalize wc = W9 at bel sa sb Ba Bb Bd sd Bm sm ⊢
      have belR := Below.drew (Below.refl W9.heap.size W9)
      refine wp_region_held_drew (S := fun w' => (w'.cell? ⟨w1.heap.size, 0, none⟩ = some (.bool gx) ∧ w'.cell? ⟨w1.heap.size, 1, none⟩ = some (.slice aa X.length cA)) ∧ (w'.cell? ⟨(w1.heap.size + 1), 0, none⟩ = some (.bool gy) ∧ w'.cell? ⟨(w1.heap.size + 1), 1, none⟩ = some (.slice ab Y.length cB)) ∧ (w'.cell? ⟨bd, 0, none⟩ = some (.bool gd) ∧ w'.cell? ⟨bd, 1, none⟩ = some (.slice ad D.length cd)) ∧ (w'.cell? ⟨bm, 0, none⟩ = some (.bool gm) ∧ w'.cell? ⟨bm, 1, none⟩ = some (.slice am M.length cm))) (by kernel_rfl) ?_ (fun hHeld => ?_)
      · exact ⟨⟨(Ba).c0, (Ba).c1⟩, ⟨(Bb).c0, (Bb).c1⟩, ⟨(Bd).c0, (Bd).c1⟩, ⟨(Bm).c0, (Bm).c1⟩⟩
      generalize W9.drew = v0 at belR hHeld ⊢
      refine tk 0 ?_ rfl (Or.inl ⟨by rfl, ?_⟩) ?_
      rotate_left
      · (intro w hSw; (try dsimp only at hSw); obtain ⟨⟨hS0, hS1⟩, ⟨hS2, hS3⟩, ⟨hS4, hS5⟩, ⟨hS6, hS7⟩⟩ := hSw; go_simp; try (with_reducible rfl))
      try simp only [Act.put, Ls]
      refine tk 1 ?_ rfl (Or.inl ⟨by rfl, ?_⟩) ?_
      rotate_left
      · (intro w hSw; (try dsimp only at hSw); obtain ⟨⟨hS0, hS1⟩, ⟨hS2, hS3⟩, ⟨hS4, hS5⟩, ⟨hS6, hS7⟩⟩ := hSw; go_simp; try (with_reducible rfl))
      try simp only [Act.put, Ls]
      refine tk 3 ?_ rfl (Or.inl ⟨by rfl, ?_⟩) ?_
      rotate_left
      · (intro w hSw; go_simp; try (with_reducible rfl))
      try simp only [Act.put, Ls]
      refine tk 4 ?_ rfl (Or.inl ⟨by rfl, ?_⟩) ?_
      rotate_left
      · (intro w hSw; go_simp; try (with_reducible rfl))
      try simp only [Act.put, Ls]
      try rw [hW]
      try rw [hW2]
      refine rdy 2 rfl (fun K hK => ?_)
      go_simp
      go_at_call 59
      refine (CB.out ab aa cB cA _ (sb.below belR) (sa.below belR)).mono ?_
      rintro r v1 ⟨rfl, hb'⟩
      have hz' := belR.size
      replace belR := bel_go belR hb'
      clear hb' hz'
      refine hK.out _ _ ?_ (fun hHeld => ?_)
      · exact ⟨⟨(Ba.below belR).c0, (Ba.below belR).c1⟩, ⟨(Bb.below belR).c0, (Bb.below belR).c1⟩, ⟨(Bd.below belR).c0, (Bd.below belR).c1⟩, ⟨(Bm.below belR).c0, (Bm.below belR).c1⟩⟩
      clear hK K
      try simp only [Act.put, Ls]
      refine tk 5 ?_ rfl (Or.inl ⟨by rfl, ?_⟩) ?_
      rotate_left
      · (intro w hSw; go_simp; try (with_reducible rfl))
      try simp only [Act.put, Ls]
      try rw [eq_nk]
      refine tk 6 ?_ rfl (Or.inl ⟨by rfl, ?_⟩) ?_
      rotate_left
      · (intro w hSw; go_simp; try (with_reducible rfl))
      try simp only [Act.put, Ls]
      refine tk 7 ?_ rfl (Or.inl ⟨by rfl, ?_⟩) ?_
      rotate_left
      · (intro w hSw; go_simp; try (with_reducible rfl))
      try simp only [Act.put, Ls]
      refine tk 8 ?_ rfl (Or.inl ⟨by rfl, ?_⟩) ?_
      rotate_left
      · (intro w hSw; go_simp; try (with_reducible rfl))
      try simp only [Act.put, Ls]
      refine tk 9 ?_ rfl (Or.inl ⟨by rfl, ?_⟩) ?_
      rotate_left
      · (intro w hSw; go_simp; try (with_reducible rfl))
      try simp only [Act.put, Ls]
      refine tk 10 undef rfl (Or.inr ⟨by rfl, rfl⟩) ?_
      try simp only [Act.put, Ls]
      refine tk 11 undef rfl (Or.inr ⟨by rfl, rfl⟩) ?_
      try simp only [Act.put, Ls]
      refine tk 12 undef rfl (Or.inr ⟨by rfl, rfl⟩) ?_
      try simp only [Act.put, Ls]
      refine tk 13 undef rfl (Or.inr ⟨by rfl, rfl⟩) ?_
      try simp only [Act.put, Ls]
      refine tk 14 undef rfl (Or.inr ⟨by rfl, rfl⟩) ?_
      try simp only [Act.put, Ls]
      refine tk 15 ?_ rfl (Or.inl ⟨by rfl, ?_⟩) ?_
      rotate_left
      · (intro w hSw; go_simp; try (with_reducible rfl))
      try simp only [Act.put, Ls]
      refine tk 16 ?_ rfl (Or.inl ⟨by rfl, ?_⟩) ?_
      rotate_left
      · (intro w hSw; go_simp; try (with_reducible rfl))
      try simp only [Act.put, Ls]
      refine tk 17 ?_ rfl (Or.inl ⟨by rfl, ?_⟩) ?_
      rotate_left
      · (intro w hSw; go_simp; try (with_reducible rfl))
      try simp only [Act.put, Ls]
      refine tk 18 ?_ rfl (Or.inl ⟨by rfl, ?_⟩) ?_
      rotate_left
      · (intro w hSw; go_simp; try (with_reducible rfl))
      try simp only [Act.put, Ls]
      refine tk 19 ?_ rfl (Or.inl ⟨by rfl, ?_⟩) ?_
      rotate_left
      · (intro w hSw; go_simp; try (with_reducible rfl))
      try simp only [Act.put, Ls]
      refine tk 20 ?_ rfl (Or.inl ⟨by rfl, ?_⟩) ?_
      rotate_left
      · (intro w hSw; go_simp; try (with_reducible rfl))
      try simp only [Act.put, Ls]
      refine tk 21 ?_ rfl (Or.inl ⟨by rfl, ?_⟩) ?_
      rotate_left
      · (intro w hSw; (try dsimp only at hSw); obtain ⟨⟨hS0, hS1⟩, ⟨hS2, hS3⟩, ⟨hS4, hS5⟩, ⟨hS6, hS7⟩⟩ := hSw; go_simp; try (with_reducible rfl))
      try simp only [Act.put, Ls]
      refine tk 22 ?_ rfl (Or.inl ⟨by rfl, ?_⟩) ?_
      rotate_left
      · (intro w hSw; (try dsimp only at hSw); obtain ⟨⟨hS0, hS1⟩, ⟨hS2, hS3⟩, ⟨hS4, hS5⟩, ⟨hS6, hS7⟩⟩ := hSw; go_simp; try (with_reducible rfl))
      try simp only [Act.put, Ls]
      refine rdy 23 rfl (fun K hK => ?_)
      go_simp
      go_at_call 59
      refine (CF.out aa am cA cm _ (sa.below belR) (sm.below belR) rfl).mono ?_
      rintro r v2 ⟨rfl, hb'⟩
      have hz' := belR.size
      replace belR := bel_go belR hb'
      clear hb' hz'
      refine hK.out _ _ ?_ (fun hHeld => ?_)
      · exact ⟨⟨(Ba.below belR).c0, (Ba.below belR).c1⟩, ⟨(Bb.below belR).c0, (Bb.below belR).c1⟩, ⟨(Bd.below belR).c0, (Bd.below belR).c1⟩, ⟨(Bm.below belR).c0, (Bm.below belR).c1⟩⟩
      clear hK K
      try simp only [Act.put, Ls]
      refine tk 24 ?_ rfl (Or.inl ⟨by rfl, ?_⟩) ?_
      rotate_left
      · (intro w hSw; go_simp; try (with_reducible rfl))
      try simp only [Act.put, Ls]
      refine tk 25 ?_ rfl (Or.inl ⟨by rfl, ?_⟩) ?_
      rotate_left
      · (intro w hSw; go_simp; try (with_reducible rfl))
      try simp only [Act.put, Ls]
      refine tk 26 ?_ rfl (Or.inl ⟨by rfl, ?_⟩) ?_
      rotate_left
      · (intro w hSw; go_simp; try (with_reducible rfl))
      try simp only [Act.put, Ls]
      refine tk 27 ?_ rfl (Or.inl ⟨by rfl, ?_⟩) ?_
      rotate_left
      · (intro w hSw; go_simp; try (with_reducible rfl))
      try simp only [Act.put, Ls]
      refine tk 28 ?_ rfl (Or.inl ⟨by rfl, ?_⟩) ?_
      rotate_left
      · (intro w hSw; (try dsimp only at hSw); obtain ⟨⟨hS0, hS1⟩, ⟨hS2, hS3⟩, ⟨hS4, hS5⟩, ⟨hS6, hS7⟩⟩ := hSw; go_simp; try (with_reducible rfl))
      try simp only [Act.put, Ls]
      refine tk 29 ?_ rfl (Or.inl ⟨by rfl, ?_⟩) ?_
      rotate_left
      · (intro w hSw; (try dsimp only at hSw); obtain ⟨⟨hS0, hS1⟩, ⟨hS2, hS3⟩, ⟨hS4, hS5⟩, ⟨hS6, hS7⟩⟩ := hSw; go_simp; try (with_reducible rfl))
      try simp only [Act.put, Ls]
      refine rdy 30 rfl (fun K hK => ?_)
      go_simp
      go_at_call 59
      refine (CA.out aa aa cA cA _ (sa.below belR) (sa.below belR)).mono ?_
      rintro r v3 ⟨rfl, hb'⟩
      have hz' := belR.size
      replace belR := bel_go belR hb'
      clear hb' hz'
      refine hK.out _ _ ?_ (fun hHeld => ?_)
      · exact ⟨⟨(Ba.below belR).c0, (Ba.below belR).c1⟩, ⟨(Bb.below belR).c0, (Bb.below belR).c1⟩, ⟨(Bd.below belR).c0, (Bd.below belR).c1⟩, ⟨(Bm.below belR).c0, (Bm.below belR).c1⟩⟩
      clear hK K
      try simp only [Act.put, Ls]
      refine tk 31 ?_ rfl (Or.inl ⟨by rfl, ?_⟩) ?_
      rotate_left
      · (intro w hSw; go_simp; try (with_reducible rfl))
      try simp only [Act.put, Ls]
      refine tk 32 ?_ rfl (Or.inl ⟨by rfl, ?_⟩) ?_
      rotate_left
      · (intro w hSw; go_simp; try (with_reducible rfl))
      try simp only [Act.put, Ls]
      refine rdy 33 rfl (fun K hK => ?_)
      go_simp
      refine hK.out _ _ ?_ (fun hHeld => ?_)
      · exact ⟨⟨(Ba.below belR).c0, (Ba.below belR).c1⟩, ⟨(Bb.below belR).c0, (Bb.below belR).c1⟩, ⟨(Bd.below belR).c0, (Bd.below belR).c1⟩, ⟨(Bm.below belR).c0, (Bm.below belR).c1⟩⟩
      clear hK K
      try simp only [Act.put, Ls]
      refine wpAnyH_done (by kernel_rfl) ?_ _
      replace bel := bel.trans (belR.mono bel.size)
      replace sa := sa.below belR
      replace sb := sb.below belR
      replace Ba := Ba.below belR
      replace Bb := Bb.below belR
      replace Bd := Bd.below belR
      replace sd := sd.below belR
      replace Bm := Bm.below belR
      replace sm := sm.below belR
      clear belR
      obtain ⟨ka0, ka1, -, -⟩ := id Ba
      obtain ⟨kb0, kb1, -, -⟩ := id Bb
      obtain ⟨kd0, kd1, -, -⟩ := id Bd
      obtain ⟨km0, km1, -, -⟩ := id Bm
      go_wp2
      all_goals go_ret
      all_goals exact ⟨rfl, bel⟩
  · cases o2
    · obtain ⟨e1, e2⟩ := E1 rfl
      rw [e1, e2] at CE
      go_upto_region 9 with fail
      generalize wc = W9 at bel sa sb Ba Bb Bd sd Bm sm ⊢
      have belR := Below.drew (Below.refl W9.heap.size W9)
      refine wp_region_held_drew (S := fun w' => (w'.cell? ⟨w1.heap.size, 0, none⟩ = some (.bool gx) ∧ w'.cell? ⟨w1.heap.size, 1, none⟩ = some (.slice aa X.length cA)) ∧ (w'.cell? ⟨(w1.heap.size + 1), 0, none⟩ = some (.bool gy) ∧ w'.cell? ⟨(w1.heap.size + 1), 1, none⟩ = some (.slice ab Y.length cB)) ∧ (w'.cell? ⟨bd, 0, none⟩ = some (.bool gd) ∧ w'.cell? ⟨bd, 1, none⟩ = some (.slice ad D.length cd)) ∧ (w'.cell? ⟨bm, 0, none⟩ = some (.bool gm) ∧ w'.cell? ⟨bm, 1, none⟩ = some (.slice am M.length cm))) (by kernel_rfl) ?_ (fun hHeld => ?_)
      · exact ⟨⟨(Ba).c0, (Ba).c1⟩, ⟨(Bb).c0, (Bb).c1⟩, ⟨(Bd).c0, (Bd).c1⟩, ⟨(Bm).c0, (Bm).c1⟩⟩
      generalize W9.drew = v0 at belR hHeld ⊢
      refine tk 0 ?_ rfl (Or.inl ⟨by rfl, ?_⟩) ?_
      rotate_left
      · (intro w hSw; (try dsimp only at hSw); obtain ⟨⟨hS0, hS1⟩, ⟨hS2, hS3⟩, ⟨hS4, hS5⟩, ⟨hS6, hS7⟩⟩ := hSw; go_simp; try (with_reducible rfl))
      try simp only [Act.put, Ls]
      refine tk 1 ?_ rfl (Or.inl ⟨by rfl, ?_⟩) ?_
      rotate_left
      · (intro w hSw; (try dsimp only at hSw); obtain ⟨⟨hS0, hS1⟩, ⟨hS2, hS3⟩, ⟨hS4, hS5⟩, ⟨hS6, hS7⟩⟩ := hSw; go_simp; try (with_reducible rfl))
      try simp only [Act.put, Ls]
      refine tk 3 ?_ rfl (Or.inl ⟨by rfl, ?_⟩) ?_
      rotate_left
      · (intro w hSw; go_simp; try (with_reducible rfl))
      try simp only [Act.put, Ls]
      refine tk 4 ?_ rfl (Or.inl ⟨by rfl, ?_⟩) ?_
      rotate_left
      · (intro w hSw; go_simp; try (with_reducible rfl))
      try simp only [Act.put, Ls]
      try rw [hW]
      try rw [hW2]
      refine rdy 2 rfl (fun K hK => ?_)
      go_simp
      go_at_call 59
      refine (CB.out ab aa cB cA _ (sb.below belR) (sa.below belR)).mono ?_
      rintro r v1 ⟨rfl, hb'⟩
      have hz' := belR.size
      replace belR := bel_go belR hb'
      clear hb' hz'
      refine hK.out _ _ ?_ (fun hHeld => ?_)
      · exact ⟨⟨(Ba.below belR).c0, (Ba.below belR).c1⟩, ⟨(Bb.below belR).c0, (Bb.below belR).c1⟩, ⟨(Bd.below belR).c0, (Bd.below belR).c1⟩, ⟨(Bm.below belR).c0, (Bm.below belR).c1⟩⟩
      clear hK K
      try simp only [Act.put, Ls]
      refine tk 5 ?_ rfl (Or.inl ⟨by rfl, ?_⟩) ?_
      rotate_left
      · (intro w hSw; go_simp; try (with_reducible rfl))
      try simp only [Act.put, Ls]
      try rw [eq_nk]
      refine tk 6 ?_ rfl (Or.inl ⟨by rfl, ?_⟩) ?_
      rotate_left
      · (intro w hSw; go_simp; try (with_reducible rfl))
      try simp only [Act.put, Ls]
      refine tk 7 ?_ rfl (Or.inl ⟨by rfl, ?_⟩) ?_
      rotate_left
      · (intro w hSw; go_simp; try (with_reducible rfl))
      try simp only [Act.put, Ls]
      refine tk 8 ?_ rfl (Or.inl ⟨by rfl, ?_⟩) ?_
      rotate_left
      · (intro w hSw; go_simp; try (with_reducible rfl))
      try simp only [Act.put, Ls]
      refine tk 9 ?_ rfl (Or.inl ⟨by rfl, ?_⟩) ?_
      rotate_left
      · (intro w hSw; go_simp; try (with_reducible rfl))
      try simp only [Act.put, Ls]
      refine tk 10 ?_ rfl (Or.inl ⟨by rfl, ?_⟩) ?_
      rotate_left
      · (intro w hSw; (try dsimp only at hSw); obtain ⟨⟨hS0, hS1⟩, ⟨hS2, hS3⟩, ⟨hS4, hS5⟩, ⟨hS6, hS7⟩⟩ := hSw; go_simp; try (with_reducible rfl))
      try simp only [Act.put, Ls]
      refine tk 13 ?_ rfl (Or.inl ⟨by rfl, ?_⟩) ?_
      rotate_left
      · (intro w hSw; go_simp; try (with_reducible rfl))
      try simp only [Act.put, Ls]
      refine rdy 11 rfl (fun K hK => ?_)
      go_simp
      go_at_call 57
      refine (CZ.out _).mono ?_
      rintro r v2 ⟨az, cz, rfl, oz, hb'⟩
      have hz' := belR.size
      replace belR := bel_go belR hb'
      replace oz := Own.base oz (B' := W9.heap.size) (by omega)
      clear hb' hz'
      refine hK.out _ _ ?_ (fun hHeld => ?_)
      · exact ⟨⟨(Ba.below belR).c0, (Ba.below belR).c1⟩, ⟨(Bb.below belR).c0, (Bb.below belR).c1⟩, ⟨(Bd.below belR).c0, (Bd.below belR).c1⟩, ⟨(Bm.below belR).c0, (Bm.below belR).c1⟩⟩
      clear hK K
      try simp only [Act.put, Ls]
      refine rdy 12 rfl (fun K hK => ?_)
      go_simp
      go_at_call 59
      refine (CE.out ad az cd cz _ (sd.below belR) oz.sl rfl).mono ?_
      rintro r v3 ⟨rfl, hb'⟩
      replace oz := oz.below hb'
      have hz' := belR.size
      replace belR := bel_go belR hb'
      clear hb' hz'
      refine hK.out _ _ ?_ (fun hHeld => ?_)
      · exact ⟨⟨(Ba.below belR).c0, (Ba.below belR).c1⟩, ⟨(Bb.below belR).c0, (Bb.below belR).c1⟩, ⟨(Bd.below belR).c0, (Bd.below belR).c1⟩, ⟨(Bm.below belR).c0, (Bm.below belR).c1⟩⟩
      clear hK K
      try simp only [Act.put, Ls]
      refine tk 14 ?_ rfl (Or.inl ⟨by rfl, ?_⟩) ?_
      rotate_left
      · (intro w hSw; go_simp; try (with_reducible rfl))
      try simp only [Act.put, Ls]
      try rw [eq_k]
      refine tk 15 ?_ rfl (Or.inl ⟨by rfl, ?_⟩) ?_
      rotate_left
      · (intro w hSw; go_simp; try (with_reducible rfl))
      try simp only [Act.put, Ls]
      refine tk 16 ?_ rfl (Or.inl ⟨by rfl, ?_⟩) ?_
      rotate_left
      · (intro w hSw; go_simp; try (with_reducible rfl))
      try simp only [Act.put, Ls]
      refine tk 17 ?_ rfl (Or.inl ⟨by rfl, ?_⟩) ?_
      rotate_left
      · (intro w hSw; go_simp; try (with_reducible rfl))
      try simp only [Act.put, Ls]
      refine tk 18 ?_ rfl (Or.inl ⟨by rfl, ?_⟩) ?_
      rotate_left
      · (intro w hSw; go_simp; try (with_reducible rfl))
      try simp only [Act.put, Ls]
      refine tk 19 ?_ rfl (Or.inl ⟨by rfl, ?_⟩) ?_
      rotate_left
      · (intro w hSw; go_simp; try (with_reducible rfl))
      try simp only [Act.put, Ls]
      refine tk 20 ?_ rfl (Or.inl ⟨by rfl, ?_⟩) ?_
      rotate_left
      · (intro w hSw; go_simp; try (with_reducible rfl))
      try simp only [Act.put, Ls]
      refine tk 21 undef rfl (Or.inr ⟨by rfl, rfl⟩) ?_
      try simp only [Act.put, Ls]
      refine tk 22 undef rfl (Or.inr ⟨by rfl, rfl⟩) ?_
      try simp only [Act.put, Ls]
      refine tk 23 undef rfl (Or.inr ⟨by rfl, rfl⟩) ?_
      try simp only [Act.put, Ls]
      refine tk 24 undef rfl (Or.inr ⟨by rfl, rfl⟩) ?_
      try simp only [Act.put, Ls]
      refine tk 25 ?_ rfl (Or.inl ⟨by rfl, ?_⟩) ?_
      rotate_left
      · (intro w hSw; go_simp; try (with_reducible rfl))
      try simp only [Act.put, Ls]
      refine tk 26 ?_ rfl (Or.inl ⟨by rfl, ?_⟩) ?_
      rotate_left
      · (intro w hSw; go_simp; try (with_reducible rfl))
      try simp only [Act.put, Ls]
      refine tk 27 ?_ rfl (Or.inl ⟨by rfl, ?_⟩) ?_
      rotate_left
      · (intro w hSw; go_simp; try (with_reducible rfl))
      try simp only [Act.put, Ls]
      refine tk 28 ?_ rfl (Or.inl ⟨by rfl, ?_⟩) ?_
      rotate_left
      · (intro w hSw; (try dsimp only at hSw); obtain ⟨⟨hS0, hS1⟩, ⟨hS2, hS3⟩, ⟨hS4, hS5⟩, ⟨hS6, hS7⟩⟩ := hSw; go_simp; try (with_reducible rfl))
      try simp only [Act.put, Ls]
      refine tk 29 ?_ rfl (Or.inl ⟨by rfl, ?_⟩) ?_
      rotate_left
      · (intro w hSw; (try dsimp only at hSw); obtain ⟨⟨hS0, hS1⟩, ⟨hS2, hS3⟩, ⟨hS4, hS5⟩, ⟨hS6, hS7⟩⟩ := hSw; go_simp; try (with_reducible rfl))
      try simp only [Act.put, Ls]
      refine rdy 30 rfl (fun K hK => ?_)
      go_simp
      go_at_call 59
      refine (CA.out aa aa cA cA _ (sa.below belR) (sa.below belR)).mono ?_
      rintro r v4 ⟨rfl, hb'⟩
      replace oz := oz.below hb'
      have hz' := belR.size
      replace belR := bel_go belR hb'
      clear hb' hz'
      refine hK.out _ _ ?_ (fun hHeld => ?_)
      · exact ⟨⟨(Ba.below belR).c0, (Ba.below belR).c1⟩, ⟨(Bb.below belR).c0, (Bb.below belR).c1⟩, ⟨(Bd.below belR).c0, (Bd.below belR).c1⟩, ⟨(Bm.below belR).c0, (Bm.below belR).c1⟩⟩
      clear hK K
      try simp only [Act.put, Ls]
      refine tk 31 ?_ rfl (Or.inl ⟨by rfl, ?_⟩) ?_
      rotate_left
      · (intro w hSw; go_simp; try (with_reducible rfl))
      try simp only [Act.put, Ls]
      refine tk 32 ?_ rfl (Or.inl ⟨by rfl, ?_⟩) ?_
      rotate_left
      · (intro w hSw; go_simp; try (with_reducible rfl))
      try simp only [Act.put, Ls]
      refine rdy 33 rfl (fun K hK => ?_)
      go_simp
      refine hK.out _ _ ?_ (fun hHeld => ?_)
      · exact ⟨⟨(Ba.below belR).c0, (Ba.below belR).c1⟩, ⟨(Bb.below belR).c0, (Bb.below belR).c1⟩, ⟨(Bd.below belR).c0, (Bd.below belR).c1⟩, ⟨(Bm.below belR).c0, (Bm.below belR).c1⟩⟩
      clear hK K
      try simp only [Act.put, Ls]
      refine wpAnyH_done (by kernel_rfl) ?_ _
      replace bel := bel.trans (belR.mono bel.size)
      replace sa := sa.below belR
      replace sb := sb.below belR
      replace Ba := Ba.below belR
      replace Bb := Bb.below belR
      replace Bd := Bd.below belR
      replace sd := sd.below belR
      replace Bm := Bm.below belR
      replace sm := sm.below belR
      clear belR
      obtain ⟨ka0, ka1, -, -⟩ := id Ba
      obtain ⟨kb0, kb1, -, -⟩ := id Bb
      obtain ⟨kd0, kd1, -, -⟩ := id Bd
      obtain ⟨km0, km1, -, -⟩ := id Bm
      go_wp2
      all_goals go_ret
      all_goals exact ⟨rfl, bel⟩
    · obtain ⟨e1, e2⟩ := E1 rfl
      rw [e1, e2] at CE
      obtain ⟨e3, e4⟩ := E2 rfl
      rw [e3, e4] at CF
      go_upto_region 9 with fail
      generalize wc = W9 at bel sa sb Ba Bb Bd sd Bm sm ⊢
      have belR := Below.drew (Below.refl W9.heap.size W9)
      refine wp_region_held_drew (S := fun w' => (w'.cell? ⟨w1.heap.size, 0, none⟩ = some (.bool gx) ∧ w'.cell? ⟨w1.heap.size, 1, none⟩ = some (.slice aa X.length cA)) ∧ (w'.cell? ⟨(w1.heap.size + 1), 0, none⟩ = some (.bool gy) ∧ w'.cell? ⟨(w1.heap.size + 1), 1, none⟩ = some (.slice ab Y.length cB)) ∧ (w'.cell? ⟨bd, 0, none⟩ = some (.bool gd) ∧ w'.cell? ⟨bd, 1, none⟩ = some (.slice ad D.length cd)) ∧ (w'.cell? ⟨bm, 0, none⟩ = some (.bool gm) ∧ w'.cell? ⟨bm, 1, none⟩ = some (.slice am M.length cm))) (by kernel_rfl) ?_ (fun hHeld => ?_)
      · exact ⟨⟨(Ba).c0, (Ba).c1⟩, ⟨(Bb).c0, (Bb).c1⟩, ⟨(Bd).c0, (Bd).c1⟩, ⟨(Bm).c0, (Bm).c1⟩⟩
      generalize W9.drew = v0 at belR hHeld ⊢
      refine tk 0 ?_ rfl (Or.inl ⟨by rfl, ?_⟩) ?_
      rotate_left
      · (intro w hSw; (try dsimp only at hSw); obtain ⟨⟨hS0, hS1⟩, ⟨hS2, hS3⟩, ⟨hS4, hS5⟩, ⟨hS6, hS7⟩⟩ := hSw; go_simp; try (with_reducible rfl))
      try simp only [Act.put, Ls]
      refine tk 1 ?_ rfl (Or.inl ⟨by rfl, ?_⟩) ?_
      rotate_left
      · (intro w hSw; (try dsimp only at hSw); obtain ⟨⟨hS0, hS1⟩, ⟨hS2, hS3⟩, ⟨hS4, hS5⟩, ⟨hS6, hS7⟩⟩ := hSw; go_simp; try (with_reducible rfl))
      try simp only [Act.put, Ls]
      refine tk 3 ?_ rfl (Or.inl ⟨by rfl, ?_⟩) ?_
      rotate_left
      · (intro w hSw; go_simp; try (with_reducible rfl))
      try simp only [Act.put, Ls]
      refine tk 4 ?_ rfl (Or.inl ⟨by rfl, ?_⟩) ?_
      rotate_left
      · (intro w hSw; go_simp; try (with_reducible rfl))
      try simp only [Act.put, Ls]
      try rw [hW]
      try rw [hW2]
      refine rdy 2 rfl (fun K hK => ?_)
      go_simp
      go_at_call 59
      refine (CB.out ab aa cB cA _ (sb.below belR) (sa.below belR)).mono ?_
      rintro r v1 ⟨rfl, hb'⟩
      have hz' := belR.size
      replace belR := bel_go belR hb'
      clear hb' hz'
      refine hK.out _ _ ?_ (fun hHeld => ?_)
      · exact ⟨⟨(Ba.below belR).c0, (Ba.below belR).c1⟩, ⟨(Bb.below belR).c0, (Bb.below belR).c1⟩, ⟨(Bd.below belR).c0, (Bd.below belR).c1⟩, ⟨(Bm.below belR).c0, (Bm.below belR).c1⟩⟩
      clear hK K
      try simp only [Act.put, Ls]
      refine tk 5 ?_ rfl (Or.inl ⟨by rfl, ?_⟩) ?_
      rotate_left
      · (intro w hSw; go_simp; try (with_reducible rfl))
      try simp only [Act.put, Ls]
      try rw [eq_nk]
      refine tk 6 ?_ rfl (Or.inl ⟨by rfl, ?_⟩) ?_
      rotate_left
      · (intro w hSw; go_simp; try (with_reducible rfl))
      try simp only [Act.put, Ls]
      refine tk 7 ?_ rfl (Or.inl ⟨by rfl, ?_⟩) ?_
      rotate_left
      · (intro w hSw; go_simp; try (with_reducible rfl))
      try simp only [Act.put, Ls]
      refine tk 8 ?_ rfl (Or.inl ⟨by rfl, ?_⟩) ?_
      rotate_left
      · (intro w hSw; go_simp; try (with_reducible rfl))
      try simp only [Act.put, Ls]
      refine tk 9 ?_ rfl (Or.inl ⟨by rfl, ?_⟩) ?_
      rotate_left
      · (intro w hSw; go_simp; try (with_reducible rfl))
      try simp only [Act.put, Ls]
      refine tk 10 ?_ rfl (Or.inl ⟨by rfl, ?_⟩) ?_
      rotate_left
      · (intro w hSw; (try dsimp only at hSw); obtain ⟨⟨hS0, hS1⟩, ⟨hS2, hS3⟩, ⟨hS4, hS5⟩, ⟨hS6, hS7⟩⟩ := hSw; go_simp; try (with_reducible rfl))
      try simp only [Act.put, Ls]
      refine tk 13 ?_ rfl (Or.inl ⟨by rfl, ?_⟩) ?_
      rotate_left
      · (intro w hSw; go_simp; try (with_reducible rfl))
      try simp only [Act.put, Ls]
      refine rdy 11 rfl (fun K hK => ?_)
      go_simp
      go_at_call 57
      refine (CZ.out _).mono ?_
      rintro r v2 ⟨az, cz, rfl, oz, hb'⟩
      have hz' := belR.size
      replace belR := bel_go belR hb'
      replace oz := Own.base oz (B' := W9.heap.size) (by omega)
      clear hb' hz'
      refine hK.out _ _ ?_ (fun hHeld => ?_)
      · exact ⟨⟨(Ba.below belR).c0, (Ba.below belR).c1⟩, ⟨(Bb.below belR).c0, (Bb.below belR).c1⟩, ⟨(Bd.below belR).c0, (Bd.below belR).c1⟩, ⟨(Bm.below belR).c0, (Bm.below belR).c1⟩⟩
      clear hK K
      try simp only [Act.put, Ls]
      refine rdy 12 rfl (fun K hK => ?_)
      go_simp
      go_at_call 59
      refine (CE.out ad az cd cz _ (sd.below belR) oz.sl rfl).mono ?_
      rintro r v3 ⟨rfl, hb'⟩
      replace oz := oz.below hb'
      have hz' := belR.size
      replace belR := bel_go belR hb'
      clear hb' hz'
      refine hK.out _ _ ?_ (fun hHeld => ?_)
      · exact ⟨⟨(Ba.below belR).c0, (Ba.below belR).c1⟩, ⟨(Bb.below belR).c0, (Bb.below belR).c1⟩, ⟨(Bd.below belR).c0, (Bd.below belR).c1⟩, ⟨(Bm.below belR).c0, (Bm.below belR).c1⟩⟩
      clear hK K
      try simp only [Act.put, Ls]
      refine tk 14 ?_ rfl (Or.inl ⟨by rfl, ?_⟩) ?_
      rotate_left
      · (intro w hSw; go_simp; try (with_reducible rfl))
      try simp only [Act.put, Ls]
      try rw [eq_k]
      refine tk 15 ?_ rfl (Or.inl ⟨by rfl, ?_⟩) ?_
      rotate_left
      · (intro w hSw; go_simp; try (with_reducible rfl))
      try simp only [Act.put, Ls]
      refine tk 16 ?_ rfl (Or.inl ⟨by rfl, ?_⟩) ?_
      rotate_left
      · (intro w hSw; go_simp; try (with_reducible rfl))
      try simp only [Act.put, Ls]
      refine tk 17 ?_ rfl (Or.inl ⟨by rfl, ?_⟩) ?_
      rotate_left
      · (intro w hSw; go_simp; try (with_reducible rfl))
      try simp only [Act.put, Ls]
      refine tk 18 ?_ rfl (Or.inl ⟨by rfl, ?_⟩) ?_
      rotate_left
      · (intro w hSw; go_simp; try (with_reducible rfl))
      try simp only [Act.put, Ls]
      refine tk 19 ?_ rfl (Or.inl ⟨by rfl, ?_⟩) ?_
      rotate_left
      · (intro w hSw; go_simp; try (with_reducible rfl))
      try simp only [Act.put, Ls]
      refine tk 20 ?_ rfl (Or.inl ⟨by rfl, ?_⟩) ?_
      rotate_left
      · (intro w hSw; go_simp; try (with_reducible rfl))
      try simp only [Act.put, Ls]
      refine tk 21 ?_ rfl (Or.inl ⟨by rfl, ?_⟩) ?_
      rotate_left
      · (intro w hSw; (try dsimp only at hSw); obtain ⟨⟨hS0, hS1⟩, ⟨hS2, hS3⟩, ⟨hS4, hS5⟩, ⟨hS6, hS7⟩⟩ := hSw; go_simp; try (with_reducible rfl))
      try simp only [Act.put, Ls]
      refine tk 22 ?_ rfl (Or.inl ⟨by rfl, ?_⟩) ?_
      rotate_left
      · (intro w hSw; (try dsimp only at hSw); obtain ⟨⟨hS0, hS1⟩, ⟨hS2, hS3⟩, ⟨hS4, hS5⟩, ⟨hS6, hS7⟩⟩ := hSw; go_simp; try (with_reducible rfl))
      try simp only [Act.put, Ls]
      refine rdy 23 rfl (fun K hK => ?_)
      go_simp
      go_at_call 59
      refine (CF.out aa am cA cm _ (sa.below belR) (sm.below belR) rfl).mono ?_
      rintro r v4 ⟨rfl, hb'⟩
      replace oz := oz.below hb'
      have hz' := belR.size
      replace belR := bel_go belR hb'
      clear hb' hz'
      refine hK.out _ _ ?_ (fun hHeld => ?_)
      · exact ⟨⟨(Ba.below belR).c0, (Ba.below belR).c1⟩, ⟨(Bb.below belR).c0, (Bb.below belR).c1⟩, ⟨(Bd.below belR).c0, (Bd.below belR).c1⟩, ⟨(Bm.below belR).c0, (Bm.below belR).c1⟩⟩
      clear hK K
      try simp only [Act.put, Ls]
      refine tk 24 ?_ rfl (Or.inl ⟨by rfl, ?_⟩) ?_
      rotate_left
      · (intro w hSw; go_simp; try (with_reducible rfl))
      try simp only [Act.put, Ls]
      refine tk 25 ?_ rfl (Or.inl ⟨by rfl, ?_⟩) ?_
      rotate_left
      · (intro w hSw; go_simp; try (with_reducible rfl))
      try simp only [Act.put, Ls]
      refine tk 26 ?_ rfl (Or.inl ⟨by rfl, ?_⟩) ?_
      rotate_left
      · (intro w hSw; go_simp; try (with_reducible rfl))
      try simp only [Act.put, Ls]
      refine tk 27 ?_ rfl (Or.inl ⟨by rfl, ?_⟩) ?_
      rotate_left
      · (intro w hSw; go_simp; try (with_reducible rfl))
      try simp only [Act.put, Ls]
      refine tk 28 ?_ rfl (Or.inl ⟨by rfl, ?_⟩) ?_
      rotate_left
      · (intro w hSw; (try dsimp only at hSw); obtain ⟨⟨hS0, hS1⟩, ⟨hS2, hS3⟩, ⟨hS4, hS5⟩, ⟨hS6, hS7⟩⟩ := hSw; go_simp; try (with_reducible rfl))
      try simp only [Act.put, Ls]
      refine tk 29 ?_ rfl (Or.inl ⟨by rfl, ?_⟩) ?_
      rotate_left
      · (intro w hSw; (try dsimp only at hSw); obtain ⟨⟨hS0, hS1⟩, ⟨hS2, hS3⟩, ⟨hS4, hS5⟩, ⟨hS6, hS7⟩⟩ := hSw; go_simp; try (with_reducible rfl))
      try simp only [Act.put, Ls]
      refine rdy 30 rfl (fun K hK => ?_)
      go_simp
      go_at_call 59
      refine (CA.out aa aa cA cA _ (sa.below belR) (sa.below belR)).mono ?_
      rintro r v5 ⟨rfl, hb'⟩
      replace oz := oz.below hb'
      have hz' := belR.size
      replace belR := bel_go belR hb'
      clear hb' hz'
      refine hK.out _ _ ?_ (fun hHeld => ?_)
      · exact ⟨⟨(Ba.below belR).c0, (Ba.below belR).c1⟩, ⟨(Bb.below belR).c0, (Bb.below belR).c1⟩, ⟨(Bd.below belR).c0, (Bd.below belR).c1⟩, ⟨(Bm.below belR).c0, (Bm.below belR).c1⟩⟩
      clear hK K
      try simp only [Act.put, Ls]
      refine tk 31 ?_ rfl (Or.inl ⟨by rfl, ?_⟩) ?_
      rotate_left
      · (intro w hSw; go_simp; try (with_reducible rfl))
      try simp only [Act.put, Ls]
      refine tk 32 ?_ rfl (Or.inl ⟨by rfl, ?_⟩) ?_
      rotate_left
      · (intro w hSw; go_simp; try (with_reducible rfl))
      try simp only [Act.put, Ls]
      refine rdy 33 rfl (fun K hK => ?_)
      go_simp
      refine hK.out _ _ ?_ (fun hHeld => ?_)
      · exact ⟨⟨(Ba.below belR).c0, (Ba.below belR).c1⟩, ⟨(Bb.below belR).c0, (Bb.below belR).c1⟩, ⟨(Bd.below belR).c0, (Bd.below belR).c1⟩, ⟨(Bm.below belR).c0, (Bm.below belR).c1⟩⟩
      clear hK K
      try simp only [Act.put, Ls]
      refine wpAnyH_done (by kernel_rfl) ?_ _
      replace bel := bel.trans (belR.mono bel.size)
      replace sa := sa.below belR
      replace sb := sb.below belR
      replace Ba := Ba.below belR
      replace Bb := Bb.below belR
      replace Bd := Bd.below belR
      replace sd := sd.below belR
      replace Bm := Bm.below belR
      replace sm := sm.below belR
      clear belR
      obtain ⟨ka0, ka1, -, -⟩ := id Ba
      obtain ⟨kb0, kb1, -, -⟩ := id Bb
      obtain ⟨kd0, kd1, -, -⟩ := id Bd
      obtain ⟨km0, km1, -, -⟩ := id Bm
      go_wp2
      all_goals go_ret
      all_goals exact ⟨rfl, bel⟩
theorem wolaw_all (ca : Option Addr) (cc : Nat) (cs : List Int) (w : World) (hs : Sl .u8 w (.slice ca cs.length cc) cs) (hby : ∀ i, 0 ≤ cs.getD i 0 ∧ cs.getD i 0 ≤ 255) :
    Calls Try.prog 12 #[.slice ca cs.length cc] w fun e w' => e = .returned (.bool true) ∧ Below w.heap.size w w' := by
  by_cases hl : cs.length ≤ 1048576
  · exact wolaw ca cc cs w hs hby hl
  · have hlm : cs.length ≤ 9223372036854775807 := by obtain ⟨_, h1, h2, _⟩ := hs.cells; unfold maxLen at h2; omega
    go_enter Try.func12, Try.ntmps12
    go_wp2_with fail
    refine (big_any ca cs.length cc _ hlm true (by simp; omega)).mono ?_
    rintro e w0 ⟨rfl, rfl⟩
    go_wp2
    go_ret
    exact ⟨rfl, Below.refl _ _⟩
end Fw
end Go.Proofs.Ytmnfidkpnogfmaa
