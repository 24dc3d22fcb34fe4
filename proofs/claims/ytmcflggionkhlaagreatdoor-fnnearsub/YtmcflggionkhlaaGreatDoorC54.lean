/-
  What is needed of WI.
-/
import Derived.Test.YtmcflggionkhlaaGreatDoorC53
set_option maxHeartbeats 16000000
set_option maxRecDepth 1000000
namespace Go.Proofs.YtmcflggionkhlaaGreatDoor
set_option linter.unusedVariables false
set_option linter.unusedSimpArgs false
open Go.RowKit Go.Deep
namespace Fd
theorem wl_abs (x : Int) : Nm.wl ((x.natAbs : Nat) : Int) = Nm.wl x := by unfold Nm.wl; rw [Int.natAbs_natCast]
theorem wn_abs (x : Int) : Nm.wn ((x.natAbs : Nat) : Int) = false := by unfold Nm.wn; exact decide_eq_false (by omega)
theorem fit_k {x : Int} (h : bitLen x.natAbs ≤ 6400) : (Nm.wl x).length ≤ 200 := by unfold Nm.wl; exact lim_len (k := 200) h
theorem bl_neg (x : Int) : bitLen (-x).natAbs = bitLen x.natAbs := by rw [Int.natAbs_neg]
theorem bl_sub {x y : Int} {k : Nat} (hx : bitLen x.natAbs ≤ k) (hy : bitLen y.natAbs ≤ k) : bitLen (x - y).natAbs ≤ k + 1 := by
  rw [Int.sub_eq_add_neg]; exact bl_add hx (by rw [bl_neg]; exact hy)
theorem bl_shl (x : Int) (n : Nat) : bitLen (x * 2 ^ n).natAbs ≤ bitLen x.natAbs + n := by
  rw [natAbs_pow]
  by_cases h : x.natAbs = 0
  · rw [h, Nat.zero_mul, Nm.bl_zero]; omega
  · rw [Nm.bl_mul h]; exact Nat.le_refl _
theorem mag_w (g : Bool) (a : Option Addr) (n c : Nat) (w : World) :
    Calls Tryz.prog 21 #[.agg #[.bool g, .slice a n c]] w fun e w' => e = .returned (.agg #[.bool false, .slice a n c]) ∧ Below w.heap.size w w' := by
  go_enter Tryz.func21, Tryz.ntmps21
  go_wp2
  exact bodyPost_ret (v := .agg #[.bool false, .slice a n c]) (by simp [results, Tryz.results21, go_sem]) rfl ⟨rfl, by first | exact (by repeat (first | exact bz0 _ _ | refine bz1 ?_ | refine bz2 ?_ _ | refine bz3 ?_ _ | refine bz5 ?_ _ | refine bz6 ?_ _)) | (exact Below.setCell (Below.setCell (by repeat (first | exact bz0 _ _ | refine bz1 ?_ | refine bz2 ?_ _ | refine bz3 ?_ _ | refine bz5 ?_ _ | refine bz6 ?_ _)) (by simp) _) (by simp) _)⟩
/-- Shifted up. -/
theorem shl_w (x : Int) (n : Int) (a : Option Addr) (c : Nat) (w : World) (hs : Sl .u32 w (.slice a (Nm.wl x).length c) (Nm.wl x)) (n0 : 0 ≤ n) (hb : bitLen x.natAbs + n.toNat ≤ 6400) :
    Calls Tryz.prog 20 #[.agg #[.bool (Nm.wn x), .slice a (Nm.wl x).length c], .int .i64 n] w fun r w' => ∃ a' c', r = .returned (.tuple #[.agg #[.bool (Nm.wn (x * 2 ^ n.toNat)), .slice a' (Nm.wl (x * 2 ^ n.toNat)).length c'], .bool true]) ∧ Own w' w.heap.size a' c' (Nm.wl (x * 2 ^ n.toNat)) ∧ Below w.heap.size w w' :=
  wsh_at2 (Nm.wn x) a c (Nm.wl x) n w hs (Nm.wl_dg _) (okB_wl (fit_k (by omega))) (by omega) (by omega) _ (shz x n n0).symm (fit_k (by have := bl_shl x n.toNat; omega))
theorem cmp_w (x y : Int) (a b : Option Addr) (c d : Nat) (w : World) (hx : Sl .u32 w (.slice a (Nm.wl x).length c) (Nm.wl x)) (hy : Sl .u32 w (.slice b (Nm.wl y).length d) (Nm.wl y)) (lx : (Nm.wl x).length ≤ 200) (ly : (Nm.wl y).length ≤ 200) :
    Calls Tryz.prog 22 #[.agg #[.bool false, .slice a (Nm.wl x).length c], .agg #[.bool false, .slice b (Nm.wl y).length d]] w fun e w' => e = .returned (.int .i64 (cmpI (x.natAbs : Nat) (y.natAbs : Nat))) ∧ Below w.heap.size w w' := by
  have h := wcmp_impl (Nm.wn ((x.natAbs : Nat) : Int)) (Nm.wn ((y.natAbs : Nat) : Int)) a b c d (Nm.wl ((x.natAbs : Nat) : Int)) (Nm.wl ((y.natAbs : Nat) : Int)) w (by rw [wl_abs]; exact hx) (by rw [wl_abs]; exact hy) (by rw [wl_abs]; omega) (by rw [wl_abs]; omega)
  rw [wcmp_int (by rw [wl_abs]; exact lx) (by rw [wl_abs]; exact ly)] at h
  rw [wn_abs, wn_abs, wl_abs, wl_abs] at h
  exact h
/-- What a is less b. -/
theorem less_x (x y : Int) (a b : Option Addr) (c d : Nat) (w : World) (hx : Sl .u32 w (.slice a (Nm.wl x).length c) (Nm.wl x)) (hy : Sl .u32 w (.slice b (Nm.wl y).length d) (Nm.wl y)) (lx : bitLen x.natAbs ≤ 6000) (ly : bitLen y.natAbs ≤ 6000) :
    Calls Tryz.prog 24 #[.agg #[.bool (Nm.wn x), .slice a (Nm.wl x).length c], .agg #[.bool (Nm.wn y), .slice b (Nm.wl y).length d]] w fun e w' => ∃ a' c', e = .returned (.agg #[.bool (Nm.wn (x - y)), .slice a' (Nm.wl (x - y)).length c']) ∧ Sl .u32 w' (.slice a' (Nm.wl (x - y)).length c') (Nm.wl (x - y)) ∧ Below w.heap.size w w' := by
  have CN := hid (fun w' h => eneg_impl y b d w' h (fit_k (by omega)))
  have CA := hid (fun a2 c2 w' h h' => eadd_impl x (-y) a a2 c c2 w' h h' (fit_k (by omega)) (fit_k (by rw [bl_neg]; omega)) (fit_k (by have := bl_sub lx ly; rw [← Int.sub_eq_add_neg]; omega)))
  have ex : x + -y = x - y := (Int.sub_eq_add_neg).symm
  rw [ex] at CA
  obtain ⟨gx, hgx⟩ : ∃ g, g = Nm.wn x := ⟨_, rfl⟩
  obtain ⟨gy, hgy⟩ : ∃ g, g = Nm.wn y := ⟨_, rfl⟩
  obtain ⟨gn, hgn⟩ : ∃ g, g = Nm.wn (-y) := ⟨_, rfl⟩
  obtain ⟨gz, hgz⟩ : ∃ g, g = Nm.wn (x - y) := ⟨_, rfl⟩
  obtain ⟨X, hX⟩ : ∃ g, g = Nm.wl x := ⟨_, rfl⟩
  obtain ⟨Y, hY⟩ : ∃ g, g = Nm.wl y := ⟨_, rfl⟩
  obtain ⟨N, hN⟩ : ∃ g, g = Nm.wl (-y) := ⟨_, rfl⟩
  obtain ⟨Z, hZ⟩ : ∃ g, g = Nm.wl (x - y) := ⟨_, rfl⟩
  rw [← hgy, ← hgn, ← hY, ← hN] at CN
  rw [← hgx, ← hgn, ← hgz, ← hX, ← hN, ← hZ] at CA
  rw [← hX] at hx
  rw [← hY] at hy
  rw [← hgx, ← hgy, ← hgz, ← hX, ← hY, ← hZ]
  clear hgx hgy hgn hgz hX hY hN hZ lx ly ex
  go_enter Tryz.func24, Tryz.ntmps24
  go_upto_region 1 with fail
  have bel := Below.refl w.heap.size w
  replace hx := hx.below (al_b _ (.cells #[.bool gx, .slice a X.length c] 31))
  replace hy := hy.below (al_b _ (.cells #[.bool gx, .slice a X.length c] 31))
  replace bel := bel_al bel (.cells #[.bool gx, .slice a X.length c] 31)
  have Bx := R2.new w (.bool gx) (.slice a X.length c) 31
  replace hx := hx.below (al_b _ (.cells #[.bool gy, .slice b Y.length d] 31))
  replace hy := hy.below (al_b _ (.cells #[.bool gy, .slice b Y.length d] 31))
  replace Bx := Bx.below (al_b _ (.cells #[.bool gy, .slice b Y.length d] 31))
  replace bel := bel_al bel (.cells #[.bool gy, .slice b Y.length d] 31)
  have By := R2.new (w.alloc (.cells #[.bool gx, .slice a X.length c] 31)) (.bool gy) (.slice b Y.length d) 31
  replace hx := hx.below (al_b _ (.cells #[.bool false, .slice none 0 0] 31))
  replace hy := hy.below (al_b _ (.cells #[.bool false, .slice none 0 0] 31))
  replace Bx := Bx.below (al_b _ (.cells #[.bool false, .slice none 0 0] 31))
  replace By := By.below (al_b _ (.cells #[.bool false, .slice none 0 0] 31))
  replace bel := bel_al bel (.cells #[.bool false, .slice none 0 0] 31)
  have Br := R2.new ((w.alloc (.cells #[.bool gx, .slice a X.length c] 31)).alloc (.cells #[.bool gy, .slice b Y.length d] 31)) (.bool false) (.slice none 0 0) 31
  have hsz : ((w.alloc (.cells #[.bool gx, .slice a X.length c] 31)).alloc (.cells #[.bool gy, .slice b Y.length d] 31)).heap.size = w.heap.size + 1 + 1 := by simp
  have hsz1 : (w.alloc (.cells #[.bool gx, .slice a X.length c] 31)).heap.size = w.heap.size + 1 := by simp
  rw [hsz] at Br
  rw [hsz1] at By
  generalize ((w.alloc (.cells #[.bool gx, .slice a X.length c] 31)).alloc (.cells #[.bool gy, .slice b Y.length d] 31)).alloc (.cells #[.bool false, .slice none 0 0] 31) = W at hx hy bel Bx By Br ⊢
  have hW : w.heap.size + 3 ≤ W.heap.size := by have := World.block_lt_of_cell? _ _ Br.c0; simp only [] at this; omega
  have belR := Below.drew (Below.refl W.heap.size W)
  refine wp_region_held_drew (S := fun w' => (w'.cell? ⟨w.heap.size, 0, none⟩ = some (.bool gx) ∧ w'.cell? ⟨w.heap.size, 1, none⟩ = some (.slice a X.length c)) ∧ w'.cell? ⟨w.heap.size + 1, 0, none⟩ = some (.bool gy) ∧ w'.cell? ⟨w.heap.size + 1, 1, none⟩ = some (.slice b Y.length d)) (by kernel_rfl) ?_ (fun hHeld => ?_)
  · exact ⟨⟨Bx.c0, Bx.c1⟩, By.c0, By.c1⟩
  generalize W.drew = v0 at belR hHeld ⊢
  refine tk 0 ?_ rfl (Or.inl ⟨by rfl, ?_⟩) ?_
  rotate_left
  · (intro w hSw; (try dsimp only at hSw); obtain ⟨⟨hS0, hS1⟩, hS2, hS3⟩ := hSw; go_simp; try (with_reducible rfl))
  try simp only [Act.put, Ls]
  refine tk 1 ?_ rfl (Or.inl ⟨by rfl, ?_⟩) ?_
  rotate_left
  · (intro w hSw; (try dsimp only at hSw); obtain ⟨⟨hS0, hS1⟩, hS2, hS3⟩ := hSw; go_simp; try (with_reducible rfl))
  try simp only [Act.put, Ls]
  refine wpAnyH_ready (rs := [2, 7]) (by kernel_rfl) (by simp) ?_
  refine AllReadyH.cons (o := _) rfl (fun K hK => ?_) (AllReadyH.cons (o := _) rfl (fun K hK => ?_) AllReadyH.nil)
  · go_simp
    go_at_call 73
    refine (CN.out _ (hy.below belR)).mono ?_
    rintro r v1 ⟨a2, c2, rfl, o2, hb'⟩
    have hz' := belR.size
    replace belR := bel_go belR hb'
    replace o2 := Own.base o2 (B' := W.heap.size) (by omega)
    clear hb' hz'
    refine hK.out _ _ ?_ (fun hHeld => ?_)
    · exact ⟨⟨(Bx.below belR).c0, (Bx.below belR).c1⟩, (By.below belR).c0, (By.below belR).c1⟩
    clear hK K
    try simp only [Act.put, Ls]
    refine wpAnyH_ready (rs := [3, 7]) (by kernel_rfl) (by simp) ?_
    refine AllReadyH.cons (o := _) rfl (fun K hK => ?_) (AllReadyH.cons (o := _) rfl (fun K hK => ?_) AllReadyH.nil)
    · go_simp
      go_at_call 72
      refine (CA.out a2 c2 _ (hx.below belR) o2.sl).mono ?_
      rintro r v2 ⟨a3, c3, rfl, o3, hb'⟩
      replace o2 := o2.below hb'
      have hz' := belR.size
      replace belR := bel_go belR hb'
      replace o3 := Own.base o3 (B' := W.heap.size) (by omega)
      clear hb' hz'
      refine hK.out _ _ ?_ (fun hHeld => ?_)
      · exact ⟨⟨(Bx.below belR).c0, (Bx.below belR).c1⟩, (By.below belR).c0, (By.below belR).c1⟩
      clear hK K
      try simp only [Act.put, Ls]
      refine tk 4 ?_ rfl (Or.inl ⟨by rfl, ?_⟩) ?_
      rotate_left
      · (intro w hSw; go_simp; try (with_reducible rfl))
      try simp only [Act.put, Ls]
      refine tk 5 ?_ rfl (Or.inl ⟨by rfl, ?_⟩) ?_
      rotate_left
      · (intro w hSw; go_simp; try (with_reducible rfl))
      try simp only [Act.put, Ls]
      refine tk 6 ?_ rfl (Or.inl ⟨by rfl, ?_⟩) ?_
      rotate_left
      · (intro w hSw; go_simp; try (with_reducible rfl))
      try simp only [Act.put, Ls]
      refine rdy 7 rfl (fun K hK => ?_)
      go_simp
      refine hK.out _ _ ?_ (fun hHeld => ?_)
      · exact ⟨⟨(Bx.below (bel_al belR (.cells #[.bool false, .slice none 0 0] 31))).c0, (Bx.below (bel_al belR (.cells #[.bool false, .slice none 0 0] 31))).c1⟩, (By.below (bel_al belR (.cells #[.bool false, .slice none 0 0] 31))).c0, (By.below (bel_al belR (.cells #[.bool false, .slice none 0 0] 31))).c1⟩
      clear hK K
      try simp only [Act.put, Ls]
      obtain ⟨b5, h2⟩ : ∃ q, q = v2.heap.size := ⟨_, rfl⟩
      have hb5 : W.heap.size ≤ b5 := by have := belR.size; omega
      have B5 := R2.new v2 (.bool false) (.slice none 0 0) 31
      rw [← h2] at B5 ⊢
      have ng2_5 : ∀ g, a2 = some ⟨g, 0, none⟩ → g ≠ b5 := fun g h => by have := (own_at o2 g h).2; omega
      have ng3_5 : ∀ g, a3 = some ⟨g, 0, none⟩ → g ≠ b5 := fun g h => by have := (own_at o3 g h).2; omega
      replace o2 := o2.below (al_b _ (.cells #[.bool false, .slice none 0 0] 31))
      replace o3 := o3.below (al_b _ (.cells #[.bool false, .slice none 0 0] 31))
      replace belR := bel_al belR (.cells #[.bool false, .slice none 0 0] 31)
      clear h2
      generalize v2.alloc (.cells #[.bool false, .slice none 0 0] 31) = v3 at B5 belR hHeld o2 o3 ⊢
      refine rdy 8 rfl (fun K hK => ?_)
      have ⟨y50, y51, y52, y53⟩ := B5
      go_simp
      have belS := ((belR.setCell (p := ⟨b5, 0, none⟩) (by simpa using hb5) (.bool gz)).setCell (p := ⟨b5, 1, none⟩) (by simpa using hb5) (.slice a3 Z.length c3))
      refine hK.out _ _ ?_ (fun hHeld => ?_)
      · exact ⟨⟨(Bx.below belS).c0, (Bx.below belS).c1⟩, (By.below belS).c0, (By.below belS).c1⟩
      clear hK K
      try simp only [Act.put, Ls]
      refine rdy 9 rfl (fun K hK => ?_)
      go_simp
      refine hK.out _ _ ?_ (fun hHeld => ?_)
      · exact ⟨⟨(Bx.below belS).c0, (Bx.below belS).c1⟩, (By.below belS).c0, (By.below belS).c1⟩
      clear hK K
      try simp only [Act.put, Ls]
      refine wpAnyH_done (by kernel_rfl) ?_ _
      have Br' := Br.below belS
      obtain ⟨kr0, kr1, lr0, lr1⟩ := id Br'
      obtain ⟨kx0, kx1, mx0, mx1⟩ := id (R2.set B5 (.bool gz) (.slice a3 Z.length c3))
      go_wp2
      refine bodyPost_ret (v := .agg #[.bool gz, .slice a3 Z.length c3]) (by simp [results, Tryz.results24, go_sem, kr0, kr1, kx0, kx1]) rfl ⟨a3, c3, rfl, ?_, ?_⟩
      · exact ((((o3.setOther ng3_5 _).setOther ng3_5 _).setOther (fun g h => by have := (own_at o3 g h).1; simp; omega) _).setOther (fun g h => by have := (own_at o3 g h).1; simp; omega) _).sl
      · exact (((bel.trans (belR.mono bel.size)).setCell (p := ⟨b5, 0, none⟩) (by simp; omega) _ |>.setCell (p := ⟨b5, 1, none⟩) (by simp; omega) _).setCell (by simp; omega) _).setCell (by simp; omega) _
    · go_simp
      refine hK.out _ _ ?_ (fun hHeld => ?_)
      · exact ⟨⟨(Bx.below (bel_al belR (.cells #[.bool false, .slice none 0 0] 31))).c0, (Bx.below (bel_al belR (.cells #[.bool false, .slice none 0 0] 31))).c1⟩, (By.below (bel_al belR (.cells #[.bool false, .slice none 0 0] 31))).c0, (By.below (bel_al belR (.cells #[.bool false, .slice none 0 0] 31))).c1⟩
      clear hK K
      try simp only [Act.put, Ls]
      obtain ⟨b5, h2⟩ : ∃ q, q = v1.heap.size := ⟨_, rfl⟩
      have hb5 : W.heap.size ≤ b5 := by have := belR.size; omega
      have B5 := R2.new v1 (.bool false) (.slice none 0 0) 31
      rw [← h2] at B5 ⊢
      have ng2_5 : ∀ g, a2 = some ⟨g, 0, none⟩ → g ≠ b5 := fun g h => by have := (own_at o2 g h).2; omega
      replace o2 := o2.below (al_b _ (.cells #[.bool false, .slice none 0 0] 31))
      replace belR := bel_al belR (.cells #[.bool false, .slice none 0 0] 31)
      clear h2
      generalize v1.alloc (.cells #[.bool false, .slice none 0 0] 31) = v2 at B5 belR hHeld o2 ⊢
      refine rdy 3 rfl (fun K hK => ?_)
      go_simp
      go_at_call 72
      refine (CA.out a2 c2 _ (hx.below belR) o2.sl).mono ?_
      have hl5 : b5 < v2.heap.size := World.block_lt_of_cell? _ _ B5.c0
      rintro r v3 ⟨a3, c3, rfl, o3, hb'⟩
      replace o2 := o2.below hb'
      replace B5 := B5.below hb'
      have hz' := belR.size
      replace belR := bel_go belR hb'
      have ng3_5 : ∀ g, a3 = some ⟨g, 0, none⟩ → g ≠ b5 := fun g h => by have := (own_at o3 g h).1; omega
      replace o3 := Own.base o3 (B' := W.heap.size) (by omega)
      clear hl5
      clear hb' hz'
      refine hK.out _ _ ?_ (fun hHeld => ?_)
      · exact ⟨⟨(Bx.below belR).c0, (Bx.below belR).c1⟩, (By.below belR).c0, (By.below belR).c1⟩
      clear hK K
      try simp only [Act.put, Ls]
      refine tk 4 ?_ rfl (Or.inl ⟨by rfl, ?_⟩) ?_
      rotate_left
      · (intro w hSw; go_simp; try (with_reducible rfl))
      try simp only [Act.put, Ls]
      refine tk 5 ?_ rfl (Or.inl ⟨by rfl, ?_⟩) ?_
      rotate_left
      · (intro w hSw; go_simp; try (with_reducible rfl))
      try simp only [Act.put, Ls]
      refine tk 6 ?_ rfl (Or.inl ⟨by rfl, ?_⟩) ?_
      rotate_left
      · (intro w hSw; go_simp; try (with_reducible rfl))
      try simp only [Act.put, Ls]
      refine rdy 8 rfl (fun K hK => ?_)
      have ⟨y50, y51, y52, y53⟩ := B5
      go_simp
      have belS := ((belR.setCell (p := ⟨b5, 0, none⟩) (by simpa using hb5) (.bool gz)).setCell (p := ⟨b5, 1, none⟩) (by simpa using hb5) (.slice a3 Z.length c3))
      refine hK.out _ _ ?_ (fun hHeld => ?_)
      · exact ⟨⟨(Bx.below belS).c0, (Bx.below belS).c1⟩, (By.below belS).c0, (By.below belS).c1⟩
      clear hK K
      try simp only [Act.put, Ls]
      refine rdy 9 rfl (fun K hK => ?_)
      go_simp
      refine hK.out _ _ ?_ (fun hHeld => ?_)
      · exact ⟨⟨(Bx.below belS).c0, (Bx.below belS).c1⟩, (By.below belS).c0, (By.below belS).c1⟩
      clear hK K
      try simp only [Act.put, Ls]
      refine wpAnyH_done (by kernel_rfl) ?_ _
      have Br' := Br.below belS
      obtain ⟨kr0, kr1, lr0, lr1⟩ := id Br'
      obtain ⟨kx0, kx1, mx0, mx1⟩ := id (R2.set B5 (.bool gz) (.slice a3 Z.length c3))
      go_wp2
      refine bodyPost_ret (v := .agg #[.bool gz, .slice a3 Z.length c3]) (by simp [results, Tryz.results24, go_sem, kr0, kr1, kx0, kx1]) rfl ⟨a3, c3, rfl, ?_, ?_⟩
      · exact ((((o3.setOther ng3_5 _).setOther ng3_5 _).setOther (fun g h => by have := (own_at o3 g h).1; simp; omega) _).setOther (fun g h => by have := (own_at o3 g h).1; simp; omega) _).sl
      · exact (((bel.trans (belR.mono bel.size)).setCell (p := ⟨b5, 0, none⟩) (by simp; omega) _ |>.setCell (p := ⟨b5, 1, none⟩) (by simp; omega) _).setCell (by simp; omega) _).setCell (by simp; omega) _
  · go_simp
    refine hK.out _ _ ?_ (fun hHeld => ?_)
    · exact ⟨⟨(Bx.below (bel_al belR (.cells #[.bool false, .slice none 0 0] 31))).c0, (Bx.below (bel_al belR (.cells #[.bool false, .slice none 0 0] 31))).c1⟩, (By.below (bel_al belR (.cells #[.bool false, .slice none 0 0] 31))).c0, (By.below (bel_al belR (.cells #[.bool false, .slice none 0 0] 31))).c1⟩
    clear hK K
    try simp only [Act.put, Ls]
    obtain ⟨b5, h2⟩ : ∃ q, q = v0.heap.size := ⟨_, rfl⟩
    have hb5 : W.heap.size ≤ b5 := by have := belR.size; omega
    have B5 := R2.new v0 (.bool false) (.slice none 0 0) 31
    rw [← h2] at B5 ⊢
    replace belR := bel_al belR (.cells #[.bool false, .slice none 0 0] 31)
    clear h2
    generalize v0.alloc (.cells #[.bool false, .slice none 0 0] 31) = v1 at B5 belR hHeld ⊢
    refine rdy 2 rfl (fun K hK => ?_)
    go_simp
    go_at_call 73
    refine (CN.out _ (hy.below belR)).mono ?_
    have hl5 : b5 < v1.heap.size := World.block_lt_of_cell? _ _ B5.c0
    rintro r v2 ⟨a2, c2, rfl, o2, hb'⟩
    replace B5 := B5.below hb'
    have hz' := belR.size
    replace belR := bel_go belR hb'
    have ng2_5 : ∀ g, a2 = some ⟨g, 0, none⟩ → g ≠ b5 := fun g h => by have := (own_at o2 g h).1; omega
    replace o2 := Own.base o2 (B' := W.heap.size) (by omega)
    clear hl5
    clear hb' hz'
    refine hK.out _ _ ?_ (fun hHeld => ?_)
    · exact ⟨⟨(Bx.below belR).c0, (Bx.below belR).c1⟩, (By.below belR).c0, (By.below belR).c1⟩
    clear hK K
    try simp only [Act.put, Ls]
    refine rdy 3 rfl (fun K hK => ?_)
    go_simp
    go_at_call 72
    refine (CA.out a2 c2 _ (hx.below belR) o2.sl).mono ?_
    have hl5 : b5 < v2.heap.size := World.block_lt_of_cell? _ _ B5.c0
    rintro r v3 ⟨a3, c3, rfl, o3, hb'⟩
    replace o2 := o2.below hb'
    replace B5 := B5.below hb'
    have hz' := belR.size
    replace belR := bel_go belR hb'
    have ng3_5 : ∀ g, a3 = some ⟨g, 0, none⟩ → g ≠ b5 := fun g h => by have := (own_at o3 g h).1; omega
    replace o3 := Own.base o3 (B' := W.heap.size) (by omega)
    clear hl5
    clear hb' hz'
    refine hK.out _ _ ?_ (fun hHeld => ?_)
    · exact ⟨⟨(Bx.below belR).c0, (Bx.below belR).c1⟩, (By.below belR).c0, (By.below belR).c1⟩
    clear hK K
    try simp only [Act.put, Ls]
    refine tk 4 ?_ rfl (Or.inl ⟨by rfl, ?_⟩) ?_
    rotate_left
    · (intro w hSw; go_simp; try (with_reducible rfl))
    try simp only [Act.put, Ls]
    refine tk 5 ?_ rfl (Or.inl ⟨by rfl, ?_⟩) ?_
    rotate_left
    · (intro w hSw; go_simp; try (with_reducible rfl))
    try simp only [Act.put, Ls]
    refine tk 6 ?_ rfl (Or.inl ⟨by rfl, ?_⟩) ?_
    rotate_left
    · (intro w hSw; go_simp; try (with_reducible rfl))
    try simp only [Act.put, Ls]
    refine rdy 8 rfl (fun K hK => ?_)
    have ⟨y50, y51, y52, y53⟩ := B5
    go_simp
    have belS := ((belR.setCell (p := ⟨b5, 0, none⟩) (by simpa using hb5) (.bool gz)).setCell (p := ⟨b5, 1, none⟩) (by simpa using hb5) (.slice a3 Z.length c3))
    refine hK.out _ _ ?_ (fun hHeld => ?_)
    · exact ⟨⟨(Bx.below belS).c0, (Bx.below belS).c1⟩, (By.below belS).c0, (By.below belS).c1⟩
    clear hK K
    try simp only [Act.put, Ls]
    refine rdy 9 rfl (fun K hK => ?_)
    go_simp
    refine hK.out _ _ ?_ (fun hHeld => ?_)
    · exact ⟨⟨(Bx.below belS).c0, (Bx.below belS).c1⟩, (By.below belS).c0, (By.below belS).c1⟩
    clear hK K
    try simp only [Act.put, Ls]
    refine wpAnyH_done (by kernel_rfl) ?_ _
    have Br' := Br.below belS
    obtain ⟨kr0, kr1, lr0, lr1⟩ := id Br'
    obtain ⟨kx0, kx1, mx0, mx1⟩ := id (R2.set B5 (.bool gz) (.slice a3 Z.length c3))
    go_wp2
    refine bodyPost_ret (v := .agg #[.bool gz, .slice a3 Z.length c3]) (by simp [results, Tryz.results24, go_sem, kr0, kr1, kx0, kx1]) rfl ⟨a3, c3, rfl, ?_, ?_⟩
    · exact ((((o3.setOther ng3_5 _).setOther ng3_5 _).setOther (fun g h => by have := (own_at o3 g h).1; simp; omega) _).setOther (fun g h => by have := (own_at o3 g h).1; simp; omega) _).sl
    · exact (((bel.trans (belR.mono bel.size)).setCell (p := ⟨b5, 0, none⟩) (by simp; omega) _ |>.setCell (p := ⟨b5, 1, none⟩) (by simp; omega) _).setCell (by simp; omega) _).setCell (by simp; omega) _
end Fd
end Go.Proofs.YtmcflggionkhlaaGreatDoor
