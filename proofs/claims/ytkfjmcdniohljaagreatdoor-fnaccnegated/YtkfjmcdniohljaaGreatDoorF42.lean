/-
  What is needed of FG.
-/
import Derived.Test.YtkfjmcdniohljaaGreatDoorF40
set_option maxHeartbeats 16000000
set_option maxRecDepth 1000000
namespace Go.Proofs.YtkfjmcdniohljaaGreatDoor
set_option linter.unusedVariables false
set_option linter.unusedSimpArgs false
open Go.RowKit Go.Deep
namespace Fd
theorem nn_wrap (a : Int) : 0 ≤ IntKind.u64.wrap a := by rw [IntKind.wrap_u64]; omega
theorem fpb_nn (fm : Int) (ng : Bool) (M E : Int) : 0 ≤ FpB fm ng M E := by
 have hs : ∀ (S : Int) (n : Nat) (b : Bool), 0 ≤ S → 0 ≤ sgn S (n : Int) b := fun S n b h => by unfold sgn; cases b <;> simp <;> omega
 unfold FpB fpB
 split
 ·split
  ·split
   ·exact hs _ 0 _ (by decide)
   ·exact hs _ _ _ (by decide)
  ·decide
 ·split
  ·split
   ·split
    ·exact hs _ 0 _ (by decide)
    ·exact hs _ _ _ (by decide)
   ·decide
  ·decide
theorem below_dr {w w' : World} (h : Below w.drew.heap.size w.drew w') : Below w.heap.size w w' := ⟨h.os, h.tape, h.output, h.size, h.block⟩
theorem seven_cell {v0 v1 v2 v3 v4 v5 v6 : Int} (w : World) {w' : World} {rb : Nat} {t : TypeId} (hg : (w.alloc (.cells #[.int .u64 v0, .int .u64 v1, .int .u64 v2, .int .u64 v3, .int .u64 v4, .int .u64 v5, .int .u64 v6] t)).grownBy w' (some rb)) (hne : rb < w.heap.size) (k : Nat) (hk : k < 7) (h : 0 ≤ v0 ∧ 0 ≤ v1 ∧ 0 ≤ v2 ∧ 0 ≤ v3 ∧ 0 ≤ v4 ∧ 0 ≤ v5 ∧ 0 ≤ v6) :
  ∃ d : Int, w'.cell? ⟨w.heap.size, k, none⟩ = some (.int .u64 d) ∧ 0 ≤ d := by
 have e := hg.block w.heap.size (by simp) (by simp; omega)
 have q : ∀ j, w'.cell? ⟨w.heap.size, j, none⟩ = (#[.int .u64 v0, .int .u64 v1, .int .u64 v2, .int .u64 v3, .int .u64 v4, .int .u64 v5, .int .u64 v6] : Array Value)[j]? := fun j => by
  rw [World.cell?_of_block (a := ⟨w.heap.size, j, none⟩) e]
  exact World.cell?_alloc_new w _ _ j
 rw [q k]
 obtain ⟨h0, h1, h2, h3, h4, h5, h6⟩ := h
 rcases (show k = 0 ∨ k = 1 ∨ k = 2 ∨ k = 3 ∨ k = 4 ∨ k = 5 ∨ k = 6 by omega) with rfl | rfl | rfl | rfl | rfl | rfl | rfl
 ·exact ⟨v0, rfl, h0⟩
 ·exact ⟨v1, rfl, h1⟩
 ·exact ⟨v2, rfl, h2⟩
 ·exact ⟨v3, rfl, h3⟩
 ·exact ⟨v4, rfl, h4⟩
 ·exact ⟨v5, rfl, h5⟩
 ·exact ⟨v6, rfl, h6⟩
def FinP32 (x : Int) : Prop := 0 ≤ x ∧ x < 4294967296 ∧ finB 32 x = true
theorem sgn_fin32 (x : Int) (ng : Bool) (h : 0 ≤ x ∧ x < 2139095040) : FinP32 (sgn 2147483648 x ng) := by
 have hb : 0 ≤ sgn 2147483648 x ng ∧ sgn 2147483648 x ng < 4294967296 := by unfold sgn; cases ng <;> simp <;> omega
 refine ⟨hb.1, hb.2, ?_⟩
 have e : sgn 2147483648 x ng % 2147483648 = x := by unfold sgn; cases ng <;> simp <;> omega
 unfold finB
 rw [cls32 hb.2]
 unfold clsY
 rw [e]
 simp only [decide_eq_true_eq]
 repeat' split
 all_goals omega
theorem tmX32 {a : Int} (h : 0 ≤ a) : 0 ≤ a.tmod 2139095040 ∧ a.tmod 2139095040 < 2139095040 := by
 rw [Int.tmod_eq_emod_of_nonneg h]; omega
theorem tmW32 {a : Int} (h : 0 ≤ a) : 0 ≤ a.tmod 2139095040 ∧ a.tmod 2139095040 < 2147483648 := by
 have := tmX32 h; omega
theorem finiteF32 (rb : Nat) (ca : Option Addr) (cc : Nat) (cs : List Int) (w : World) (hr : RD w rb ca cc cs) :
  Calls Tryz.prog 201 #[.pointer (some ⟨rb, 0, none⟩), .int .i64 32] w fun e w' => ∃ x : Int, e = .returned (.int .u64 x) ∧ FinP32 x ∧ RD w' rb ca cc cs ∧ w.grownBy w' (some rb) := by
 have CI := hid (fun w' => spec_inf32 w')
 have CP := hid (fun w' => spec_P32 w')
 have hg := grown_refl w (some rb)
 have eI : infOf 32 = 2139095040 := rfl
 rw [eI] at CI
 go_enter Tryz.func201, Tryz.ntmps201
 go_wp2_with fail
 refine (CI.out _).mono ?_
 rintro r W ⟨rfl, hb⟩
 replace hr := hr.below hb
 replace hg := grown_trans hg (grown_below hb _)
 clear hb
 go_wp2_with fail
 refine (CP.out _).mono ?_
 rintro r W ⟨rfl, hb⟩
 replace hr := hr.below hb
 replace hg := grown_trans hg (grown_below hb _)
 clear hb
 go_wp2_with fail
 refine (below_any rb ca cc cs 10 _ hr (by decide) (by decide)).mono ?_
 rintro r W ⟨v, rfl, v0, v1, hr, hg'⟩
 replace hg := grown_trans hg hg'
 clear hg'
 rcases (show v = 0 ∨ v = 1 ∨ v = 2 ∨ v = 3 ∨ v = 4 ∨ 4 < v by omega) with rfl | rfl | rfl | rfl | rfl | hv
 ·go_wp2_with fail
  refine (CP.out _).mono ?_
  rintro r W ⟨rfl, hb⟩
  replace hr := hr.below hb
  replace hg := grown_trans hg (grown_below hb _)
  clear hb
  go_wp2_with fail
  refine (CP.out _).mono ?_
  rintro r W ⟨rfl, hb⟩
  replace hr := hr.below hb
  replace hg := grown_trans hg (grown_below hb _)
  clear hb
  go_wp2_with fail
  refine (CI.out _).mono ?_
  rintro r W ⟨rfl, hb⟩
  replace hr := hr.below hb
  replace hg := grown_trans hg (grown_below hb _)
  clear hb
  go_wp2_with fail
  refine (CI.out _).mono ?_
  rintro r W ⟨rfl, hb⟩
  replace hr := hr.below hb
  replace hg := grown_trans hg (grown_below hb _)
  clear hb
  obtain ⟨W0, hW0⟩ : ∃ W0, W0 = W := ⟨_, rfl⟩
  have hr0 := hr.alloc (.cells #[.int .u64 0, .int .u64 1, .int .u64 2, .int .u64 8388607, .int .u64 8388608, .int .u64 2139095039, .int .u64 2139095038] 22)
  have lr := hr.lt
  go_wp2_with fail
  refine (below_any rb ca cc cs 7 _ hr0 (by decide) (by decide)).mono ?_
  rintro r W' ⟨kz, rfl, k0, k1, hr, hg'⟩
  obtain ⟨kn, rfl⟩ := Int.eq_ofNat_of_zero_le k0
  obtain ⟨d, hd, d0⟩ := seven_cell W hg' lr kn (by omega) (by decide)
  replace hg := grown_trans (grown_alloc hg _) hg'
  clear hg' hW0
  go_upto_region 9 with fail
  replace hr := hr.drew
  refine wp_region_held_drew (S := fun _ => True) (by kernel_rfl) ?_ (fun hHeld => ?_)
  ·trivial
  refine tk 0 ?_ rfl (Or.inl ⟨by rfl, ?_⟩) ?_
  rotate_left
  ·(intro w hSw; go_simp; try (with_reducible rfl))
  try simp only [Act.put, Ls]
  refine tk 1 ?_ rfl (Or.inl ⟨by rfl, ?_⟩) ?_
  rotate_left
  ·(intro w hSw; go_simp; try (with_reducible rfl))
  try simp only [Act.put, Ls]
  refine tk 2 ?_ rfl (Or.inl ⟨by rfl, ?_⟩) ?_
  rotate_left
  ·(intro w hSw; go_simp; try (with_reducible rfl))
  try simp only [Act.put, Ls]
  refine tk 5 ?_ rfl (Or.inl ⟨by rfl, ?_⟩) ?_
  rotate_left
  ·(intro w hSw; go_simp; try (with_reducible rfl))
  try simp only [Act.put, Ls]
  refine wpAnyH_ready (rs := [3]) (by kernel_rfl) (by simp) ?_
  refine (AllReadyH.cons (o := _) rfl (fun K hK => ?_) AllReadyH.nil)
  go_simp
  go_at_call 165; refine (CI.out _).mono ?_; rintro r W ⟨rfl, hb⟩
  replace hr := hr.below hb
  replace hg : w.grownBy W (some rb) := grown_trans hg (grown_below (w := _) (w' := W) (below_dr hb) _)
  clear hb
  refine hK.out _ _ ?_ (fun hHeld => ?_)
  ·trivial
  clear hK K
  try simp only [Act.put, Ls]
  refine tk 4 ?_ rfl (Or.inl ⟨by rfl, ?_⟩) ?_
  rotate_left
  ·(intro w hSw; go_simp; try (with_reducible rfl))
  try simp only [Act.put, Ls]
  refine wpAnyH_ready (rs := [6]) (by kernel_rfl) (by simp) ?_
  refine (AllReadyH.cons (o := _) rfl (fun K hK => ?_) AllReadyH.nil)
  go_simp
  go_at_call 97; refine (once_any rb ca cc cs 2 _ hr (by decide) (by decide)).mono ?_; rintro r W ⟨ng, rfl, hr, hg'⟩
  replace hg := grown_trans hg hg'
  clear hg'
  refine hK.out _ _ ?_ (fun hHeld => ?_)
  ·trivial
  clear hK K
  try simp only [Act.put, Ls]
  refine wpAnyH_ready (rs := [7]) (by kernel_rfl) (by simp) ?_
  refine (AllReadyH.cons (o := _) rfl (fun K hK => ?_) AllReadyH.nil)
  go_simp
  go_at_call 88; refine (with_32 (Int.tmod _ 2139095040) ng _ (fun _ => tmW32 ?_)).mono ?_
  ·(first | omega | exact Int.tmod_nonneg _ (by omega) | exact nn_wrap _ | exact fpb_nn _ _ _ _)
  rintro r W ⟨rfl, hb⟩
  replace hr := hr.below hb
  replace hg := grown_trans hg (grown_below hb _)
  clear hb
  refine hK.out _ _ ?_ (fun hHeld => ?_)
  ·trivial
  clear hK K
  try simp only [Act.put, Ls]
  refine tk 8 ?_ rfl (Or.inl ⟨by rfl, ?_⟩) ?_
  rotate_left
  ·(intro w hSw; go_simp; try (with_reducible rfl))
  try simp only [Act.put, Ls]
  refine wpAnyH_done (by kernel_rfl) ?_ _
  go_wp2
  go_ret
  refine ⟨_, rfl, sgn_fin32 _ ng (tmX32 ?_), hr, hg⟩ <;> (first | omega | exact Int.tmod_nonneg _ (by omega) | exact nn_wrap _ | exact fpb_nn _ _ _ _)
 ·go_wp2_with fail
  refine (word_any rb ca cc cs _ hr).mono ?_
  rintro r W ⟨x, rfl, x0, x1, hr, hg'⟩
  replace hg := grown_trans hg hg'
  clear hg'
  go_wp2_with fail
  refine (CI.out _).mono ?_
  rintro r W ⟨rfl, hb⟩
  replace hr := hr.below hb
  replace hg := grown_trans hg (grown_below hb _)
  clear hb
  go_upto_region 9 with fail
  replace hr := hr.drew
  refine wp_region_held_drew (S := fun _ => True) (by kernel_rfl) ?_ (fun hHeld => ?_)
  ·trivial
  refine tk 0 ?_ rfl (Or.inl ⟨by rfl, ?_⟩) ?_
  rotate_left
  ·(intro w hSw; go_simp; try (with_reducible rfl))
  try simp only [Act.put, Ls]
  refine tk 1 ?_ rfl (Or.inl ⟨by rfl, ?_⟩) ?_
  rotate_left
  ·(intro w hSw; go_simp; try (with_reducible rfl))
  try simp only [Act.put, Ls]
  refine tk 2 ?_ rfl (Or.inl ⟨by rfl, ?_⟩) ?_
  rotate_left
  ·(intro w hSw; go_simp; try (with_reducible rfl))
  try simp only [Act.put, Ls]
  refine tk 5 ?_ rfl (Or.inl ⟨by rfl, ?_⟩) ?_
  rotate_left
  ·(intro w hSw; go_simp; try (with_reducible rfl))
  try simp only [Act.put, Ls]
  refine wpAnyH_ready (rs := [3]) (by kernel_rfl) (by simp) ?_
  refine (AllReadyH.cons (o := _) rfl (fun K hK => ?_) AllReadyH.nil)
  go_simp
  go_at_call 165; refine (CI.out _).mono ?_; rintro r W ⟨rfl, hb⟩
  replace hr := hr.below hb
  replace hg : w.grownBy W (some rb) := grown_trans hg (grown_below (w := _) (w' := W) (below_dr hb) _)
  clear hb
  refine hK.out _ _ ?_ (fun hHeld => ?_)
  ·trivial
  clear hK K
  try simp only [Act.put, Ls]
  refine tk 4 ?_ rfl (Or.inl ⟨by rfl, ?_⟩) ?_
  rotate_left
  ·(intro w hSw; go_simp; try (with_reducible rfl))
  try simp only [Act.put, Ls]
  refine wpAnyH_ready (rs := [6]) (by kernel_rfl) (by simp) ?_
  refine (AllReadyH.cons (o := _) rfl (fun K hK => ?_) AllReadyH.nil)
  go_simp
  go_at_call 97; refine (once_any rb ca cc cs 2 _ hr (by decide) (by decide)).mono ?_; rintro r W ⟨ng, rfl, hr, hg'⟩
  replace hg := grown_trans hg hg'
  clear hg'
  refine hK.out _ _ ?_ (fun hHeld => ?_)
  ·trivial
  clear hK K
  try simp only [Act.put, Ls]
  refine wpAnyH_ready (rs := [7]) (by kernel_rfl) (by simp) ?_
  refine (AllReadyH.cons (o := _) rfl (fun K hK => ?_) AllReadyH.nil)
  go_simp
  go_at_call 88; refine (with_32 (Int.tmod _ 2139095040) ng _ (fun _ => tmW32 ?_)).mono ?_
  ·(first | omega | exact Int.tmod_nonneg _ (by omega) | exact nn_wrap _ | exact fpb_nn _ _ _ _)
  rintro r W ⟨rfl, hb⟩
  replace hr := hr.below hb
  replace hg := grown_trans hg (grown_below hb _)
  clear hb
  refine hK.out _ _ ?_ (fun hHeld => ?_)
  ·trivial
  clear hK K
  try simp only [Act.put, Ls]
  refine tk 8 ?_ rfl (Or.inl ⟨by rfl, ?_⟩) ?_
  rotate_left
  ·(intro w hSw; go_simp; try (with_reducible rfl))
  try simp only [Act.put, Ls]
  refine wpAnyH_done (by kernel_rfl) ?_ _
  go_wp2
  go_ret
  refine ⟨_, rfl, sgn_fin32 _ ng (tmX32 ?_), hr, hg⟩ <;> (first | omega | exact Int.tmod_nonneg _ (by omega) | exact nn_wrap _ | exact fpb_nn _ _ _ _)
 ·go_wp2_with fail
  refine (word_any rb ca cc cs _ hr).mono ?_
  rintro r W ⟨x, rfl, x0, x1, hr, hg'⟩
  replace hg := grown_trans hg hg'
  clear hg'
  go_wp2_with fail
  refine (CP.out _).mono ?_
  rintro r W ⟨rfl, hb⟩
  replace hr := hr.below hb
  replace hg := grown_trans hg (grown_below hb _)
  clear hb
  go_upto_region 9 with fail
  replace hr := hr.drew
  refine wp_region_held_drew (S := fun _ => True) (by kernel_rfl) ?_ (fun hHeld => ?_)
  ·trivial
  refine tk 0 ?_ rfl (Or.inl ⟨by rfl, ?_⟩) ?_
  rotate_left
  ·(intro w hSw; go_simp; try (with_reducible rfl))
  try simp only [Act.put, Ls]
  refine tk 1 ?_ rfl (Or.inl ⟨by rfl, ?_⟩) ?_
  rotate_left
  ·(intro w hSw; go_simp; try (with_reducible rfl))
  try simp only [Act.put, Ls]
  refine tk 2 ?_ rfl (Or.inl ⟨by rfl, ?_⟩) ?_
  rotate_left
  ·(intro w hSw; go_simp; try (with_reducible rfl))
  try simp only [Act.put, Ls]
  refine tk 5 ?_ rfl (Or.inl ⟨by rfl, ?_⟩) ?_
  rotate_left
  ·(intro w hSw; go_simp; try (with_reducible rfl))
  try simp only [Act.put, Ls]
  refine wpAnyH_ready (rs := [3]) (by kernel_rfl) (by simp) ?_
  refine (AllReadyH.cons (o := _) rfl (fun K hK => ?_) AllReadyH.nil)
  go_simp
  go_at_call 165; refine (CI.out _).mono ?_; rintro r W ⟨rfl, hb⟩
  replace hr := hr.below hb
  replace hg : w.grownBy W (some rb) := grown_trans hg (grown_below (w := _) (w' := W) (below_dr hb) _)
  clear hb
  refine hK.out _ _ ?_ (fun hHeld => ?_)
  ·trivial
  clear hK K
  try simp only [Act.put, Ls]
  refine tk 4 ?_ rfl (Or.inl ⟨by rfl, ?_⟩) ?_
  rotate_left
  ·(intro w hSw; go_simp; try (with_reducible rfl))
  try simp only [Act.put, Ls]
  refine wpAnyH_ready (rs := [6]) (by kernel_rfl) (by simp) ?_
  refine (AllReadyH.cons (o := _) rfl (fun K hK => ?_) AllReadyH.nil)
  go_simp
  go_at_call 97; refine (once_any rb ca cc cs 2 _ hr (by decide) (by decide)).mono ?_; rintro r W ⟨ng, rfl, hr, hg'⟩
  replace hg := grown_trans hg hg'
  clear hg'
  refine hK.out _ _ ?_ (fun hHeld => ?_)
  ·trivial
  clear hK K
  try simp only [Act.put, Ls]
  refine wpAnyH_ready (rs := [7]) (by kernel_rfl) (by simp) ?_
  refine (AllReadyH.cons (o := _) rfl (fun K hK => ?_) AllReadyH.nil)
  go_simp
  go_at_call 88; refine (with_32 (Int.tmod _ 2139095040) ng _ (fun _ => tmW32 ?_)).mono ?_
  ·(first | omega | exact Int.tmod_nonneg _ (by omega) | exact nn_wrap _ | exact fpb_nn _ _ _ _)
  rintro r W ⟨rfl, hb⟩
  replace hr := hr.below hb
  replace hg := grown_trans hg (grown_below hb _)
  clear hb
  refine hK.out _ _ ?_ (fun hHeld => ?_)
  ·trivial
  clear hK K
  try simp only [Act.put, Ls]
  refine tk 8 ?_ rfl (Or.inl ⟨by rfl, ?_⟩) ?_
  rotate_left
  ·(intro w hSw; go_simp; try (with_reducible rfl))
  try simp only [Act.put, Ls]
  refine wpAnyH_done (by kernel_rfl) ?_ _
  go_wp2
  go_ret
  refine ⟨_, rfl, sgn_fin32 _ ng (tmX32 ?_), hr, hg⟩ <;> (first | omega | exact Int.tmod_nonneg _ (by omega) | exact nn_wrap _ | exact fpb_nn _ _ _ _)
 ·go_wp2_with fail
  refine (below_any rb ca cc cs 5000 _ hr (by decide) (by decide)).mono ?_
  rintro r W ⟨x, rfl, x0, x1, hr, hg'⟩
  replace hg := grown_trans hg hg'
  clear hg'
  go_upto_region 9 with fail
  replace hr := hr.drew
  refine wp_region_held_drew (S := fun _ => True) (by kernel_rfl) ?_ (fun hHeld => ?_)
  ·trivial
  refine tk 0 ?_ rfl (Or.inl ⟨by rfl, ?_⟩) ?_
  rotate_left
  ·(intro w hSw; go_simp; try (with_reducible rfl))
  try simp only [Act.put, Ls]
  refine tk 1 ?_ rfl (Or.inl ⟨by rfl, ?_⟩) ?_
  rotate_left
  ·(intro w hSw; go_simp; try (with_reducible rfl))
  try simp only [Act.put, Ls]
  refine tk 2 ?_ rfl (Or.inl ⟨by rfl, ?_⟩) ?_
  rotate_left
  ·(intro w hSw; go_simp; try (with_reducible rfl))
  try simp only [Act.put, Ls]
  refine tk 5 ?_ rfl (Or.inl ⟨by rfl, ?_⟩) ?_
  rotate_left
  ·(intro w hSw; go_simp; try (with_reducible rfl))
  try simp only [Act.put, Ls]
  refine wpAnyH_ready (rs := [3]) (by kernel_rfl) (by simp) ?_
  refine (AllReadyH.cons (o := _) rfl (fun K hK => ?_) AllReadyH.nil)
  go_simp
  go_at_call 165; refine (CI.out _).mono ?_; rintro r W ⟨rfl, hb⟩
  replace hr := hr.below hb
  replace hg : w.grownBy W (some rb) := grown_trans hg (grown_below (w := _) (w' := W) (below_dr hb) _)
  clear hb
  refine hK.out _ _ ?_ (fun hHeld => ?_)
  ·trivial
  clear hK K
  try simp only [Act.put, Ls]
  refine tk 4 ?_ rfl (Or.inl ⟨by rfl, ?_⟩) ?_
  rotate_left
  ·(intro w hSw; go_simp; try (with_reducible rfl))
  try simp only [Act.put, Ls]
  refine wpAnyH_ready (rs := [6]) (by kernel_rfl) (by simp) ?_
  refine (AllReadyH.cons (o := _) rfl (fun K hK => ?_) AllReadyH.nil)
  go_simp
  go_at_call 97; refine (once_any rb ca cc cs 2 _ hr (by decide) (by decide)).mono ?_; rintro r W ⟨ng, rfl, hr, hg'⟩
  replace hg := grown_trans hg hg'
  clear hg'
  refine hK.out _ _ ?_ (fun hHeld => ?_)
  ·trivial
  clear hK K
  try simp only [Act.put, Ls]
  refine wpAnyH_ready (rs := [7]) (by kernel_rfl) (by simp) ?_
  refine (AllReadyH.cons (o := _) rfl (fun K hK => ?_) AllReadyH.nil)
  go_simp
  go_at_call 88; refine (with_32 (Int.tmod _ 2139095040) ng _ (fun _ => tmW32 ?_)).mono ?_
  ·(first | omega | exact Int.tmod_nonneg _ (by omega) | exact nn_wrap _ | exact fpb_nn _ _ _ _)
  rintro r W ⟨rfl, hb⟩
  replace hr := hr.below hb
  replace hg := grown_trans hg (grown_below hb _)
  clear hb
  refine hK.out _ _ ?_ (fun hHeld => ?_)
  ·trivial
  clear hK K
  try simp only [Act.put, Ls]
  refine tk 8 ?_ rfl (Or.inl ⟨by rfl, ?_⟩) ?_
  rotate_left
  ·(intro w hSw; go_simp; try (with_reducible rfl))
  try simp only [Act.put, Ls]
  refine wpAnyH_done (by kernel_rfl) ?_ _
  go_wp2
  go_ret
  refine ⟨_, rfl, sgn_fin32 _ ng (tmX32 ?_), hr, hg⟩ <;> (first | omega | exact Int.tmod_nonneg _ (by omega) | exact nn_wrap _ | exact fpb_nn _ _ _ _)
 ·go_wp2_with fail
  refine (CI.out _).mono ?_
  rintro r W ⟨rfl, hb⟩
  replace hr := hr.below hb
  replace hg := grown_trans hg (grown_below hb _)
  clear hb
  go_wp2_with fail
  refine (below_any rb ca cc cs 5000 _ hr (by decide) (by decide)).mono ?_
  rintro r W ⟨x, rfl, x0, x1, hr, hg'⟩
  replace hg := grown_trans hg hg'
  clear hg'
  go_upto_region 9 with fail
  replace hr := hr.drew
  refine wp_region_held_drew (S := fun _ => True) (by kernel_rfl) ?_ (fun hHeld => ?_)
  ·trivial
  refine tk 0 ?_ rfl (Or.inl ⟨by rfl, ?_⟩) ?_
  rotate_left
  ·(intro w hSw; go_simp; try (with_reducible rfl))
  try simp only [Act.put, Ls]
  refine tk 1 ?_ rfl (Or.inl ⟨by rfl, ?_⟩) ?_
  rotate_left
  ·(intro w hSw; go_simp; try (with_reducible rfl))
  try simp only [Act.put, Ls]
  refine tk 2 ?_ rfl (Or.inl ⟨by rfl, ?_⟩) ?_
  rotate_left
  ·(intro w hSw; go_simp; try (with_reducible rfl))
  try simp only [Act.put, Ls]
  refine tk 5 ?_ rfl (Or.inl ⟨by rfl, ?_⟩) ?_
  rotate_left
  ·(intro w hSw; go_simp; try (with_reducible rfl))
  try simp only [Act.put, Ls]
  refine wpAnyH_ready (rs := [3]) (by kernel_rfl) (by simp) ?_
  refine (AllReadyH.cons (o := _) rfl (fun K hK => ?_) AllReadyH.nil)
  go_simp
  go_at_call 165; refine (CI.out _).mono ?_; rintro r W ⟨rfl, hb⟩
  replace hr := hr.below hb
  replace hg : w.grownBy W (some rb) := grown_trans hg (grown_below (w := _) (w' := W) (below_dr hb) _)
  clear hb
  refine hK.out _ _ ?_ (fun hHeld => ?_)
  ·trivial
  clear hK K
  try simp only [Act.put, Ls]
  refine tk 4 ?_ rfl (Or.inl ⟨by rfl, ?_⟩) ?_
  rotate_left
  ·(intro w hSw; go_simp; try (with_reducible rfl))
  try simp only [Act.put, Ls]
  refine wpAnyH_ready (rs := [6]) (by kernel_rfl) (by simp) ?_
  refine (AllReadyH.cons (o := _) rfl (fun K hK => ?_) AllReadyH.nil)
  go_simp
  go_at_call 97; refine (once_any rb ca cc cs 2 _ hr (by decide) (by decide)).mono ?_; rintro r W ⟨ng, rfl, hr, hg'⟩
  replace hg := grown_trans hg hg'
  clear hg'
  refine hK.out _ _ ?_ (fun hHeld => ?_)
  ·trivial
  clear hK K
  try simp only [Act.put, Ls]
  refine wpAnyH_ready (rs := [7]) (by kernel_rfl) (by simp) ?_
  refine (AllReadyH.cons (o := _) rfl (fun K hK => ?_) AllReadyH.nil)
  go_simp
  go_at_call 88; refine (with_32 (Int.tmod _ 2139095040) ng _ (fun _ => tmW32 ?_)).mono ?_
  ·(first | omega | exact Int.tmod_nonneg _ (by omega) | exact nn_wrap _ | exact fpb_nn _ _ _ _)
  rintro r W ⟨rfl, hb⟩
  replace hr := hr.below hb
  replace hg := grown_trans hg (grown_below hb _)
  clear hb
  refine hK.out _ _ ?_ (fun hHeld => ?_)
  ·trivial
  clear hK K
  try simp only [Act.put, Ls]
  refine tk 8 ?_ rfl (Or.inl ⟨by rfl, ?_⟩) ?_
  rotate_left
  ·(intro w hSw; go_simp; try (with_reducible rfl))
  try simp only [Act.put, Ls]
  refine wpAnyH_done (by kernel_rfl) ?_ _
  go_wp2
  go_ret
  refine ⟨_, rfl, sgn_fin32 _ ng (tmX32 ?_), hr, hg⟩ <;> (first | omega | exact Int.tmod_nonneg _ (by omega) | exact nn_wrap _ | exact fpb_nn _ _ _ _)
 ·have e0 : (v == 0) = false := by simp; omega
  have e1 : (v == 1) = false := by simp; omega
  have e2 : (v == 2) = false := by simp; omega
  have e3 : (v == 3) = false := by simp; omega
  have e4 : (v == 4) = false := by simp; omega
  go_wp2_with fail
  refine (below_any rb ca cc cs 4096 _ hr (by decide) (by decide)).mono ?_
  rintro r W ⟨m, rfl, m0, m1, hr, hg'⟩
  replace hg := grown_trans hg hg'
  clear hg'
  go_wp2_with fail
  refine (below_any rb ca cc cs 40 _ hr (by decide) (by decide)).mono ?_
  rintro r W ⟨q, rfl, q0, q1, hr, hg'⟩
  replace hg := grown_trans hg hg'
  clear hg'
  have hr0 := hr.alloc (.cells #[.bool false, .int .i64 m, .int .i64 (q - 20)] 89)
  have P0 := R3.new W (.bool false) (.int .i64 m) (.int .i64 (q - 20)) 89
  obtain ⟨p0, p1, p2, -, -, -⟩ := P0
  have hwq : wrap64 (q - 20) = q - 20 := by unfold wrap64; omega
  replace hg := grown_alloc hg (.cells #[.bool false, .int .i64 m, .int .i64 (q - 20)] 89)
  replace hr := hr0
  clear hr0
  go_wp2_with fail
  refine (parts_spec 32 false m (q - 20) _ (by omega)).mono ?_
  rintro r W' ⟨rfl, hb⟩
  replace hr := hr.below hb
  replace hg := grown_trans hg (grown_below hb _)
  clear hb
  clear p0 p1 p2
  go_upto_region 9 with fail
  replace hr := hr.drew
  refine wp_region_held_drew (S := fun _ => True) (by kernel_rfl) ?_ (fun hHeld => ?_)
  ·trivial
  refine tk 0 ?_ rfl (Or.inl ⟨by rfl, ?_⟩) ?_
  rotate_left
  ·(intro w hSw; go_simp; try (with_reducible rfl))
  try simp only [Act.put, Ls]
  refine tk 1 ?_ rfl (Or.inl ⟨by rfl, ?_⟩) ?_
  rotate_left
  ·(intro w hSw; go_simp; try (with_reducible rfl))
  try simp only [Act.put, Ls]
  refine tk 2 ?_ rfl (Or.inl ⟨by rfl, ?_⟩) ?_
  rotate_left
  ·(intro w hSw; go_simp; try (with_reducible rfl))
  try simp only [Act.put, Ls]
  refine tk 5 ?_ rfl (Or.inl ⟨by rfl, ?_⟩) ?_
  rotate_left
  ·(intro w hSw; go_simp; try (with_reducible rfl))
  try simp only [Act.put, Ls]
  refine wpAnyH_ready (rs := [3]) (by kernel_rfl) (by simp) ?_
  refine (AllReadyH.cons (o := _) rfl (fun K hK => ?_) AllReadyH.nil)
  go_simp
  go_at_call 165; refine (CI.out _).mono ?_; rintro r W ⟨rfl, hb⟩
  replace hr := hr.below hb
  replace hg : w.grownBy W (some rb) := grown_trans hg (grown_below (w := _) (w' := W) (below_dr hb) _)
  clear hb
  refine hK.out _ _ ?_ (fun hHeld => ?_)
  ·trivial
  clear hK K
  try simp only [Act.put, Ls]
  refine tk 4 ?_ rfl (Or.inl ⟨by rfl, ?_⟩) ?_
  rotate_left
  ·(intro w hSw; go_simp; try (with_reducible rfl))
  try simp only [Act.put, Ls]
  refine wpAnyH_ready (rs := [6]) (by kernel_rfl) (by simp) ?_
  refine (AllReadyH.cons (o := _) rfl (fun K hK => ?_) AllReadyH.nil)
  go_simp
  go_at_call 97; refine (once_any rb ca cc cs 2 _ hr (by decide) (by decide)).mono ?_; rintro r W ⟨ng, rfl, hr, hg'⟩
  replace hg := grown_trans hg hg'
  clear hg'
  refine hK.out _ _ ?_ (fun hHeld => ?_)
  ·trivial
  clear hK K
  try simp only [Act.put, Ls]
  refine wpAnyH_ready (rs := [7]) (by kernel_rfl) (by simp) ?_
  refine (AllReadyH.cons (o := _) rfl (fun K hK => ?_) AllReadyH.nil)
  go_simp
  go_at_call 88; refine (with_32 (Int.tmod _ 2139095040) ng _ (fun _ => tmW32 ?_)).mono ?_
  ·(first | omega | exact Int.tmod_nonneg _ (by omega) | exact nn_wrap _ | exact fpb_nn _ _ _ _)
  rintro r W ⟨rfl, hb⟩
  replace hr := hr.below hb
  replace hg := grown_trans hg (grown_below hb _)
  clear hb
  refine hK.out _ _ ?_ (fun hHeld => ?_)
  ·trivial
  clear hK K
  try simp only [Act.put, Ls]
  refine tk 8 ?_ rfl (Or.inl ⟨by rfl, ?_⟩) ?_
  rotate_left
  ·(intro w hSw; go_simp; try (with_reducible rfl))
  try simp only [Act.put, Ls]
  refine wpAnyH_done (by kernel_rfl) ?_ _
  go_wp2
  go_ret
  refine ⟨_, rfl, sgn_fin32 _ ng (tmX32 ?_), hr, hg⟩ <;> (first | omega | exact Int.tmod_nonneg _ (by omega) | exact nn_wrap _ | exact fpb_nn _ _ _ _)
theorem finite32 (rb : Nat) (ca : Option Addr) (cc : Nat) (cs : List Int) (w : World) (hr : RD w rb ca cc cs) :
  Calls Tryz.prog 201 #[.pointer (some ⟨rb, 0, none⟩), .int .i64 32] w fun e w' => ∃ x : Int, e = .returned (.int .u64 x) ∧ 0 ≤ x ∧ x < 18446744073709551616 ∧ RD w' rb ca cc cs ∧ w.grownBy w' (some rb) :=
 (finiteF32 rb ca cc cs w hr).mono fun _ _ ⟨x, h1, h2, h3, h4⟩ => ⟨x, h1, h2.1, by have := h2.2.1; omega, h3, h4⟩
def FinP64 (x : Int) : Prop := 0 ≤ x ∧ x < 18446744073709551616 ∧ finB 64 x = true
theorem sgn_fin64 (x : Int) (ng : Bool) (h : 0 ≤ x ∧ x < 9218868437227405312) : FinP64 (sgn 9223372036854775808 x ng) := by
 have hb : 0 ≤ sgn 9223372036854775808 x ng ∧ sgn 9223372036854775808 x ng < 18446744073709551616 := by unfold sgn; cases ng <;> simp <;> omega
 refine ⟨hb.1, hb.2, ?_⟩
 have e : sgn 9223372036854775808 x ng % 9223372036854775808 = x := by unfold sgn; cases ng <;> simp <;> omega
 unfold finB
 rw [cls64]
 unfold clsY
 rw [e]
 simp only [decide_eq_true_eq]
 repeat' split
 all_goals omega
theorem tmX64 {a : Int} (h : 0 ≤ a) : 0 ≤ a.tmod 9218868437227405312 ∧ a.tmod 9218868437227405312 < 9218868437227405312 := by
 rw [Int.tmod_eq_emod_of_nonneg h]; omega
theorem tmW64 {a : Int} (h : 0 ≤ a) : 0 ≤ a.tmod 9218868437227405312 ∧ a.tmod 9218868437227405312 < 9223372036854775808 := by
 have := tmX64 h; omega
theorem finiteF64 (rb : Nat) (ca : Option Addr) (cc : Nat) (cs : List Int) (w : World) (hr : RD w rb ca cc cs) :
  Calls Tryz.prog 201 #[.pointer (some ⟨rb, 0, none⟩), .int .i64 64] w fun e w' => ∃ x : Int, e = .returned (.int .u64 x) ∧ FinP64 x ∧ RD w' rb ca cc cs ∧ w.grownBy w' (some rb) := by
 have CI := hid (fun w' => spec_inf64 w')
 have CP := hid (fun w' => spec_P64 w')
 have hg := grown_refl w (some rb)
 have eI : infOf 64 = 9218868437227405312 := rfl
 rw [eI] at CI
 go_enter Tryz.func201, Tryz.ntmps201
 go_wp2_with fail
 refine (CI.out _).mono ?_
 rintro r W ⟨rfl, hb⟩
 replace hr := hr.below hb
 replace hg := grown_trans hg (grown_below hb _)
 clear hb
 go_wp2_with fail
 refine (CP.out _).mono ?_
 rintro r W ⟨rfl, hb⟩
 replace hr := hr.below hb
 replace hg := grown_trans hg (grown_below hb _)
 clear hb
 go_wp2_with fail
 refine (below_any rb ca cc cs 10 _ hr (by decide) (by decide)).mono ?_
 rintro r W ⟨v, rfl, v0, v1, hr, hg'⟩
 replace hg := grown_trans hg hg'
 clear hg'
 rcases (show v = 0 ∨ v = 1 ∨ v = 2 ∨ v = 3 ∨ v = 4 ∨ 4 < v by omega) with rfl | rfl | rfl | rfl | rfl | hv
 ·go_wp2_with fail
  refine (CP.out _).mono ?_
  rintro r W ⟨rfl, hb⟩
  replace hr := hr.below hb
  replace hg := grown_trans hg (grown_below hb _)
  clear hb
  go_wp2_with fail
  refine (CP.out _).mono ?_
  rintro r W ⟨rfl, hb⟩
  replace hr := hr.below hb
  replace hg := grown_trans hg (grown_below hb _)
  clear hb
  go_wp2_with fail
  refine (CI.out _).mono ?_
  rintro r W ⟨rfl, hb⟩
  replace hr := hr.below hb
  replace hg := grown_trans hg (grown_below hb _)
  clear hb
  go_wp2_with fail
  refine (CI.out _).mono ?_
  rintro r W ⟨rfl, hb⟩
  replace hr := hr.below hb
  replace hg := grown_trans hg (grown_below hb _)
  clear hb
  obtain ⟨W0, hW0⟩ : ∃ W0, W0 = W := ⟨_, rfl⟩
  have hr0 := hr.alloc (.cells #[.int .u64 0, .int .u64 1, .int .u64 2, .int .u64 4503599627370495, .int .u64 4503599627370496, .int .u64 9218868437227405311, .int .u64 9218868437227405310] 22)
  have lr := hr.lt
  go_wp2_with fail
  refine (below_any rb ca cc cs 7 _ hr0 (by decide) (by decide)).mono ?_
  rintro r W' ⟨kz, rfl, k0, k1, hr, hg'⟩
  obtain ⟨kn, rfl⟩ := Int.eq_ofNat_of_zero_le k0
  obtain ⟨d, hd, d0⟩ := seven_cell W hg' lr kn (by omega) (by decide)
  replace hg := grown_trans (grown_alloc hg _) hg'
  clear hg' hW0
  go_upto_region 9 with fail
  replace hr := hr.drew
  refine wp_region_held_drew (S := fun _ => True) (by kernel_rfl) ?_ (fun hHeld => ?_)
  ·trivial
  refine tk 0 ?_ rfl (Or.inl ⟨by rfl, ?_⟩) ?_
  rotate_left
  ·(intro w hSw; go_simp; try (with_reducible rfl))
  try simp only [Act.put, Ls]
  refine tk 1 ?_ rfl (Or.inl ⟨by rfl, ?_⟩) ?_
  rotate_left
  ·(intro w hSw; go_simp; try (with_reducible rfl))
  try simp only [Act.put, Ls]
  refine tk 2 ?_ rfl (Or.inl ⟨by rfl, ?_⟩) ?_
  rotate_left
  ·(intro w hSw; go_simp; try (with_reducible rfl))
  try simp only [Act.put, Ls]
  refine tk 5 ?_ rfl (Or.inl ⟨by rfl, ?_⟩) ?_
  rotate_left
  ·(intro w hSw; go_simp; try (with_reducible rfl))
  try simp only [Act.put, Ls]
  refine wpAnyH_ready (rs := [3]) (by kernel_rfl) (by simp) ?_
  refine (AllReadyH.cons (o := _) rfl (fun K hK => ?_) AllReadyH.nil)
  go_simp
  go_at_call 165; refine (CI.out _).mono ?_; rintro r W ⟨rfl, hb⟩
  replace hr := hr.below hb
  replace hg : w.grownBy W (some rb) := grown_trans hg (grown_below (w := _) (w' := W) (below_dr hb) _)
  clear hb
  refine hK.out _ _ ?_ (fun hHeld => ?_)
  ·trivial
  clear hK K
  try simp only [Act.put, Ls]
  refine tk 4 ?_ rfl (Or.inl ⟨by rfl, ?_⟩) ?_
  rotate_left
  ·(intro w hSw; go_simp; try (with_reducible rfl))
  try simp only [Act.put, Ls]
  refine wpAnyH_ready (rs := [6]) (by kernel_rfl) (by simp) ?_
  refine (AllReadyH.cons (o := _) rfl (fun K hK => ?_) AllReadyH.nil)
  go_simp
  go_at_call 97; refine (once_any rb ca cc cs 2 _ hr (by decide) (by decide)).mono ?_; rintro r W ⟨ng, rfl, hr, hg'⟩
  replace hg := grown_trans hg hg'
  clear hg'
  refine hK.out _ _ ?_ (fun hHeld => ?_)
  ·trivial
  clear hK K
  try simp only [Act.put, Ls]
  refine wpAnyH_ready (rs := [7]) (by kernel_rfl) (by simp) ?_
  refine (AllReadyH.cons (o := _) rfl (fun K hK => ?_) AllReadyH.nil)
  go_simp
  go_at_call 88; refine (with_64 (Int.tmod _ 9218868437227405312) ng _ (fun _ => tmW64 ?_)).mono ?_
  ·(first | omega | exact Int.tmod_nonneg _ (by omega) | exact nn_wrap _ | exact fpb_nn _ _ _ _)
  rintro r W ⟨rfl, hb⟩
  replace hr := hr.below hb
  replace hg := grown_trans hg (grown_below hb _)
  clear hb
  refine hK.out _ _ ?_ (fun hHeld => ?_)
  ·trivial
  clear hK K
  try simp only [Act.put, Ls]
  refine tk 8 ?_ rfl (Or.inl ⟨by rfl, ?_⟩) ?_
  rotate_left
  ·(intro w hSw; go_simp; try (with_reducible rfl))
  try simp only [Act.put, Ls]
  refine wpAnyH_done (by kernel_rfl) ?_ _
  go_wp2
  go_ret
  refine ⟨_, rfl, sgn_fin64 _ ng (tmX64 ?_), hr, hg⟩ <;> (first | omega | exact Int.tmod_nonneg _ (by omega) | exact nn_wrap _ | exact fpb_nn _ _ _ _)
 ·go_wp2_with fail
  refine (word_any rb ca cc cs _ hr).mono ?_
  rintro r W ⟨x, rfl, x0, x1, hr, hg'⟩
  replace hg := grown_trans hg hg'
  clear hg'
  go_wp2_with fail
  refine (CI.out _).mono ?_
  rintro r W ⟨rfl, hb⟩
  replace hr := hr.below hb
  replace hg := grown_trans hg (grown_below hb _)
  clear hb
  go_upto_region 9 with fail
  replace hr := hr.drew
  refine wp_region_held_drew (S := fun _ => True) (by kernel_rfl) ?_ (fun hHeld => ?_)
  ·trivial
  refine tk 0 ?_ rfl (Or.inl ⟨by rfl, ?_⟩) ?_
  rotate_left
  ·(intro w hSw; go_simp; try (with_reducible rfl))
  try simp only [Act.put, Ls]
  refine tk 1 ?_ rfl (Or.inl ⟨by rfl, ?_⟩) ?_
  rotate_left
  ·(intro w hSw; go_simp; try (with_reducible rfl))
  try simp only [Act.put, Ls]
  refine tk 2 ?_ rfl (Or.inl ⟨by rfl, ?_⟩) ?_
  rotate_left
  ·(intro w hSw; go_simp; try (with_reducible rfl))
  try simp only [Act.put, Ls]
  refine tk 5 ?_ rfl (Or.inl ⟨by rfl, ?_⟩) ?_
  rotate_left
  ·(intro w hSw; go_simp; try (with_reducible rfl))
  try simp only [Act.put, Ls]
  refine wpAnyH_ready (rs := [3]) (by kernel_rfl) (by simp) ?_
  refine (AllReadyH.cons (o := _) rfl (fun K hK => ?_) AllReadyH.nil)
  go_simp
  go_at_call 165; refine (CI.out _).mono ?_; rintro r W ⟨rfl, hb⟩
  replace hr := hr.below hb
  replace hg : w.grownBy W (some rb) := grown_trans hg (grown_below (w := _) (w' := W) (below_dr hb) _)
  clear hb
  refine hK.out _ _ ?_ (fun hHeld => ?_)
  ·trivial
  clear hK K
  try simp only [Act.put, Ls]
  refine tk 4 ?_ rfl (Or.inl ⟨by rfl, ?_⟩) ?_
  rotate_left
  ·(intro w hSw; go_simp; try (with_reducible rfl))
  try simp only [Act.put, Ls]
  refine wpAnyH_ready (rs := [6]) (by kernel_rfl) (by simp) ?_
  refine (AllReadyH.cons (o := _) rfl (fun K hK => ?_) AllReadyH.nil)
  go_simp
  go_at_call 97; refine (once_any rb ca cc cs 2 _ hr (by decide) (by decide)).mono ?_; rintro r W ⟨ng, rfl, hr, hg'⟩
  replace hg := grown_trans hg hg'
  clear hg'
  refine hK.out _ _ ?_ (fun hHeld => ?_)
  ·trivial
  clear hK K
  try simp only [Act.put, Ls]
  refine wpAnyH_ready (rs := [7]) (by kernel_rfl) (by simp) ?_
  refine (AllReadyH.cons (o := _) rfl (fun K hK => ?_) AllReadyH.nil)
  go_simp
  go_at_call 88; refine (with_64 (Int.tmod _ 9218868437227405312) ng _ (fun _ => tmW64 ?_)).mono ?_
  ·(first | omega | exact Int.tmod_nonneg _ (by omega) | exact nn_wrap _ | exact fpb_nn _ _ _ _)
  rintro r W ⟨rfl, hb⟩
  replace hr := hr.below hb
  replace hg := grown_trans hg (grown_below hb _)
  clear hb
  refine hK.out _ _ ?_ (fun hHeld => ?_)
  ·trivial
  clear hK K
  try simp only [Act.put, Ls]
  refine tk 8 ?_ rfl (Or.inl ⟨by rfl, ?_⟩) ?_
  rotate_left
  ·(intro w hSw; go_simp; try (with_reducible rfl))
  try simp only [Act.put, Ls]
  refine wpAnyH_done (by kernel_rfl) ?_ _
  go_wp2
  go_ret
  refine ⟨_, rfl, sgn_fin64 _ ng (tmX64 ?_), hr, hg⟩ <;> (first | omega | exact Int.tmod_nonneg _ (by omega) | exact nn_wrap _ | exact fpb_nn _ _ _ _)
 ·go_wp2_with fail
  refine (word_any rb ca cc cs _ hr).mono ?_
  rintro r W ⟨x, rfl, x0, x1, hr, hg'⟩
  replace hg := grown_trans hg hg'
  clear hg'
  go_wp2_with fail
  refine (CP.out _).mono ?_
  rintro r W ⟨rfl, hb⟩
  replace hr := hr.below hb
  replace hg := grown_trans hg (grown_below hb _)
  clear hb
  go_upto_region 9 with fail
  replace hr := hr.drew
  refine wp_region_held_drew (S := fun _ => True) (by kernel_rfl) ?_ (fun hHeld => ?_)
  ·trivial
  refine tk 0 ?_ rfl (Or.inl ⟨by rfl, ?_⟩) ?_
  rotate_left
  ·(intro w hSw; go_simp; try (with_reducible rfl))
  try simp only [Act.put, Ls]
  refine tk 1 ?_ rfl (Or.inl ⟨by rfl, ?_⟩) ?_
  rotate_left
  ·(intro w hSw; go_simp; try (with_reducible rfl))
  try simp only [Act.put, Ls]
  refine tk 2 ?_ rfl (Or.inl ⟨by rfl, ?_⟩) ?_
  rotate_left
  ·(intro w hSw; go_simp; try (with_reducible rfl))
  try simp only [Act.put, Ls]
  refine tk 5 ?_ rfl (Or.inl ⟨by rfl, ?_⟩) ?_
  rotate_left
  ·(intro w hSw; go_simp; try (with_reducible rfl))
  try simp only [Act.put, Ls]
  refine wpAnyH_ready (rs := [3]) (by kernel_rfl) (by simp) ?_
  refine (AllReadyH.cons (o := _) rfl (fun K hK => ?_) AllReadyH.nil)
  go_simp
  go_at_call 165; refine (CI.out _).mono ?_; rintro r W ⟨rfl, hb⟩
  replace hr := hr.below hb
  replace hg : w.grownBy W (some rb) := grown_trans hg (grown_below (w := _) (w' := W) (below_dr hb) _)
  clear hb
  refine hK.out _ _ ?_ (fun hHeld => ?_)
  ·trivial
  clear hK K
  try simp only [Act.put, Ls]
  refine tk 4 ?_ rfl (Or.inl ⟨by rfl, ?_⟩) ?_
  rotate_left
  ·(intro w hSw; go_simp; try (with_reducible rfl))
  try simp only [Act.put, Ls]
  refine wpAnyH_ready (rs := [6]) (by kernel_rfl) (by simp) ?_
  refine (AllReadyH.cons (o := _) rfl (fun K hK => ?_) AllReadyH.nil)
  go_simp
  go_at_call 97; refine (once_any rb ca cc cs 2 _ hr (by decide) (by decide)).mono ?_; rintro r W ⟨ng, rfl, hr, hg'⟩
  replace hg := grown_trans hg hg'
  clear hg'
  refine hK.out _ _ ?_ (fun hHeld => ?_)
  ·trivial
  clear hK K
  try simp only [Act.put, Ls]
  refine wpAnyH_ready (rs := [7]) (by kernel_rfl) (by simp) ?_
  refine (AllReadyH.cons (o := _) rfl (fun K hK => ?_) AllReadyH.nil)
  go_simp
  go_at_call 88; refine (with_64 (Int.tmod _ 9218868437227405312) ng _ (fun _ => tmW64 ?_)).mono ?_
  ·(first | omega | exact Int.tmod_nonneg _ (by omega) | exact nn_wrap _ | exact fpb_nn _ _ _ _)
  rintro r W ⟨rfl, hb⟩
  replace hr := hr.below hb
  replace hg := grown_trans hg (grown_below hb _)
  clear hb
  refine hK.out _ _ ?_ (fun hHeld => ?_)
  ·trivial
  clear hK K
  try simp only [Act.put, Ls]
  refine tk 8 ?_ rfl (Or.inl ⟨by rfl, ?_⟩) ?_
  rotate_left
  ·(intro w hSw; go_simp; try (with_reducible rfl))
  try simp only [Act.put, Ls]
  refine wpAnyH_done (by kernel_rfl) ?_ _
  go_wp2
  go_ret
  refine ⟨_, rfl, sgn_fin64 _ ng (tmX64 ?_), hr, hg⟩ <;> (first | omega | exact Int.tmod_nonneg _ (by omega) | exact nn_wrap _ | exact fpb_nn _ _ _ _)
 ·go_wp2_with fail
  refine (below_any rb ca cc cs 5000 _ hr (by decide) (by decide)).mono ?_
  rintro r W ⟨x, rfl, x0, x1, hr, hg'⟩
  replace hg := grown_trans hg hg'
  clear hg'
  go_upto_region 9 with fail
  replace hr := hr.drew
  refine wp_region_held_drew (S := fun _ => True) (by kernel_rfl) ?_ (fun hHeld => ?_)
  ·trivial
  refine tk 0 ?_ rfl (Or.inl ⟨by rfl, ?_⟩) ?_
  rotate_left
  ·(intro w hSw; go_simp; try (with_reducible rfl))
  try simp only [Act.put, Ls]
  refine tk 1 ?_ rfl (Or.inl ⟨by rfl, ?_⟩) ?_
  rotate_left
  ·(intro w hSw; go_simp; try (with_reducible rfl))
  try simp only [Act.put, Ls]
  refine tk 2 ?_ rfl (Or.inl ⟨by rfl, ?_⟩) ?_
  rotate_left
  ·(intro w hSw; go_simp; try (with_reducible rfl))
  try simp only [Act.put, Ls]
  refine tk 5 ?_ rfl (Or.inl ⟨by rfl, ?_⟩) ?_
  rotate_left
  ·(intro w hSw; go_simp; try (with_reducible rfl))
  try simp only [Act.put, Ls]
  refine wpAnyH_ready (rs := [3]) (by kernel_rfl) (by simp) ?_
  refine (AllReadyH.cons (o := _) rfl (fun K hK => ?_) AllReadyH.nil)
  go_simp
  go_at_call 165; refine (CI.out _).mono ?_; rintro r W ⟨rfl, hb⟩
  replace hr := hr.below hb
  replace hg : w.grownBy W (some rb) := grown_trans hg (grown_below (w := _) (w' := W) (below_dr hb) _)
  clear hb
  refine hK.out _ _ ?_ (fun hHeld => ?_)
  ·trivial
  clear hK K
  try simp only [Act.put, Ls]
  refine tk 4 ?_ rfl (Or.inl ⟨by rfl, ?_⟩) ?_
  rotate_left
  ·(intro w hSw; go_simp; try (with_reducible rfl))
  try simp only [Act.put, Ls]
  refine wpAnyH_ready (rs := [6]) (by kernel_rfl) (by simp) ?_
  refine (AllReadyH.cons (o := _) rfl (fun K hK => ?_) AllReadyH.nil)
  go_simp
  go_at_call 97; refine (once_any rb ca cc cs 2 _ hr (by decide) (by decide)).mono ?_; rintro r W ⟨ng, rfl, hr, hg'⟩
  replace hg := grown_trans hg hg'
  clear hg'
  refine hK.out _ _ ?_ (fun hHeld => ?_)
  ·trivial
  clear hK K
  try simp only [Act.put, Ls]
  refine wpAnyH_ready (rs := [7]) (by kernel_rfl) (by simp) ?_
  refine (AllReadyH.cons (o := _) rfl (fun K hK => ?_) AllReadyH.nil)
  go_simp
  go_at_call 88; refine (with_64 (Int.tmod _ 9218868437227405312) ng _ (fun _ => tmW64 ?_)).mono ?_
  ·(first | omega | exact Int.tmod_nonneg _ (by omega) | exact nn_wrap _ | exact fpb_nn _ _ _ _)
  rintro r W ⟨rfl, hb⟩
  replace hr := hr.below hb
  replace hg := grown_trans hg (grown_below hb _)
  clear hb
  refine hK.out _ _ ?_ (fun hHeld => ?_)
  ·trivial
  clear hK K
  try simp only [Act.put, Ls]
  refine tk 8 ?_ rfl (Or.inl ⟨by rfl, ?_⟩) ?_
  rotate_left
  ·(intro w hSw; go_simp; try (with_reducible rfl))
  try simp only [Act.put, Ls]
  refine wpAnyH_done (by kernel_rfl) ?_ _
  go_wp2
  go_ret
  refine ⟨_, rfl, sgn_fin64 _ ng (tmX64 ?_), hr, hg⟩ <;> (first | omega | exact Int.tmod_nonneg _ (by omega) | exact nn_wrap _ | exact fpb_nn _ _ _ _)
 ·go_wp2_with fail
  refine (CI.out _).mono ?_
  rintro r W ⟨rfl, hb⟩
  replace hr := hr.below hb
  replace hg := grown_trans hg (grown_below hb _)
  clear hb
  go_wp2_with fail
  refine (below_any rb ca cc cs 5000 _ hr (by decide) (by decide)).mono ?_
  rintro r W ⟨x, rfl, x0, x1, hr, hg'⟩
  replace hg := grown_trans hg hg'
  clear hg'
  go_upto_region 9 with fail
  replace hr := hr.drew
  refine wp_region_held_drew (S := fun _ => True) (by kernel_rfl) ?_ (fun hHeld => ?_)
  ·trivial
  refine tk 0 ?_ rfl (Or.inl ⟨by rfl, ?_⟩) ?_
  rotate_left
  ·(intro w hSw; go_simp; try (with_reducible rfl))
  try simp only [Act.put, Ls]
  refine tk 1 ?_ rfl (Or.inl ⟨by rfl, ?_⟩) ?_
  rotate_left
  ·(intro w hSw; go_simp; try (with_reducible rfl))
  try simp only [Act.put, Ls]
  refine tk 2 ?_ rfl (Or.inl ⟨by rfl, ?_⟩) ?_
  rotate_left
  ·(intro w hSw; go_simp; try (with_reducible rfl))
  try simp only [Act.put, Ls]
  refine tk 5 ?_ rfl (Or.inl ⟨by rfl, ?_⟩) ?_
  rotate_left
  ·(intro w hSw; go_simp; try (with_reducible rfl))
  try simp only [Act.put, Ls]
  refine wpAnyH_ready (rs := [3]) (by kernel_rfl) (by simp) ?_
  refine (AllReadyH.cons (o := _) rfl (fun K hK => ?_) AllReadyH.nil)
  go_simp
  go_at_call 165; refine (CI.out _).mono ?_; rintro r W ⟨rfl, hb⟩
  replace hr := hr.below hb
  replace hg : w.grownBy W (some rb) := grown_trans hg (grown_below (w := _) (w' := W) (below_dr hb) _)
  clear hb
  refine hK.out _ _ ?_ (fun hHeld => ?_)
  ·trivial
  clear hK K
  try simp only [Act.put, Ls]
  refine tk 4 ?_ rfl (Or.inl ⟨by rfl, ?_⟩) ?_
  rotate_left
  ·(intro w hSw; go_simp; try (with_reducible rfl))
  try simp only [Act.put, Ls]
  refine wpAnyH_ready (rs := [6]) (by kernel_rfl) (by simp) ?_
  refine (AllReadyH.cons (o := _) rfl (fun K hK => ?_) AllReadyH.nil)
  go_simp
  go_at_call 97; refine (once_any rb ca cc cs 2 _ hr (by decide) (by decide)).mono ?_; rintro r W ⟨ng, rfl, hr, hg'⟩
  replace hg := grown_trans hg hg'
  clear hg'
  refine hK.out _ _ ?_ (fun hHeld => ?_)
  ·trivial
  clear hK K
  try simp only [Act.put, Ls]
  refine wpAnyH_ready (rs := [7]) (by kernel_rfl) (by simp) ?_
  refine (AllReadyH.cons (o := _) rfl (fun K hK => ?_) AllReadyH.nil)
  go_simp
  go_at_call 88; refine (with_64 (Int.tmod _ 9218868437227405312) ng _ (fun _ => tmW64 ?_)).mono ?_
  ·(first | omega | exact Int.tmod_nonneg _ (by omega) | exact nn_wrap _ | exact fpb_nn _ _ _ _)
  rintro r W ⟨rfl, hb⟩
  replace hr := hr.below hb
  replace hg := grown_trans hg (grown_below hb _)
  clear hb
  refine hK.out _ _ ?_ (fun hHeld => ?_)
  ·trivial
  clear hK K
  try simp only [Act.put, Ls]
  refine tk 8 ?_ rfl (Or.inl ⟨by rfl, ?_⟩) ?_
  rotate_left
  ·(intro w hSw; go_simp; try (with_reducible rfl))
  try simp only [Act.put, Ls]
  refine wpAnyH_done (by kernel_rfl) ?_ _
  go_wp2
  go_ret
  refine ⟨_, rfl, sgn_fin64 _ ng (tmX64 ?_), hr, hg⟩ <;> (first | omega | exact Int.tmod_nonneg _ (by omega) | exact nn_wrap _ | exact fpb_nn _ _ _ _)
 ·have e0 : (v == 0) = false := by simp; omega
  have e1 : (v == 1) = false := by simp; omega
  have e2 : (v == 2) = false := by simp; omega
  have e3 : (v == 3) = false := by simp; omega
  have e4 : (v == 4) = false := by simp; omega
  go_wp2_with fail
  refine (below_any rb ca cc cs 4096 _ hr (by decide) (by decide)).mono ?_
  rintro r W ⟨m, rfl, m0, m1, hr, hg'⟩
  replace hg := grown_trans hg hg'
  clear hg'
  go_wp2_with fail
  refine (below_any rb ca cc cs 40 _ hr (by decide) (by decide)).mono ?_
  rintro r W ⟨q, rfl, q0, q1, hr, hg'⟩
  replace hg := grown_trans hg hg'
  clear hg'
  have hr0 := hr.alloc (.cells #[.bool false, .int .i64 m, .int .i64 (q - 20)] 89)
  have P0 := R3.new W (.bool false) (.int .i64 m) (.int .i64 (q - 20)) 89
  obtain ⟨p0, p1, p2, -, -, -⟩ := P0
  have hwq : wrap64 (q - 20) = q - 20 := by unfold wrap64; omega
  replace hg := grown_alloc hg (.cells #[.bool false, .int .i64 m, .int .i64 (q - 20)] 89)
  replace hr := hr0
  clear hr0
  go_wp2_with fail
  refine (parts_spec 64 false m (q - 20) _ (by omega)).mono ?_
  rintro r W' ⟨rfl, hb⟩
  replace hr := hr.below hb
  replace hg := grown_trans hg (grown_below hb _)
  clear hb
  clear p0 p1 p2
  go_upto_region 9 with fail
  replace hr := hr.drew
  refine wp_region_held_drew (S := fun _ => True) (by kernel_rfl) ?_ (fun hHeld => ?_)
  ·trivial
  refine tk 0 ?_ rfl (Or.inl ⟨by rfl, ?_⟩) ?_
  rotate_left
  ·(intro w hSw; go_simp; try (with_reducible rfl))
  try simp only [Act.put, Ls]
  refine tk 1 ?_ rfl (Or.inl ⟨by rfl, ?_⟩) ?_
  rotate_left
  ·(intro w hSw; go_simp; try (with_reducible rfl))
  try simp only [Act.put, Ls]
  refine tk 2 ?_ rfl (Or.inl ⟨by rfl, ?_⟩) ?_
  rotate_left
  ·(intro w hSw; go_simp; try (with_reducible rfl))
  try simp only [Act.put, Ls]
  refine tk 5 ?_ rfl (Or.inl ⟨by rfl, ?_⟩) ?_
  rotate_left
  ·(intro w hSw; go_simp; try (with_reducible rfl))
  try simp only [Act.put, Ls]
  refine wpAnyH_ready (rs := [3]) (by kernel_rfl) (by simp) ?_
  refine (AllReadyH.cons (o := _) rfl (fun K hK => ?_) AllReadyH.nil)
  go_simp
  go_at_call 165; refine (CI.out _).mono ?_; rintro r W ⟨rfl, hb⟩
  replace hr := hr.below hb
  replace hg : w.grownBy W (some rb) := grown_trans hg (grown_below (w := _) (w' := W) (below_dr hb) _)
  clear hb
  refine hK.out _ _ ?_ (fun hHeld => ?_)
  ·trivial
  clear hK K
  try simp only [Act.put, Ls]
  refine tk 4 ?_ rfl (Or.inl ⟨by rfl, ?_⟩) ?_
  rotate_left
  ·(intro w hSw; go_simp; try (with_reducible rfl))
  try simp only [Act.put, Ls]
  refine wpAnyH_ready (rs := [6]) (by kernel_rfl) (by simp) ?_
  refine (AllReadyH.cons (o := _) rfl (fun K hK => ?_) AllReadyH.nil)
  go_simp
  go_at_call 97; refine (once_any rb ca cc cs 2 _ hr (by decide) (by decide)).mono ?_; rintro r W ⟨ng, rfl, hr, hg'⟩
  replace hg := grown_trans hg hg'
  clear hg'
  refine hK.out _ _ ?_ (fun hHeld => ?_)
  ·trivial
  clear hK K
  try simp only [Act.put, Ls]
  refine wpAnyH_ready (rs := [7]) (by kernel_rfl) (by simp) ?_
  refine (AllReadyH.cons (o := _) rfl (fun K hK => ?_) AllReadyH.nil)
  go_simp
  go_at_call 88; refine (with_64 (Int.tmod _ 9218868437227405312) ng _ (fun _ => tmW64 ?_)).mono ?_
  ·(first | omega | exact Int.tmod_nonneg _ (by omega) | exact nn_wrap _ | exact fpb_nn _ _ _ _)
  rintro r W ⟨rfl, hb⟩
  replace hr := hr.below hb
  replace hg := grown_trans hg (grown_below hb _)
  clear hb
  refine hK.out _ _ ?_ (fun hHeld => ?_)
  ·trivial
  clear hK K
  try simp only [Act.put, Ls]
  refine tk 8 ?_ rfl (Or.inl ⟨by rfl, ?_⟩) ?_
  rotate_left
  ·(intro w hSw; go_simp; try (with_reducible rfl))
  try simp only [Act.put, Ls]
  refine wpAnyH_done (by kernel_rfl) ?_ _
  go_wp2
  go_ret
  refine ⟨_, rfl, sgn_fin64 _ ng (tmX64 ?_), hr, hg⟩ <;> (first | omega | exact Int.tmod_nonneg _ (by omega) | exact nn_wrap _ | exact fpb_nn _ _ _ _)
theorem finite64 (rb : Nat) (ca : Option Addr) (cc : Nat) (cs : List Int) (w : World) (hr : RD w rb ca cc cs) :
  Calls Tryz.prog 201 #[.pointer (some ⟨rb, 0, none⟩), .int .i64 64] w fun e w' => ∃ x : Int, e = .returned (.int .u64 x) ∧ 0 ≤ x ∧ x < 18446744073709551616 ∧ RD w' rb ca cc cs ∧ w.grownBy w' (some rb) :=
 (finiteF64 rb ca cc cs w hr).mono fun _ _ ⟨x, h1, h2, h3, h4⟩ => ⟨x, h1, h2.1, by have := h2.2.1; omega, h3, h4⟩
end Fd
end Go.Proofs.YtkfjmcdniohljaaGreatDoor
