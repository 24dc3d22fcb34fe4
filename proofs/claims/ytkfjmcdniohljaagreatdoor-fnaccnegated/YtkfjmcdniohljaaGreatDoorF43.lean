/-
  What is needed of FH, FL.
-/
import Derived.Test.YtkfjmcdniohljaaGreatDoorF42
set_option maxHeartbeats 16000000
set_option maxRecDepth 1000000
namespace Go.Proofs.YtkfjmcdniohljaaGreatDoor
set_option linter.unusedVariables false
set_option linter.unusedSimpArgs false
open Go.RowKit Go.Deep
namespace Fd
def Row6 (S : Int) (w : World) (B : Nat) : Prop := ∀ j, j < 6 → ∃ d : Int, w.cell? ⟨B, j, none⟩ = some (.int .u64 d) ∧ 0 ≤ d ∧ d < S
theorem Row6.rd {S : Int} {w w' : World} {B rb : Nat} (h : Row6 S w B) (hg : w.grownBy w' (some rb)) (hlt : rb < B) (hB : B < w.heap.size) : Row6 S w' B := fun j hj => by
 obtain ⟨d, h1, h2⟩ := h j hj
 have e := hg.block B hB (by simp; omega)
 exact ⟨d, (World.cell?_of_block (a := ⟨B, j, none⟩) e).trans h1, h2⟩
theorem Row6.new {S v0 v1 v2 v3 v4 v5 : Int} {t : TypeId} (w : World) (h : (0 ≤ v0 ∧ v0 < S) ∧ (0 ≤ v1 ∧ v1 < S) ∧ (0 ≤ v2 ∧ v2 < S) ∧ (0 ≤ v3 ∧ v3 < S) ∧ (0 ≤ v4 ∧ v4 < S) ∧ (0 ≤ v5 ∧ v5 < S)) : Row6 S (w.alloc (.cells #[.int .u64 v0, .int .u64 v1, .int .u64 v2, .int .u64 v3, .int .u64 v4, .int .u64 v5] t)) w.heap.size := fun k hk => by
 have q := World.cell?_alloc_new w #[.int .u64 v0, .int .u64 v1, .int .u64 v2, .int .u64 v3, .int .u64 v4, .int .u64 v5] t k
 rw [q]
 obtain ⟨h0, h1, h2, h3, h4, h5⟩ := h
 rcases (show k = 0 ∨ k = 1 ∨ k = 2 ∨ k = 3 ∨ k = 4 ∨ k = 5 by omega) with rfl | rfl | rfl | rfl | rfl | rfl
 ·exact ⟨v0, rfl, h0⟩
 ·exact ⟨v1, rfl, h1⟩
 ·exact ⟨v2, rfl, h2⟩
 ·exact ⟨v3, rfl, h3⟩
 ·exact ⟨v4, rfl, h4⟩
 ·exact ⟨v5, rfl, h5⟩
theorem sgn_bdS32 (x : Int) (ng : Bool) (h0 : 0 ≤ x) (h1 : x < 2147483648) : 0 ≤ sgn 2147483648 x ng ∧ sgn 2147483648 x ng < 18446744073709551616 := by
 unfold sgn; cases ng <;> simp <;> omega
theorem float32 (rb : Nat) (ca : Option Addr) (cc : Nat) (cs : List Int) (w : World) (hr : RD w rb ca cc cs) :
  Calls Tryz.prog 120 #[.pointer (some ⟨rb, 0, none⟩), .int .i64 32] w fun e w' => ∃ x : Int, e = .returned (.int .u64 x) ∧ 0 ≤ x ∧ x < 18446744073709551616 ∧ RD w' rb ca cc cs ∧ w.grownBy w' (some rb) := by
 have CI := hid (fun w' => spec_inf32 w')
 have CN := hid (fun w' => snan_32 w')
 have CS := hid (fun w' => sS_32 w')
 have hg := grown_refl w (some rb)
 have eI : infOf 32 = 2139095040 := rfl
 rw [eI] at CI
 go_enter Tryz.func120, Tryz.ntmps120
 go_wp2_with fail
 refine (once_any rb ca cc cs 8 _ hr (by decide) (by decide)).mono ?_
 rintro r W ⟨v, rfl, hr, hg'⟩
 replace hg := grown_trans hg hg'
 clear hg'
 cases v
 ·go_wp2_with fail
  refine (finite32 rb ca cc cs _ hr).mono ?_
  rintro r W' ⟨x, rfl, x0, x1, hr', hg'⟩
  go_wp2
  go_ret
  exact ⟨x, rfl, x0, x1, hr', grown_trans hg hg'⟩
 ·go_wp2_with fail
  refine (CI.out _).mono ?_
  rintro r W ⟨rfl, hb⟩
  replace hr := hr.below hb
  replace hg := grown_trans hg (grown_below hb _)
  clear hb
  go_upto_region 22 with fail
  replace hr := hr.drew
  refine wp_region_held_drew (S := fun _ => True) (by kernel_rfl) ?_ (fun hHeld => ?_)
  ·trivial
  refine tk 0 ?_ rfl (Or.inl ⟨by rfl, ?_⟩) ?_
  rotate_left
  ·(intro w hSw; go_simp; try (with_reducible rfl))
  try simp only [Act.put, Ls]
  refine tk 1 ?_ rfl (Or.inl ⟨by rfl, ?_⟩) ?_
  rotate_left
  ·(intro w hSw; go_simp; try (with_reducible rfl))
  try simp only [Act.put, Ls]
  refine tk 2 ?_ rfl (Or.inl ⟨by rfl, ?_⟩) ?_
  rotate_left
  ·(intro w hSw; go_simp; try (with_reducible rfl))
  try simp only [Act.put, Ls]
  refine tk 3 ?_ rfl (Or.inl ⟨by rfl, ?_⟩) ?_
  rotate_left
  ·(intro w hSw; go_simp; try (with_reducible rfl))
  try simp only [Act.put, Ls]
  refine tk 4 ?_ rfl (Or.inl ⟨by rfl, ?_⟩) ?_
  rotate_left
  ·(intro w hSw; go_simp; try (with_reducible rfl))
  try simp only [Act.put, Ls]
  refine tk 5 ?_ rfl (Or.inl ⟨by rfl, ?_⟩) ?_
  rotate_left
  ·(intro w hSw; go_simp; try (with_reducible rfl))
  try simp only [Act.put, Ls]
  refine tk 7 ?_ rfl (Or.inl ⟨by rfl, ?_⟩) ?_
  rotate_left
  ·(intro w hSw; go_simp; try (with_reducible rfl))
  try simp only [Act.put, Ls]
  refine tk 10 ?_ rfl (Or.inl ⟨by rfl, ?_⟩) ?_
  rotate_left
  ·(intro w hSw; go_simp; try (with_reducible rfl))
  try simp only [Act.put, Ls]
  refine tk 14 ?_ rfl (Or.inl ⟨by rfl, ?_⟩) ?_
  rotate_left
  ·(intro w hSw; go_simp; try (with_reducible rfl))
  try simp only [Act.put, Ls]
  refine tk 18 ?_ rfl (Or.inl ⟨by rfl, ?_⟩) ?_
  rotate_left
  ·(intro w hSw; go_simp; try (with_reducible rfl))
  try simp only [Act.put, Ls]
  refine wpAnyH_ready (rs := [6]) (by kernel_rfl) (by simp) ?_
  refine (AllReadyH.cons (o := _) rfl (fun K hK => ?_) AllReadyH.nil)
  go_simp
  go_at_call 174; refine (CN.out _).mono ?_; rintro r W ⟨rfl, hb⟩
  replace hr := hr.below hb
  replace hg : w.grownBy W (some rb) := grown_trans hg (grown_below (w := _) (w' := W) (below_dr hb) _)
  clear hb
  refine hK.out _ _ ?_ (fun hHeld => ?_)
  ·trivial
  clear hK K
  try simp only [Act.put, Ls]
  refine wpAnyH_ready (rs := [8]) (by kernel_rfl) (by simp) ?_
  refine (AllReadyH.cons (o := _) rfl (fun K hK => ?_) AllReadyH.nil)
  go_simp
  go_at_call 174; refine (CN.out _).mono ?_; rintro r W ⟨rfl, hb⟩
  replace hr := hr.below hb
  replace hg := grown_trans hg (grown_below hb _)
  clear hb
  refine hK.out _ _ ?_ (fun hHeld => ?_)
  ·trivial
  clear hK K
  try simp only [Act.put, Ls]
  refine tk 9 ?_ rfl (Or.inl ⟨by rfl, ?_⟩) ?_
  rotate_left
  ·(intro w hSw; go_simp; try (with_reducible rfl))
  try simp only [Act.put, Ls]
  refine wpAnyH_ready (rs := [11]) (by kernel_rfl) (by simp) ?_
  refine (AllReadyH.cons (o := _) rfl (fun K hK => ?_) AllReadyH.nil)
  go_simp
  go_at_call 180; refine (CS.out _).mono ?_; rintro r W ⟨rfl, hb⟩
  replace hr := hr.below hb
  replace hg := grown_trans hg (grown_below hb _)
  clear hb
  refine hK.out _ _ ?_ (fun hHeld => ?_)
  ·trivial
  clear hK K
  try simp only [Act.put, Ls]
  refine tk 12 ?_ rfl (Or.inl ⟨by rfl, ?_⟩) ?_
  rotate_left
  ·(intro w hSw; go_simp; try (with_reducible rfl))
  try simp only [Act.put, Ls]
  refine wpAnyH_ready (rs := [13, 15]) (by kernel_rfl) (by simp) ?_
  refine (AllReadyH.cons (o := _) rfl (fun K hK => ?_) (AllReadyH.cons (o := _) rfl (fun K hK => ?_) AllReadyH.nil))
  ·go_simp
   refine hK.out _ _ ?_ (fun hHeld => ?_)
   ·trivial
   clear hK K
   try simp only [Act.put, Ls]
   have lB := hr.lt
   have hc := Row6.new (S := 2147483648) (t := 22) (v0 := 2139095040) (v1 := 2139095040) (v2 := (IntKind.u64.wrap 2139095041)) (v3 := 2143289344) (v4 := (IntKind.u64.wrap 2143289349)) (v5 := (IntKind.u64.wrap 2147483647)) W (by simp only [IntKind.wrap_u64]; decide)
   obtain ⟨B, eB⟩ : ∃ B, B = W.heap.size := ⟨_, rfl⟩
   have hB : W.heap.size < (W.alloc (.cells #[.int .u64 2139095040, .int .u64 2139095040, .int .u64 (IntKind.u64.wrap 2139095041), .int .u64 2143289344, .int .u64 (IntKind.u64.wrap 2143289349), .int .u64 (IntKind.u64.wrap 2147483647)] 22)).heap.size := by simp
   replace hr := hr.alloc (.cells #[.int .u64 2139095040, .int .u64 2139095040, .int .u64 (IntKind.u64.wrap 2139095041), .int .u64 2143289344, .int .u64 (IntKind.u64.wrap 2143289349), .int .u64 (IntKind.u64.wrap 2147483647)] 22)
   replace hg := grown_alloc hg (.cells #[.int .u64 2139095040, .int .u64 2139095040, .int .u64 (IntKind.u64.wrap 2139095041), .int .u64 2143289344, .int .u64 (IntKind.u64.wrap 2143289349), .int .u64 (IntKind.u64.wrap 2147483647)] 22)
   generalize W.alloc (.cells #[.int .u64 2139095040, .int .u64 2139095040, .int .u64 (IntKind.u64.wrap 2139095041), .int .u64 2143289344, .int .u64 (IntKind.u64.wrap 2143289349), .int .u64 (IntKind.u64.wrap 2147483647)] 22) = W2 at hc hB hr hg ⊢
   refine wpAnyH_ready (rs := [15]) (by kernel_rfl) (by simp) ?_
   refine (AllReadyH.cons (o := _) rfl (fun K hK => ?_) AllReadyH.nil)
   go_simp
   go_at_call 99; refine (below_any rb ca cc cs 6 _ hr (by decide) (by decide)).mono ?_
   rintro r W'  ⟨kz, rfl, k0, k1, hr, hg'⟩
   obtain ⟨kn, rfl⟩ := Int.eq_ofNat_of_zero_le k0
   replace hc := hc.rd hg' lB hB
   replace hB := Nat.lt_of_lt_of_le hB hg'.size
   replace hg := grown_trans hg hg'
   clear hg'
   refine hK.out _ _ ?_ (fun hHeld => ?_)
   ·trivial
   clear hK K
   try simp only [Act.put, Ls]
   refine tk 16 ?_ rfl (Or.inl ⟨by rfl, ?_⟩) ?_
   rotate_left
   ·(intro w hSw; go_simp; try (with_reducible rfl))
   try simp only [Act.put, Ls]
   refine wpAnyH_ready (rs := [17, 19]) (by kernel_rfl) (by simp) ?_
   refine (AllReadyH.cons (o := _) rfl (fun K hK => ?_) (AllReadyH.cons (o := _) rfl (fun K hK => ?_) AllReadyH.nil))
   ·obtain ⟨d, hd, d0, d1⟩ := hc kn (by omega)
    go_simp
    refine hK.out _ _ ?_ (fun hHeld => ?_)
    ·trivial
    clear hK K
    try simp only [Act.put, Ls]
    refine wpAnyH_ready (rs := [19]) (by kernel_rfl) (by simp) ?_
    refine (AllReadyH.cons (o := _) rfl (fun K hK => ?_) AllReadyH.nil)
    go_simp
    go_at_call 97; refine (once_any rb ca cc cs 2 _ hr (by decide) (by decide)).mono ?_
    rintro r W''  ⟨ng, rfl, hr, hg'⟩
    replace hc := hc.rd hg' lB hB
    replace hB := Nat.lt_of_lt_of_le hB hg'.size
    replace hg := grown_trans hg hg'
    clear hg'
    refine hK.out _ _ ?_ (fun hHeld => ?_)
    ·trivial
    clear hK K
    try simp only [Act.put, Ls]
    refine wpAnyH_ready (rs := [20]) (by kernel_rfl) (by simp) ?_
    refine (AllReadyH.cons (o := _) rfl (fun K hK => ?_) AllReadyH.nil)
    go_simp
    go_at_call 88; refine (with_32 d ng _ (fun _ => ⟨d0, d1⟩)).mono ?_
    rintro r W3 ⟨rfl, hb⟩
    replace hr := hr.below hb
    replace hg := grown_trans hg (grown_below hb _)
    clear hb
    refine hK.out _ _ ?_ (fun hHeld => ?_)
    ·trivial
    clear hK K
    try simp only [Act.put, Ls]
    refine tk 21 ?_ rfl (Or.inl ⟨by rfl, ?_⟩) ?_
    rotate_left
    ·(intro w hSw; go_simp; try (with_reducible rfl))
    try simp only [Act.put, Ls]
    refine wpAnyH_done (by kernel_rfl) ?_ _
    go_wp2
    go_ret
    exact ⟨_, rfl, (sgn_bdS32 d ng d0 d1).1, (sgn_bdS32 d ng d0 d1).2, hr, hg⟩
   ·go_simp
    go_at_call 97; refine (once_any rb ca cc cs 2 _ hr (by decide) (by decide)).mono ?_
    rintro r W''  ⟨ng, rfl, hr, hg'⟩
    replace hc := hc.rd hg' lB hB
    replace hB := Nat.lt_of_lt_of_le hB hg'.size
    replace hg := grown_trans hg hg'
    clear hg'
    refine hK.out _ _ ?_ (fun hHeld => ?_)
    ·trivial
    clear hK K
    try simp only [Act.put, Ls]
    refine wpAnyH_ready (rs := [17]) (by kernel_rfl) (by simp) ?_
    refine (AllReadyH.cons (o := _) rfl (fun K hK => ?_) AllReadyH.nil)
    obtain ⟨d, hd, d0, d1⟩ := hc kn (by omega)
    go_simp
    refine hK.out _ _ ?_ (fun hHeld => ?_)
    ·trivial
    clear hK K
    try simp only [Act.put, Ls]
    refine wpAnyH_ready (rs := [20]) (by kernel_rfl) (by simp) ?_
    refine (AllReadyH.cons (o := _) rfl (fun K hK => ?_) AllReadyH.nil)
    go_simp
    go_at_call 88; refine (with_32 d ng _ (fun _ => ⟨d0, d1⟩)).mono ?_
    rintro r W3 ⟨rfl, hb⟩
    replace hr := hr.below hb
    replace hg := grown_trans hg (grown_below hb _)
    clear hb
    refine hK.out _ _ ?_ (fun hHeld => ?_)
    ·trivial
    clear hK K
    try simp only [Act.put, Ls]
    refine tk 21 ?_ rfl (Or.inl ⟨by rfl, ?_⟩) ?_
    rotate_left
    ·(intro w hSw; go_simp; try (with_reducible rfl))
    try simp only [Act.put, Ls]
    refine wpAnyH_done (by kernel_rfl) ?_ _
    go_wp2
    go_ret
    exact ⟨_, rfl, (sgn_bdS32 d ng d0 d1).1, (sgn_bdS32 d ng d0 d1).2, hr, hg⟩
  ·go_simp
   go_at_call 99; refine (below_any rb ca cc cs 6 _ hr (by decide) (by decide)).mono ?_
   rintro r W ⟨kz, rfl, k0, k1, hr, hg'⟩
   obtain ⟨kn, rfl⟩ := Int.eq_ofNat_of_zero_le k0
   replace hg := grown_trans hg hg'
   clear hg'
   refine hK.out _ _ ?_ (fun hHeld => ?_)
   ·trivial
   clear hK K
   try simp only [Act.put, Ls]
   refine wpAnyH_ready (rs := [13, 19]) (by kernel_rfl) (by simp) ?_
   refine (AllReadyH.cons (o := _) rfl (fun K hK => ?_) (AllReadyH.cons (o := _) rfl (fun K hK => ?_) AllReadyH.nil))
   ·go_simp
    refine hK.out _ _ ?_ (fun hHeld => ?_)
    ·trivial
    clear hK K
    try simp only [Act.put, Ls]
    have lB := hr.lt
    have hc := Row6.new (S := 2147483648) (t := 22) (v0 := 2139095040) (v1 := 2139095040) (v2 := (IntKind.u64.wrap 2139095041)) (v3 := 2143289344) (v4 := (IntKind.u64.wrap 2143289349)) (v5 := (IntKind.u64.wrap 2147483647)) W (by simp only [IntKind.wrap_u64]; decide)
    obtain ⟨B, eB⟩ : ∃ B, B = W.heap.size := ⟨_, rfl⟩
    have hB : W.heap.size < (W.alloc (.cells #[.int .u64 2139095040, .int .u64 2139095040, .int .u64 (IntKind.u64.wrap 2139095041), .int .u64 2143289344, .int .u64 (IntKind.u64.wrap 2143289349), .int .u64 (IntKind.u64.wrap 2147483647)] 22)).heap.size := by simp
    replace hr := hr.alloc (.cells #[.int .u64 2139095040, .int .u64 2139095040, .int .u64 (IntKind.u64.wrap 2139095041), .int .u64 2143289344, .int .u64 (IntKind.u64.wrap 2143289349), .int .u64 (IntKind.u64.wrap 2147483647)] 22)
    replace hg := grown_alloc hg (.cells #[.int .u64 2139095040, .int .u64 2139095040, .int .u64 (IntKind.u64.wrap 2139095041), .int .u64 2143289344, .int .u64 (IntKind.u64.wrap 2143289349), .int .u64 (IntKind.u64.wrap 2147483647)] 22)
    generalize W.alloc (.cells #[.int .u64 2139095040, .int .u64 2139095040, .int .u64 (IntKind.u64.wrap 2139095041), .int .u64 2143289344, .int .u64 (IntKind.u64.wrap 2143289349), .int .u64 (IntKind.u64.wrap 2147483647)] 22) = W2 at hc hB hr hg ⊢
    refine tk 16 ?_ rfl (Or.inl ⟨by rfl, ?_⟩) ?_
    rotate_left
    ·(intro w hSw; go_simp; try (with_reducible rfl))
    try simp only [Act.put, Ls]
    refine wpAnyH_ready (rs := [17, 19]) (by kernel_rfl) (by simp) ?_
    refine (AllReadyH.cons (o := _) rfl (fun K hK => ?_) (AllReadyH.cons (o := _) rfl (fun K hK => ?_) AllReadyH.nil))
    ·obtain ⟨d, hd, d0, d1⟩ := hc kn (by omega)
     go_simp
     refine hK.out _ _ ?_ (fun hHeld => ?_)
     ·trivial
     clear hK K
     try simp only [Act.put, Ls]
     refine wpAnyH_ready (rs := [19]) (by kernel_rfl) (by simp) ?_
     refine (AllReadyH.cons (o := _) rfl (fun K hK => ?_) AllReadyH.nil)
     go_simp
     go_at_call 97; refine (once_any rb ca cc cs 2 _ hr (by decide) (by decide)).mono ?_
     rintro r W''  ⟨ng, rfl, hr, hg'⟩
     replace hc := hc.rd hg' lB hB
     replace hB := Nat.lt_of_lt_of_le hB hg'.size
     replace hg := grown_trans hg hg'
     clear hg'
     refine hK.out _ _ ?_ (fun hHeld => ?_)
     ·trivial
     clear hK K
     try simp only [Act.put, Ls]
     refine wpAnyH_ready (rs := [20]) (by kernel_rfl) (by simp) ?_
     refine (AllReadyH.cons (o := _) rfl (fun K hK => ?_) AllReadyH.nil)
     go_simp
     go_at_call 88; refine (with_32 d ng _ (fun _ => ⟨d0, d1⟩)).mono ?_
     rintro r W3 ⟨rfl, hb⟩
     replace hr := hr.below hb
     replace hg := grown_trans hg (grown_below hb _)
     clear hb
     refine hK.out _ _ ?_ (fun hHeld => ?_)
     ·trivial
     clear hK K
     try simp only [Act.put, Ls]
     refine tk 21 ?_ rfl (Or.inl ⟨by rfl, ?_⟩) ?_
     rotate_left
     ·(intro w hSw; go_simp; try (with_reducible rfl))
     try simp only [Act.put, Ls]
     refine wpAnyH_done (by kernel_rfl) ?_ _
     go_wp2
     go_ret
     exact ⟨_, rfl, (sgn_bdS32 d ng d0 d1).1, (sgn_bdS32 d ng d0 d1).2, hr, hg⟩
    ·go_simp
     go_at_call 97; refine (once_any rb ca cc cs 2 _ hr (by decide) (by decide)).mono ?_
     rintro r W''  ⟨ng, rfl, hr, hg'⟩
     replace hc := hc.rd hg' lB hB
     replace hB := Nat.lt_of_lt_of_le hB hg'.size
     replace hg := grown_trans hg hg'
     clear hg'
     refine hK.out _ _ ?_ (fun hHeld => ?_)
     ·trivial
     clear hK K
     try simp only [Act.put, Ls]
     refine wpAnyH_ready (rs := [17]) (by kernel_rfl) (by simp) ?_
     refine (AllReadyH.cons (o := _) rfl (fun K hK => ?_) AllReadyH.nil)
     obtain ⟨d, hd, d0, d1⟩ := hc kn (by omega)
     go_simp
     refine hK.out _ _ ?_ (fun hHeld => ?_)
     ·trivial
     clear hK K
     try simp only [Act.put, Ls]
     refine wpAnyH_ready (rs := [20]) (by kernel_rfl) (by simp) ?_
     refine (AllReadyH.cons (o := _) rfl (fun K hK => ?_) AllReadyH.nil)
     go_simp
     go_at_call 88; refine (with_32 d ng _ (fun _ => ⟨d0, d1⟩)).mono ?_
     rintro r W3 ⟨rfl, hb⟩
     replace hr := hr.below hb
     replace hg := grown_trans hg (grown_below hb _)
     clear hb
     refine hK.out _ _ ?_ (fun hHeld => ?_)
     ·trivial
     clear hK K
     try simp only [Act.put, Ls]
     refine tk 21 ?_ rfl (Or.inl ⟨by rfl, ?_⟩) ?_
     rotate_left
     ·(intro w hSw; go_simp; try (with_reducible rfl))
     try simp only [Act.put, Ls]
     refine wpAnyH_done (by kernel_rfl) ?_ _
     go_wp2
     go_ret
     exact ⟨_, rfl, (sgn_bdS32 d ng d0 d1).1, (sgn_bdS32 d ng d0 d1).2, hr, hg⟩
   ·go_simp
    go_at_call 97; refine (once_any rb ca cc cs 2 _ hr (by decide) (by decide)).mono ?_
    rintro r W ⟨ng, rfl, hr, hg'⟩
    replace hg := grown_trans hg hg'
    clear hg'
    refine hK.out _ _ ?_ (fun hHeld => ?_)
    ·trivial
    clear hK K
    try simp only [Act.put, Ls]
    refine wpAnyH_ready (rs := [13]) (by kernel_rfl) (by simp) ?_
    refine (AllReadyH.cons (o := _) rfl (fun K hK => ?_) AllReadyH.nil)
    go_simp
    refine hK.out _ _ ?_ (fun hHeld => ?_)
    ·trivial
    clear hK K
    try simp only [Act.put, Ls]
    have lB := hr.lt
    have hc := Row6.new (S := 2147483648) (t := 22) (v0 := 2139095040) (v1 := 2139095040) (v2 := (IntKind.u64.wrap 2139095041)) (v3 := 2143289344) (v4 := (IntKind.u64.wrap 2143289349)) (v5 := (IntKind.u64.wrap 2147483647)) W (by simp only [IntKind.wrap_u64]; decide)
    obtain ⟨B, eB⟩ : ∃ B, B = W.heap.size := ⟨_, rfl⟩
    have hB : W.heap.size < (W.alloc (.cells #[.int .u64 2139095040, .int .u64 2139095040, .int .u64 (IntKind.u64.wrap 2139095041), .int .u64 2143289344, .int .u64 (IntKind.u64.wrap 2143289349), .int .u64 (IntKind.u64.wrap 2147483647)] 22)).heap.size := by simp
    replace hr := hr.alloc (.cells #[.int .u64 2139095040, .int .u64 2139095040, .int .u64 (IntKind.u64.wrap 2139095041), .int .u64 2143289344, .int .u64 (IntKind.u64.wrap 2143289349), .int .u64 (IntKind.u64.wrap 2147483647)] 22)
    replace hg := grown_alloc hg (.cells #[.int .u64 2139095040, .int .u64 2139095040, .int .u64 (IntKind.u64.wrap 2139095041), .int .u64 2143289344, .int .u64 (IntKind.u64.wrap 2143289349), .int .u64 (IntKind.u64.wrap 2147483647)] 22)
    generalize W.alloc (.cells #[.int .u64 2139095040, .int .u64 2139095040, .int .u64 (IntKind.u64.wrap 2139095041), .int .u64 2143289344, .int .u64 (IntKind.u64.wrap 2143289349), .int .u64 (IntKind.u64.wrap 2147483647)] 22) = W2 at hc hB hr hg ⊢
    refine tk 16 ?_ rfl (Or.inl ⟨by rfl, ?_⟩) ?_
    rotate_left
    ·(intro w hSw; go_simp; try (with_reducible rfl))
    try simp only [Act.put, Ls]
    refine wpAnyH_ready (rs := [17]) (by kernel_rfl) (by simp) ?_
    refine (AllReadyH.cons (o := _) rfl (fun K hK => ?_) AllReadyH.nil)
    obtain ⟨d, hd, d0, d1⟩ := hc kn (by omega)
    go_simp
    refine hK.out _ _ ?_ (fun hHeld => ?_)
    ·trivial
    clear hK K
    try simp only [Act.put, Ls]
    refine wpAnyH_ready (rs := [20]) (by kernel_rfl) (by simp) ?_
    refine (AllReadyH.cons (o := _) rfl (fun K hK => ?_) AllReadyH.nil)
    go_simp
    go_at_call 88; refine (with_32 d ng _ (fun _ => ⟨d0, d1⟩)).mono ?_
    rintro r W3 ⟨rfl, hb⟩
    replace hr := hr.below hb
    replace hg := grown_trans hg (grown_below hb _)
    clear hb
    refine hK.out _ _ ?_ (fun hHeld => ?_)
    ·trivial
    clear hK K
    try simp only [Act.put, Ls]
    refine tk 21 ?_ rfl (Or.inl ⟨by rfl, ?_⟩) ?_
    rotate_left
    ·(intro w hSw; go_simp; try (with_reducible rfl))
    try simp only [Act.put, Ls]
    refine wpAnyH_done (by kernel_rfl) ?_ _
    go_wp2
    go_ret
    exact ⟨_, rfl, (sgn_bdS32 d ng d0 d1).1, (sgn_bdS32 d ng d0 d1).2, hr, hg⟩
theorem sgn_bdS64 (x : Int) (ng : Bool) (h0 : 0 ≤ x) (h1 : x < 9223372036854775808) : 0 ≤ sgn 9223372036854775808 x ng ∧ sgn 9223372036854775808 x ng < 18446744073709551616 := by
 unfold sgn; cases ng <;> simp <;> omega
theorem float64 (rb : Nat) (ca : Option Addr) (cc : Nat) (cs : List Int) (w : World) (hr : RD w rb ca cc cs) :
  Calls Tryz.prog 120 #[.pointer (some ⟨rb, 0, none⟩), .int .i64 64] w fun e w' => ∃ x : Int, e = .returned (.int .u64 x) ∧ 0 ≤ x ∧ x < 18446744073709551616 ∧ RD w' rb ca cc cs ∧ w.grownBy w' (some rb) := by
 have CI := hid (fun w' => spec_inf64 w')
 have CN := hid (fun w' => snan_64 w')
 have CS := hid (fun w' => sS_64 w')
 have hg := grown_refl w (some rb)
 have eI : infOf 64 = 9218868437227405312 := rfl
 rw [eI] at CI
 go_enter Tryz.func120, Tryz.ntmps120
 go_wp2_with fail
 refine (once_any rb ca cc cs 8 _ hr (by decide) (by decide)).mono ?_
 rintro r W ⟨v, rfl, hr, hg'⟩
 replace hg := grown_trans hg hg'
 clear hg'
 cases v
 ·go_wp2_with fail
  refine (finite64 rb ca cc cs _ hr).mono ?_
  rintro r W' ⟨x, rfl, x0, x1, hr', hg'⟩
  go_wp2
  go_ret
  exact ⟨x, rfl, x0, x1, hr', grown_trans hg hg'⟩
 ·go_wp2_with fail
  refine (CI.out _).mono ?_
  rintro r W ⟨rfl, hb⟩
  replace hr := hr.below hb
  replace hg := grown_trans hg (grown_below hb _)
  clear hb
  go_upto_region 22 with fail
  replace hr := hr.drew
  refine wp_region_held_drew (S := fun _ => True) (by kernel_rfl) ?_ (fun hHeld => ?_)
  ·trivial
  refine tk 0 ?_ rfl (Or.inl ⟨by rfl, ?_⟩) ?_
  rotate_left
  ·(intro w hSw; go_simp; try (with_reducible rfl))
  try simp only [Act.put, Ls]
  refine tk 1 ?_ rfl (Or.inl ⟨by rfl, ?_⟩) ?_
  rotate_left
  ·(intro w hSw; go_simp; try (with_reducible rfl))
  try simp only [Act.put, Ls]
  refine tk 2 ?_ rfl (Or.inl ⟨by rfl, ?_⟩) ?_
  rotate_left
  ·(intro w hSw; go_simp; try (with_reducible rfl))
  try simp only [Act.put, Ls]
  refine tk 3 ?_ rfl (Or.inl ⟨by rfl, ?_⟩) ?_
  rotate_left
  ·(intro w hSw; go_simp; try (with_reducible rfl))
  try simp only [Act.put, Ls]
  refine tk 4 ?_ rfl (Or.inl ⟨by rfl, ?_⟩) ?_
  rotate_left
  ·(intro w hSw; go_simp; try (with_reducible rfl))
  try simp only [Act.put, Ls]
  refine tk 5 ?_ rfl (Or.inl ⟨by rfl, ?_⟩) ?_
  rotate_left
  ·(intro w hSw; go_simp; try (with_reducible rfl))
  try simp only [Act.put, Ls]
  refine tk 7 ?_ rfl (Or.inl ⟨by rfl, ?_⟩) ?_
  rotate_left
  ·(intro w hSw; go_simp; try (with_reducible rfl))
  try simp only [Act.put, Ls]
  refine tk 10 ?_ rfl (Or.inl ⟨by rfl, ?_⟩) ?_
  rotate_left
  ·(intro w hSw; go_simp; try (with_reducible rfl))
  try simp only [Act.put, Ls]
  refine tk 14 ?_ rfl (Or.inl ⟨by rfl, ?_⟩) ?_
  rotate_left
  ·(intro w hSw; go_simp; try (with_reducible rfl))
  try simp only [Act.put, Ls]
  refine tk 18 ?_ rfl (Or.inl ⟨by rfl, ?_⟩) ?_
  rotate_left
  ·(intro w hSw; go_simp; try (with_reducible rfl))
  try simp only [Act.put, Ls]
  refine wpAnyH_ready (rs := [6]) (by kernel_rfl) (by simp) ?_
  refine (AllReadyH.cons (o := _) rfl (fun K hK => ?_) AllReadyH.nil)
  go_simp
  go_at_call 174; refine (CN.out _).mono ?_; rintro r W ⟨rfl, hb⟩
  replace hr := hr.below hb
  replace hg : w.grownBy W (some rb) := grown_trans hg (grown_below (w := _) (w' := W) (below_dr hb) _)
  clear hb
  refine hK.out _ _ ?_ (fun hHeld => ?_)
  ·trivial
  clear hK K
  try simp only [Act.put, Ls]
  refine wpAnyH_ready (rs := [8]) (by kernel_rfl) (by simp) ?_
  refine (AllReadyH.cons (o := _) rfl (fun K hK => ?_) AllReadyH.nil)
  go_simp
  go_at_call 174; refine (CN.out _).mono ?_; rintro r W ⟨rfl, hb⟩
  replace hr := hr.below hb
  replace hg := grown_trans hg (grown_below hb _)
  clear hb
  refine hK.out _ _ ?_ (fun hHeld => ?_)
  ·trivial
  clear hK K
  try simp only [Act.put, Ls]
  refine tk 9 ?_ rfl (Or.inl ⟨by rfl, ?_⟩) ?_
  rotate_left
  ·(intro w hSw; go_simp; try (with_reducible rfl))
  try simp only [Act.put, Ls]
  refine wpAnyH_ready (rs := [11]) (by kernel_rfl) (by simp) ?_
  refine (AllReadyH.cons (o := _) rfl (fun K hK => ?_) AllReadyH.nil)
  go_simp
  go_at_call 180; refine (CS.out _).mono ?_; rintro r W ⟨rfl, hb⟩
  replace hr := hr.below hb
  replace hg := grown_trans hg (grown_below hb _)
  clear hb
  refine hK.out _ _ ?_ (fun hHeld => ?_)
  ·trivial
  clear hK K
  try simp only [Act.put, Ls]
  refine tk 12 ?_ rfl (Or.inl ⟨by rfl, ?_⟩) ?_
  rotate_left
  ·(intro w hSw; go_simp; try (with_reducible rfl))
  try simp only [Act.put, Ls]
  refine wpAnyH_ready (rs := [13, 15]) (by kernel_rfl) (by simp) ?_
  refine (AllReadyH.cons (o := _) rfl (fun K hK => ?_) (AllReadyH.cons (o := _) rfl (fun K hK => ?_) AllReadyH.nil))
  ·go_simp
   refine hK.out _ _ ?_ (fun hHeld => ?_)
   ·trivial
   clear hK K
   try simp only [Act.put, Ls]
   have lB := hr.lt
   have hc := Row6.new (S := 9223372036854775808) (t := 22) (v0 := 9218868437227405312) (v1 := 9218868437227405312) (v2 := (IntKind.u64.wrap 9218868437227405313)) (v3 := 9221120237041090560) (v4 := (IntKind.u64.wrap 9221120237041090565)) (v5 := (IntKind.u64.wrap 9223372036854775807)) W (by simp only [IntKind.wrap_u64]; decide)
   obtain ⟨B, eB⟩ : ∃ B, B = W.heap.size := ⟨_, rfl⟩
   have hB : W.heap.size < (W.alloc (.cells #[.int .u64 9218868437227405312, .int .u64 9218868437227405312, .int .u64 (IntKind.u64.wrap 9218868437227405313), .int .u64 9221120237041090560, .int .u64 (IntKind.u64.wrap 9221120237041090565), .int .u64 (IntKind.u64.wrap 9223372036854775807)] 22)).heap.size := by simp
   replace hr := hr.alloc (.cells #[.int .u64 9218868437227405312, .int .u64 9218868437227405312, .int .u64 (IntKind.u64.wrap 9218868437227405313), .int .u64 9221120237041090560, .int .u64 (IntKind.u64.wrap 9221120237041090565), .int .u64 (IntKind.u64.wrap 9223372036854775807)] 22)
   replace hg := grown_alloc hg (.cells #[.int .u64 9218868437227405312, .int .u64 9218868437227405312, .int .u64 (IntKind.u64.wrap 9218868437227405313), .int .u64 9221120237041090560, .int .u64 (IntKind.u64.wrap 9221120237041090565), .int .u64 (IntKind.u64.wrap 9223372036854775807)] 22)
   generalize W.alloc (.cells #[.int .u64 9218868437227405312, .int .u64 9218868437227405312, .int .u64 (IntKind.u64.wrap 9218868437227405313), .int .u64 9221120237041090560, .int .u64 (IntKind.u64.wrap 9221120237041090565), .int .u64 (IntKind.u64.wrap 9223372036854775807)] 22) = W2 at hc hB hr hg ⊢
   refine wpAnyH_ready (rs := [15]) (by kernel_rfl) (by simp) ?_
   refine (AllReadyH.cons (o := _) rfl (fun K hK => ?_) AllReadyH.nil)
   go_simp
   go_at_call 99; refine (below_any rb ca cc cs 6 _ hr (by decide) (by decide)).mono ?_
   rintro r W'  ⟨kz, rfl, k0, k1, hr, hg'⟩
   obtain ⟨kn, rfl⟩ := Int.eq_ofNat_of_zero_le k0
   replace hc := hc.rd hg' lB hB
   replace hB := Nat.lt_of_lt_of_le hB hg'.size
   replace hg := grown_trans hg hg'
   clear hg'
   refine hK.out _ _ ?_ (fun hHeld => ?_)
   ·trivial
   clear hK K
   try simp only [Act.put, Ls]
   refine tk 16 ?_ rfl (Or.inl ⟨by rfl, ?_⟩) ?_
   rotate_left
   ·(intro w hSw; go_simp; try (with_reducible rfl))
   try simp only [Act.put, Ls]
   refine wpAnyH_ready (rs := [17, 19]) (by kernel_rfl) (by simp) ?_
   refine (AllReadyH.cons (o := _) rfl (fun K hK => ?_) (AllReadyH.cons (o := _) rfl (fun K hK => ?_) AllReadyH.nil))
   ·obtain ⟨d, hd, d0, d1⟩ := hc kn (by omega)
    go_simp
    refine hK.out _ _ ?_ (fun hHeld => ?_)
    ·trivial
    clear hK K
    try simp only [Act.put, Ls]
    refine wpAnyH_ready (rs := [19]) (by kernel_rfl) (by simp) ?_
    refine (AllReadyH.cons (o := _) rfl (fun K hK => ?_) AllReadyH.nil)
    go_simp
    go_at_call 97; refine (once_any rb ca cc cs 2 _ hr (by decide) (by decide)).mono ?_
    rintro r W''  ⟨ng, rfl, hr, hg'⟩
    replace hc := hc.rd hg' lB hB
    replace hB := Nat.lt_of_lt_of_le hB hg'.size
    replace hg := grown_trans hg hg'
    clear hg'
    refine hK.out _ _ ?_ (fun hHeld => ?_)
    ·trivial
    clear hK K
    try simp only [Act.put, Ls]
    refine wpAnyH_ready (rs := [20]) (by kernel_rfl) (by simp) ?_
    refine (AllReadyH.cons (o := _) rfl (fun K hK => ?_) AllReadyH.nil)
    go_simp
    go_at_call 88; refine (with_64 d ng _ (fun _ => ⟨d0, d1⟩)).mono ?_
    rintro r W3 ⟨rfl, hb⟩
    replace hr := hr.below hb
    replace hg := grown_trans hg (grown_below hb _)
    clear hb
    refine hK.out _ _ ?_ (fun hHeld => ?_)
    ·trivial
    clear hK K
    try simp only [Act.put, Ls]
    refine tk 21 ?_ rfl (Or.inl ⟨by rfl, ?_⟩) ?_
    rotate_left
    ·(intro w hSw; go_simp; try (with_reducible rfl))
    try simp only [Act.put, Ls]
    refine wpAnyH_done (by kernel_rfl) ?_ _
    go_wp2
    go_ret
    exact ⟨_, rfl, (sgn_bdS64 d ng d0 d1).1, (sgn_bdS64 d ng d0 d1).2, hr, hg⟩
   ·go_simp
    go_at_call 97; refine (once_any rb ca cc cs 2 _ hr (by decide) (by decide)).mono ?_
    rintro r W''  ⟨ng, rfl, hr, hg'⟩
    replace hc := hc.rd hg' lB hB
    replace hB := Nat.lt_of_lt_of_le hB hg'.size
    replace hg := grown_trans hg hg'
    clear hg'
    refine hK.out _ _ ?_ (fun hHeld => ?_)
    ·trivial
    clear hK K
    try simp only [Act.put, Ls]
    refine wpAnyH_ready (rs := [17]) (by kernel_rfl) (by simp) ?_
    refine (AllReadyH.cons (o := _) rfl (fun K hK => ?_) AllReadyH.nil)
    obtain ⟨d, hd, d0, d1⟩ := hc kn (by omega)
    go_simp
    refine hK.out _ _ ?_ (fun hHeld => ?_)
    ·trivial
    clear hK K
    try simp only [Act.put, Ls]
    refine wpAnyH_ready (rs := [20]) (by kernel_rfl) (by simp) ?_
    refine (AllReadyH.cons (o := _) rfl (fun K hK => ?_) AllReadyH.nil)
    go_simp
    go_at_call 88; refine (with_64 d ng _ (fun _ => ⟨d0, d1⟩)).mono ?_
    rintro r W3 ⟨rfl, hb⟩
    replace hr := hr.below hb
    replace hg := grown_trans hg (grown_below hb _)
    clear hb
    refine hK.out _ _ ?_ (fun hHeld => ?_)
    ·trivial
    clear hK K
    try simp only [Act.put, Ls]
    refine tk 21 ?_ rfl (Or.inl ⟨by rfl, ?_⟩) ?_
    rotate_left
    ·(intro w hSw; go_simp; try (with_reducible rfl))
    try simp only [Act.put, Ls]
    refine wpAnyH_done (by kernel_rfl) ?_ _
    go_wp2
    go_ret
    exact ⟨_, rfl, (sgn_bdS64 d ng d0 d1).1, (sgn_bdS64 d ng d0 d1).2, hr, hg⟩
  ·go_simp
   go_at_call 99; refine (below_any rb ca cc cs 6 _ hr (by decide) (by decide)).mono ?_
   rintro r W ⟨kz, rfl, k0, k1, hr, hg'⟩
   obtain ⟨kn, rfl⟩ := Int.eq_ofNat_of_zero_le k0
   replace hg := grown_trans hg hg'
   clear hg'
   refine hK.out _ _ ?_ (fun hHeld => ?_)
   ·trivial
   clear hK K
   try simp only [Act.put, Ls]
   refine wpAnyH_ready (rs := [13, 19]) (by kernel_rfl) (by simp) ?_
   refine (AllReadyH.cons (o := _) rfl (fun K hK => ?_) (AllReadyH.cons (o := _) rfl (fun K hK => ?_) AllReadyH.nil))
   ·go_simp
    refine hK.out _ _ ?_ (fun hHeld => ?_)
    ·trivial
    clear hK K
    try simp only [Act.put, Ls]
    have lB := hr.lt
    have hc := Row6.new (S := 9223372036854775808) (t := 22) (v0 := 9218868437227405312) (v1 := 9218868437227405312) (v2 := (IntKind.u64.wrap 9218868437227405313)) (v3 := 9221120237041090560) (v4 := (IntKind.u64.wrap 9221120237041090565)) (v5 := (IntKind.u64.wrap 9223372036854775807)) W (by simp only [IntKind.wrap_u64]; decide)
    obtain ⟨B, eB⟩ : ∃ B, B = W.heap.size := ⟨_, rfl⟩
    have hB : W.heap.size < (W.alloc (.cells #[.int .u64 9218868437227405312, .int .u64 9218868437227405312, .int .u64 (IntKind.u64.wrap 9218868437227405313), .int .u64 9221120237041090560, .int .u64 (IntKind.u64.wrap 9221120237041090565), .int .u64 (IntKind.u64.wrap 9223372036854775807)] 22)).heap.size := by simp
    replace hr := hr.alloc (.cells #[.int .u64 9218868437227405312, .int .u64 9218868437227405312, .int .u64 (IntKind.u64.wrap 9218868437227405313), .int .u64 9221120237041090560, .int .u64 (IntKind.u64.wrap 9221120237041090565), .int .u64 (IntKind.u64.wrap 9223372036854775807)] 22)
    replace hg := grown_alloc hg (.cells #[.int .u64 9218868437227405312, .int .u64 9218868437227405312, .int .u64 (IntKind.u64.wrap 9218868437227405313), .int .u64 9221120237041090560, .int .u64 (IntKind.u64.wrap 9221120237041090565), .int .u64 (IntKind.u64.wrap 9223372036854775807)] 22)
    generalize W.alloc (.cells #[.int .u64 9218868437227405312, .int .u64 9218868437227405312, .int .u64 (IntKind.u64.wrap 9218868437227405313), .int .u64 9221120237041090560, .int .u64 (IntKind.u64.wrap 9221120237041090565), .int .u64 (IntKind.u64.wrap 9223372036854775807)] 22) = W2 at hc hB hr hg ⊢
    refine tk 16 ?_ rfl (Or.inl ⟨by rfl, ?_⟩) ?_
    rotate_left
    ·(intro w hSw; go_simp; try (with_reducible rfl))
    try simp only [Act.put, Ls]
    refine wpAnyH_ready (rs := [17, 19]) (by kernel_rfl) (by simp) ?_
    refine (AllReadyH.cons (o := _) rfl (fun K hK => ?_) (AllReadyH.cons (o := _) rfl (fun K hK => ?_) AllReadyH.nil))
    ·obtain ⟨d, hd, d0, d1⟩ := hc kn (by omega)
     go_simp
     refine hK.out _ _ ?_ (fun hHeld => ?_)
     ·trivial
     clear hK K
     try simp only [Act.put, Ls]
     refine wpAnyH_ready (rs := [19]) (by kernel_rfl) (by simp) ?_
     refine (AllReadyH.cons (o := _) rfl (fun K hK => ?_) AllReadyH.nil)
     go_simp
     go_at_call 97; refine (once_any rb ca cc cs 2 _ hr (by decide) (by decide)).mono ?_
     rintro r W''  ⟨ng, rfl, hr, hg'⟩
     replace hc := hc.rd hg' lB hB
     replace hB := Nat.lt_of_lt_of_le hB hg'.size
     replace hg := grown_trans hg hg'
     clear hg'
     refine hK.out _ _ ?_ (fun hHeld => ?_)
     ·trivial
     clear hK K
     try simp only [Act.put, Ls]
     refine wpAnyH_ready (rs := [20]) (by kernel_rfl) (by simp) ?_
     refine (AllReadyH.cons (o := _) rfl (fun K hK => ?_) AllReadyH.nil)
     go_simp
     go_at_call 88; refine (with_64 d ng _ (fun _ => ⟨d0, d1⟩)).mono ?_
     rintro r W3 ⟨rfl, hb⟩
     replace hr := hr.below hb
     replace hg := grown_trans hg (grown_below hb _)
     clear hb
     refine hK.out _ _ ?_ (fun hHeld => ?_)
     ·trivial
     clear hK K
     try simp only [Act.put, Ls]
     refine tk 21 ?_ rfl (Or.inl ⟨by rfl, ?_⟩) ?_
     rotate_left
     ·(intro w hSw; go_simp; try (with_reducible rfl))
     try simp only [Act.put, Ls]
     refine wpAnyH_done (by kernel_rfl) ?_ _
     go_wp2
     go_ret
     exact ⟨_, rfl, (sgn_bdS64 d ng d0 d1).1, (sgn_bdS64 d ng d0 d1).2, hr, hg⟩
    ·go_simp
     go_at_call 97; refine (once_any rb ca cc cs 2 _ hr (by decide) (by decide)).mono ?_
     rintro r W''  ⟨ng, rfl, hr, hg'⟩
     replace hc := hc.rd hg' lB hB
     replace hB := Nat.lt_of_lt_of_le hB hg'.size
     replace hg := grown_trans hg hg'
     clear hg'
     refine hK.out _ _ ?_ (fun hHeld => ?_)
     ·trivial
     clear hK K
     try simp only [Act.put, Ls]
     refine wpAnyH_ready (rs := [17]) (by kernel_rfl) (by simp) ?_
     refine (AllReadyH.cons (o := _) rfl (fun K hK => ?_) AllReadyH.nil)
     obtain ⟨d, hd, d0, d1⟩ := hc kn (by omega)
     go_simp
     refine hK.out _ _ ?_ (fun hHeld => ?_)
     ·trivial
     clear hK K
     try simp only [Act.put, Ls]
     refine wpAnyH_ready (rs := [20]) (by kernel_rfl) (by simp) ?_
     refine (AllReadyH.cons (o := _) rfl (fun K hK => ?_) AllReadyH.nil)
     go_simp
     go_at_call 88; refine (with_64 d ng _ (fun _ => ⟨d0, d1⟩)).mono ?_
     rintro r W3 ⟨rfl, hb⟩
     replace hr := hr.below hb
     replace hg := grown_trans hg (grown_below hb _)
     clear hb
     refine hK.out _ _ ?_ (fun hHeld => ?_)
     ·trivial
     clear hK K
     try simp only [Act.put, Ls]
     refine tk 21 ?_ rfl (Or.inl ⟨by rfl, ?_⟩) ?_
     rotate_left
     ·(intro w hSw; go_simp; try (with_reducible rfl))
     try simp only [Act.put, Ls]
     refine wpAnyH_done (by kernel_rfl) ?_ _
     go_wp2
     go_ret
     exact ⟨_, rfl, (sgn_bdS64 d ng d0 d1).1, (sgn_bdS64 d ng d0 d1).2, hr, hg⟩
   ·go_simp
    go_at_call 97; refine (once_any rb ca cc cs 2 _ hr (by decide) (by decide)).mono ?_
    rintro r W ⟨ng, rfl, hr, hg'⟩
    replace hg := grown_trans hg hg'
    clear hg'
    refine hK.out _ _ ?_ (fun hHeld => ?_)
    ·trivial
    clear hK K
    try simp only [Act.put, Ls]
    refine wpAnyH_ready (rs := [13]) (by kernel_rfl) (by simp) ?_
    refine (AllReadyH.cons (o := _) rfl (fun K hK => ?_) AllReadyH.nil)
    go_simp
    refine hK.out _ _ ?_ (fun hHeld => ?_)
    ·trivial
    clear hK K
    try simp only [Act.put, Ls]
    have lB := hr.lt
    have hc := Row6.new (S := 9223372036854775808) (t := 22) (v0 := 9218868437227405312) (v1 := 9218868437227405312) (v2 := (IntKind.u64.wrap 9218868437227405313)) (v3 := 9221120237041090560) (v4 := (IntKind.u64.wrap 9221120237041090565)) (v5 := (IntKind.u64.wrap 9223372036854775807)) W (by simp only [IntKind.wrap_u64]; decide)
    obtain ⟨B, eB⟩ : ∃ B, B = W.heap.size := ⟨_, rfl⟩
    have hB : W.heap.size < (W.alloc (.cells #[.int .u64 9218868437227405312, .int .u64 9218868437227405312, .int .u64 (IntKind.u64.wrap 9218868437227405313), .int .u64 9221120237041090560, .int .u64 (IntKind.u64.wrap 9221120237041090565), .int .u64 (IntKind.u64.wrap 9223372036854775807)] 22)).heap.size := by simp
    replace hr := hr.alloc (.cells #[.int .u64 9218868437227405312, .int .u64 9218868437227405312, .int .u64 (IntKind.u64.wrap 9218868437227405313), .int .u64 9221120237041090560, .int .u64 (IntKind.u64.wrap 9221120237041090565), .int .u64 (IntKind.u64.wrap 9223372036854775807)] 22)
    replace hg := grown_alloc hg (.cells #[.int .u64 9218868437227405312, .int .u64 9218868437227405312, .int .u64 (IntKind.u64.wrap 9218868437227405313), .int .u64 9221120237041090560, .int .u64 (IntKind.u64.wrap 9221120237041090565), .int .u64 (IntKind.u64.wrap 9223372036854775807)] 22)
    generalize W.alloc (.cells #[.int .u64 9218868437227405312, .int .u64 9218868437227405312, .int .u64 (IntKind.u64.wrap 9218868437227405313), .int .u64 9221120237041090560, .int .u64 (IntKind.u64.wrap 9221120237041090565), .int .u64 (IntKind.u64.wrap 9223372036854775807)] 22) = W2 at hc hB hr hg ⊢
    refine tk 16 ?_ rfl (Or.inl ⟨by rfl, ?_⟩) ?_
    rotate_left
    ·(intro w hSw; go_simp; try (with_reducible rfl))
    try simp only [Act.put, Ls]
    refine wpAnyH_ready (rs := [17]) (by kernel_rfl) (by simp) ?_
    refine (AllReadyH.cons (o := _) rfl (fun K hK => ?_) AllReadyH.nil)
    obtain ⟨d, hd, d0, d1⟩ := hc kn (by omega)
    go_simp
    refine hK.out _ _ ?_ (fun hHeld => ?_)
    ·trivial
    clear hK K
    try simp only [Act.put, Ls]
    refine wpAnyH_ready (rs := [20]) (by kernel_rfl) (by simp) ?_
    refine (AllReadyH.cons (o := _) rfl (fun K hK => ?_) AllReadyH.nil)
    go_simp
    go_at_call 88; refine (with_64 d ng _ (fun _ => ⟨d0, d1⟩)).mono ?_
    rintro r W3 ⟨rfl, hb⟩
    replace hr := hr.below hb
    replace hg := grown_trans hg (grown_below hb _)
    clear hb
    refine hK.out _ _ ?_ (fun hHeld => ?_)
    ·trivial
    clear hK K
    try simp only [Act.put, Ls]
    refine tk 21 ?_ rfl (Or.inl ⟨by rfl, ?_⟩) ?_
    rotate_left
    ·(intro w hSw; go_simp; try (with_reducible rfl))
    try simp only [Act.put, Ls]
    refine wpAnyH_done (by kernel_rfl) ?_ _
    go_wp2
    go_ret
    exact ⟨_, rfl, (sgn_bdS64 d ng d0 d1).1, (sgn_bdS64 d ng d0 d1).2, hr, hg⟩
theorem float_any (fm : Int) (hf : fmtB fm = true) (rb : Nat) (ca : Option Addr) (cc : Nat) (cs : List Int) (w : World) (hr : RD w rb ca cc cs) :
  Calls Tryz.prog 120 #[.pointer (some ⟨rb, 0, none⟩), .int .i64 fm] w fun e w' => ∃ x : Int, e = .returned (.int .u64 x) ∧ 0 ≤ x ∧ x < 18446744073709551616 ∧ RD w' rb ca cc cs ∧ w.grownBy w' (some rb) := by
 rcases fmt_cases hf with rfl | rfl
 ·exact float32 rb ca cc cs w hr
 ·exact float64 rb ca cc cs w hr
end Fd
end Go.Proofs.YtkfjmcdniohljaaGreatDoor
