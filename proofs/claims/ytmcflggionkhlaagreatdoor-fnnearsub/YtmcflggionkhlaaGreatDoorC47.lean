/-
  What is needed of FH, FL, FP.
-/
import Derived.Test.YtmcflggionkhlaaGreatDoorC38
import Derived.Test.YtmcflggionkhlaaGreatDoorC43
set_option maxHeartbeats 16000000
set_option maxRecDepth 1000000
namespace Go.Proofs.YtmcflggionkhlaaGreatDoor
set_option linter.unusedVariables false
set_option linter.unusedSimpArgs false
open Go.RowKit Go.Deep
namespace Fd
theorem Row6.rd {S : Int} {w w' : World} {B rb : Nat} (h : Row6 S w B) (hg : w.grownBy w' (some rb)) (hlt : rb < B) (hB : B < w.heap.size) : Row6 S w' B := fun j hj => by
  obtain ⟨d, h1, h2⟩ := h j hj
  have e := hg.block B hB (by simp; omega)
  exact ⟨d, (World.cell?_of_block (a := ⟨B, j, none⟩) e).trans h1, h2⟩
theorem sgn_bdS32 (x : Int) (ng : Bool) (h0 : 0 ≤ x) (h1 : x < 2147483648) : 0 ≤ sgn 2147483648 x ng ∧ sgn 2147483648 x ng < 18446744073709551616 := by
  unfold sgn; cases ng <;> simp <;> omega
theorem float32 (rb : Nat) (ca : Option Addr) (cc : Nat) (cs : List Int) (w : World) (hr : RD w rb ca cc cs) :
    Calls Tryz.prog 78 #[.pointer (some ⟨rb, 0, none⟩), .int .i64 32] w fun e w' => ∃ x : Int, e = .returned (.int .u64 x) ∧ 0 ≤ x ∧ x < 18446744073709551616 ∧ RD w' rb ca cc cs ∧ w.grownBy w' (some rb) := by
  have CI := hid (fun w' => spec_inf32 w')
  have CN := hid (fun w' => snan_32 w')
  have CS := hid (fun w' => sS_32 w')
  have hg := grown_refl w (some rb)
  have eI : infOf 32 = 2139095040 := rfl
  rw [eI] at CI
  go_enter Tryz.func78, Tryz.ntmps78
  go_wp2_with fail
  refine (once_any rb ca cc cs 8 _ hr (by decide) (by decide)).mono ?_
  rintro r W ⟨v, rfl, hr, hg'⟩
  replace hg := grown_trans hg hg'
  clear hg'
  cases v
  · go_wp2_with fail
    refine (finite32 rb ca cc cs _ hr).mono ?_
    rintro r W' ⟨x, rfl, x0, x1, hr', hg'⟩
    go_wp2
    go_ret
    exact ⟨x, rfl, x0, x1, hr', grown_trans hg hg'⟩
  · go_wp2_with fail
    refine (CI.out _).mono ?_
    rintro r W ⟨rfl, hb⟩
    replace hr := hr.below hb
    replace hg := grown_trans hg (grown_below hb _)
    clear hb
    go_upto_region 22 with fail
    replace hr := hr.drew
    refine wp_region_held_drew (S := fun _ => True) (by kernel_rfl) ?_ (fun hHeld => ?_)
    · trivial
    refine tk 0 ?_ rfl (Or.inl ⟨by rfl, ?_⟩) ?_
    rotate_left
    · (intro w hSw; go_simp; try (with_reducible rfl))
    try simp only [Act.put, Ls]
    refine tk 1 ?_ rfl (Or.inl ⟨by rfl, ?_⟩) ?_
    rotate_left
    · (intro w hSw; go_simp; try (with_reducible rfl))
    try simp only [Act.put, Ls]
    refine tk 2 ?_ rfl (Or.inl ⟨by rfl, ?_⟩) ?_
    rotate_left
    · (intro w hSw; go_simp; try (with_reducible rfl))
    try simp only [Act.put, Ls]
    refine tk 3 ?_ rfl (Or.inl ⟨by rfl, ?_⟩) ?_
    rotate_left
    · (intro w hSw; go_simp; try (with_reducible rfl))
    try simp only [Act.put, Ls]
    refine tk 4 ?_ rfl (Or.inl ⟨by rfl, ?_⟩) ?_
    rotate_left
    · (intro w hSw; go_simp; try (with_reducible rfl))
    try simp only [Act.put, Ls]
    refine tk 5 ?_ rfl (Or.inl ⟨by rfl, ?_⟩) ?_
    rotate_left
    · (intro w hSw; go_simp; try (with_reducible rfl))
    try simp only [Act.put, Ls]
    refine tk 7 ?_ rfl (Or.inl ⟨by rfl, ?_⟩) ?_
    rotate_left
    · (intro w hSw; go_simp; try (with_reducible rfl))
    try simp only [Act.put, Ls]
    refine tk 10 ?_ rfl (Or.inl ⟨by rfl, ?_⟩) ?_
    rotate_left
    · (intro w hSw; go_simp; try (with_reducible rfl))
    try simp only [Act.put, Ls]
    refine tk 14 ?_ rfl (Or.inl ⟨by rfl, ?_⟩) ?_
    rotate_left
    · (intro w hSw; go_simp; try (with_reducible rfl))
    try simp only [Act.put, Ls]
    refine tk 18 ?_ rfl (Or.inl ⟨by rfl, ?_⟩) ?_
    rotate_left
    · (intro w hSw; go_simp; try (with_reducible rfl))
    try simp only [Act.put, Ls]
    refine wpAnyH_ready (rs := [6]) (by kernel_rfl) (by simp) ?_
    refine (AllReadyH.cons (o := _) rfl (fun K hK => ?_) AllReadyH.nil)
    go_simp
    go_at_call 92; refine (CN.out _).mono ?_; rintro r W ⟨rfl, hb⟩
    replace hr := hr.below hb
    replace hg : w.grownBy W (some rb) := grown_trans hg (grown_below (w := _) (w' := W) (below_dr hb) _)
    clear hb
    refine hK.out _ _ ?_ (fun hHeld => ?_)
    · trivial
    clear hK K
    try simp only [Act.put, Ls]
    refine wpAnyH_ready (rs := [8]) (by kernel_rfl) (by simp) ?_
    refine (AllReadyH.cons (o := _) rfl (fun K hK => ?_) AllReadyH.nil)
    go_simp
    go_at_call 92; refine (CN.out _).mono ?_; rintro r W ⟨rfl, hb⟩
    replace hr := hr.below hb
    replace hg := grown_trans hg (grown_below hb _)
    clear hb
    refine hK.out _ _ ?_ (fun hHeld => ?_)
    · trivial
    clear hK K
    try simp only [Act.put, Ls]
    refine tk 9 ?_ rfl (Or.inl ⟨by rfl, ?_⟩) ?_
    rotate_left
    · (intro w hSw; go_simp; try (with_reducible rfl))
    try simp only [Act.put, Ls]
    refine wpAnyH_ready (rs := [11]) (by kernel_rfl) (by simp) ?_
    refine (AllReadyH.cons (o := _) rfl (fun K hK => ?_) AllReadyH.nil)
    go_simp
    go_at_call 63; refine (CS.out _).mono ?_; rintro r W ⟨rfl, hb⟩
    replace hr := hr.below hb
    replace hg := grown_trans hg (grown_below hb _)
    clear hb
    refine hK.out _ _ ?_ (fun hHeld => ?_)
    · trivial
    clear hK K
    try simp only [Act.put, Ls]
    refine tk 12 ?_ rfl (Or.inl ⟨by rfl, ?_⟩) ?_
    rotate_left
    · (intro w hSw; go_simp; try (with_reducible rfl))
    try simp only [Act.put, Ls]
    refine wpAnyH_ready (rs := [13, 15]) (by kernel_rfl) (by simp) ?_
    refine (AllReadyH.cons (o := _) rfl (fun K hK => ?_) (AllReadyH.cons (o := _) rfl (fun K hK => ?_) AllReadyH.nil))
    · go_simp
      refine hK.out _ _ ?_ (fun hHeld => ?_)
      · trivial
      clear hK K
      try simp only [Act.put, Ls]
      have lB := hr.lt
      have hc := Row6.new (S := 2147483648) (t := 24) (v0 := 2139095040) (v1 := 2139095040) (v2 := (IntKind.u64.wrap 2139095041)) (v3 := 2143289344) (v4 := (IntKind.u64.wrap 2143289349)) (v5 := (IntKind.u64.wrap 2147483647)) W (by simp only [IntKind.wrap_u64]; decide)
      obtain ⟨B, eB⟩ : ∃ B, B = W.heap.size := ⟨_, rfl⟩
      have hB : W.heap.size < (W.alloc (.cells #[.int .u64 2139095040, .int .u64 2139095040, .int .u64 (IntKind.u64.wrap 2139095041), .int .u64 2143289344, .int .u64 (IntKind.u64.wrap 2143289349), .int .u64 (IntKind.u64.wrap 2147483647)] 24)).heap.size := by simp
      replace hr := hr.alloc (.cells #[.int .u64 2139095040, .int .u64 2139095040, .int .u64 (IntKind.u64.wrap 2139095041), .int .u64 2143289344, .int .u64 (IntKind.u64.wrap 2143289349), .int .u64 (IntKind.u64.wrap 2147483647)] 24)
      replace hg := grown_alloc hg (.cells #[.int .u64 2139095040, .int .u64 2139095040, .int .u64 (IntKind.u64.wrap 2139095041), .int .u64 2143289344, .int .u64 (IntKind.u64.wrap 2143289349), .int .u64 (IntKind.u64.wrap 2147483647)] 24)
      generalize W.alloc (.cells #[.int .u64 2139095040, .int .u64 2139095040, .int .u64 (IntKind.u64.wrap 2139095041), .int .u64 2143289344, .int .u64 (IntKind.u64.wrap 2143289349), .int .u64 (IntKind.u64.wrap 2147483647)] 24) = W2 at hc hB hr hg ⊢
      refine wpAnyH_ready (rs := [15]) (by kernel_rfl) (by simp) ?_
      refine (AllReadyH.cons (o := _) rfl (fun K hK => ?_) AllReadyH.nil)
      go_simp
      go_at_call 110; refine (below_any rb ca cc cs 6 _ hr (by decide) (by decide)).mono ?_
      rintro r W'  ⟨kz, rfl, k0, k1, hr, hg'⟩
      obtain ⟨kn, rfl⟩ := Int.eq_ofNat_of_zero_le k0
      replace hc := hc.rd hg' lB hB
      replace hB := Nat.lt_of_lt_of_le hB hg'.size
      replace hg := grown_trans hg hg'
      clear hg'
      refine hK.out _ _ ?_ (fun hHeld => ?_)
      · trivial
      clear hK K
      try simp only [Act.put, Ls]
      refine tk 16 ?_ rfl (Or.inl ⟨by rfl, ?_⟩) ?_
      rotate_left
      · (intro w hSw; go_simp; try (with_reducible rfl))
      try simp only [Act.put, Ls]
      refine wpAnyH_ready (rs := [17, 19]) (by kernel_rfl) (by simp) ?_
      refine (AllReadyH.cons (o := _) rfl (fun K hK => ?_) (AllReadyH.cons (o := _) rfl (fun K hK => ?_) AllReadyH.nil))
      · obtain ⟨d, hd, d0, d1⟩ := hc kn (by omega)
        go_simp
        refine hK.out _ _ ?_ (fun hHeld => ?_)
        · trivial
        clear hK K
        try simp only [Act.put, Ls]
        refine wpAnyH_ready (rs := [19]) (by kernel_rfl) (by simp) ?_
        refine (AllReadyH.cons (o := _) rfl (fun K hK => ?_) AllReadyH.nil)
        go_simp
        go_at_call 79; refine (once_any rb ca cc cs 2 _ hr (by decide) (by decide)).mono ?_
        rintro r W''  ⟨ng, rfl, hr, hg'⟩
        replace hc := hc.rd hg' lB hB
        replace hB := Nat.lt_of_lt_of_le hB hg'.size
        replace hg := grown_trans hg hg'
        clear hg'
        refine hK.out _ _ ?_ (fun hHeld => ?_)
        · trivial
        clear hK K
        try simp only [Act.put, Ls]
        refine wpAnyH_ready (rs := [20]) (by kernel_rfl) (by simp) ?_
        refine (AllReadyH.cons (o := _) rfl (fun K hK => ?_) AllReadyH.nil)
        go_simp
        go_at_call 95; refine (with_32 d ng _ (fun _ => ⟨d0, d1⟩)).mono ?_
        rintro r W3 ⟨rfl, hb⟩
        replace hr := hr.below hb
        replace hg := grown_trans hg (grown_below hb _)
        clear hb
        refine hK.out _ _ ?_ (fun hHeld => ?_)
        · trivial
        clear hK K
        try simp only [Act.put, Ls]
        refine tk 21 ?_ rfl (Or.inl ⟨by rfl, ?_⟩) ?_
        rotate_left
        · (intro w hSw; go_simp; try (with_reducible rfl))
        try simp only [Act.put, Ls]
        refine wpAnyH_done (by kernel_rfl) ?_ _
        go_wp2
        go_ret
        exact ⟨_, rfl, (sgn_bdS32 d ng d0 d1).1, (sgn_bdS32 d ng d0 d1).2, hr, hg⟩
      · go_simp
        go_at_call 79; refine (once_any rb ca cc cs 2 _ hr (by decide) (by decide)).mono ?_
        rintro r W''  ⟨ng, rfl, hr, hg'⟩
        replace hc := hc.rd hg' lB hB
        replace hB := Nat.lt_of_lt_of_le hB hg'.size
        replace hg := grown_trans hg hg'
        clear hg'
        refine hK.out _ _ ?_ (fun hHeld => ?_)
        · trivial
        clear hK K
        try simp only [Act.put, Ls]
        refine wpAnyH_ready (rs := [17]) (by kernel_rfl) (by simp) ?_
        refine (AllReadyH.cons (o := _) rfl (fun K hK => ?_) AllReadyH.nil)
        obtain ⟨d, hd, d0, d1⟩ := hc kn (by omega)
        go_simp
        refine hK.out _ _ ?_ (fun hHeld => ?_)
        · trivial
        clear hK K
        try simp only [Act.put, Ls]
        refine wpAnyH_ready (rs := [20]) (by kernel_rfl) (by simp) ?_
        refine (AllReadyH.cons (o := _) rfl (fun K hK => ?_) AllReadyH.nil)
        go_simp
        go_at_call 95; refine (with_32 d ng _ (fun _ => ⟨d0, d1⟩)).mono ?_
        rintro r W3 ⟨rfl, hb⟩
        replace hr := hr.below hb
        replace hg := grown_trans hg (grown_below hb _)
        clear hb
        refine hK.out _ _ ?_ (fun hHeld => ?_)
        · trivial
        clear hK K
        try simp only [Act.put, Ls]
        refine tk 21 ?_ rfl (Or.inl ⟨by rfl, ?_⟩) ?_
        rotate_left
        · (intro w hSw; go_simp; try (with_reducible rfl))
        try simp only [Act.put, Ls]
        refine wpAnyH_done (by kernel_rfl) ?_ _
        go_wp2
        go_ret
        exact ⟨_, rfl, (sgn_bdS32 d ng d0 d1).1, (sgn_bdS32 d ng d0 d1).2, hr, hg⟩
    · go_simp
      go_at_call 110; refine (below_any rb ca cc cs 6 _ hr (by decide) (by decide)).mono ?_
      rintro r W ⟨kz, rfl, k0, k1, hr, hg'⟩
      obtain ⟨kn, rfl⟩ := Int.eq_ofNat_of_zero_le k0
      replace hg := grown_trans hg hg'
      clear hg'
      refine hK.out _ _ ?_ (fun hHeld => ?_)
      · trivial
      clear hK K
      try simp only [Act.put, Ls]
      refine wpAnyH_ready (rs := [13, 19]) (by kernel_rfl) (by simp) ?_
      refine (AllReadyH.cons (o := _) rfl (fun K hK => ?_) (AllReadyH.cons (o := _) rfl (fun K hK => ?_) AllReadyH.nil))
      · go_simp
        refine hK.out _ _ ?_ (fun hHeld => ?_)
        · trivial
        clear hK K
        try simp only [Act.put, Ls]
        have lB := hr.lt
        have hc := Row6.new (S := 2147483648) (t := 24) (v0 := 2139095040) (v1 := 2139095040) (v2 := (IntKind.u64.wrap 2139095041)) (v3 := 2143289344) (v4 := (IntKind.u64.wrap 2143289349)) (v5 := (IntKind.u64.wrap 2147483647)) W (by simp only [IntKind.wrap_u64]; decide)
        obtain ⟨B, eB⟩ : ∃ B, B = W.heap.size := ⟨_, rfl⟩
        have hB : W.heap.size < (W.alloc (.cells #[.int .u64 2139095040, .int .u64 2139095040, .int .u64 (IntKind.u64.wrap 2139095041), .int .u64 2143289344, .int .u64 (IntKind.u64.wrap 2143289349), .int .u64 (IntKind.u64.wrap 2147483647)] 24)).heap.size := by simp
        replace hr := hr.alloc (.cells #[.int .u64 2139095040, .int .u64 2139095040, .int .u64 (IntKind.u64.wrap 2139095041), .int .u64 2143289344, .int .u64 (IntKind.u64.wrap 2143289349), .int .u64 (IntKind.u64.wrap 2147483647)] 24)
        replace hg := grown_alloc hg (.cells #[.int .u64 2139095040, .int .u64 2139095040, .int .u64 (IntKind.u64.wrap 2139095041), .int .u64 2143289344, .int .u64 (IntKind.u64.wrap 2143289349), .int .u64 (IntKind.u64.wrap 2147483647)] 24)
        generalize W.alloc (.cells #[.int .u64 2139095040, .int .u64 2139095040, .int .u64 (IntKind.u64.wrap 2139095041), .int .u64 2143289344, .int .u64 (IntKind.u64.wrap 2143289349), .int .u64 (IntKind.u64.wrap 2147483647)] 24) = W2 at hc hB hr hg ⊢
        refine tk 16 ?_ rfl (Or.inl ⟨by rfl, ?_⟩) ?_
        rotate_left
        · (intro w hSw; go_simp; try (with_reducible rfl))
        try simp only [Act.put, Ls]
        refine wpAnyH_ready (rs := [17, 19]) (by kernel_rfl) (by simp) ?_
        refine (AllReadyH.cons (o := _) rfl (fun K hK => ?_) (AllReadyH.cons (o := _) rfl (fun K hK => ?_) AllReadyH.nil))
        · obtain ⟨d, hd, d0, d1⟩ := hc kn (by omega)
          go_simp
          refine hK.out _ _ ?_ (fun hHeld => ?_)
          · trivial
          clear hK K
          try simp only [Act.put, Ls]
          refine wpAnyH_ready (rs := [19]) (by kernel_rfl) (by simp) ?_
          refine (AllReadyH.cons (o := _) rfl (fun K hK => ?_) AllReadyH.nil)
          go_simp
          go_at_call 79; refine (once_any rb ca cc cs 2 _ hr (by decide) (by decide)).mono ?_
          rintro r W''  ⟨ng, rfl, hr, hg'⟩
          replace hc := hc.rd hg' lB hB
          replace hB := Nat.lt_of_lt_of_le hB hg'.size
          replace hg := grown_trans hg hg'
          clear hg'
          refine hK.out _ _ ?_ (fun hHeld => ?_)
          · trivial
          clear hK K
          try simp only [Act.put, Ls]
          refine wpAnyH_ready (rs := [20]) (by kernel_rfl) (by simp) ?_
          refine (AllReadyH.cons (o := _) rfl (fun K hK => ?_) AllReadyH.nil)
          go_simp
          go_at_call 95; refine (with_32 d ng _ (fun _ => ⟨d0, d1⟩)).mono ?_
          rintro r W3 ⟨rfl, hb⟩
          replace hr := hr.below hb
          replace hg := grown_trans hg (grown_below hb _)
          clear hb
          refine hK.out _ _ ?_ (fun hHeld => ?_)
          · trivial
          clear hK K
          try simp only [Act.put, Ls]
          refine tk 21 ?_ rfl (Or.inl ⟨by rfl, ?_⟩) ?_
          rotate_left
          · (intro w hSw; go_simp; try (with_reducible rfl))
          try simp only [Act.put, Ls]
          refine wpAnyH_done (by kernel_rfl) ?_ _
          go_wp2
          go_ret
          exact ⟨_, rfl, (sgn_bdS32 d ng d0 d1).1, (sgn_bdS32 d ng d0 d1).2, hr, hg⟩
        · go_simp
          go_at_call 79; refine (once_any rb ca cc cs 2 _ hr (by decide) (by decide)).mono ?_
          rintro r W''  ⟨ng, rfl, hr, hg'⟩
          replace hc := hc.rd hg' lB hB
          replace hB := Nat.lt_of_lt_of_le hB hg'.size
          replace hg := grown_trans hg hg'
          clear hg'
          refine hK.out _ _ ?_ (fun hHeld => ?_)
          · trivial
          clear hK K
          try simp only [Act.put, Ls]
          refine wpAnyH_ready (rs := [17]) (by kernel_rfl) (by simp) ?_
          refine (AllReadyH.cons (o := _) rfl (fun K hK => ?_) AllReadyH.nil)
          obtain ⟨d, hd, d0, d1⟩ := hc kn (by omega)
          go_simp
          refine hK.out _ _ ?_ (fun hHeld => ?_)
          · trivial
          clear hK K
          try simp only [Act.put, Ls]
          refine wpAnyH_ready (rs := [20]) (by kernel_rfl) (by simp) ?_
          refine (AllReadyH.cons (o := _) rfl (fun K hK => ?_) AllReadyH.nil)
          go_simp
          go_at_call 95; refine (with_32 d ng _ (fun _ => ⟨d0, d1⟩)).mono ?_
          rintro r W3 ⟨rfl, hb⟩
          replace hr := hr.below hb
          replace hg := grown_trans hg (grown_below hb _)
          clear hb
          refine hK.out _ _ ?_ (fun hHeld => ?_)
          · trivial
          clear hK K
          try simp only [Act.put, Ls]
          refine tk 21 ?_ rfl (Or.inl ⟨by rfl, ?_⟩) ?_
          rotate_left
          · (intro w hSw; go_simp; try (with_reducible rfl))
          try simp only [Act.put, Ls]
          refine wpAnyH_done (by kernel_rfl) ?_ _
          go_wp2
          go_ret
          exact ⟨_, rfl, (sgn_bdS32 d ng d0 d1).1, (sgn_bdS32 d ng d0 d1).2, hr, hg⟩
      · go_simp
        go_at_call 79; refine (once_any rb ca cc cs 2 _ hr (by decide) (by decide)).mono ?_
        rintro r W ⟨ng, rfl, hr, hg'⟩
        replace hg := grown_trans hg hg'
        clear hg'
        refine hK.out _ _ ?_ (fun hHeld => ?_)
        · trivial
        clear hK K
        try simp only [Act.put, Ls]
        refine wpAnyH_ready (rs := [13]) (by kernel_rfl) (by simp) ?_
        refine (AllReadyH.cons (o := _) rfl (fun K hK => ?_) AllReadyH.nil)
        go_simp
        refine hK.out _ _ ?_ (fun hHeld => ?_)
        · trivial
        clear hK K
        try simp only [Act.put, Ls]
        have lB := hr.lt
        have hc := Row6.new (S := 2147483648) (t := 24) (v0 := 2139095040) (v1 := 2139095040) (v2 := (IntKind.u64.wrap 2139095041)) (v3 := 2143289344) (v4 := (IntKind.u64.wrap 2143289349)) (v5 := (IntKind.u64.wrap 2147483647)) W (by simp only [IntKind.wrap_u64]; decide)
        obtain ⟨B, eB⟩ : ∃ B, B = W.heap.size := ⟨_, rfl⟩
        have hB : W.heap.size < (W.alloc (.cells #[.int .u64 2139095040, .int .u64 2139095040, .int .u64 (IntKind.u64.wrap 2139095041), .int .u64 2143289344, .int .u64 (IntKind.u64.wrap 2143289349), .int .u64 (IntKind.u64.wrap 2147483647)] 24)).heap.size := by simp
        replace hr := hr.alloc (.cells #[.int .u64 2139095040, .int .u64 2139095040, .int .u64 (IntKind.u64.wrap 2139095041), .int .u64 2143289344, .int .u64 (IntKind.u64.wrap 2143289349), .int .u64 (IntKind.u64.wrap 2147483647)] 24)
        replace hg := grown_alloc hg (.cells #[.int .u64 2139095040, .int .u64 2139095040, .int .u64 (IntKind.u64.wrap 2139095041), .int .u64 2143289344, .int .u64 (IntKind.u64.wrap 2143289349), .int .u64 (IntKind.u64.wrap 2147483647)] 24)
        generalize W.alloc (.cells #[.int .u64 2139095040, .int .u64 2139095040, .int .u64 (IntKind.u64.wrap 2139095041), .int .u64 2143289344, .int .u64 (IntKind.u64.wrap 2143289349), .int .u64 (IntKind.u64.wrap 2147483647)] 24) = W2 at hc hB hr hg ⊢
        refine tk 16 ?_ rfl (Or.inl ⟨by rfl, ?_⟩) ?_
        rotate_left
        · (intro w hSw; go_simp; try (with_reducible rfl))
        try simp only [Act.put, Ls]
        refine wpAnyH_ready (rs := [17]) (by kernel_rfl) (by simp) ?_
        refine (AllReadyH.cons (o := _) rfl (fun K hK => ?_) AllReadyH.nil)
        obtain ⟨d, hd, d0, d1⟩ := hc kn (by omega)
        go_simp
        refine hK.out _ _ ?_ (fun hHeld => ?_)
        · trivial
        clear hK K
        try simp only [Act.put, Ls]
        refine wpAnyH_ready (rs := [20]) (by kernel_rfl) (by simp) ?_
        refine (AllReadyH.cons (o := _) rfl (fun K hK => ?_) AllReadyH.nil)
        go_simp
        go_at_call 95; refine (with_32 d ng _ (fun _ => ⟨d0, d1⟩)).mono ?_
        rintro r W3 ⟨rfl, hb⟩
        replace hr := hr.below hb
        replace hg := grown_trans hg (grown_below hb _)
        clear hb
        refine hK.out _ _ ?_ (fun hHeld => ?_)
        · trivial
        clear hK K
        try simp only [Act.put, Ls]
        refine tk 21 ?_ rfl (Or.inl ⟨by rfl, ?_⟩) ?_
        rotate_left
        · (intro w hSw; go_simp; try (with_reducible rfl))
        try simp only [Act.put, Ls]
        refine wpAnyH_done (by kernel_rfl) ?_ _
        go_wp2
        go_ret
        exact ⟨_, rfl, (sgn_bdS32 d ng d0 d1).1, (sgn_bdS32 d ng d0 d1).2, hr, hg⟩
theorem sgn_bdS64 (x : Int) (ng : Bool) (h0 : 0 ≤ x) (h1 : x < 9223372036854775808) : 0 ≤ sgn 9223372036854775808 x ng ∧ sgn 9223372036854775808 x ng < 18446744073709551616 := by
  unfold sgn; cases ng <;> simp <;> omega
theorem float64 (rb : Nat) (ca : Option Addr) (cc : Nat) (cs : List Int) (w : World) (hr : RD w rb ca cc cs) :
    Calls Tryz.prog 78 #[.pointer (some ⟨rb, 0, none⟩), .int .i64 64] w fun e w' => ∃ x : Int, e = .returned (.int .u64 x) ∧ 0 ≤ x ∧ x < 18446744073709551616 ∧ RD w' rb ca cc cs ∧ w.grownBy w' (some rb) := by
  have CI := hid (fun w' => spec_inf64 w')
  have CN := hid (fun w' => snan_64 w')
  have CS := hid (fun w' => sS_64 w')
  have hg := grown_refl w (some rb)
  have eI : infOf 64 = 9218868437227405312 := rfl
  rw [eI] at CI
  go_enter Tryz.func78, Tryz.ntmps78
  go_wp2_with fail
  refine (once_any rb ca cc cs 8 _ hr (by decide) (by decide)).mono ?_
  rintro r W ⟨v, rfl, hr, hg'⟩
  replace hg := grown_trans hg hg'
  clear hg'
  cases v
  · go_wp2_with fail
    refine (finite64 rb ca cc cs _ hr).mono ?_
    rintro r W' ⟨x, rfl, x0, x1, hr', hg'⟩
    go_wp2
    go_ret
    exact ⟨x, rfl, x0, x1, hr', grown_trans hg hg'⟩
  · go_wp2_with fail
    refine (CI.out _).mono ?_
    rintro r W ⟨rfl, hb⟩
    replace hr := hr.below hb
    replace hg := grown_trans hg (grown_below hb _)
    clear hb
    go_upto_region 22 with fail
    replace hr := hr.drew
    refine wp_region_held_drew (S := fun _ => True) (by kernel_rfl) ?_ (fun hHeld => ?_)
    · trivial
    refine tk 0 ?_ rfl (Or.inl ⟨by rfl, ?_⟩) ?_
    rotate_left
    · (intro w hSw; go_simp; try (with_reducible rfl))
    try simp only [Act.put, Ls]
    refine tk 1 ?_ rfl (Or.inl ⟨by rfl, ?_⟩) ?_
    rotate_left
    · (intro w hSw; go_simp; try (with_reducible rfl))
    try simp only [Act.put, Ls]
    refine tk 2 ?_ rfl (Or.inl ⟨by rfl, ?_⟩) ?_
    rotate_left
    · (intro w hSw; go_simp; try (with_reducible rfl))
    try simp only [Act.put, Ls]
    refine tk 3 ?_ rfl (Or.inl ⟨by rfl, ?_⟩) ?_
    rotate_left
    · (intro w hSw; go_simp; try (with_reducible rfl))
    try simp only [Act.put, Ls]
    refine tk 4 ?_ rfl (Or.inl ⟨by rfl, ?_⟩) ?_
    rotate_left
    · (intro w hSw; go_simp; try (with_reducible rfl))
    try simp only [Act.put, Ls]
    refine tk 5 ?_ rfl (Or.inl ⟨by rfl, ?_⟩) ?_
    rotate_left
    · (intro w hSw; go_simp; try (with_reducible rfl))
    try simp only [Act.put, Ls]
    refine tk 7 ?_ rfl (Or.inl ⟨by rfl, ?_⟩) ?_
    rotate_left
    · (intro w hSw; go_simp; try (with_reducible rfl))
    try simp only [Act.put, Ls]
    refine tk 10 ?_ rfl (Or.inl ⟨by rfl, ?_⟩) ?_
    rotate_left
    · (intro w hSw; go_simp; try (with_reducible rfl))
    try simp only [Act.put, Ls]
    refine tk 14 ?_ rfl (Or.inl ⟨by rfl, ?_⟩) ?_
    rotate_left
    · (intro w hSw; go_simp; try (with_reducible rfl))
    try simp only [Act.put, Ls]
    refine tk 18 ?_ rfl (Or.inl ⟨by rfl, ?_⟩) ?_
    rotate_left
    · (intro w hSw; go_simp; try (with_reducible rfl))
    try simp only [Act.put, Ls]
    refine wpAnyH_ready (rs := [6]) (by kernel_rfl) (by simp) ?_
    refine (AllReadyH.cons (o := _) rfl (fun K hK => ?_) AllReadyH.nil)
    go_simp
    go_at_call 92; refine (CN.out _).mono ?_; rintro r W ⟨rfl, hb⟩
    replace hr := hr.below hb
    replace hg : w.grownBy W (some rb) := grown_trans hg (grown_below (w := _) (w' := W) (below_dr hb) _)
    clear hb
    refine hK.out _ _ ?_ (fun hHeld => ?_)
    · trivial
    clear hK K
    try simp only [Act.put, Ls]
    refine wpAnyH_ready (rs := [8]) (by kernel_rfl) (by simp) ?_
    refine (AllReadyH.cons (o := _) rfl (fun K hK => ?_) AllReadyH.nil)
    go_simp
    go_at_call 92; refine (CN.out _).mono ?_; rintro r W ⟨rfl, hb⟩
    replace hr := hr.below hb
    replace hg := grown_trans hg (grown_below hb _)
    clear hb
    refine hK.out _ _ ?_ (fun hHeld => ?_)
    · trivial
    clear hK K
    try simp only [Act.put, Ls]
    refine tk 9 ?_ rfl (Or.inl ⟨by rfl, ?_⟩) ?_
    rotate_left
    · (intro w hSw; go_simp; try (with_reducible rfl))
    try simp only [Act.put, Ls]
    refine wpAnyH_ready (rs := [11]) (by kernel_rfl) (by simp) ?_
    refine (AllReadyH.cons (o := _) rfl (fun K hK => ?_) AllReadyH.nil)
    go_simp
    go_at_call 63; refine (CS.out _).mono ?_; rintro r W ⟨rfl, hb⟩
    replace hr := hr.below hb
    replace hg := grown_trans hg (grown_below hb _)
    clear hb
    refine hK.out _ _ ?_ (fun hHeld => ?_)
    · trivial
    clear hK K
    try simp only [Act.put, Ls]
    refine tk 12 ?_ rfl (Or.inl ⟨by rfl, ?_⟩) ?_
    rotate_left
    · (intro w hSw; go_simp; try (with_reducible rfl))
    try simp only [Act.put, Ls]
    refine wpAnyH_ready (rs := [13, 15]) (by kernel_rfl) (by simp) ?_
    refine (AllReadyH.cons (o := _) rfl (fun K hK => ?_) (AllReadyH.cons (o := _) rfl (fun K hK => ?_) AllReadyH.nil))
    · go_simp
      refine hK.out _ _ ?_ (fun hHeld => ?_)
      · trivial
      clear hK K
      try simp only [Act.put, Ls]
      have lB := hr.lt
      have hc := Row6.new (S := 9223372036854775808) (t := 24) (v0 := 9218868437227405312) (v1 := 9218868437227405312) (v2 := (IntKind.u64.wrap 9218868437227405313)) (v3 := 9221120237041090560) (v4 := (IntKind.u64.wrap 9221120237041090565)) (v5 := (IntKind.u64.wrap 9223372036854775807)) W (by simp only [IntKind.wrap_u64]; decide)
      obtain ⟨B, eB⟩ : ∃ B, B = W.heap.size := ⟨_, rfl⟩
      have hB : W.heap.size < (W.alloc (.cells #[.int .u64 9218868437227405312, .int .u64 9218868437227405312, .int .u64 (IntKind.u64.wrap 9218868437227405313), .int .u64 9221120237041090560, .int .u64 (IntKind.u64.wrap 9221120237041090565), .int .u64 (IntKind.u64.wrap 9223372036854775807)] 24)).heap.size := by simp
      replace hr := hr.alloc (.cells #[.int .u64 9218868437227405312, .int .u64 9218868437227405312, .int .u64 (IntKind.u64.wrap 9218868437227405313), .int .u64 9221120237041090560, .int .u64 (IntKind.u64.wrap 9221120237041090565), .int .u64 (IntKind.u64.wrap 9223372036854775807)] 24)
      replace hg := grown_alloc hg (.cells #[.int .u64 9218868437227405312, .int .u64 9218868437227405312, .int .u64 (IntKind.u64.wrap 9218868437227405313), .int .u64 9221120237041090560, .int .u64 (IntKind.u64.wrap 9221120237041090565), .int .u64 (IntKind.u64.wrap 9223372036854775807)] 24)
      generalize W.alloc (.cells #[.int .u64 9218868437227405312, .int .u64 9218868437227405312, .int .u64 (IntKind.u64.wrap 9218868437227405313), .int .u64 9221120237041090560, .int .u64 (IntKind.u64.wrap 9221120237041090565), .int .u64 (IntKind.u64.wrap 9223372036854775807)] 24) = W2 at hc hB hr hg ⊢
      refine wpAnyH_ready (rs := [15]) (by kernel_rfl) (by simp) ?_
      refine (AllReadyH.cons (o := _) rfl (fun K hK => ?_) AllReadyH.nil)
      go_simp
      go_at_call 110; refine (below_any rb ca cc cs 6 _ hr (by decide) (by decide)).mono ?_
      rintro r W'  ⟨kz, rfl, k0, k1, hr, hg'⟩
      obtain ⟨kn, rfl⟩ := Int.eq_ofNat_of_zero_le k0
      replace hc := hc.rd hg' lB hB
      replace hB := Nat.lt_of_lt_of_le hB hg'.size
      replace hg := grown_trans hg hg'
      clear hg'
      refine hK.out _ _ ?_ (fun hHeld => ?_)
      · trivial
      clear hK K
      try simp only [Act.put, Ls]
      refine tk 16 ?_ rfl (Or.inl ⟨by rfl, ?_⟩) ?_
      rotate_left
      · (intro w hSw; go_simp; try (with_reducible rfl))
      try simp only [Act.put, Ls]
      refine wpAnyH_ready (rs := [17, 19]) (by kernel_rfl) (by simp) ?_
      refine (AllReadyH.cons (o := _) rfl (fun K hK => ?_) (AllReadyH.cons (o := _) rfl (fun K hK => ?_) AllReadyH.nil))
      · obtain ⟨d, hd, d0, d1⟩ := hc kn (by omega)
        go_simp
        refine hK.out _ _ ?_ (fun hHeld => ?_)
        · trivial
        clear hK K
        try simp only [Act.put, Ls]
        refine wpAnyH_ready (rs := [19]) (by kernel_rfl) (by simp) ?_
        refine (AllReadyH.cons (o := _) rfl (fun K hK => ?_) AllReadyH.nil)
        go_simp
        go_at_call 79; refine (once_any rb ca cc cs 2 _ hr (by decide) (by decide)).mono ?_
        rintro r W''  ⟨ng, rfl, hr, hg'⟩
        replace hc := hc.rd hg' lB hB
        replace hB := Nat.lt_of_lt_of_le hB hg'.size
        replace hg := grown_trans hg hg'
        clear hg'
        refine hK.out _ _ ?_ (fun hHeld => ?_)
        · trivial
        clear hK K
        try simp only [Act.put, Ls]
        refine wpAnyH_ready (rs := [20]) (by kernel_rfl) (by simp) ?_
        refine (AllReadyH.cons (o := _) rfl (fun K hK => ?_) AllReadyH.nil)
        go_simp
        go_at_call 95; refine (with_64 d ng _ (fun _ => ⟨d0, d1⟩)).mono ?_
        rintro r W3 ⟨rfl, hb⟩
        replace hr := hr.below hb
        replace hg := grown_trans hg (grown_below hb _)
        clear hb
        refine hK.out _ _ ?_ (fun hHeld => ?_)
        · trivial
        clear hK K
        try simp only [Act.put, Ls]
        refine tk 21 ?_ rfl (Or.inl ⟨by rfl, ?_⟩) ?_
        rotate_left
        · (intro w hSw; go_simp; try (with_reducible rfl))
        try simp only [Act.put, Ls]
        refine wpAnyH_done (by kernel_rfl) ?_ _
        go_wp2
        go_ret
        exact ⟨_, rfl, (sgn_bdS64 d ng d0 d1).1, (sgn_bdS64 d ng d0 d1).2, hr, hg⟩
      · go_simp
        go_at_call 79; refine (once_any rb ca cc cs 2 _ hr (by decide) (by decide)).mono ?_
        rintro r W''  ⟨ng, rfl, hr, hg'⟩
        replace hc := hc.rd hg' lB hB
        replace hB := Nat.lt_of_lt_of_le hB hg'.size
        replace hg := grown_trans hg hg'
        clear hg'
        refine hK.out _ _ ?_ (fun hHeld => ?_)
        · trivial
        clear hK K
        try simp only [Act.put, Ls]
        refine wpAnyH_ready (rs := [17]) (by kernel_rfl) (by simp) ?_
        refine (AllReadyH.cons (o := _) rfl (fun K hK => ?_) AllReadyH.nil)
        obtain ⟨d, hd, d0, d1⟩ := hc kn (by omega)
        go_simp
        refine hK.out _ _ ?_ (fun hHeld => ?_)
        · trivial
        clear hK K
        try simp only [Act.put, Ls]
        refine wpAnyH_ready (rs := [20]) (by kernel_rfl) (by simp) ?_
        refine (AllReadyH.cons (o := _) rfl (fun K hK => ?_) AllReadyH.nil)
        go_simp
        go_at_call 95; refine (with_64 d ng _ (fun _ => ⟨d0, d1⟩)).mono ?_
        rintro r W3 ⟨rfl, hb⟩
        replace hr := hr.below hb
        replace hg := grown_trans hg (grown_below hb _)
        clear hb
        refine hK.out _ _ ?_ (fun hHeld => ?_)
        · trivial
        clear hK K
        try simp only [Act.put, Ls]
        refine tk 21 ?_ rfl (Or.inl ⟨by rfl, ?_⟩) ?_
        rotate_left
        · (intro w hSw; go_simp; try (with_reducible rfl))
        try simp only [Act.put, Ls]
        refine wpAnyH_done (by kernel_rfl) ?_ _
        go_wp2
        go_ret
        exact ⟨_, rfl, (sgn_bdS64 d ng d0 d1).1, (sgn_bdS64 d ng d0 d1).2, hr, hg⟩
    · go_simp
      go_at_call 110; refine (below_any rb ca cc cs 6 _ hr (by decide) (by decide)).mono ?_
      rintro r W ⟨kz, rfl, k0, k1, hr, hg'⟩
      obtain ⟨kn, rfl⟩ := Int.eq_ofNat_of_zero_le k0
      replace hg := grown_trans hg hg'
      clear hg'
      refine hK.out _ _ ?_ (fun hHeld => ?_)
      · trivial
      clear hK K
      try simp only [Act.put, Ls]
      refine wpAnyH_ready (rs := [13, 19]) (by kernel_rfl) (by simp) ?_
      refine (AllReadyH.cons (o := _) rfl (fun K hK => ?_) (AllReadyH.cons (o := _) rfl (fun K hK => ?_) AllReadyH.nil))
      · go_simp
        refine hK.out _ _ ?_ (fun hHeld => ?_)
        · trivial
        clear hK K
        try simp only [Act.put, Ls]
        have lB := hr.lt
        have hc := Row6.new (S := 9223372036854775808) (t := 24) (v0 := 9218868437227405312) (v1 := 9218868437227405312) (v2 := (IntKind.u64.wrap 9218868437227405313)) (v3 := 9221120237041090560) (v4 := (IntKind.u64.wrap 9221120237041090565)) (v5 := (IntKind.u64.wrap 9223372036854775807)) W (by simp only [IntKind.wrap_u64]; decide)
        obtain ⟨B, eB⟩ : ∃ B, B = W.heap.size := ⟨_, rfl⟩
        have hB : W.heap.size < (W.alloc (.cells #[.int .u64 9218868437227405312, .int .u64 9218868437227405312, .int .u64 (IntKind.u64.wrap 9218868437227405313), .int .u64 9221120237041090560, .int .u64 (IntKind.u64.wrap 9221120237041090565), .int .u64 (IntKind.u64.wrap 9223372036854775807)] 24)).heap.size := by simp
        replace hr := hr.alloc (.cells #[.int .u64 9218868437227405312, .int .u64 9218868437227405312, .int .u64 (IntKind.u64.wrap 9218868437227405313), .int .u64 9221120237041090560, .int .u64 (IntKind.u64.wrap 9221120237041090565), .int .u64 (IntKind.u64.wrap 9223372036854775807)] 24)
        replace hg := grown_alloc hg (.cells #[.int .u64 9218868437227405312, .int .u64 9218868437227405312, .int .u64 (IntKind.u64.wrap 9218868437227405313), .int .u64 9221120237041090560, .int .u64 (IntKind.u64.wrap 9221120237041090565), .int .u64 (IntKind.u64.wrap 9223372036854775807)] 24)
        generalize W.alloc (.cells #[.int .u64 9218868437227405312, .int .u64 9218868437227405312, .int .u64 (IntKind.u64.wrap 9218868437227405313), .int .u64 9221120237041090560, .int .u64 (IntKind.u64.wrap 9221120237041090565), .int .u64 (IntKind.u64.wrap 9223372036854775807)] 24) = W2 at hc hB hr hg ⊢
        refine tk 16 ?_ rfl (Or.inl ⟨by rfl, ?_⟩) ?_
        rotate_left
        · (intro w hSw; go_simp; try (with_reducible rfl))
        try simp only [Act.put, Ls]
        refine wpAnyH_ready (rs := [17, 19]) (by kernel_rfl) (by simp) ?_
        refine (AllReadyH.cons (o := _) rfl (fun K hK => ?_) (AllReadyH.cons (o := _) rfl (fun K hK => ?_) AllReadyH.nil))
        · obtain ⟨d, hd, d0, d1⟩ := hc kn (by omega)
          go_simp
          refine hK.out _ _ ?_ (fun hHeld => ?_)
          · trivial
          clear hK K
          try simp only [Act.put, Ls]
          refine wpAnyH_ready (rs := [19]) (by kernel_rfl) (by simp) ?_
          refine (AllReadyH.cons (o := _) rfl (fun K hK => ?_) AllReadyH.nil)
          go_simp
          go_at_call 79; refine (once_any rb ca cc cs 2 _ hr (by decide) (by decide)).mono ?_
          rintro r W''  ⟨ng, rfl, hr, hg'⟩
          replace hc := hc.rd hg' lB hB
          replace hB := Nat.lt_of_lt_of_le hB hg'.size
          replace hg := grown_trans hg hg'
          clear hg'
          refine hK.out _ _ ?_ (fun hHeld => ?_)
          · trivial
          clear hK K
          try simp only [Act.put, Ls]
          refine wpAnyH_ready (rs := [20]) (by kernel_rfl) (by simp) ?_
          refine (AllReadyH.cons (o := _) rfl (fun K hK => ?_) AllReadyH.nil)
          go_simp
          go_at_call 95; refine (with_64 d ng _ (fun _ => ⟨d0, d1⟩)).mono ?_
          rintro r W3 ⟨rfl, hb⟩
          replace hr := hr.below hb
          replace hg := grown_trans hg (grown_below hb _)
          clear hb
          refine hK.out _ _ ?_ (fun hHeld => ?_)
          · trivial
          clear hK K
          try simp only [Act.put, Ls]
          refine tk 21 ?_ rfl (Or.inl ⟨by rfl, ?_⟩) ?_
          rotate_left
          · (intro w hSw; go_simp; try (with_reducible rfl))
          try simp only [Act.put, Ls]
          refine wpAnyH_done (by kernel_rfl) ?_ _
          go_wp2
          go_ret
          exact ⟨_, rfl, (sgn_bdS64 d ng d0 d1).1, (sgn_bdS64 d ng d0 d1).2, hr, hg⟩
        · go_simp
          go_at_call 79; refine (once_any rb ca cc cs 2 _ hr (by decide) (by decide)).mono ?_
          rintro r W''  ⟨ng, rfl, hr, hg'⟩
          replace hc := hc.rd hg' lB hB
          replace hB := Nat.lt_of_lt_of_le hB hg'.size
          replace hg := grown_trans hg hg'
          clear hg'
          refine hK.out _ _ ?_ (fun hHeld => ?_)
          · trivial
          clear hK K
          try simp only [Act.put, Ls]
          refine wpAnyH_ready (rs := [17]) (by kernel_rfl) (by simp) ?_
          refine (AllReadyH.cons (o := _) rfl (fun K hK => ?_) AllReadyH.nil)
          obtain ⟨d, hd, d0, d1⟩ := hc kn (by omega)
          go_simp
          refine hK.out _ _ ?_ (fun hHeld => ?_)
          · trivial
          clear hK K
          try simp only [Act.put, Ls]
          refine wpAnyH_ready (rs := [20]) (by kernel_rfl) (by simp) ?_
          refine (AllReadyH.cons (o := _) rfl (fun K hK => ?_) AllReadyH.nil)
          go_simp
          go_at_call 95; refine (with_64 d ng _ (fun _ => ⟨d0, d1⟩)).mono ?_
          rintro r W3 ⟨rfl, hb⟩
          replace hr := hr.below hb
          replace hg := grown_trans hg (grown_below hb _)
          clear hb
          refine hK.out _ _ ?_ (fun hHeld => ?_)
          · trivial
          clear hK K
          try simp only [Act.put, Ls]
          refine tk 21 ?_ rfl (Or.inl ⟨by rfl, ?_⟩) ?_
          rotate_left
          · (intro w hSw; go_simp; try (with_reducible rfl))
          try simp only [Act.put, Ls]
          refine wpAnyH_done (by kernel_rfl) ?_ _
          go_wp2
          go_ret
          exact ⟨_, rfl, (sgn_bdS64 d ng d0 d1).1, (sgn_bdS64 d ng d0 d1).2, hr, hg⟩
      · go_simp
        go_at_call 79; refine (once_any rb ca cc cs 2 _ hr (by decide) (by decide)).mono ?_
        rintro r W ⟨ng, rfl, hr, hg'⟩
        replace hg := grown_trans hg hg'
        clear hg'
        refine hK.out _ _ ?_ (fun hHeld => ?_)
        · trivial
        clear hK K
        try simp only [Act.put, Ls]
        refine wpAnyH_ready (rs := [13]) (by kernel_rfl) (by simp) ?_
        refine (AllReadyH.cons (o := _) rfl (fun K hK => ?_) AllReadyH.nil)
        go_simp
        refine hK.out _ _ ?_ (fun hHeld => ?_)
        · trivial
        clear hK K
        try simp only [Act.put, Ls]
        have lB := hr.lt
        have hc := Row6.new (S := 9223372036854775808) (t := 24) (v0 := 9218868437227405312) (v1 := 9218868437227405312) (v2 := (IntKind.u64.wrap 9218868437227405313)) (v3 := 9221120237041090560) (v4 := (IntKind.u64.wrap 9221120237041090565)) (v5 := (IntKind.u64.wrap 9223372036854775807)) W (by simp only [IntKind.wrap_u64]; decide)
        obtain ⟨B, eB⟩ : ∃ B, B = W.heap.size := ⟨_, rfl⟩
        have hB : W.heap.size < (W.alloc (.cells #[.int .u64 9218868437227405312, .int .u64 9218868437227405312, .int .u64 (IntKind.u64.wrap 9218868437227405313), .int .u64 9221120237041090560, .int .u64 (IntKind.u64.wrap 9221120237041090565), .int .u64 (IntKind.u64.wrap 9223372036854775807)] 24)).heap.size := by simp
        replace hr := hr.alloc (.cells #[.int .u64 9218868437227405312, .int .u64 9218868437227405312, .int .u64 (IntKind.u64.wrap 9218868437227405313), .int .u64 9221120237041090560, .int .u64 (IntKind.u64.wrap 9221120237041090565), .int .u64 (IntKind.u64.wrap 9223372036854775807)] 24)
        replace hg := grown_alloc hg (.cells #[.int .u64 9218868437227405312, .int .u64 9218868437227405312, .int .u64 (IntKind.u64.wrap 9218868437227405313), .int .u64 9221120237041090560, .int .u64 (IntKind.u64.wrap 9221120237041090565), .int .u64 (IntKind.u64.wrap 9223372036854775807)] 24)
        generalize W.alloc (.cells #[.int .u64 9218868437227405312, .int .u64 9218868437227405312, .int .u64 (IntKind.u64.wrap 9218868437227405313), .int .u64 9221120237041090560, .int .u64 (IntKind.u64.wrap 9221120237041090565), .int .u64 (IntKind.u64.wrap 9223372036854775807)] 24) = W2 at hc hB hr hg ⊢
        refine tk 16 ?_ rfl (Or.inl ⟨by rfl, ?_⟩) ?_
        rotate_left
        · (intro w hSw; go_simp; try (with_reducible rfl))
        try simp only [Act.put, Ls]
        refine wpAnyH_ready (rs := [17]) (by kernel_rfl) (by simp) ?_
        refine (AllReadyH.cons (o := _) rfl (fun K hK => ?_) AllReadyH.nil)
        obtain ⟨d, hd, d0, d1⟩ := hc kn (by omega)
        go_simp
        refine hK.out _ _ ?_ (fun hHeld => ?_)
        · trivial
        clear hK K
        try simp only [Act.put, Ls]
        refine wpAnyH_ready (rs := [20]) (by kernel_rfl) (by simp) ?_
        refine (AllReadyH.cons (o := _) rfl (fun K hK => ?_) AllReadyH.nil)
        go_simp
        go_at_call 95; refine (with_64 d ng _ (fun _ => ⟨d0, d1⟩)).mono ?_
        rintro r W3 ⟨rfl, hb⟩
        replace hr := hr.below hb
        replace hg := grown_trans hg (grown_below hb _)
        clear hb
        refine hK.out _ _ ?_ (fun hHeld => ?_)
        · trivial
        clear hK K
        try simp only [Act.put, Ls]
        refine tk 21 ?_ rfl (Or.inl ⟨by rfl, ?_⟩) ?_
        rotate_left
        · (intro w hSw; go_simp; try (with_reducible rfl))
        try simp only [Act.put, Ls]
        refine wpAnyH_done (by kernel_rfl) ?_ _
        go_wp2
        go_ret
        exact ⟨_, rfl, (sgn_bdS64 d ng d0 d1).1, (sgn_bdS64 d ng d0 d1).2, hr, hg⟩
theorem float_any (fm : Int) (hf : fmtB fm = true) (rb : Nat) (ca : Option Addr) (cc : Nat) (cs : List Int) (w : World) (hr : RD w rb ca cc cs) :
    Calls Tryz.prog 78 #[.pointer (some ⟨rb, 0, none⟩), .int .i64 fm] w fun e w' => ∃ x : Int, e = .returned (.int .u64 x) ∧ 0 ≤ x ∧ x < 18446744073709551616 ∧ RD w' rb ca cc cs ∧ w.grownBy w' (some rb) := by
  rcases fmt_cases hf with rfl | rfl
  · exact float32 rb ca cc cs w hr
  · exact float64 rb ca cc cs w hr
theorem some_any (rb : Nat) (ca : Option Addr) (cc : Nat) (cs : List Int) (w : World) (hr : RD w rb ca cc cs) :
    Calls Tryz.prog 75 #[.pointer (some ⟨rb, 0, none⟩)] w fun e w' => ∃ fm x : Int, e = .returned (.tuple #[.int .i64 fm, .int .u64 x]) ∧ 0 ≤ x ∧ x < 18446744073709551616 ∧ RD w' rb ca cc cs ∧ w.grownBy w' (some rb) := by
  go_enter Tryz.func75, Tryz.ntmps75
  go_wp2_with fail
  refine (format_any rb ca cc cs _ hr).mono ?_
  rintro e w1 ⟨fm, rfl, hf, hr1, hg1⟩
  have CF := hid (fun w' h => float_any fm hf rb ca cc cs w' h)
  clear hf
  go_wp2_with fail
  refine (CF.out _ hr1).mono ?_
  rintro e w2 ⟨x, rfl, x0, x1, hr2, hg2⟩
  go_wp2_with fail
  refine (below_any rb ca cc cs 40 _ hr2 (by decide) (by decide)).mono ?_
  rintro e w3 ⟨v, rfl, v0, v1, hr3, hg3⟩
  have hg := grown_trans (grown_trans hg1 hg2) hg3
  rcases (show v = 0 ∨ v = 1 ∨ 1 < v by omega) with rfl | rfl | hv
  · go_wp2_with fail
    refine (below_any rb ca cc cs 100 _ hr3 (by decide) (by decide)).mono ?_
    rintro e w4 ⟨u, rfl, u0, u1, hr4, hg4⟩
    go_wp2
    go_ret2
    exact ⟨_, _, rfl, x0, x1, hr4, grown_trans hg hg4⟩
  · have lo := bits_lo_u64 .or x 4294967296
    have hi := bits_hi_u64 .or x 4294967296
    go_wp2
    go_ret2
    exact ⟨_, _, rfl, by omega, by omega, hr3, hg⟩
  · have e0 : (v == 0) = false := by simp; omega
    have e1 : (v == 1) = false := by simp; omega
    go_wp2
    go_ret2
    exact ⟨_, _, rfl, x0, x1, hr3, hg⟩
theorem sg32 {x : Int} (h0 : 0 ≤ x) (h1 : x < 4294967296) (y : Int) (hy : y = negF 32 x) :
    (0 ≤ y ∧ y < 4294967296) ∧ negF 32 y = x ∧ y ≠ x ∧ cls 32 y = cls 32 x ∧ finB 32 y = finB 32 x ∧ unI 32 y = -unI 32 x ∧ (x < 2147483648 → absF 32 x = x) ∧ (¬ x < 2147483648 → absF 32 x ≠ x ∧ absF 32 x = y) := by
  rw [neg32 h1] at hy
  have hr : 0 ≤ y ∧ y < 4294967296 := by split at hy <;> omega
  have hm : y % 2147483648 = x % 2147483648 := by split at hy <;> omega
  have hc : cls 32 y = cls 32 x := by rw [cls32 (x := y) (by omega), cls32 h1, hm]
  have hf : finB 32 y = finB 32 x := by unfold finB; rw [hc]
  have ax := ab32 h0 h1
  have ay := ab32 hr.1 hr.2
  have hs : sigB 32 y = !sigB 32 x := by
    unfold sigB; rw [ax, ay]
    split at hy
    · rename_i h
      rw [if_pos h, if_neg (by omega)]
      have e1 : (y != y - 2147483648) = true := by simp; omega
      rw [e1]; simp
    · rename_i h
      rw [if_neg h, if_pos (by omega)]
      have e1 : (x != x - 2147483648) = true := by simp; omega
      rw [e1]; simp
  refine ⟨hr, ?_, ?_, hc, hf, ?_, ?_, ?_⟩
  · rw [neg32 (x := y) (by omega)]; split at hy <;> split <;> omega
  · split at hy <;> omega
  · unfold unI
    rw [hf]
    cases hff : finB 32 x
    · rfl
    · rw [if_pos rfl, if_pos rfl]
      have e1 : pM 32 y = pM 32 x := by unfold pM; rw [hf, hm]; simp
      have e2 : pE 32 y = pE 32 x := by unfold pE; rw [hf, hm]; simp
      have e3 : pS 32 y = !pS 32 x := by unfold pS; rw [hf, hff, if_pos rfl, if_pos rfl, hs]
      rw [e1, e2, e3]
      cases pS 32 x <;> simp
  · intro h; rw [ax, if_pos h]
  · intro h
    rw [if_neg h] at hy
    rw [ax, if_neg h]; omega
theorem sg64 {x : Int} (h0 : 0 ≤ x) (h1 : x < 18446744073709551616) (y : Int) (hy : y = negF 64 x) :
    (0 ≤ y ∧ y < 18446744073709551616) ∧ negF 64 y = x ∧ y ≠ x ∧ cls 64 y = cls 64 x ∧ finB 64 y = finB 64 x ∧ unI 64 y = -unI 64 x ∧ (x < 9223372036854775808 → absF 64 x = x) ∧ (¬ x < 9223372036854775808 → absF 64 x ≠ x ∧ absF 64 x = y) := by
  rw [neg64] at hy
  have hr : 0 ≤ y ∧ y < 18446744073709551616 := by split at hy <;> omega
  have hm : y % 9223372036854775808 = x % 9223372036854775808 := by split at hy <;> omega
  have hc : cls 64 y = cls 64 x := by rw [cls64 (x := y), cls64 (x := x), hm]
  have hf : finB 64 y = finB 64 x := by unfold finB; rw [hc]
  have ax := ab64 h0 h1
  have ay := ab64 hr.1 hr.2
  have hs : sigB 64 y = !sigB 64 x := by
    unfold sigB; rw [ax, ay]
    split at hy
    · rename_i h
      rw [if_pos h, if_neg (by omega)]
      have e1 : (y != y - 9223372036854775808) = true := by simp; omega
      rw [e1]; simp
    · rename_i h
      rw [if_neg h, if_pos (by omega)]
      have e1 : (x != x - 9223372036854775808) = true := by simp; omega
      rw [e1]; simp
  refine ⟨hr, ?_, ?_, hc, hf, ?_, ?_, ?_⟩
  · rw [neg64 (x := y)]; split at hy <;> split <;> omega
  · split at hy <;> omega
  · unfold unI
    rw [hf]
    cases hff : finB 64 x
    · rfl
    · rw [if_pos rfl, if_pos rfl]
      have e1 : pM 64 y = pM 64 x := by unfold pM; rw [hf, hm]; simp
      have e2 : pE 64 y = pE 64 x := by unfold pE; rw [hf, hm]; simp
      have e3 : pS 64 y = !pS 64 x := by unfold pS; rw [hf, hff, if_pos rfl, if_pos rfl, hs]
      rw [e1, e2, e3]
      cases pS 64 x <;> simp
  · intro h; rw [ax, if_pos h]
  · intro h
    rw [if_neg h] at hy
    rw [ax, if_neg h]; omega
end Fd
end Go.Proofs.YtmcflggionkhlaaGreatDoor
