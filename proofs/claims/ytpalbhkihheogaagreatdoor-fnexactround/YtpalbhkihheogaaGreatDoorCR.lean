/-
  The value of a float, rounded, is that float: the law.
-/
import Derived.Test.YtpalbhkihheogaaGreatDoorM45
import Derived.Test.YtpalbhkihheogaaGreatDoorM47
import Derived.Test.YtpalbhkihheogaaGreatDoorM30
import Derived.Deep.RegionHeld3
namespace Go.Proofs.YtpalbhkihheogaaGreatDoor
set_option linter.unusedVariables false
set_option linter.unusedSimpArgs false
open Go.RowKit Go.Deep
namespace Fd
theorem fin_32 {x : Int} (hf : finB 32 x = true) : x < 4294967296 := by
  cases h : okF 32 x
  · unfold finB at hf; rw [cls_no h] at hf; simp at hf
  · unfold okF at h; simp at h; exact h
theorem drawUnits_any (ca : Option Addr) (cc : Nat) (cs : List Int) (w : World) (hs : Sl .u8 w (.slice ca cs.length cc) cs) (hby : ∀ i, 0 ≤ cs.getD i 0 ∧ cs.getD i 0 ≤ 255) (hl : cs.length ≤ 1048576) :
    Calls Tryz.prog 8 #[.slice ca cs.length cc] w fun e w' => ∃ fm x : Int, e = .returned (.tuple #[.int .i64 fm, .int .u64 x]) ∧ 0 ≤ x ∧ x < 18446744073709551616 ∧ Below w.heap.size w w' := by
  go_enter Tryz.func8, Tryz.ntmps8
  go_wp2_with fail
  refine (drawOk_any ca cc cs _ hs hby hl).mono ?_
  rintro e w1 ⟨fm, x, rfl, x0, x1, hb1⟩
  go_wp2
  go_ret2
  exact ⟨_, _, rfl, x0, x1, hb1⟩
set_option maxHeartbeats 16000000 in
set_option maxRecDepth 100000 in
theorem erlaw (ca : Option Addr) (cc : Nat) (cs : List Int) (w : World) (hT : T3 w) (hs : Sl .u8 w (.slice ca cs.length cc) cs) (hby : ∀ i, 0 ≤ cs.getD i 0 ∧ cs.getD i 0 ≤ 255) (hl : cs.length ≤ 1048576) :
    Calls Tryz.prog 3 #[.slice ca cs.length cc] w fun e w' => e = .returned (.bool true) ∧ Below w.heap.size w w' := by
  go_enter Tryz.func3, Tryz.ntmps3
  go_wp2_with fail
  refine (big_any ca cs.length cc _ (by omega) false (by simp; omega)).mono ?_
  rintro e w0 ⟨rfl, rfl⟩
  go_wp2_with fail
  refine (drawUnits_any ca cc cs _ hs hby hl).mono ?_
  rintro e w1 ⟨fm, x, rfl, x0, x1, bel1⟩
  replace hs := hs.below bel1
  have U1 := hid (fun w' h => units_impl fm x w' h x0 x1)
  have U2 := hid (fun w' => units_spec fm x w' x0 x1)
  unfold Ans at U1 U2
  cases hf : finB fm x
  · rw [hf] at U1 U2
    have hL : (Nm.wl (unI fm x)).length ≤ 1048576 := by rw [un_no hf]; unfold Nm.wl; rw [show (0 : Int).natAbs = 0 from rfl, Nm.lim_zero]; decide
    obtain ⟨g, hg⟩ : ∃ t, t = Nm.wn (unI fm x) := ⟨_, rfl⟩
    obtain ⟨L, hL'⟩ : ∃ t, t = Nm.wl (unI fm x) := ⟨_, rfl⟩
    rw [← hg, ← hL'] at U1 U2
    rw [← hL'] at hL
    clear hf hg hL'
    go_wp2_with fail
    refine (U1.out _ (hT.below bel1).s.f).mono ?_
    rintro r w2 ⟨A1, c1, rfl, o1, hb2⟩
    have bel := bel_al (bel_go bel1 hb2) (.cells #[.bool g, .slice A1 L.length c1] 29)
    have X1 := R2.new w2 (.bool g) (.slice A1 L.length c1) 29
    replace o1 := o1.alloc (.cells #[.bool g, .slice A1 L.length c1] 29)
    replace hs := (hs.below hb2).alloc (.cells #[.bool g, .slice A1 L.length c1] 29)
    obtain ⟨bu, hbu⟩ : ∃ q, q = w2.heap.size := ⟨_, rfl⟩
    rw [← hbu] at X1
    clear hb2
    go_wp2_with fail
    rw [← hbu]
    clear hbu
    refine (U2.out _).mono ?_
    rintro r w3 ⟨A2, c2, rfl, o2, hb3⟩
    replace bel := bel_al (bel_go bel hb3) (.cells #[.bool g, .slice A2 L.length c2] 29)
    replace X1 := (X1.below hb3).alloc (.cells #[.bool g, .slice A2 L.length c2] 29)
    have X2 := R2.new w3 (.bool g) (.slice A2 L.length c2) 29
    replace o1 := (o1.below hb3).alloc (.cells #[.bool g, .slice A2 L.length c2] 29)
    replace o2 := o2.alloc (.cells #[.bool g, .slice A2 L.length c2] 29)
    replace hs := (hs.below hb3).alloc (.cells #[.bool g, .slice A2 L.length c2] 29)
    clear hb3
    obtain ⟨x10, x11, x1f, x1g⟩ := X1
    obtain ⟨x20, x21, x2f, x2g⟩ := X2
    go_wp2_with fail
    refine (same_yes g A1 A2 c1 c2 L _ o1.sl o2.sl hL).mono ?_
    rintro r w4 ⟨rfl, hb⟩
    replace bel := bel_go bel hb
    replace o1 := o1.below hb
    replace o2 := o2.below hb
    replace hs := hs.below hb
    have X1 := (R2.mk x10 x11 x1f x1g).below hb
    have X2 := (R2.mk x20 x21 x2f x2g).below hb
    clear x10 x11 x1f x1g x20 x21 x2f x2g
    clear hb
    obtain ⟨x10, x11, x1f, x1g⟩ := X1
    obtain ⟨x20, x21, x2f, x2g⟩ := X2
    go_wp2_with fail
    refine (same_yes g A1 A2 c1 c2 L _ o1.sl o2.sl hL).mono ?_
    rintro r w5 ⟨rfl, hb⟩
    replace bel := bel_go bel hb
    replace o1 := o1.below hb
    replace o2 := o2.below hb
    replace hs := hs.below hb
    go_wp2
    all_goals go_ret
    all_goals exact ⟨rfl, bel⟩
  · have hL : (Nm.wl (unI fm x)).length ≤ 1048576 := by have := un_len fm x hf; omega
    have hfm := fin_fmt hf
    rw [hf] at U1 U2
    rcases fmt_cases hfm with rfl | rfl
    · clear hfm
      have hx1 : x < 4294967296 := fin_32 hf
      have hRd := fun md hm => Rd_un32 x0 hx1 hf md hm
      have hz0 := (hRd 1 (by decide)).2.2.2
      have hmod : ∀ v : Int, 0 ≤ v → modeB (v % 6) = true := fun v h => by unfold modeB; simp; omega
      have RI := hid (fun v p c w' (hv : modeB (v % 6) = true) h h' => rounded_impl 32 (v % 6) (Nm.wn (unI 32 x)) (Nm.wl (unI 32 x)) (-149) p c w' h h' (Nm.wl_dg _) hL)
      have RI' := hid (fun v p c w' (hv : modeB (v % 6) = true) h h' => by
        have C := RI.out v p c w' hv h h'
        obtain ⟨r1, r2, r3, -⟩ := hRd (v % 6) hv
        rw [r1, r2, r3] at C
        exact C)
      have EI := hid (fun p c w' h h' => exact_impl 32 (Nm.wn (unI 32 x)) (Nm.wl (unI 32 x)) (-149) p c w' h h' (Nm.wl_dg _) hL)
      have eO : EfO 32 (Nm.wn (unI 32 x)) (Nm.wl (unI 32 x)) (-149) = true := by
        unfold EfO
        rw [(hRd 1 (by decide)).1, (hRd 1 (by decide)).2.2.1]; rfl
      have eB : EfB 32 (Nm.wn (unI 32 x)) (Nm.wl (unI 32 x)) (-149) = if x % 2147483648 = 0 then 0 else x := by
        unfold EfB
        rw [eO, if_pos rfl, (hRd 1 (by decide)).2.1]
      rw [eO, eB] at EI
      clear RI eO eB hRd
      have RI := RI'
      clear RI'
      obtain ⟨g, hg⟩ : ∃ t, t = Nm.wn (unI 32 x) := ⟨_, rfl⟩
      obtain ⟨L, hL'⟩ : ∃ t, t = Nm.wl (unI 32 x) := ⟨_, rfl⟩
      rw [← hg, ← hL'] at U1 U2 RI EI
      rw [← hL'] at hL hz0
      clear hf hg hL'
      by_cases hz : x % 2147483648 = 0
      · have hn0 := hz0.2 hz
        rw [if_pos hz] at RI EI
        clear hz hz0
        have e0 : ((L.length : Int) == 0) = true := by rw [beq_iff_eq]; omega
        clear hn0
        cases ex : ((0 : Int) == x)
        · go_wp2_with fail
          refine (U1.out _ (hT.below bel1).s.f).mono ?_
          rintro r w2 ⟨A1, c1, rfl, o1, hb2⟩
          have bel := bel_al (bel_go bel1 hb2) (.cells #[.bool g, .slice A1 L.length c1] 29)
          have X1 := R2.new w2 (.bool g) (.slice A1 L.length c1) 29
          replace o1 := o1.alloc (.cells #[.bool g, .slice A1 L.length c1] 29)
          replace hs := (hs.below hb2).alloc (.cells #[.bool g, .slice A1 L.length c1] 29)
          obtain ⟨bu, hbu⟩ : ∃ q, q = w2.heap.size := ⟨_, rfl⟩
          rw [← hbu] at X1
          clear hb2
          go_wp2_with fail
          rw [← hbu]
          clear hbu
          refine (U2.out _).mono ?_
          rintro r w3 ⟨A2, c2, rfl, o2, hb3⟩
          replace bel := bel_al (bel_go bel hb3) (.cells #[.bool g, .slice A2 L.length c2] 29)
          replace X1 := (X1.below hb3).alloc (.cells #[.bool g, .slice A2 L.length c2] 29)
          have X2 := R2.new w3 (.bool g) (.slice A2 L.length c2) 29
          replace o1 := (o1.below hb3).alloc (.cells #[.bool g, .slice A2 L.length c2] 29)
          replace o2 := o2.alloc (.cells #[.bool g, .slice A2 L.length c2] 29)
          replace hs := (hs.below hb3).alloc (.cells #[.bool g, .slice A2 L.length c2] 29)
          clear hb3
          obtain ⟨x10, x11, x1f, x1g⟩ := X1
          obtain ⟨x20, x21, x2f, x2g⟩ := X2
          go_wp2_with fail
          refine (same_yes g A1 A2 c1 c2 L _ o1.sl o2.sl hL).mono ?_
          rintro r w4 ⟨rfl, hb⟩
          replace bel := bel_go bel hb
          replace o1 := o1.below hb
          replace o2 := o2.below hb
          replace hs := hs.below hb
          have X1 := (R2.mk x10 x11 x1f x1g).below hb
          have X2 := (R2.mk x20 x21 x2f x2g).below hb
          clear x10 x11 x1f x1g x20 x21 x2f x2g
          clear hb
          go_upto_region 15 with fail
          replace hs := hs.drew
          replace X1 := X1.drew
          replace o1 := o1.drew
          replace bel := Below.drew bel
          have T := hT.below bel
          refine wp_region_held_drew (S := fun w' => w'.cell? ⟨bu, 0, none⟩ = some (.bool g) ∧ w'.cell? ⟨bu, 1, none⟩ = some (.slice A1 L.length c1)) (by kernel_rfl) ?_ (fun hHeld => ?_)
          · exact ⟨X1.c0, X1.c1⟩
          refine tk 0 ?_ rfl (Or.inl ⟨by rfl, ?_⟩) ?_
          rotate_left
          · (intro w hSw; go_simp; try (with_reducible rfl))
          try simp only [Act.put, Ls]
          refine tk 1 ?_ rfl (Or.inl ⟨by rfl, ?_⟩) ?_
          rotate_left
          · (intro w hSw; go_simp; try (with_reducible rfl))
          try simp only [Act.put, Ls]
          refine tk 4 ?_ rfl (Or.inl ⟨by rfl, ?_⟩) ?_
          rotate_left
          · (intro w hSw; (try dsimp only at hSw); obtain ⟨hS0, hS1⟩ := hSw; go_simp; try (with_reducible rfl))
          try simp only [Act.put, Ls]
          refine tk 5 ?_ rfl (Or.inl ⟨by rfl, ?_⟩) ?_
          rotate_left
          · (intro w hSw; go_simp; try (with_reducible rfl))
          try simp only [Act.put, Ls]
          refine rdy 2 rfl (fun K hK => ?_)
          go_simp
          go_at_call 13; refine (byteOf_any ca cc cs 2 (by decide) (by decide) _ hs hby hl).mono ?_; rintro r v1 ⟨v, rfl, v0, v255, hb⟩
          replace X1 := X1.below hb
          replace o1 := o1.below hb
          replace bel := bel_go bel hb
          replace T := T.below hb
          clear hb
          refine hK.out _ _ ?_ (fun hHeld => ?_)
          · exact ⟨X1.c0, X1.c1⟩
          clear hK K
          try simp only [Act.put, Ls]
          have hm6 : Int.tmod v 6 = v % 6 := Int.tmod_eq_emod_of_nonneg v0
          refine tk 3 ?_ rfl (Or.inl ⟨by rfl, ?_⟩) ?_
          rotate_left
          · (intro w hSw; go_simp; try (with_reducible rfl))
          try simp only [Act.put, Ls]
          refine rdy 6 rfl (fun K hK => ?_)
          go_simp
          go_at_call 14; refine (unit32 _).mono ?_; rintro r v2 ⟨rfl, hb⟩
          replace X1 := X1.below hb
          replace o1 := o1.below hb
          replace bel := bel_go bel hb
          replace T := T.below hb
          clear hb
          refine hK.out _ _ ?_ (fun hHeld => ?_)
          · exact ⟨X1.c0, X1.c1⟩
          clear hK K
          try simp only [Act.put, Ls]
          refine rdy 7 rfl (fun K hK => ?_)
          go_simp
          go_at_call 12; refine (RI.out _ A1 c1 _ (hmod v v0) T o1.sl).mono ?_; rintro r v3 ⟨rfl, hb⟩
          replace X1 := X1.below hb
          replace o1 := o1.below hb
          replace bel := bel_go bel hb
          replace T := T.below hb
          clear hb
          refine hK.out _ _ ?_ (fun hHeld => ?_)
          · exact ⟨X1.c0, X1.c1⟩
          clear hK K
          try simp only [Act.put, Ls]
          refine tk 8 ?_ rfl (Or.inl ⟨by rfl, ?_⟩) ?_
          rotate_left
          · (intro w hSw; go_simp; try (with_reducible rfl))
          try simp only [Act.put, Ls]
          refine tk 9 ?_ rfl (Or.inl ⟨by rfl, ?_⟩) ?_
          rotate_left
          · (intro w hSw; go_simp; try (with_reducible rfl))
          try simp only [Act.put, Ls]
          refine tk 10 ?_ rfl (Or.inl ⟨by rfl, ?_⟩) ?_
          rotate_left
          · (intro w hSw; go_simp; try (with_reducible rfl))
          try simp only [Act.put, Ls]
          refine tk 11 ?_ rfl (Or.inl ⟨by rfl, ?_⟩) ?_
          rotate_left
          · (intro w hSw; go_simp; try (with_reducible rfl))
          try simp only [Act.put, Ls]
          refine tk 12 ?_ rfl (Or.inl ⟨by rfl, ?_⟩) ?_
          rotate_left
          · (intro w hSw; go_simp; try (with_reducible rfl))
          try simp only [Act.put, Ls]
          refine tk 13 ?_ rfl (Or.inl ⟨by rfl, ?_⟩) ?_
          rotate_left
          · (intro w hSw; go_simp; try (with_reducible rfl))
          try simp only [Act.put, Ls]
          refine rdy 14 rfl (fun K hK => ?_)
          go_simp
          refine hK.out _ _ ?_ (fun hHeld => ?_)
          · exact ⟨X1.c0, X1.c1⟩
          clear hK K
          try simp only [Act.put, Ls]
          refine wpAnyH_done (by kernel_rfl) ?_ _
          go_upto_region 10 with fail
          replace X1 := X1.drew
          replace o1 := o1.drew
          replace bel := Below.drew bel
          replace T := T.dr
          refine wp_region_held_drew (S := fun w' => w'.cell? ⟨bu, 0, none⟩ = some (.bool g) ∧ w'.cell? ⟨bu, 1, none⟩ = some (.slice A1 L.length c1)) (by kernel_rfl) ?_ (fun hHeld => ?_)
          · exact ⟨X1.c0, X1.c1⟩
          refine tk 0 ?_ rfl (Or.inl ⟨by rfl, ?_⟩) ?_
          rotate_left
          · (intro w hSw; go_simp; try (with_reducible rfl))
          try simp only [Act.put, Ls]
          refine tk 1 ?_ rfl (Or.inl ⟨by rfl, ?_⟩) ?_
          rotate_left
          · (intro w hSw; (try dsimp only at hSw); obtain ⟨hS0, hS1⟩ := hSw; go_simp; try (with_reducible rfl))
          try simp only [Act.put, Ls]
          refine tk 2 ?_ rfl (Or.inl ⟨by rfl, ?_⟩) ?_
          rotate_left
          · (intro w hSw; go_simp; try (with_reducible rfl))
          try simp only [Act.put, Ls]
          refine rdy 3 rfl (fun K hK => ?_)
          go_simp
          go_at_call 14; refine (unit32 _).mono ?_; rintro r v4 ⟨rfl, hb⟩
          replace X1 := X1.below hb
          replace o1 := o1.below hb
          replace bel := bel_go bel hb
          replace T := T.below hb
          clear hb
          refine hK.out _ _ ?_ (fun hHeld => ?_)
          · exact ⟨X1.c0, X1.c1⟩
          clear hK K
          try simp only [Act.put, Ls]
          refine rdy 4 rfl (fun K hK => ?_)
          go_simp
          go_at_call 15; refine (EI.out A1 c1 _ T o1.sl).mono ?_; rintro r v5 ⟨rfl, hb⟩
          replace X1 := X1.below hb
          replace o1 := o1.below hb
          replace bel := bel_go bel hb
          replace T := T.below hb
          clear hb
          refine hK.out _ _ ?_ (fun hHeld => ?_)
          · exact ⟨X1.c0, X1.c1⟩
          clear hK K
          try simp only [Act.put, Ls]
          refine tk 5 ?_ rfl (Or.inl ⟨by rfl, ?_⟩) ?_
          rotate_left
          · (intro w hSw; go_simp; try (with_reducible rfl))
          try simp only [Act.put, Ls]
          refine tk 6 ?_ rfl (Or.inl ⟨by rfl, ?_⟩) ?_
          rotate_left
          · (intro w hSw; go_simp; try (with_reducible rfl))
          try simp only [Act.put, Ls]
          refine tk 7 ?_ rfl (Or.inl ⟨by rfl, ?_⟩) ?_
          rotate_left
          · (intro w hSw; go_simp; try (with_reducible rfl))
          try simp only [Act.put, Ls]
          refine tk 8 ?_ rfl (Or.inl ⟨by rfl, ?_⟩) ?_
          rotate_left
          · (intro w hSw; go_simp; try (with_reducible rfl))
          try simp only [Act.put, Ls]
          refine rdy 9 rfl (fun K hK => ?_)
          go_simp
          refine hK.out _ _ ?_ (fun hHeld => ?_)
          · exact ⟨X1.c0, X1.c1⟩
          clear hK K
          try simp only [Act.put, Ls]
          refine wpAnyH_done (by kernel_rfl) ?_ _
          obtain ⟨x10, x11, x1f, x1g⟩ := X1
          go_wp2
          all_goals go_ret
          all_goals exact ⟨rfl, bel⟩
        · go_wp2_with fail
          refine (U1.out _ (hT.below bel1).s.f).mono ?_
          rintro r w2 ⟨A1, c1, rfl, o1, hb2⟩
          have bel := bel_al (bel_go bel1 hb2) (.cells #[.bool g, .slice A1 L.length c1] 29)
          have X1 := R2.new w2 (.bool g) (.slice A1 L.length c1) 29
          replace o1 := o1.alloc (.cells #[.bool g, .slice A1 L.length c1] 29)
          replace hs := (hs.below hb2).alloc (.cells #[.bool g, .slice A1 L.length c1] 29)
          obtain ⟨bu, hbu⟩ : ∃ q, q = w2.heap.size := ⟨_, rfl⟩
          rw [← hbu] at X1
          clear hb2
          go_wp2_with fail
          rw [← hbu]
          clear hbu
          refine (U2.out _).mono ?_
          rintro r w3 ⟨A2, c2, rfl, o2, hb3⟩
          replace bel := bel_al (bel_go bel hb3) (.cells #[.bool g, .slice A2 L.length c2] 29)
          replace X1 := (X1.below hb3).alloc (.cells #[.bool g, .slice A2 L.length c2] 29)
          have X2 := R2.new w3 (.bool g) (.slice A2 L.length c2) 29
          replace o1 := (o1.below hb3).alloc (.cells #[.bool g, .slice A2 L.length c2] 29)
          replace o2 := o2.alloc (.cells #[.bool g, .slice A2 L.length c2] 29)
          replace hs := (hs.below hb3).alloc (.cells #[.bool g, .slice A2 L.length c2] 29)
          clear hb3
          obtain ⟨x10, x11, x1f, x1g⟩ := X1
          obtain ⟨x20, x21, x2f, x2g⟩ := X2
          go_wp2_with fail
          refine (same_yes g A1 A2 c1 c2 L _ o1.sl o2.sl hL).mono ?_
          rintro r w4 ⟨rfl, hb⟩
          replace bel := bel_go bel hb
          replace o1 := o1.below hb
          replace o2 := o2.below hb
          replace hs := hs.below hb
          have X1 := (R2.mk x10 x11 x1f x1g).below hb
          have X2 := (R2.mk x20 x21 x2f x2g).below hb
          clear x10 x11 x1f x1g x20 x21 x2f x2g
          clear hb
          go_upto_region 15 with fail
          replace hs := hs.drew
          replace X1 := X1.drew
          replace o1 := o1.drew
          replace bel := Below.drew bel
          have T := hT.below bel
          refine wp_region_held_drew (S := fun w' => w'.cell? ⟨bu, 0, none⟩ = some (.bool g) ∧ w'.cell? ⟨bu, 1, none⟩ = some (.slice A1 L.length c1)) (by kernel_rfl) ?_ (fun hHeld => ?_)
          · exact ⟨X1.c0, X1.c1⟩
          refine tk 0 ?_ rfl (Or.inl ⟨by rfl, ?_⟩) ?_
          rotate_left
          · (intro w hSw; go_simp; try (with_reducible rfl))
          try simp only [Act.put, Ls]
          refine tk 1 ?_ rfl (Or.inl ⟨by rfl, ?_⟩) ?_
          rotate_left
          · (intro w hSw; go_simp; try (with_reducible rfl))
          try simp only [Act.put, Ls]
          refine tk 4 ?_ rfl (Or.inl ⟨by rfl, ?_⟩) ?_
          rotate_left
          · (intro w hSw; (try dsimp only at hSw); obtain ⟨hS0, hS1⟩ := hSw; go_simp; try (with_reducible rfl))
          try simp only [Act.put, Ls]
          refine tk 5 ?_ rfl (Or.inl ⟨by rfl, ?_⟩) ?_
          rotate_left
          · (intro w hSw; go_simp; try (with_reducible rfl))
          try simp only [Act.put, Ls]
          refine rdy 2 rfl (fun K hK => ?_)
          go_simp
          go_at_call 13; refine (byteOf_any ca cc cs 2 (by decide) (by decide) _ hs hby hl).mono ?_; rintro r v1 ⟨v, rfl, v0, v255, hb⟩
          replace X1 := X1.below hb
          replace o1 := o1.below hb
          replace bel := bel_go bel hb
          replace T := T.below hb
          clear hb
          refine hK.out _ _ ?_ (fun hHeld => ?_)
          · exact ⟨X1.c0, X1.c1⟩
          clear hK K
          try simp only [Act.put, Ls]
          have hm6 : Int.tmod v 6 = v % 6 := Int.tmod_eq_emod_of_nonneg v0
          refine tk 3 ?_ rfl (Or.inl ⟨by rfl, ?_⟩) ?_
          rotate_left
          · (intro w hSw; go_simp; try (with_reducible rfl))
          try simp only [Act.put, Ls]
          refine rdy 6 rfl (fun K hK => ?_)
          go_simp
          go_at_call 14; refine (unit32 _).mono ?_; rintro r v2 ⟨rfl, hb⟩
          replace X1 := X1.below hb
          replace o1 := o1.below hb
          replace bel := bel_go bel hb
          replace T := T.below hb
          clear hb
          refine hK.out _ _ ?_ (fun hHeld => ?_)
          · exact ⟨X1.c0, X1.c1⟩
          clear hK K
          try simp only [Act.put, Ls]
          refine rdy 7 rfl (fun K hK => ?_)
          go_simp
          go_at_call 12; refine (RI.out _ A1 c1 _ (hmod v v0) T o1.sl).mono ?_; rintro r v3 ⟨rfl, hb⟩
          replace X1 := X1.below hb
          replace o1 := o1.below hb
          replace bel := bel_go bel hb
          replace T := T.below hb
          clear hb
          refine hK.out _ _ ?_ (fun hHeld => ?_)
          · exact ⟨X1.c0, X1.c1⟩
          clear hK K
          try simp only [Act.put, Ls]
          refine tk 8 ?_ rfl (Or.inl ⟨by rfl, ?_⟩) ?_
          rotate_left
          · (intro w hSw; go_simp; try (with_reducible rfl))
          try simp only [Act.put, Ls]
          refine tk 9 ?_ rfl (Or.inl ⟨by rfl, ?_⟩) ?_
          rotate_left
          · (intro w hSw; go_simp; try (with_reducible rfl))
          try simp only [Act.put, Ls]
          refine tk 10 ?_ rfl (Or.inl ⟨by rfl, ?_⟩) ?_
          rotate_left
          · (intro w hSw; go_simp; try (with_reducible rfl))
          try simp only [Act.put, Ls]
          refine tk 11 ?_ rfl (Or.inl ⟨by rfl, ?_⟩) ?_
          rotate_left
          · (intro w hSw; go_simp; try (with_reducible rfl))
          try simp only [Act.put, Ls]
          refine tk 12 ?_ rfl (Or.inl ⟨by rfl, ?_⟩) ?_
          rotate_left
          · (intro w hSw; go_simp; try (with_reducible rfl))
          try simp only [Act.put, Ls]
          refine tk 13 ?_ rfl (Or.inl ⟨by rfl, ?_⟩) ?_
          rotate_left
          · (intro w hSw; go_simp; try (with_reducible rfl))
          try simp only [Act.put, Ls]
          refine rdy 14 rfl (fun K hK => ?_)
          go_simp
          refine hK.out _ _ ?_ (fun hHeld => ?_)
          · exact ⟨X1.c0, X1.c1⟩
          clear hK K
          try simp only [Act.put, Ls]
          refine wpAnyH_done (by kernel_rfl) ?_ _
          go_upto_region 10 with fail
          replace X1 := X1.drew
          replace o1 := o1.drew
          replace bel := Below.drew bel
          replace T := T.dr
          refine wp_region_held_drew (S := fun w' => w'.cell? ⟨bu, 0, none⟩ = some (.bool g) ∧ w'.cell? ⟨bu, 1, none⟩ = some (.slice A1 L.length c1)) (by kernel_rfl) ?_ (fun hHeld => ?_)
          · exact ⟨X1.c0, X1.c1⟩
          refine tk 0 ?_ rfl (Or.inl ⟨by rfl, ?_⟩) ?_
          rotate_left
          · (intro w hSw; go_simp; try (with_reducible rfl))
          try simp only [Act.put, Ls]
          refine tk 1 ?_ rfl (Or.inl ⟨by rfl, ?_⟩) ?_
          rotate_left
          · (intro w hSw; (try dsimp only at hSw); obtain ⟨hS0, hS1⟩ := hSw; go_simp; try (with_reducible rfl))
          try simp only [Act.put, Ls]
          refine tk 2 ?_ rfl (Or.inl ⟨by rfl, ?_⟩) ?_
          rotate_left
          · (intro w hSw; go_simp; try (with_reducible rfl))
          try simp only [Act.put, Ls]
          refine rdy 3 rfl (fun K hK => ?_)
          go_simp
          go_at_call 14; refine (unit32 _).mono ?_; rintro r v4 ⟨rfl, hb⟩
          replace X1 := X1.below hb
          replace o1 := o1.below hb
          replace bel := bel_go bel hb
          replace T := T.below hb
          clear hb
          refine hK.out _ _ ?_ (fun hHeld => ?_)
          · exact ⟨X1.c0, X1.c1⟩
          clear hK K
          try simp only [Act.put, Ls]
          refine rdy 4 rfl (fun K hK => ?_)
          go_simp
          go_at_call 15; refine (EI.out A1 c1 _ T o1.sl).mono ?_; rintro r v5 ⟨rfl, hb⟩
          replace X1 := X1.below hb
          replace o1 := o1.below hb
          replace bel := bel_go bel hb
          replace T := T.below hb
          clear hb
          refine hK.out _ _ ?_ (fun hHeld => ?_)
          · exact ⟨X1.c0, X1.c1⟩
          clear hK K
          try simp only [Act.put, Ls]
          refine tk 5 ?_ rfl (Or.inl ⟨by rfl, ?_⟩) ?_
          rotate_left
          · (intro w hSw; go_simp; try (with_reducible rfl))
          try simp only [Act.put, Ls]
          refine tk 6 ?_ rfl (Or.inl ⟨by rfl, ?_⟩) ?_
          rotate_left
          · (intro w hSw; go_simp; try (with_reducible rfl))
          try simp only [Act.put, Ls]
          refine tk 7 ?_ rfl (Or.inl ⟨by rfl, ?_⟩) ?_
          rotate_left
          · (intro w hSw; go_simp; try (with_reducible rfl))
          try simp only [Act.put, Ls]
          refine tk 8 ?_ rfl (Or.inl ⟨by rfl, ?_⟩) ?_
          rotate_left
          · (intro w hSw; go_simp; try (with_reducible rfl))
          try simp only [Act.put, Ls]
          refine rdy 9 rfl (fun K hK => ?_)
          go_simp
          refine hK.out _ _ ?_ (fun hHeld => ?_)
          · exact ⟨X1.c0, X1.c1⟩
          clear hK K
          try simp only [Act.put, Ls]
          refine wpAnyH_done (by kernel_rfl) ?_ _
          obtain ⟨x10, x11, x1f, x1g⟩ := X1
          go_wp2
          all_goals go_ret
          all_goals exact ⟨rfl, bel⟩
      · rw [if_neg hz] at RI EI
        clear hz hz0
        have ex : (x == x) = true := by simp
        go_wp2_with fail
        refine (U1.out _ (hT.below bel1).s.f).mono ?_
        rintro r w2 ⟨A1, c1, rfl, o1, hb2⟩
        have bel := bel_al (bel_go bel1 hb2) (.cells #[.bool g, .slice A1 L.length c1] 29)
        have X1 := R2.new w2 (.bool g) (.slice A1 L.length c1) 29
        replace o1 := o1.alloc (.cells #[.bool g, .slice A1 L.length c1] 29)
        replace hs := (hs.below hb2).alloc (.cells #[.bool g, .slice A1 L.length c1] 29)
        obtain ⟨bu, hbu⟩ : ∃ q, q = w2.heap.size := ⟨_, rfl⟩
        rw [← hbu] at X1
        clear hb2
        go_wp2_with fail
        rw [← hbu]
        clear hbu
        refine (U2.out _).mono ?_
        rintro r w3 ⟨A2, c2, rfl, o2, hb3⟩
        replace bel := bel_al (bel_go bel hb3) (.cells #[.bool g, .slice A2 L.length c2] 29)
        replace X1 := (X1.below hb3).alloc (.cells #[.bool g, .slice A2 L.length c2] 29)
        have X2 := R2.new w3 (.bool g) (.slice A2 L.length c2) 29
        replace o1 := (o1.below hb3).alloc (.cells #[.bool g, .slice A2 L.length c2] 29)
        replace o2 := o2.alloc (.cells #[.bool g, .slice A2 L.length c2] 29)
        replace hs := (hs.below hb3).alloc (.cells #[.bool g, .slice A2 L.length c2] 29)
        clear hb3
        obtain ⟨x10, x11, x1f, x1g⟩ := X1
        obtain ⟨x20, x21, x2f, x2g⟩ := X2
        go_wp2_with fail
        refine (same_yes g A1 A2 c1 c2 L _ o1.sl o2.sl hL).mono ?_
        rintro r w4 ⟨rfl, hb⟩
        replace bel := bel_go bel hb
        replace o1 := o1.below hb
        replace o2 := o2.below hb
        replace hs := hs.below hb
        have X1 := (R2.mk x10 x11 x1f x1g).below hb
        have X2 := (R2.mk x20 x21 x2f x2g).below hb
        clear x10 x11 x1f x1g x20 x21 x2f x2g
        clear hb
        go_upto_region 15 with fail
        replace hs := hs.drew
        replace X1 := X1.drew
        replace o1 := o1.drew
        replace bel := Below.drew bel
        have T := hT.below bel
        refine wp_region_held_drew (S := fun w' => w'.cell? ⟨bu, 0, none⟩ = some (.bool g) ∧ w'.cell? ⟨bu, 1, none⟩ = some (.slice A1 L.length c1)) (by kernel_rfl) ?_ (fun hHeld => ?_)
        · exact ⟨X1.c0, X1.c1⟩
        refine tk 0 ?_ rfl (Or.inl ⟨by rfl, ?_⟩) ?_
        rotate_left
        · (intro w hSw; go_simp; try (with_reducible rfl))
        try simp only [Act.put, Ls]
        refine tk 1 ?_ rfl (Or.inl ⟨by rfl, ?_⟩) ?_
        rotate_left
        · (intro w hSw; go_simp; try (with_reducible rfl))
        try simp only [Act.put, Ls]
        refine tk 4 ?_ rfl (Or.inl ⟨by rfl, ?_⟩) ?_
        rotate_left
        · (intro w hSw; (try dsimp only at hSw); obtain ⟨hS0, hS1⟩ := hSw; go_simp; try (with_reducible rfl))
        try simp only [Act.put, Ls]
        refine tk 5 ?_ rfl (Or.inl ⟨by rfl, ?_⟩) ?_
        rotate_left
        · (intro w hSw; go_simp; try (with_reducible rfl))
        try simp only [Act.put, Ls]
        refine rdy 2 rfl (fun K hK => ?_)
        go_simp
        go_at_call 13; refine (byteOf_any ca cc cs 2 (by decide) (by decide) _ hs hby hl).mono ?_; rintro r v1 ⟨v, rfl, v0, v255, hb⟩
        replace X1 := X1.below hb
        replace o1 := o1.below hb
        replace bel := bel_go bel hb
        replace T := T.below hb
        clear hb
        refine hK.out _ _ ?_ (fun hHeld => ?_)
        · exact ⟨X1.c0, X1.c1⟩
        clear hK K
        try simp only [Act.put, Ls]
        have hm6 : Int.tmod v 6 = v % 6 := Int.tmod_eq_emod_of_nonneg v0
        refine tk 3 ?_ rfl (Or.inl ⟨by rfl, ?_⟩) ?_
        rotate_left
        · (intro w hSw; go_simp; try (with_reducible rfl))
        try simp only [Act.put, Ls]
        refine rdy 6 rfl (fun K hK => ?_)
        go_simp
        go_at_call 14; refine (unit32 _).mono ?_; rintro r v2 ⟨rfl, hb⟩
        replace X1 := X1.below hb
        replace o1 := o1.below hb
        replace bel := bel_go bel hb
        replace T := T.below hb
        clear hb
        refine hK.out _ _ ?_ (fun hHeld => ?_)
        · exact ⟨X1.c0, X1.c1⟩
        clear hK K
        try simp only [Act.put, Ls]
        refine rdy 7 rfl (fun K hK => ?_)
        go_simp
        go_at_call 12; refine (RI.out _ A1 c1 _ (hmod v v0) T o1.sl).mono ?_; rintro r v3 ⟨rfl, hb⟩
        replace X1 := X1.below hb
        replace o1 := o1.below hb
        replace bel := bel_go bel hb
        replace T := T.below hb
        clear hb
        refine hK.out _ _ ?_ (fun hHeld => ?_)
        · exact ⟨X1.c0, X1.c1⟩
        clear hK K
        try simp only [Act.put, Ls]
        refine tk 8 ?_ rfl (Or.inl ⟨by rfl, ?_⟩) ?_
        rotate_left
        · (intro w hSw; go_simp; try (with_reducible rfl))
        try simp only [Act.put, Ls]
        refine tk 9 ?_ rfl (Or.inl ⟨by rfl, ?_⟩) ?_
        rotate_left
        · (intro w hSw; go_simp; try (with_reducible rfl))
        try simp only [Act.put, Ls]
        refine tk 10 ?_ rfl (Or.inl ⟨by rfl, ?_⟩) ?_
        rotate_left
        · (intro w hSw; go_simp; try (with_reducible rfl))
        try simp only [Act.put, Ls]
        refine tk 11 ?_ rfl (Or.inl ⟨by rfl, ?_⟩) ?_
        rotate_left
        · (intro w hSw; go_simp; try (with_reducible rfl))
        try simp only [Act.put, Ls]
        refine tk 12 ?_ rfl (Or.inl ⟨by rfl, ?_⟩) ?_
        rotate_left
        · (intro w hSw; go_simp; try (with_reducible rfl))
        try simp only [Act.put, Ls]
        refine tk 13 ?_ rfl (Or.inl ⟨by rfl, ?_⟩) ?_
        rotate_left
        · (intro w hSw; go_simp; try (with_reducible rfl))
        try simp only [Act.put, Ls]
        refine rdy 14 rfl (fun K hK => ?_)
        go_simp
        refine hK.out _ _ ?_ (fun hHeld => ?_)
        · exact ⟨X1.c0, X1.c1⟩
        clear hK K
        try simp only [Act.put, Ls]
        refine wpAnyH_done (by kernel_rfl) ?_ _
        go_upto_region 10 with fail
        replace X1 := X1.drew
        replace o1 := o1.drew
        replace bel := Below.drew bel
        replace T := T.dr
        refine wp_region_held_drew (S := fun w' => w'.cell? ⟨bu, 0, none⟩ = some (.bool g) ∧ w'.cell? ⟨bu, 1, none⟩ = some (.slice A1 L.length c1)) (by kernel_rfl) ?_ (fun hHeld => ?_)
        · exact ⟨X1.c0, X1.c1⟩
        refine tk 0 ?_ rfl (Or.inl ⟨by rfl, ?_⟩) ?_
        rotate_left
        · (intro w hSw; go_simp; try (with_reducible rfl))
        try simp only [Act.put, Ls]
        refine tk 1 ?_ rfl (Or.inl ⟨by rfl, ?_⟩) ?_
        rotate_left
        · (intro w hSw; (try dsimp only at hSw); obtain ⟨hS0, hS1⟩ := hSw; go_simp; try (with_reducible rfl))
        try simp only [Act.put, Ls]
        refine tk 2 ?_ rfl (Or.inl ⟨by rfl, ?_⟩) ?_
        rotate_left
        · (intro w hSw; go_simp; try (with_reducible rfl))
        try simp only [Act.put, Ls]
        refine rdy 3 rfl (fun K hK => ?_)
        go_simp
        go_at_call 14; refine (unit32 _).mono ?_; rintro r v4 ⟨rfl, hb⟩
        replace X1 := X1.below hb
        replace o1 := o1.below hb
        replace bel := bel_go bel hb
        replace T := T.below hb
        clear hb
        refine hK.out _ _ ?_ (fun hHeld => ?_)
        · exact ⟨X1.c0, X1.c1⟩
        clear hK K
        try simp only [Act.put, Ls]
        refine rdy 4 rfl (fun K hK => ?_)
        go_simp
        go_at_call 15; refine (EI.out A1 c1 _ T o1.sl).mono ?_; rintro r v5 ⟨rfl, hb⟩
        replace X1 := X1.below hb
        replace o1 := o1.below hb
        replace bel := bel_go bel hb
        replace T := T.below hb
        clear hb
        refine hK.out _ _ ?_ (fun hHeld => ?_)
        · exact ⟨X1.c0, X1.c1⟩
        clear hK K
        try simp only [Act.put, Ls]
        refine tk 5 ?_ rfl (Or.inl ⟨by rfl, ?_⟩) ?_
        rotate_left
        · (intro w hSw; go_simp; try (with_reducible rfl))
        try simp only [Act.put, Ls]
        refine tk 6 ?_ rfl (Or.inl ⟨by rfl, ?_⟩) ?_
        rotate_left
        · (intro w hSw; go_simp; try (with_reducible rfl))
        try simp only [Act.put, Ls]
        refine tk 7 ?_ rfl (Or.inl ⟨by rfl, ?_⟩) ?_
        rotate_left
        · (intro w hSw; go_simp; try (with_reducible rfl))
        try simp only [Act.put, Ls]
        refine tk 8 ?_ rfl (Or.inl ⟨by rfl, ?_⟩) ?_
        rotate_left
        · (intro w hSw; go_simp; try (with_reducible rfl))
        try simp only [Act.put, Ls]
        refine rdy 9 rfl (fun K hK => ?_)
        go_simp
        refine hK.out _ _ ?_ (fun hHeld => ?_)
        · exact ⟨X1.c0, X1.c1⟩
        clear hK K
        try simp only [Act.put, Ls]
        refine wpAnyH_done (by kernel_rfl) ?_ _
        obtain ⟨x10, x11, x1f, x1g⟩ := X1
        go_wp2
        all_goals go_ret
        all_goals exact ⟨rfl, bel⟩
    · clear hfm
      have hx1 : x < 18446744073709551616 := x1
      have hRd := fun md hm => Rd_un64 x0 hx1 hf md hm
      have hz0 := (hRd 1 (by decide)).2.2.2
      have hmod : ∀ v : Int, 0 ≤ v → modeB (v % 6) = true := fun v h => by unfold modeB; simp; omega
      have RI := hid (fun v p c w' (hv : modeB (v % 6) = true) h h' => rounded_impl 64 (v % 6) (Nm.wn (unI 64 x)) (Nm.wl (unI 64 x)) (-1074) p c w' h h' (Nm.wl_dg _) hL)
      have RI' := hid (fun v p c w' (hv : modeB (v % 6) = true) h h' => by
        have C := RI.out v p c w' hv h h'
        obtain ⟨r1, r2, r3, -⟩ := hRd (v % 6) hv
        rw [r1, r2, r3] at C
        exact C)
      have EI := hid (fun p c w' h h' => exact_impl 64 (Nm.wn (unI 64 x)) (Nm.wl (unI 64 x)) (-1074) p c w' h h' (Nm.wl_dg _) hL)
      have eO : EfO 64 (Nm.wn (unI 64 x)) (Nm.wl (unI 64 x)) (-1074) = true := by
        unfold EfO
        rw [(hRd 1 (by decide)).1, (hRd 1 (by decide)).2.2.1]; rfl
      have eB : EfB 64 (Nm.wn (unI 64 x)) (Nm.wl (unI 64 x)) (-1074) = if x % 9223372036854775808 = 0 then 0 else x := by
        unfold EfB
        rw [eO, if_pos rfl, (hRd 1 (by decide)).2.1]
      rw [eO, eB] at EI
      clear RI eO eB hRd
      have RI := RI'
      clear RI'
      obtain ⟨g, hg⟩ : ∃ t, t = Nm.wn (unI 64 x) := ⟨_, rfl⟩
      obtain ⟨L, hL'⟩ : ∃ t, t = Nm.wl (unI 64 x) := ⟨_, rfl⟩
      rw [← hg, ← hL'] at U1 U2 RI EI
      rw [← hL'] at hL hz0
      clear hf hg hL'
      by_cases hz : x % 9223372036854775808 = 0
      · have hn0 := hz0.2 hz
        rw [if_pos hz] at RI EI
        clear hz hz0
        have e0 : ((L.length : Int) == 0) = true := by rw [beq_iff_eq]; omega
        clear hn0
        cases ex : ((0 : Int) == x)
        · go_wp2_with fail
          refine (U1.out _ (hT.below bel1).s.f).mono ?_
          rintro r w2 ⟨A1, c1, rfl, o1, hb2⟩
          have bel := bel_al (bel_go bel1 hb2) (.cells #[.bool g, .slice A1 L.length c1] 29)
          have X1 := R2.new w2 (.bool g) (.slice A1 L.length c1) 29
          replace o1 := o1.alloc (.cells #[.bool g, .slice A1 L.length c1] 29)
          replace hs := (hs.below hb2).alloc (.cells #[.bool g, .slice A1 L.length c1] 29)
          obtain ⟨bu, hbu⟩ : ∃ q, q = w2.heap.size := ⟨_, rfl⟩
          rw [← hbu] at X1
          clear hb2
          go_wp2_with fail
          rw [← hbu]
          clear hbu
          refine (U2.out _).mono ?_
          rintro r w3 ⟨A2, c2, rfl, o2, hb3⟩
          replace bel := bel_al (bel_go bel hb3) (.cells #[.bool g, .slice A2 L.length c2] 29)
          replace X1 := (X1.below hb3).alloc (.cells #[.bool g, .slice A2 L.length c2] 29)
          have X2 := R2.new w3 (.bool g) (.slice A2 L.length c2) 29
          replace o1 := (o1.below hb3).alloc (.cells #[.bool g, .slice A2 L.length c2] 29)
          replace o2 := o2.alloc (.cells #[.bool g, .slice A2 L.length c2] 29)
          replace hs := (hs.below hb3).alloc (.cells #[.bool g, .slice A2 L.length c2] 29)
          clear hb3
          obtain ⟨x10, x11, x1f, x1g⟩ := X1
          obtain ⟨x20, x21, x2f, x2g⟩ := X2
          go_wp2_with fail
          refine (same_yes g A1 A2 c1 c2 L _ o1.sl o2.sl hL).mono ?_
          rintro r w4 ⟨rfl, hb⟩
          replace bel := bel_go bel hb
          replace o1 := o1.below hb
          replace o2 := o2.below hb
          replace hs := hs.below hb
          have X1 := (R2.mk x10 x11 x1f x1g).below hb
          have X2 := (R2.mk x20 x21 x2f x2g).below hb
          clear x10 x11 x1f x1g x20 x21 x2f x2g
          clear hb
          go_upto_region 15 with fail
          replace hs := hs.drew
          replace X1 := X1.drew
          replace o1 := o1.drew
          replace bel := Below.drew bel
          have T := hT.below bel
          refine wp_region_held_drew (S := fun w' => w'.cell? ⟨bu, 0, none⟩ = some (.bool g) ∧ w'.cell? ⟨bu, 1, none⟩ = some (.slice A1 L.length c1)) (by kernel_rfl) ?_ (fun hHeld => ?_)
          · exact ⟨X1.c0, X1.c1⟩
          refine tk 0 ?_ rfl (Or.inl ⟨by rfl, ?_⟩) ?_
          rotate_left
          · (intro w hSw; go_simp; try (with_reducible rfl))
          try simp only [Act.put, Ls]
          refine tk 1 ?_ rfl (Or.inl ⟨by rfl, ?_⟩) ?_
          rotate_left
          · (intro w hSw; go_simp; try (with_reducible rfl))
          try simp only [Act.put, Ls]
          refine tk 4 ?_ rfl (Or.inl ⟨by rfl, ?_⟩) ?_
          rotate_left
          · (intro w hSw; (try dsimp only at hSw); obtain ⟨hS0, hS1⟩ := hSw; go_simp; try (with_reducible rfl))
          try simp only [Act.put, Ls]
          refine tk 5 ?_ rfl (Or.inl ⟨by rfl, ?_⟩) ?_
          rotate_left
          · (intro w hSw; go_simp; try (with_reducible rfl))
          try simp only [Act.put, Ls]
          refine rdy 2 rfl (fun K hK => ?_)
          go_simp
          go_at_call 13; refine (byteOf_any ca cc cs 2 (by decide) (by decide) _ hs hby hl).mono ?_; rintro r v1 ⟨v, rfl, v0, v255, hb⟩
          replace X1 := X1.below hb
          replace o1 := o1.below hb
          replace bel := bel_go bel hb
          replace T := T.below hb
          clear hb
          refine hK.out _ _ ?_ (fun hHeld => ?_)
          · exact ⟨X1.c0, X1.c1⟩
          clear hK K
          try simp only [Act.put, Ls]
          have hm6 : Int.tmod v 6 = v % 6 := Int.tmod_eq_emod_of_nonneg v0
          refine tk 3 ?_ rfl (Or.inl ⟨by rfl, ?_⟩) ?_
          rotate_left
          · (intro w hSw; go_simp; try (with_reducible rfl))
          try simp only [Act.put, Ls]
          refine rdy 6 rfl (fun K hK => ?_)
          go_simp
          go_at_call 14; refine (unit64 _).mono ?_; rintro r v2 ⟨rfl, hb⟩
          replace X1 := X1.below hb
          replace o1 := o1.below hb
          replace bel := bel_go bel hb
          replace T := T.below hb
          clear hb
          refine hK.out _ _ ?_ (fun hHeld => ?_)
          · exact ⟨X1.c0, X1.c1⟩
          clear hK K
          try simp only [Act.put, Ls]
          refine rdy 7 rfl (fun K hK => ?_)
          go_simp
          go_at_call 12; refine (RI.out _ A1 c1 _ (hmod v v0) T o1.sl).mono ?_; rintro r v3 ⟨rfl, hb⟩
          replace X1 := X1.below hb
          replace o1 := o1.below hb
          replace bel := bel_go bel hb
          replace T := T.below hb
          clear hb
          refine hK.out _ _ ?_ (fun hHeld => ?_)
          · exact ⟨X1.c0, X1.c1⟩
          clear hK K
          try simp only [Act.put, Ls]
          refine tk 8 ?_ rfl (Or.inl ⟨by rfl, ?_⟩) ?_
          rotate_left
          · (intro w hSw; go_simp; try (with_reducible rfl))
          try simp only [Act.put, Ls]
          refine tk 9 ?_ rfl (Or.inl ⟨by rfl, ?_⟩) ?_
          rotate_left
          · (intro w hSw; go_simp; try (with_reducible rfl))
          try simp only [Act.put, Ls]
          refine tk 10 ?_ rfl (Or.inl ⟨by rfl, ?_⟩) ?_
          rotate_left
          · (intro w hSw; go_simp; try (with_reducible rfl))
          try simp only [Act.put, Ls]
          refine tk 11 ?_ rfl (Or.inl ⟨by rfl, ?_⟩) ?_
          rotate_left
          · (intro w hSw; go_simp; try (with_reducible rfl))
          try simp only [Act.put, Ls]
          refine tk 12 ?_ rfl (Or.inl ⟨by rfl, ?_⟩) ?_
          rotate_left
          · (intro w hSw; go_simp; try (with_reducible rfl))
          try simp only [Act.put, Ls]
          refine tk 13 ?_ rfl (Or.inl ⟨by rfl, ?_⟩) ?_
          rotate_left
          · (intro w hSw; go_simp; try (with_reducible rfl))
          try simp only [Act.put, Ls]
          refine rdy 14 rfl (fun K hK => ?_)
          go_simp
          refine hK.out _ _ ?_ (fun hHeld => ?_)
          · exact ⟨X1.c0, X1.c1⟩
          clear hK K
          try simp only [Act.put, Ls]
          refine wpAnyH_done (by kernel_rfl) ?_ _
          go_upto_region 10 with fail
          replace X1 := X1.drew
          replace o1 := o1.drew
          replace bel := Below.drew bel
          replace T := T.dr
          refine wp_region_held_drew (S := fun w' => w'.cell? ⟨bu, 0, none⟩ = some (.bool g) ∧ w'.cell? ⟨bu, 1, none⟩ = some (.slice A1 L.length c1)) (by kernel_rfl) ?_ (fun hHeld => ?_)
          · exact ⟨X1.c0, X1.c1⟩
          refine tk 0 ?_ rfl (Or.inl ⟨by rfl, ?_⟩) ?_
          rotate_left
          · (intro w hSw; go_simp; try (with_reducible rfl))
          try simp only [Act.put, Ls]
          refine tk 1 ?_ rfl (Or.inl ⟨by rfl, ?_⟩) ?_
          rotate_left
          · (intro w hSw; (try dsimp only at hSw); obtain ⟨hS0, hS1⟩ := hSw; go_simp; try (with_reducible rfl))
          try simp only [Act.put, Ls]
          refine tk 2 ?_ rfl (Or.inl ⟨by rfl, ?_⟩) ?_
          rotate_left
          · (intro w hSw; go_simp; try (with_reducible rfl))
          try simp only [Act.put, Ls]
          refine rdy 3 rfl (fun K hK => ?_)
          go_simp
          go_at_call 14; refine (unit64 _).mono ?_; rintro r v4 ⟨rfl, hb⟩
          replace X1 := X1.below hb
          replace o1 := o1.below hb
          replace bel := bel_go bel hb
          replace T := T.below hb
          clear hb
          refine hK.out _ _ ?_ (fun hHeld => ?_)
          · exact ⟨X1.c0, X1.c1⟩
          clear hK K
          try simp only [Act.put, Ls]
          refine rdy 4 rfl (fun K hK => ?_)
          go_simp
          go_at_call 15; refine (EI.out A1 c1 _ T o1.sl).mono ?_; rintro r v5 ⟨rfl, hb⟩
          replace X1 := X1.below hb
          replace o1 := o1.below hb
          replace bel := bel_go bel hb
          replace T := T.below hb
          clear hb
          refine hK.out _ _ ?_ (fun hHeld => ?_)
          · exact ⟨X1.c0, X1.c1⟩
          clear hK K
          try simp only [Act.put, Ls]
          refine tk 5 ?_ rfl (Or.inl ⟨by rfl, ?_⟩) ?_
          rotate_left
          · (intro w hSw; go_simp; try (with_reducible rfl))
          try simp only [Act.put, Ls]
          refine tk 6 ?_ rfl (Or.inl ⟨by rfl, ?_⟩) ?_
          rotate_left
          · (intro w hSw; go_simp; try (with_reducible rfl))
          try simp only [Act.put, Ls]
          refine tk 7 ?_ rfl (Or.inl ⟨by rfl, ?_⟩) ?_
          rotate_left
          · (intro w hSw; go_simp; try (with_reducible rfl))
          try simp only [Act.put, Ls]
          refine tk 8 ?_ rfl (Or.inl ⟨by rfl, ?_⟩) ?_
          rotate_left
          · (intro w hSw; go_simp; try (with_reducible rfl))
          try simp only [Act.put, Ls]
          refine rdy 9 rfl (fun K hK => ?_)
          go_simp
          refine hK.out _ _ ?_ (fun hHeld => ?_)
          · exact ⟨X1.c0, X1.c1⟩
          clear hK K
          try simp only [Act.put, Ls]
          refine wpAnyH_done (by kernel_rfl) ?_ _
          obtain ⟨x10, x11, x1f, x1g⟩ := X1
          go_wp2
          all_goals go_ret
          all_goals exact ⟨rfl, bel⟩
        · go_wp2_with fail
          refine (U1.out _ (hT.below bel1).s.f).mono ?_
          rintro r w2 ⟨A1, c1, rfl, o1, hb2⟩
          have bel := bel_al (bel_go bel1 hb2) (.cells #[.bool g, .slice A1 L.length c1] 29)
          have X1 := R2.new w2 (.bool g) (.slice A1 L.length c1) 29
          replace o1 := o1.alloc (.cells #[.bool g, .slice A1 L.length c1] 29)
          replace hs := (hs.below hb2).alloc (.cells #[.bool g, .slice A1 L.length c1] 29)
          obtain ⟨bu, hbu⟩ : ∃ q, q = w2.heap.size := ⟨_, rfl⟩
          rw [← hbu] at X1
          clear hb2
          go_wp2_with fail
          rw [← hbu]
          clear hbu
          refine (U2.out _).mono ?_
          rintro r w3 ⟨A2, c2, rfl, o2, hb3⟩
          replace bel := bel_al (bel_go bel hb3) (.cells #[.bool g, .slice A2 L.length c2] 29)
          replace X1 := (X1.below hb3).alloc (.cells #[.bool g, .slice A2 L.length c2] 29)
          have X2 := R2.new w3 (.bool g) (.slice A2 L.length c2) 29
          replace o1 := (o1.below hb3).alloc (.cells #[.bool g, .slice A2 L.length c2] 29)
          replace o2 := o2.alloc (.cells #[.bool g, .slice A2 L.length c2] 29)
          replace hs := (hs.below hb3).alloc (.cells #[.bool g, .slice A2 L.length c2] 29)
          clear hb3
          obtain ⟨x10, x11, x1f, x1g⟩ := X1
          obtain ⟨x20, x21, x2f, x2g⟩ := X2
          go_wp2_with fail
          refine (same_yes g A1 A2 c1 c2 L _ o1.sl o2.sl hL).mono ?_
          rintro r w4 ⟨rfl, hb⟩
          replace bel := bel_go bel hb
          replace o1 := o1.below hb
          replace o2 := o2.below hb
          replace hs := hs.below hb
          have X1 := (R2.mk x10 x11 x1f x1g).below hb
          have X2 := (R2.mk x20 x21 x2f x2g).below hb
          clear x10 x11 x1f x1g x20 x21 x2f x2g
          clear hb
          go_upto_region 15 with fail
          replace hs := hs.drew
          replace X1 := X1.drew
          replace o1 := o1.drew
          replace bel := Below.drew bel
          have T := hT.below bel
          refine wp_region_held_drew (S := fun w' => w'.cell? ⟨bu, 0, none⟩ = some (.bool g) ∧ w'.cell? ⟨bu, 1, none⟩ = some (.slice A1 L.length c1)) (by kernel_rfl) ?_ (fun hHeld => ?_)
          · exact ⟨X1.c0, X1.c1⟩
          refine tk 0 ?_ rfl (Or.inl ⟨by rfl, ?_⟩) ?_
          rotate_left
          · (intro w hSw; go_simp; try (with_reducible rfl))
          try simp only [Act.put, Ls]
          refine tk 1 ?_ rfl (Or.inl ⟨by rfl, ?_⟩) ?_
          rotate_left
          · (intro w hSw; go_simp; try (with_reducible rfl))
          try simp only [Act.put, Ls]
          refine tk 4 ?_ rfl (Or.inl ⟨by rfl, ?_⟩) ?_
          rotate_left
          · (intro w hSw; (try dsimp only at hSw); obtain ⟨hS0, hS1⟩ := hSw; go_simp; try (with_reducible rfl))
          try simp only [Act.put, Ls]
          refine tk 5 ?_ rfl (Or.inl ⟨by rfl, ?_⟩) ?_
          rotate_left
          · (intro w hSw; go_simp; try (with_reducible rfl))
          try simp only [Act.put, Ls]
          refine rdy 2 rfl (fun K hK => ?_)
          go_simp
          go_at_call 13; refine (byteOf_any ca cc cs 2 (by decide) (by decide) _ hs hby hl).mono ?_; rintro r v1 ⟨v, rfl, v0, v255, hb⟩
          replace X1 := X1.below hb
          replace o1 := o1.below hb
          replace bel := bel_go bel hb
          replace T := T.below hb
          clear hb
          refine hK.out _ _ ?_ (fun hHeld => ?_)
          · exact ⟨X1.c0, X1.c1⟩
          clear hK K
          try simp only [Act.put, Ls]
          have hm6 : Int.tmod v 6 = v % 6 := Int.tmod_eq_emod_of_nonneg v0
          refine tk 3 ?_ rfl (Or.inl ⟨by rfl, ?_⟩) ?_
          rotate_left
          · (intro w hSw; go_simp; try (with_reducible rfl))
          try simp only [Act.put, Ls]
          refine rdy 6 rfl (fun K hK => ?_)
          go_simp
          go_at_call 14; refine (unit64 _).mono ?_; rintro r v2 ⟨rfl, hb⟩
          replace X1 := X1.below hb
          replace o1 := o1.below hb
          replace bel := bel_go bel hb
          replace T := T.below hb
          clear hb
          refine hK.out _ _ ?_ (fun hHeld => ?_)
          · exact ⟨X1.c0, X1.c1⟩
          clear hK K
          try simp only [Act.put, Ls]
          refine rdy 7 rfl (fun K hK => ?_)
          go_simp
          go_at_call 12; refine (RI.out _ A1 c1 _ (hmod v v0) T o1.sl).mono ?_; rintro r v3 ⟨rfl, hb⟩
          replace X1 := X1.below hb
          replace o1 := o1.below hb
          replace bel := bel_go bel hb
          replace T := T.below hb
          clear hb
          refine hK.out _ _ ?_ (fun hHeld => ?_)
          · exact ⟨X1.c0, X1.c1⟩
          clear hK K
          try simp only [Act.put, Ls]
          refine tk 8 ?_ rfl (Or.inl ⟨by rfl, ?_⟩) ?_
          rotate_left
          · (intro w hSw; go_simp; try (with_reducible rfl))
          try simp only [Act.put, Ls]
          refine tk 9 ?_ rfl (Or.inl ⟨by rfl, ?_⟩) ?_
          rotate_left
          · (intro w hSw; go_simp; try (with_reducible rfl))
          try simp only [Act.put, Ls]
          refine tk 10 ?_ rfl (Or.inl ⟨by rfl, ?_⟩) ?_
          rotate_left
          · (intro w hSw; go_simp; try (with_reducible rfl))
          try simp only [Act.put, Ls]
          refine tk 11 ?_ rfl (Or.inl ⟨by rfl, ?_⟩) ?_
          rotate_left
          · (intro w hSw; go_simp; try (with_reducible rfl))
          try simp only [Act.put, Ls]
          refine tk 12 ?_ rfl (Or.inl ⟨by rfl, ?_⟩) ?_
          rotate_left
          · (intro w hSw; go_simp; try (with_reducible rfl))
          try simp only [Act.put, Ls]
          refine tk 13 ?_ rfl (Or.inl ⟨by rfl, ?_⟩) ?_
          rotate_left
          · (intro w hSw; go_simp; try (with_reducible rfl))
          try simp only [Act.put, Ls]
          refine rdy 14 rfl (fun K hK => ?_)
          go_simp
          refine hK.out _ _ ?_ (fun hHeld => ?_)
          · exact ⟨X1.c0, X1.c1⟩
          clear hK K
          try simp only [Act.put, Ls]
          refine wpAnyH_done (by kernel_rfl) ?_ _
          go_upto_region 10 with fail
          replace X1 := X1.drew
          replace o1 := o1.drew
          replace bel := Below.drew bel
          replace T := T.dr
          refine wp_region_held_drew (S := fun w' => w'.cell? ⟨bu, 0, none⟩ = some (.bool g) ∧ w'.cell? ⟨bu, 1, none⟩ = some (.slice A1 L.length c1)) (by kernel_rfl) ?_ (fun hHeld => ?_)
          · exact ⟨X1.c0, X1.c1⟩
          refine tk 0 ?_ rfl (Or.inl ⟨by rfl, ?_⟩) ?_
          rotate_left
          · (intro w hSw; go_simp; try (with_reducible rfl))
          try simp only [Act.put, Ls]
          refine tk 1 ?_ rfl (Or.inl ⟨by rfl, ?_⟩) ?_
          rotate_left
          · (intro w hSw; (try dsimp only at hSw); obtain ⟨hS0, hS1⟩ := hSw; go_simp; try (with_reducible rfl))
          try simp only [Act.put, Ls]
          refine tk 2 ?_ rfl (Or.inl ⟨by rfl, ?_⟩) ?_
          rotate_left
          · (intro w hSw; go_simp; try (with_reducible rfl))
          try simp only [Act.put, Ls]
          refine rdy 3 rfl (fun K hK => ?_)
          go_simp
          go_at_call 14; refine (unit64 _).mono ?_; rintro r v4 ⟨rfl, hb⟩
          replace X1 := X1.below hb
          replace o1 := o1.below hb
          replace bel := bel_go bel hb
          replace T := T.below hb
          clear hb
          refine hK.out _ _ ?_ (fun hHeld => ?_)
          · exact ⟨X1.c0, X1.c1⟩
          clear hK K
          try simp only [Act.put, Ls]
          refine rdy 4 rfl (fun K hK => ?_)
          go_simp
          go_at_call 15; refine (EI.out A1 c1 _ T o1.sl).mono ?_; rintro r v5 ⟨rfl, hb⟩
          replace X1 := X1.below hb
          replace o1 := o1.below hb
          replace bel := bel_go bel hb
          replace T := T.below hb
          clear hb
          refine hK.out _ _ ?_ (fun hHeld => ?_)
          · exact ⟨X1.c0, X1.c1⟩
          clear hK K
          try simp only [Act.put, Ls]
          refine tk 5 ?_ rfl (Or.inl ⟨by rfl, ?_⟩) ?_
          rotate_left
          · (intro w hSw; go_simp; try (with_reducible rfl))
          try simp only [Act.put, Ls]
          refine tk 6 ?_ rfl (Or.inl ⟨by rfl, ?_⟩) ?_
          rotate_left
          · (intro w hSw; go_simp; try (with_reducible rfl))
          try simp only [Act.put, Ls]
          refine tk 7 ?_ rfl (Or.inl ⟨by rfl, ?_⟩) ?_
          rotate_left
          · (intro w hSw; go_simp; try (with_reducible rfl))
          try simp only [Act.put, Ls]
          refine tk 8 ?_ rfl (Or.inl ⟨by rfl, ?_⟩) ?_
          rotate_left
          · (intro w hSw; go_simp; try (with_reducible rfl))
          try simp only [Act.put, Ls]
          refine rdy 9 rfl (fun K hK => ?_)
          go_simp
          refine hK.out _ _ ?_ (fun hHeld => ?_)
          · exact ⟨X1.c0, X1.c1⟩
          clear hK K
          try simp only [Act.put, Ls]
          refine wpAnyH_done (by kernel_rfl) ?_ _
          obtain ⟨x10, x11, x1f, x1g⟩ := X1
          go_wp2
          all_goals go_ret
          all_goals exact ⟨rfl, bel⟩
      · rw [if_neg hz] at RI EI
        clear hz hz0
        have ex : (x == x) = true := by simp
        go_wp2_with fail
        refine (U1.out _ (hT.below bel1).s.f).mono ?_
        rintro r w2 ⟨A1, c1, rfl, o1, hb2⟩
        have bel := bel_al (bel_go bel1 hb2) (.cells #[.bool g, .slice A1 L.length c1] 29)
        have X1 := R2.new w2 (.bool g) (.slice A1 L.length c1) 29
        replace o1 := o1.alloc (.cells #[.bool g, .slice A1 L.length c1] 29)
        replace hs := (hs.below hb2).alloc (.cells #[.bool g, .slice A1 L.length c1] 29)
        obtain ⟨bu, hbu⟩ : ∃ q, q = w2.heap.size := ⟨_, rfl⟩
        rw [← hbu] at X1
        clear hb2
        go_wp2_with fail
        rw [← hbu]
        clear hbu
        refine (U2.out _).mono ?_
        rintro r w3 ⟨A2, c2, rfl, o2, hb3⟩
        replace bel := bel_al (bel_go bel hb3) (.cells #[.bool g, .slice A2 L.length c2] 29)
        replace X1 := (X1.below hb3).alloc (.cells #[.bool g, .slice A2 L.length c2] 29)
        have X2 := R2.new w3 (.bool g) (.slice A2 L.length c2) 29
        replace o1 := (o1.below hb3).alloc (.cells #[.bool g, .slice A2 L.length c2] 29)
        replace o2 := o2.alloc (.cells #[.bool g, .slice A2 L.length c2] 29)
        replace hs := (hs.below hb3).alloc (.cells #[.bool g, .slice A2 L.length c2] 29)
        clear hb3
        obtain ⟨x10, x11, x1f, x1g⟩ := X1
        obtain ⟨x20, x21, x2f, x2g⟩ := X2
        go_wp2_with fail
        refine (same_yes g A1 A2 c1 c2 L _ o1.sl o2.sl hL).mono ?_
        rintro r w4 ⟨rfl, hb⟩
        replace bel := bel_go bel hb
        replace o1 := o1.below hb
        replace o2 := o2.below hb
        replace hs := hs.below hb
        have X1 := (R2.mk x10 x11 x1f x1g).below hb
        have X2 := (R2.mk x20 x21 x2f x2g).below hb
        clear x10 x11 x1f x1g x20 x21 x2f x2g
        clear hb
        go_upto_region 15 with fail
        replace hs := hs.drew
        replace X1 := X1.drew
        replace o1 := o1.drew
        replace bel := Below.drew bel
        have T := hT.below bel
        refine wp_region_held_drew (S := fun w' => w'.cell? ⟨bu, 0, none⟩ = some (.bool g) ∧ w'.cell? ⟨bu, 1, none⟩ = some (.slice A1 L.length c1)) (by kernel_rfl) ?_ (fun hHeld => ?_)
        · exact ⟨X1.c0, X1.c1⟩
        refine tk 0 ?_ rfl (Or.inl ⟨by rfl, ?_⟩) ?_
        rotate_left
        · (intro w hSw; go_simp; try (with_reducible rfl))
        try simp only [Act.put, Ls]
        refine tk 1 ?_ rfl (Or.inl ⟨by rfl, ?_⟩) ?_
        rotate_left
        · (intro w hSw; go_simp; try (with_reducible rfl))
        try simp only [Act.put, Ls]
        refine tk 4 ?_ rfl (Or.inl ⟨by rfl, ?_⟩) ?_
        rotate_left
        · (intro w hSw; (try dsimp only at hSw); obtain ⟨hS0, hS1⟩ := hSw; go_simp; try (with_reducible rfl))
        try simp only [Act.put, Ls]
        refine tk 5 ?_ rfl (Or.inl ⟨by rfl, ?_⟩) ?_
        rotate_left
        · (intro w hSw; go_simp; try (with_reducible rfl))
        try simp only [Act.put, Ls]
        refine rdy 2 rfl (fun K hK => ?_)
        go_simp
        go_at_call 13; refine (byteOf_any ca cc cs 2 (by decide) (by decide) _ hs hby hl).mono ?_; rintro r v1 ⟨v, rfl, v0, v255, hb⟩
        replace X1 := X1.below hb
        replace o1 := o1.below hb
        replace bel := bel_go bel hb
        replace T := T.below hb
        clear hb
        refine hK.out _ _ ?_ (fun hHeld => ?_)
        · exact ⟨X1.c0, X1.c1⟩
        clear hK K
        try simp only [Act.put, Ls]
        have hm6 : Int.tmod v 6 = v % 6 := Int.tmod_eq_emod_of_nonneg v0
        refine tk 3 ?_ rfl (Or.inl ⟨by rfl, ?_⟩) ?_
        rotate_left
        · (intro w hSw; go_simp; try (with_reducible rfl))
        try simp only [Act.put, Ls]
        refine rdy 6 rfl (fun K hK => ?_)
        go_simp
        go_at_call 14; refine (unit64 _).mono ?_; rintro r v2 ⟨rfl, hb⟩
        replace X1 := X1.below hb
        replace o1 := o1.below hb
        replace bel := bel_go bel hb
        replace T := T.below hb
        clear hb
        refine hK.out _ _ ?_ (fun hHeld => ?_)
        · exact ⟨X1.c0, X1.c1⟩
        clear hK K
        try simp only [Act.put, Ls]
        refine rdy 7 rfl (fun K hK => ?_)
        go_simp
        go_at_call 12; refine (RI.out _ A1 c1 _ (hmod v v0) T o1.sl).mono ?_; rintro r v3 ⟨rfl, hb⟩
        replace X1 := X1.below hb
        replace o1 := o1.below hb
        replace bel := bel_go bel hb
        replace T := T.below hb
        clear hb
        refine hK.out _ _ ?_ (fun hHeld => ?_)
        · exact ⟨X1.c0, X1.c1⟩
        clear hK K
        try simp only [Act.put, Ls]
        refine tk 8 ?_ rfl (Or.inl ⟨by rfl, ?_⟩) ?_
        rotate_left
        · (intro w hSw; go_simp; try (with_reducible rfl))
        try simp only [Act.put, Ls]
        refine tk 9 ?_ rfl (Or.inl ⟨by rfl, ?_⟩) ?_
        rotate_left
        · (intro w hSw; go_simp; try (with_reducible rfl))
        try simp only [Act.put, Ls]
        refine tk 10 ?_ rfl (Or.inl ⟨by rfl, ?_⟩) ?_
        rotate_left
        · (intro w hSw; go_simp; try (with_reducible rfl))
        try simp only [Act.put, Ls]
        refine tk 11 ?_ rfl (Or.inl ⟨by rfl, ?_⟩) ?_
        rotate_left
        · (intro w hSw; go_simp; try (with_reducible rfl))
        try simp only [Act.put, Ls]
        refine tk 12 ?_ rfl (Or.inl ⟨by rfl, ?_⟩) ?_
        rotate_left
        · (intro w hSw; go_simp; try (with_reducible rfl))
        try simp only [Act.put, Ls]
        refine tk 13 ?_ rfl (Or.inl ⟨by rfl, ?_⟩) ?_
        rotate_left
        · (intro w hSw; go_simp; try (with_reducible rfl))
        try simp only [Act.put, Ls]
        refine rdy 14 rfl (fun K hK => ?_)
        go_simp
        refine hK.out _ _ ?_ (fun hHeld => ?_)
        · exact ⟨X1.c0, X1.c1⟩
        clear hK K
        try simp only [Act.put, Ls]
        refine wpAnyH_done (by kernel_rfl) ?_ _
        go_upto_region 10 with fail
        replace X1 := X1.drew
        replace o1 := o1.drew
        replace bel := Below.drew bel
        replace T := T.dr
        refine wp_region_held_drew (S := fun w' => w'.cell? ⟨bu, 0, none⟩ = some (.bool g) ∧ w'.cell? ⟨bu, 1, none⟩ = some (.slice A1 L.length c1)) (by kernel_rfl) ?_ (fun hHeld => ?_)
        · exact ⟨X1.c0, X1.c1⟩
        refine tk 0 ?_ rfl (Or.inl ⟨by rfl, ?_⟩) ?_
        rotate_left
        · (intro w hSw; go_simp; try (with_reducible rfl))
        try simp only [Act.put, Ls]
        refine tk 1 ?_ rfl (Or.inl ⟨by rfl, ?_⟩) ?_
        rotate_left
        · (intro w hSw; (try dsimp only at hSw); obtain ⟨hS0, hS1⟩ := hSw; go_simp; try (with_reducible rfl))
        try simp only [Act.put, Ls]
        refine tk 2 ?_ rfl (Or.inl ⟨by rfl, ?_⟩) ?_
        rotate_left
        · (intro w hSw; go_simp; try (with_reducible rfl))
        try simp only [Act.put, Ls]
        refine rdy 3 rfl (fun K hK => ?_)
        go_simp
        go_at_call 14; refine (unit64 _).mono ?_; rintro r v4 ⟨rfl, hb⟩
        replace X1 := X1.below hb
        replace o1 := o1.below hb
        replace bel := bel_go bel hb
        replace T := T.below hb
        clear hb
        refine hK.out _ _ ?_ (fun hHeld => ?_)
        · exact ⟨X1.c0, X1.c1⟩
        clear hK K
        try simp only [Act.put, Ls]
        refine rdy 4 rfl (fun K hK => ?_)
        go_simp
        go_at_call 15; refine (EI.out A1 c1 _ T o1.sl).mono ?_; rintro r v5 ⟨rfl, hb⟩
        replace X1 := X1.below hb
        replace o1 := o1.below hb
        replace bel := bel_go bel hb
        replace T := T.below hb
        clear hb
        refine hK.out _ _ ?_ (fun hHeld => ?_)
        · exact ⟨X1.c0, X1.c1⟩
        clear hK K
        try simp only [Act.put, Ls]
        refine tk 5 ?_ rfl (Or.inl ⟨by rfl, ?_⟩) ?_
        rotate_left
        · (intro w hSw; go_simp; try (with_reducible rfl))
        try simp only [Act.put, Ls]
        refine tk 6 ?_ rfl (Or.inl ⟨by rfl, ?_⟩) ?_
        rotate_left
        · (intro w hSw; go_simp; try (with_reducible rfl))
        try simp only [Act.put, Ls]
        refine tk 7 ?_ rfl (Or.inl ⟨by rfl, ?_⟩) ?_
        rotate_left
        · (intro w hSw; go_simp; try (with_reducible rfl))
        try simp only [Act.put, Ls]
        refine tk 8 ?_ rfl (Or.inl ⟨by rfl, ?_⟩) ?_
        rotate_left
        · (intro w hSw; go_simp; try (with_reducible rfl))
        try simp only [Act.put, Ls]
        refine rdy 9 rfl (fun K hK => ?_)
        go_simp
        refine hK.out _ _ ?_ (fun hHeld => ?_)
        · exact ⟨X1.c0, X1.c1⟩
        clear hK K
        try simp only [Act.put, Ls]
        refine wpAnyH_done (by kernel_rfl) ?_ _
        obtain ⟨x10, x11, x1f, x1g⟩ := X1
        go_wp2
        all_goals go_ret
        all_goals exact ⟨rfl, bel⟩
theorem erlaw_all (ca : Option Addr) (cc : Nat) (cs : List Int) (w : World) (hT : T3 w) (hs : Sl .u8 w (.slice ca cs.length cc) cs) (hby : ∀ i, 0 ≤ cs.getD i 0 ∧ cs.getD i 0 ≤ 255) :
    Calls Tryz.prog 3 #[.slice ca cs.length cc] w fun e w' => e = .returned (.bool true) ∧ Below w.heap.size w w' := by
  by_cases h : cs.length ≤ 1048576
  · exact erlaw ca cc cs w hT hs hby h
  · have hn : cs.length ≤ 9223372036854775807 := by obtain ⟨_, h1, h2, _⟩ := hs.cells; unfold maxLen at h2; omega
    have CB := hid (big_any ca cs.length cc w hn true (by simp; omega))
    clear hs hby h hn
    go_enter Tryz.func3, Tryz.ntmps3
    go_wp2_with fail
    refine CB.out.mono ?_
    rintro e w0 ⟨rfl, rfl⟩
    go_wp2
    go_ret
    exact ⟨rfl, Below.refl _ _⟩
end Fd
end Go.Proofs.YtpalbhkihheogaaGreatDoor
