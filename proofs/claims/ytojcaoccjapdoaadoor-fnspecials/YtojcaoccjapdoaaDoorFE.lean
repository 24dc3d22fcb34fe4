/-
  The floats that have names: the law.
-/
import Derived.Test.YtojcaoccjapdoaaDoorFD
namespace Go.Proofs.YtojcaoccjapdoaaDoor
set_option linter.unusedVariables false
set_option linter.unusedSimpArgs false
open Go.RowKit Go.Deep
namespace Fd
set_option maxHeartbeats 16000000 in
set_option maxRecDepth 100000 in
theorem law (ca : Option Addr) (cc : Nat) (cs : List Int) (w : World) (hT : Tab w) (hs : Sl .u8 w (.slice ca cs.length cc) cs) (hby : ∀ i, 0 ≤ cs.getD i 0 ∧ cs.getD i 0 ≤ 255) (hl : cs.length ≤ 1048576) :
    Calls Tryd.prog 3 #[.slice ca cs.length cc] w fun e w' => e = .returned (.bool true) ∧ Below w.heap.size w w' := by
  go_enter Tryd.func3, Tryd.ntmps3
  go_wp2_with fail
  refine (big_any ca cs.length cc _ (by omega) false (by simp; omega)).mono ?_
  rintro e w0 ⟨rfl, rfl⟩
  go_wp2_with fail
  refine (drawInf_any ca cc cs _ hs hby hl).mono ?_
  rintro e w1 ⟨fm, ng, rfl, bel1⟩
  clear hs hby hl
  by_cases h32 : fm = 32
  · subst h32
    cases ng
    · have CG : Hid (∀ w' : World, Tab w' → Calls Tryd.prog 14 #[.int .i64 32, .bool false] w' fun e w'' => e = .returned (.int .u64 2139095039) ∧ Below w'.heap.size w' w'') := hid (fun w' h => impl_Greatest32 false w' h)
      have CL : Hid (∀ w' : World, Tab w' → Calls Tryd.prog 15 #[.int .i64 32, .bool false] w' fun e w'' => e = .returned (.int .u64 1) ∧ Below w'.heap.size w' w'') := hid (fun w' h => impl_Least32 false w' h)
      have CN : Hid (∀ w' : World, Tab w' → Calls Tryd.prog 12 #[.int .i64 32] w' fun e w'' => e = .returned (.int .u64 2143289344) ∧ Below w'.heap.size w' w'') := hid (fun w' h => impl_nan32 w' h)
      have CC1 : Hid (∀ w' : World, Tab w' → Calls Tryd.prog 20 #[.int .i64 32, .int .u64 2143289344] w' fun e w'' => e = .returned (.int .i64 4) ∧ Below w'.heap.size w' w'') := hid (fun w' h => by have q := impl_cls 32 2143289344 w' h (by decide) (by decide); rw [show cls 32 2143289344 = 4 by decide +kernel] at q; exact q)
      have CC2 : Hid (∀ w' : World, Tab w' → Calls Tryd.prog 20 #[.int .i64 32, .int .u64 2139095039] w' fun e w'' => e = .returned (.int .i64 2) ∧ Below w'.heap.size w' w'') := hid (fun w' h => by have q := impl_cls 32 2139095039 w' h (by decide) (by decide); rw [show cls 32 2139095039 = 2 by decide +kernel] at q; exact q)
      have CU : Hid (∀ w' : World, Tab w' → Calls Tryd.prog 21 #[.int .i64 32, .int .u64 2139095039] w' fun e w'' => e = .returned (.int .u64 2139095040) ∧ Below w'.heap.size w' w'') := hid (fun w' h => by have q := impl_up 32 2139095039 w' h (by decide) (by decide); rw [show upF 32 2139095039 = 2139095040 by decide +kernel] at q; exact q)
      have CI0 : Hid (∀ w' : World, Tab w' → Calls Tryd.prog 13 #[.int .i64 32, .bool false] w' fun e w'' => e = .returned (.int .u64 2139095040) ∧ Below w'.heap.size w' w'') := hid (fun w' h => impl_Inf32 false w' h)
      have CI : Hid (∀ w' : World, Tab w' → Calls Tryd.prog 13 #[.int .i64 32, .bool false] w' fun e w'' => e = .returned (.int .u64 2139095040) ∧ Below w'.heap.size w' w'') := hid (fun w' h => impl_Inf32 false w' h)
      have CC3 : Hid (∀ w' : World, Tab w' → Calls Tryd.prog 20 #[.int .i64 32, .int .u64 2139095040] w' fun e w'' => e = .returned (.int .i64 3) ∧ Below w'.heap.size w' w'') := hid (fun w' h => by have q := impl_cls 32 2139095040 w' h (by decide) (by decide); rw [show cls 32 2139095040 = 3 by decide +kernel] at q; exact q)
      have CD : Hid (∀ w' : World, Tab w' → Calls Tryd.prog 22 #[.int .i64 32, .int .u64 1] w' fun e w'' => e = .returned (.int .u64 0) ∧ Below w'.heap.size w' w'') := hid (fun w' h => by have q := impl_down 32 1 w' h (by decide) (by decide); rw [show downF 32 1 = 0 by decide +kernel] at q; exact q)
      have CZ0 : Hid (∀ w' : World, Tab w' → Calls Tryd.prog 16 #[.int .i64 32, .bool false] w' fun e w'' => e = .returned (.int .u64 0) ∧ Below w'.heap.size w' w'') := hid (fun w' h => impl_Zero32 false w' h)
      have CZ : Hid (∀ w' : World, Tab w' → Calls Tryd.prog 16 #[.int .i64 32, .bool false] w' fun e w'' => e = .returned (.int .u64 0) ∧ Below w'.heap.size w' w'') := hid (fun w' h => impl_Zero32 false w' h)
      have CC4 : Hid (∀ w' : World, Tab w' → Calls Tryd.prog 20 #[.int .i64 32, .int .u64 0] w' fun e w'' => e = .returned (.int .i64 0) ∧ Below w'.heap.size w' w'') := hid (fun w' h => by have q := impl_cls 32 0 w' h (by decide) (by decide); rw [show cls 32 0 = 0 by decide +kernel] at q; exact q)
      have CM1 : Hid (∀ w' : World, Tab w' → Calls Tryd.prog 23 #[.int .i64 32, .int .u64 2139095039] w' fun e w'' => e = .returned (.int .u64 4286578687) ∧ Below w'.heap.size w' w'') := hid (fun w' h => impl_neg32 2139095039 w' h (by decide) (by decide))
      have CG1 : Hid (∀ w' : World, Tab w' → Calls Tryd.prog 14 #[.int .i64 32, .bool true] w' fun e w'' => e = .returned (.int .u64 4286578687) ∧ Below w'.heap.size w' w'') := hid (fun w' h => impl_Greatest32 true w' h)
      have CM2 : Hid (∀ w' : World, Tab w' → Calls Tryd.prog 23 #[.int .i64 32, .int .u64 1] w' fun e w'' => e = .returned (.int .u64 2147483649) ∧ Below w'.heap.size w' w'') := hid (fun w' h => impl_neg32 1 w' h (by decide) (by decide))
      have CL1 : Hid (∀ w' : World, Tab w' → Calls Tryd.prog 15 #[.int .i64 32, .bool true] w' fun e w'' => e = .returned (.int .u64 2147483649) ∧ Below w'.heap.size w' w'') := hid (fun w' h => impl_Least32 true w' h)
      have hun : unI 32 1 = 1 := by decide +kernel
      have hfi : finB 32 1 = true := by decide +kernel
      have CQ := hid (fun w' h => units_impl 32 1 w' h (by decide) (by decide))
      unfold Ans at CQ
      rw [hun, hfi] at CQ
      have C1 := hid (fun w' => wof_impl 1 w' (by decide) (by decide))
      have hL2 : (Nm.wl 1).length ≤ 1048576 := by unfold Nm.wl; exact Nat.le_trans (lim_len (k := 1) (by have := (Nm.bl_le_iff (1 : Int).natAbs 1).2 (by decide); omega)) (by decide)
      obtain ⟨G, hG⟩ : ∃ G, G = Nm.wn 1 := ⟨_, rfl⟩
      obtain ⟨L, hL⟩ : ∃ L, L = Nm.wl 1 := ⟨_, rfl⟩
      simp only [← hG, ← hL] at CQ C1
      rw [← hL] at hL2
      clear hG hL hun hfi
      go_wp2_with fail
      refine (CG.out _ (hT.below bel1)).mono ?_
      rintro r w2 ⟨rfl, hb2⟩
      have bel2 := bel_go bel1 hb2
      go_wp2_with fail
      refine (CL.out _ (hT.below bel2)).mono ?_
      rintro r w3 ⟨rfl, hb3⟩
      have bel3 := bel_go bel2 hb3
      go_wp2_with fail
      refine (CQ.out _ (hT.below bel3)).mono ?_
      rintro r w4 ⟨a4, c4, rfl, o4, hb4⟩
      have X := R2.new w4 (.bool G) (.slice a4 L.length c4) 31
      replace o4 := o4.alloc (.cells #[.bool G, .slice a4 L.length c4] 31)
      have bel4 := bel_al (bel_go bel3 hb4) (.cells #[.bool G, .slice a4 L.length c4] 31)
      clear hb2 hb3 hb4
      go_upto_region 21 with fail
      refine wp_region_held_drew (S := fun w' => w'.cell? ⟨w4.heap.size, 0, none⟩ = some (.bool G) ∧ w'.cell? ⟨w4.heap.size, 1, none⟩ = some (.slice a4 L.length c4)) (by kernel_rfl) ?_ (fun hHeld => ?_)
      · exact ⟨X.c0, X.c1⟩
      refine wpAnyH_take (i := 0) (oi := _) (v := ?_) rfl (by kernel_rfl) (by kernel_rfl) (by kernel_rfl) (fun _ _ _ h => h) (Or.inl ⟨by rfl, ?_⟩) (by assumption) ?_
      rotate_left
      · (intro w hSw; (try dsimp only at hSw); (try obtain ⟨hS0, hS1⟩ := hSw); go_simp; try (with_reducible rfl))
      try simp only [Act.put, List.setIfInBounds_toArray, List.set_cons_zero, List.set_cons_succ, List.getElem_toArray, List.getElem_cons_zero, List.getElem_cons_succ]
      refine wpAnyH_take (i := 1) (oi := _) (v := ?_) rfl (by kernel_rfl) (by kernel_rfl) (by kernel_rfl) (fun _ _ _ h => h) (Or.inl ⟨by rfl, ?_⟩) (by assumption) ?_
      rotate_left
      · (intro w hSw; (try dsimp only at hSw); (try obtain ⟨hS0, hS1⟩ := hSw); go_simp; try (with_reducible rfl))
      try simp only [Act.put, List.setIfInBounds_toArray, List.set_cons_zero, List.set_cons_succ, List.getElem_toArray, List.getElem_cons_zero, List.getElem_cons_succ]
      refine wpAnyH_take (i := 2) (oi := _) (v := ?_) rfl (by kernel_rfl) (by kernel_rfl) (by kernel_rfl) (fun _ _ _ h => h) (Or.inl ⟨by rfl, ?_⟩) (by assumption) ?_
      rotate_left
      · (intro w hSw; (try dsimp only at hSw); (try obtain ⟨hS0, hS1⟩ := hSw); go_simp; try (with_reducible rfl))
      try simp only [Act.put, List.setIfInBounds_toArray, List.set_cons_zero, List.set_cons_succ, List.getElem_toArray, List.getElem_cons_zero, List.getElem_cons_succ]
      refine wpAnyH_take (i := 3) (oi := _) (v := ?_) rfl (by kernel_rfl) (by kernel_rfl) (by kernel_rfl) (fun _ _ _ h => h) (Or.inl ⟨by rfl, ?_⟩) (by assumption) ?_
      rotate_left
      · (intro w hSw; (try dsimp only at hSw); (try obtain ⟨hS0, hS1⟩ := hSw); go_simp; try (with_reducible rfl))
      try simp only [Act.put, List.setIfInBounds_toArray, List.set_cons_zero, List.set_cons_succ, List.getElem_toArray, List.getElem_cons_zero, List.getElem_cons_succ]
      refine wpAnyH_ready (rs := [4]) (by kernel_rfl) (by simp) ?_
      refine AllReadyH.cons (o := _) rfl (fun K hK => ?_) AllReadyH.nil
      go_simp
      go_at_call 19; refine (C1.out _).mono ?_; rintro r w5 ⟨a5, c5, rfl, o5, hb5⟩
      have X5 := X.drew.below hb5
      have o4' := o4.drew.below hb5
      have bel5 := bel_go (Below.drew bel4) hb5
      refine hK.out _ _ ?_ (fun hHeld => ?_)
      · exact ⟨X5.c0, X5.c1⟩
      clear hK K
      try simp only [Act.put, List.setIfInBounds_toArray, List.set_cons_zero, List.set_cons_succ, List.getElem_toArray, List.getElem_cons_zero, List.getElem_cons_succ]
      refine wpAnyH_ready (rs := [5]) (by kernel_rfl) (by simp) ?_
      refine AllReadyH.cons (o := _) rfl (fun K hK => ?_) AllReadyH.nil
      go_simp
      go_at_call 18; refine (same_yes G a4 a5 c4 c5 L _ o4'.sl o5.sl hL2).mono ?_; rintro r w6 ⟨rfl, hb6⟩
      have X6 := X5.below hb6
      have bel6 := bel_go bel5 hb6
      refine hK.out _ _ ?_ (fun hHeld => ?_)
      · exact ⟨X6.c0, X6.c1⟩
      clear hK K
      try simp only [Act.put, List.setIfInBounds_toArray, List.set_cons_zero, List.set_cons_succ, List.getElem_toArray, List.getElem_cons_zero, List.getElem_cons_succ]
      refine wpAnyH_take (i := 6) (oi := _) (v := ?_) rfl (by kernel_rfl) (by kernel_rfl) (by kernel_rfl) (fun _ _ _ h => h) (Or.inl ⟨by rfl, ?_⟩) (by assumption) ?_
      rotate_left
      · (intro w hSw; (try dsimp only at hSw); (try obtain ⟨hS0, hS1⟩ := hSw); go_simp; try (with_reducible rfl))
      try simp only [Act.put, List.setIfInBounds_toArray, List.set_cons_zero, List.set_cons_succ, List.getElem_toArray, List.getElem_cons_zero, List.getElem_cons_succ]
      refine wpAnyH_take (i := 7) (oi := _) (v := ?_) rfl (by kernel_rfl) (by kernel_rfl) (by kernel_rfl) (fun _ _ _ h => h) (Or.inl ⟨by rfl, ?_⟩) (by assumption) ?_
      rotate_left
      · (intro w hSw; (try dsimp only at hSw); (try obtain ⟨hS0, hS1⟩ := hSw); go_simp; try (with_reducible rfl))
      try simp only [Act.put, List.setIfInBounds_toArray, List.set_cons_zero, List.set_cons_succ, List.getElem_toArray, List.getElem_cons_zero, List.getElem_cons_succ]
      refine wpAnyH_take (i := 8) (oi := _) (v := ?_) rfl (by kernel_rfl) (by kernel_rfl) (by kernel_rfl) (fun _ _ _ h => h) (Or.inl ⟨by rfl, ?_⟩) (by assumption) ?_
      rotate_left
      · (intro w hSw; (try dsimp only at hSw); (try obtain ⟨hS0, hS1⟩ := hSw); go_simp; try (with_reducible rfl))
      try simp only [Act.put, List.setIfInBounds_toArray, List.set_cons_zero, List.set_cons_succ, List.getElem_toArray, List.getElem_cons_zero, List.getElem_cons_succ]
      refine wpAnyH_take (i := 9) (oi := _) (v := ?_) rfl (by kernel_rfl) (by kernel_rfl) (by kernel_rfl) (fun _ _ _ h => h) (Or.inl ⟨by rfl, ?_⟩) (by assumption) ?_
      rotate_left
      · (intro w hSw; (try dsimp only at hSw); (try obtain ⟨hS0, hS1⟩ := hSw); go_simp; try (with_reducible rfl))
      try simp only [Act.put, List.setIfInBounds_toArray, List.set_cons_zero, List.set_cons_succ, List.getElem_toArray, List.getElem_cons_zero, List.getElem_cons_succ]
      refine wpAnyH_take (i := 10) (oi := _) (v := ?_) rfl (by kernel_rfl) (by kernel_rfl) (by kernel_rfl) (fun _ _ _ h => h) (Or.inl ⟨by rfl, ?_⟩) (by assumption) ?_
      rotate_left
      · (intro w hSw; (try dsimp only at hSw); (try obtain ⟨hS0, hS1⟩ := hSw); go_simp; try (with_reducible rfl))
      try simp only [Act.put, List.setIfInBounds_toArray, List.set_cons_zero, List.set_cons_succ, List.getElem_toArray, List.getElem_cons_zero, List.getElem_cons_succ]
      refine wpAnyH_ready (rs := [11]) (by kernel_rfl) (by simp) ?_
      refine AllReadyH.cons (o := _) rfl (fun K hK => ?_) AllReadyH.nil
      go_simp
      go_at_call 12; refine (CN.out _ (hT.below bel6)).mono ?_; rintro r w7 ⟨rfl, hb7⟩
      have X7 := X6.below hb7
      have bel7 := bel_go bel6 hb7
      refine hK.out _ _ ?_ (fun hHeld => ?_)
      · exact ⟨X7.c0, X7.c1⟩
      clear hK K
      try simp only [Act.put, List.setIfInBounds_toArray, List.set_cons_zero, List.set_cons_succ, List.getElem_toArray, List.getElem_cons_zero, List.getElem_cons_succ]
      refine wpAnyH_ready (rs := [12]) (by kernel_rfl) (by simp) ?_
      refine AllReadyH.cons (o := _) rfl (fun K hK => ?_) AllReadyH.nil
      go_simp
      go_at_call 20; refine (CC1.out _ (hT.below bel7)).mono ?_; rintro r w8 ⟨rfl, hb8⟩
      have X8 := X7.below hb8
      have bel8 := bel_go bel7 hb8
      refine hK.out _ _ ?_ (fun hHeld => ?_)
      · exact ⟨X8.c0, X8.c1⟩
      clear hK K
      try simp only [Act.put, List.setIfInBounds_toArray, List.set_cons_zero, List.set_cons_succ, List.getElem_toArray, List.getElem_cons_zero, List.getElem_cons_succ]
      refine wpAnyH_take (i := 13) (oi := _) (v := ?_) rfl (by kernel_rfl) (by kernel_rfl) (by kernel_rfl) (fun _ _ _ h => h) (Or.inl ⟨by rfl, ?_⟩) (by assumption) ?_
      rotate_left
      · (intro w hSw; (try dsimp only at hSw); (try obtain ⟨hS0, hS1⟩ := hSw); go_simp; try (with_reducible rfl))
      try simp only [Act.put, List.setIfInBounds_toArray, List.set_cons_zero, List.set_cons_succ, List.getElem_toArray, List.getElem_cons_zero, List.getElem_cons_succ]
      refine wpAnyH_take (i := 14) (oi := _) (v := ?_) rfl (by kernel_rfl) (by kernel_rfl) (by kernel_rfl) (fun _ _ _ h => h) (Or.inl ⟨by rfl, ?_⟩) (by assumption) ?_
      rotate_left
      · (intro w hSw; (try dsimp only at hSw); (try obtain ⟨hS0, hS1⟩ := hSw); go_simp; try (with_reducible rfl))
      try simp only [Act.put, List.setIfInBounds_toArray, List.set_cons_zero, List.set_cons_succ, List.getElem_toArray, List.getElem_cons_zero, List.getElem_cons_succ]
      refine wpAnyH_take (i := 15) (oi := _) (v := ?_) rfl (by kernel_rfl) (by kernel_rfl) (by kernel_rfl) (fun _ _ _ h => h) (Or.inl ⟨by rfl, ?_⟩) (by assumption) ?_
      rotate_left
      · (intro w hSw; (try dsimp only at hSw); (try obtain ⟨hS0, hS1⟩ := hSw); go_simp; try (with_reducible rfl))
      try simp only [Act.put, List.setIfInBounds_toArray, List.set_cons_zero, List.set_cons_succ, List.getElem_toArray, List.getElem_cons_zero, List.getElem_cons_succ]
      refine wpAnyH_take (i := 16) (oi := _) (v := ?_) rfl (by kernel_rfl) (by kernel_rfl) (by kernel_rfl) (fun _ _ _ h => h) (Or.inl ⟨by rfl, ?_⟩) (by assumption) ?_
      rotate_left
      · (intro w hSw; (try dsimp only at hSw); (try obtain ⟨hS0, hS1⟩ := hSw); go_simp; try (with_reducible rfl))
      try simp only [Act.put, List.setIfInBounds_toArray, List.set_cons_zero, List.set_cons_succ, List.getElem_toArray, List.getElem_cons_zero, List.getElem_cons_succ]
      refine wpAnyH_take (i := 17) (oi := _) (v := ?_) rfl (by kernel_rfl) (by kernel_rfl) (by kernel_rfl) (fun _ _ _ h => h) (Or.inl ⟨by rfl, ?_⟩) (by assumption) ?_
      rotate_left
      · (intro w hSw; (try dsimp only at hSw); (try obtain ⟨hS0, hS1⟩ := hSw); go_simp; try (with_reducible rfl))
      try simp only [Act.put, List.setIfInBounds_toArray, List.set_cons_zero, List.set_cons_succ, List.getElem_toArray, List.getElem_cons_zero, List.getElem_cons_succ]
      refine wpAnyH_ready (rs := [18]) (by kernel_rfl) (by simp) ?_
      refine AllReadyH.cons (o := _) rfl (fun K hK => ?_) AllReadyH.nil
      go_simp
      go_at_call 20; refine (CC2.out _ (hT.below bel8)).mono ?_; rintro r w9 ⟨rfl, hb9⟩
      have X9 := X8.below hb9
      have bel9 := bel_go bel8 hb9
      refine hK.out _ _ ?_ (fun hHeld => ?_)
      · exact ⟨X9.c0, X9.c1⟩
      clear hK K
      try simp only [Act.put, List.setIfInBounds_toArray, List.set_cons_zero, List.set_cons_succ, List.getElem_toArray, List.getElem_cons_zero, List.getElem_cons_succ]
      refine wpAnyH_take (i := 19) (oi := _) (v := ?_) rfl (by kernel_rfl) (by kernel_rfl) (by kernel_rfl) (fun _ _ _ h => h) (Or.inl ⟨by rfl, ?_⟩) (by assumption) ?_
      rotate_left
      · (intro w hSw; (try dsimp only at hSw); (try obtain ⟨hS0, hS1⟩ := hSw); go_simp; try (with_reducible rfl))
      try simp only [Act.put, List.setIfInBounds_toArray, List.set_cons_zero, List.set_cons_succ, List.getElem_toArray, List.getElem_cons_zero, List.getElem_cons_succ]
      refine wpAnyH_take (i := 20) (oi := _) (v := ?_) rfl (by kernel_rfl) (by kernel_rfl) (by kernel_rfl) (fun _ _ _ h => h) (Or.inl ⟨by rfl, ?_⟩) (by assumption) ?_
      rotate_left
      · (intro w hSw; (try dsimp only at hSw); (try obtain ⟨hS0, hS1⟩ := hSw); go_simp; try (with_reducible rfl))
      try simp only [Act.put, List.setIfInBounds_toArray, List.set_cons_zero, List.set_cons_succ, List.getElem_toArray, List.getElem_cons_zero, List.getElem_cons_succ]
      refine wpAnyH_done (by kernel_rfl) ?_ _
      go_wp2_with fail
      refine (CU.out _ (hT.below bel9)).mono ?_
      rintro r w10 ⟨rfl, hb10⟩
      have bel10 := bel_go bel9 hb10
      go_wp2_with fail
      refine (CI0.out _ (hT.below bel10)).mono ?_
      rintro r w11 ⟨rfl, hb11⟩
      have bel11 := bel_go bel10 hb11
      go_wp2_with fail
      refine (CI.out _ (hT.below bel11)).mono ?_
      rintro r w12 ⟨rfl, hb12⟩
      have bel12 := bel_go bel11 hb12
      go_wp2_with fail
      refine (CC3.out _ (hT.below bel12)).mono ?_
      rintro r w13 ⟨rfl, hb13⟩
      have bel13 := bel_go bel12 hb13
      go_wp2_with fail
      refine (CD.out _ (hT.below bel13)).mono ?_
      rintro r w14 ⟨rfl, hb14⟩
      have bel14 := bel_go bel13 hb14
      go_wp2_with fail
      refine (CZ0.out _ (hT.below bel14)).mono ?_
      rintro r w15 ⟨rfl, hb15⟩
      have bel15 := bel_go bel14 hb15
      go_wp2_with fail
      refine (CZ.out _ (hT.below bel15)).mono ?_
      rintro r w16 ⟨rfl, hb16⟩
      have bel16 := bel_go bel15 hb16
      go_wp2_with fail
      refine (CC4.out _ (hT.below bel16)).mono ?_
      rintro r w17 ⟨rfl, hb17⟩
      have bel17 := bel_go bel16 hb17
      go_wp2_with fail
      refine (CM1.out _ (hT.below bel17)).mono ?_
      rintro r w18 ⟨rfl, hb18⟩
      have bel18 := bel_go bel17 hb18
      go_wp2_with fail
      refine (CG1.out _ (hT.below bel18)).mono ?_
      rintro r w19 ⟨rfl, hb19⟩
      have bel19 := bel_go bel18 hb19
      go_wp2_with fail
      refine (CM2.out _ (hT.below bel19)).mono ?_
      rintro r w20 ⟨rfl, hb20⟩
      have bel20 := bel_go bel19 hb20
      go_wp2_with fail
      refine (CL1.out _ (hT.below bel20)).mono ?_
      rintro r w21 ⟨rfl, hb21⟩
      have bel21 := bel_go bel20 hb21
      go_wp2
      go_ret
      exact ⟨rfl, bel21⟩
    · have CG : Hid (∀ w' : World, Tab w' → Calls Tryd.prog 14 #[.int .i64 32, .bool false] w' fun e w'' => e = .returned (.int .u64 2139095039) ∧ Below w'.heap.size w' w'') := hid (fun w' h => impl_Greatest32 false w' h)
      have CL : Hid (∀ w' : World, Tab w' → Calls Tryd.prog 15 #[.int .i64 32, .bool false] w' fun e w'' => e = .returned (.int .u64 1) ∧ Below w'.heap.size w' w'') := hid (fun w' h => impl_Least32 false w' h)
      have CN : Hid (∀ w' : World, Tab w' → Calls Tryd.prog 12 #[.int .i64 32] w' fun e w'' => e = .returned (.int .u64 2143289344) ∧ Below w'.heap.size w' w'') := hid (fun w' h => impl_nan32 w' h)
      have CC1 : Hid (∀ w' : World, Tab w' → Calls Tryd.prog 20 #[.int .i64 32, .int .u64 2143289344] w' fun e w'' => e = .returned (.int .i64 4) ∧ Below w'.heap.size w' w'') := hid (fun w' h => by have q := impl_cls 32 2143289344 w' h (by decide) (by decide); rw [show cls 32 2143289344 = 4 by decide +kernel] at q; exact q)
      have CC2 : Hid (∀ w' : World, Tab w' → Calls Tryd.prog 20 #[.int .i64 32, .int .u64 2139095039] w' fun e w'' => e = .returned (.int .i64 2) ∧ Below w'.heap.size w' w'') := hid (fun w' h => by have q := impl_cls 32 2139095039 w' h (by decide) (by decide); rw [show cls 32 2139095039 = 2 by decide +kernel] at q; exact q)
      have CU : Hid (∀ w' : World, Tab w' → Calls Tryd.prog 21 #[.int .i64 32, .int .u64 2139095039] w' fun e w'' => e = .returned (.int .u64 2139095040) ∧ Below w'.heap.size w' w'') := hid (fun w' h => by have q := impl_up 32 2139095039 w' h (by decide) (by decide); rw [show upF 32 2139095039 = 2139095040 by decide +kernel] at q; exact q)
      have CI0 : Hid (∀ w' : World, Tab w' → Calls Tryd.prog 13 #[.int .i64 32, .bool false] w' fun e w'' => e = .returned (.int .u64 2139095040) ∧ Below w'.heap.size w' w'') := hid (fun w' h => impl_Inf32 false w' h)
      have CI : Hid (∀ w' : World, Tab w' → Calls Tryd.prog 13 #[.int .i64 32, .bool true] w' fun e w'' => e = .returned (.int .u64 4286578688) ∧ Below w'.heap.size w' w'') := hid (fun w' h => impl_Inf32 true w' h)
      have CC3 : Hid (∀ w' : World, Tab w' → Calls Tryd.prog 20 #[.int .i64 32, .int .u64 4286578688] w' fun e w'' => e = .returned (.int .i64 3) ∧ Below w'.heap.size w' w'') := hid (fun w' h => by have q := impl_cls 32 4286578688 w' h (by decide) (by decide); rw [show cls 32 4286578688 = 3 by decide +kernel] at q; exact q)
      have CD : Hid (∀ w' : World, Tab w' → Calls Tryd.prog 22 #[.int .i64 32, .int .u64 1] w' fun e w'' => e = .returned (.int .u64 0) ∧ Below w'.heap.size w' w'') := hid (fun w' h => by have q := impl_down 32 1 w' h (by decide) (by decide); rw [show downF 32 1 = 0 by decide +kernel] at q; exact q)
      have CZ0 : Hid (∀ w' : World, Tab w' → Calls Tryd.prog 16 #[.int .i64 32, .bool false] w' fun e w'' => e = .returned (.int .u64 0) ∧ Below w'.heap.size w' w'') := hid (fun w' h => impl_Zero32 false w' h)
      have CZ : Hid (∀ w' : World, Tab w' → Calls Tryd.prog 16 #[.int .i64 32, .bool true] w' fun e w'' => e = .returned (.int .u64 2147483648) ∧ Below w'.heap.size w' w'') := hid (fun w' h => impl_Zero32 true w' h)
      have CC4 : Hid (∀ w' : World, Tab w' → Calls Tryd.prog 20 #[.int .i64 32, .int .u64 2147483648] w' fun e w'' => e = .returned (.int .i64 0) ∧ Below w'.heap.size w' w'') := hid (fun w' h => by have q := impl_cls 32 2147483648 w' h (by decide) (by decide); rw [show cls 32 2147483648 = 0 by decide +kernel] at q; exact q)
      have CM1 : Hid (∀ w' : World, Tab w' → Calls Tryd.prog 23 #[.int .i64 32, .int .u64 2139095039] w' fun e w'' => e = .returned (.int .u64 4286578687) ∧ Below w'.heap.size w' w'') := hid (fun w' h => impl_neg32 2139095039 w' h (by decide) (by decide))
      have CG1 : Hid (∀ w' : World, Tab w' → Calls Tryd.prog 14 #[.int .i64 32, .bool true] w' fun e w'' => e = .returned (.int .u64 4286578687) ∧ Below w'.heap.size w' w'') := hid (fun w' h => impl_Greatest32 true w' h)
      have CM2 : Hid (∀ w' : World, Tab w' → Calls Tryd.prog 23 #[.int .i64 32, .int .u64 1] w' fun e w'' => e = .returned (.int .u64 2147483649) ∧ Below w'.heap.size w' w'') := hid (fun w' h => impl_neg32 1 w' h (by decide) (by decide))
      have CL1 : Hid (∀ w' : World, Tab w' → Calls Tryd.prog 15 #[.int .i64 32, .bool true] w' fun e w'' => e = .returned (.int .u64 2147483649) ∧ Below w'.heap.size w' w'') := hid (fun w' h => impl_Least32 true w' h)
      have hun : unI 32 1 = 1 := by decide +kernel
      have hfi : finB 32 1 = true := by decide +kernel
      have CQ := hid (fun w' h => units_impl 32 1 w' h (by decide) (by decide))
      unfold Ans at CQ
      rw [hun, hfi] at CQ
      have C1 := hid (fun w' => wof_impl 1 w' (by decide) (by decide))
      have hL2 : (Nm.wl 1).length ≤ 1048576 := by unfold Nm.wl; exact Nat.le_trans (lim_len (k := 1) (by have := (Nm.bl_le_iff (1 : Int).natAbs 1).2 (by decide); omega)) (by decide)
      obtain ⟨G, hG⟩ : ∃ G, G = Nm.wn 1 := ⟨_, rfl⟩
      obtain ⟨L, hL⟩ : ∃ L, L = Nm.wl 1 := ⟨_, rfl⟩
      simp only [← hG, ← hL] at CQ C1
      rw [← hL] at hL2
      clear hG hL hun hfi
      go_wp2_with fail
      refine (CG.out _ (hT.below bel1)).mono ?_
      rintro r w2 ⟨rfl, hb2⟩
      have bel2 := bel_go bel1 hb2
      go_wp2_with fail
      refine (CL.out _ (hT.below bel2)).mono ?_
      rintro r w3 ⟨rfl, hb3⟩
      have bel3 := bel_go bel2 hb3
      go_wp2_with fail
      refine (CQ.out _ (hT.below bel3)).mono ?_
      rintro r w4 ⟨a4, c4, rfl, o4, hb4⟩
      have X := R2.new w4 (.bool G) (.slice a4 L.length c4) 31
      replace o4 := o4.alloc (.cells #[.bool G, .slice a4 L.length c4] 31)
      have bel4 := bel_al (bel_go bel3 hb4) (.cells #[.bool G, .slice a4 L.length c4] 31)
      clear hb2 hb3 hb4
      go_upto_region 21 with fail
      refine wp_region_held_drew (S := fun w' => w'.cell? ⟨w4.heap.size, 0, none⟩ = some (.bool G) ∧ w'.cell? ⟨w4.heap.size, 1, none⟩ = some (.slice a4 L.length c4)) (by kernel_rfl) ?_ (fun hHeld => ?_)
      · exact ⟨X.c0, X.c1⟩
      refine wpAnyH_take (i := 0) (oi := _) (v := ?_) rfl (by kernel_rfl) (by kernel_rfl) (by kernel_rfl) (fun _ _ _ h => h) (Or.inl ⟨by rfl, ?_⟩) (by assumption) ?_
      rotate_left
      · (intro w hSw; (try dsimp only at hSw); (try obtain ⟨hS0, hS1⟩ := hSw); go_simp; try (with_reducible rfl))
      try simp only [Act.put, List.setIfInBounds_toArray, List.set_cons_zero, List.set_cons_succ, List.getElem_toArray, List.getElem_cons_zero, List.getElem_cons_succ]
      refine wpAnyH_take (i := 1) (oi := _) (v := ?_) rfl (by kernel_rfl) (by kernel_rfl) (by kernel_rfl) (fun _ _ _ h => h) (Or.inl ⟨by rfl, ?_⟩) (by assumption) ?_
      rotate_left
      · (intro w hSw; (try dsimp only at hSw); (try obtain ⟨hS0, hS1⟩ := hSw); go_simp; try (with_reducible rfl))
      try simp only [Act.put, List.setIfInBounds_toArray, List.set_cons_zero, List.set_cons_succ, List.getElem_toArray, List.getElem_cons_zero, List.getElem_cons_succ]
      refine wpAnyH_take (i := 2) (oi := _) (v := ?_) rfl (by kernel_rfl) (by kernel_rfl) (by kernel_rfl) (fun _ _ _ h => h) (Or.inl ⟨by rfl, ?_⟩) (by assumption) ?_
      rotate_left
      · (intro w hSw; (try dsimp only at hSw); (try obtain ⟨hS0, hS1⟩ := hSw); go_simp; try (with_reducible rfl))
      try simp only [Act.put, List.setIfInBounds_toArray, List.set_cons_zero, List.set_cons_succ, List.getElem_toArray, List.getElem_cons_zero, List.getElem_cons_succ]
      refine wpAnyH_take (i := 3) (oi := _) (v := ?_) rfl (by kernel_rfl) (by kernel_rfl) (by kernel_rfl) (fun _ _ _ h => h) (Or.inl ⟨by rfl, ?_⟩) (by assumption) ?_
      rotate_left
      · (intro w hSw; (try dsimp only at hSw); (try obtain ⟨hS0, hS1⟩ := hSw); go_simp; try (with_reducible rfl))
      try simp only [Act.put, List.setIfInBounds_toArray, List.set_cons_zero, List.set_cons_succ, List.getElem_toArray, List.getElem_cons_zero, List.getElem_cons_succ]
      refine wpAnyH_ready (rs := [4]) (by kernel_rfl) (by simp) ?_
      refine AllReadyH.cons (o := _) rfl (fun K hK => ?_) AllReadyH.nil
      go_simp
      go_at_call 19; refine (C1.out _).mono ?_; rintro r w5 ⟨a5, c5, rfl, o5, hb5⟩
      have X5 := X.drew.below hb5
      have o4' := o4.drew.below hb5
      have bel5 := bel_go (Below.drew bel4) hb5
      refine hK.out _ _ ?_ (fun hHeld => ?_)
      · exact ⟨X5.c0, X5.c1⟩
      clear hK K
      try simp only [Act.put, List.setIfInBounds_toArray, List.set_cons_zero, List.set_cons_succ, List.getElem_toArray, List.getElem_cons_zero, List.getElem_cons_succ]
      refine wpAnyH_ready (rs := [5]) (by kernel_rfl) (by simp) ?_
      refine AllReadyH.cons (o := _) rfl (fun K hK => ?_) AllReadyH.nil
      go_simp
      go_at_call 18; refine (same_yes G a4 a5 c4 c5 L _ o4'.sl o5.sl hL2).mono ?_; rintro r w6 ⟨rfl, hb6⟩
      have X6 := X5.below hb6
      have bel6 := bel_go bel5 hb6
      refine hK.out _ _ ?_ (fun hHeld => ?_)
      · exact ⟨X6.c0, X6.c1⟩
      clear hK K
      try simp only [Act.put, List.setIfInBounds_toArray, List.set_cons_zero, List.set_cons_succ, List.getElem_toArray, List.getElem_cons_zero, List.getElem_cons_succ]
      refine wpAnyH_take (i := 6) (oi := _) (v := ?_) rfl (by kernel_rfl) (by kernel_rfl) (by kernel_rfl) (fun _ _ _ h => h) (Or.inl ⟨by rfl, ?_⟩) (by assumption) ?_
      rotate_left
      · (intro w hSw; (try dsimp only at hSw); (try obtain ⟨hS0, hS1⟩ := hSw); go_simp; try (with_reducible rfl))
      try simp only [Act.put, List.setIfInBounds_toArray, List.set_cons_zero, List.set_cons_succ, List.getElem_toArray, List.getElem_cons_zero, List.getElem_cons_succ]
      refine wpAnyH_take (i := 7) (oi := _) (v := ?_) rfl (by kernel_rfl) (by kernel_rfl) (by kernel_rfl) (fun _ _ _ h => h) (Or.inl ⟨by rfl, ?_⟩) (by assumption) ?_
      rotate_left
      · (intro w hSw; (try dsimp only at hSw); (try obtain ⟨hS0, hS1⟩ := hSw); go_simp; try (with_reducible rfl))
      try simp only [Act.put, List.setIfInBounds_toArray, List.set_cons_zero, List.set_cons_succ, List.getElem_toArray, List.getElem_cons_zero, List.getElem_cons_succ]
      refine wpAnyH_take (i := 8) (oi := _) (v := ?_) rfl (by kernel_rfl) (by kernel_rfl) (by kernel_rfl) (fun _ _ _ h => h) (Or.inl ⟨by rfl, ?_⟩) (by assumption) ?_
      rotate_left
      · (intro w hSw; (try dsimp only at hSw); (try obtain ⟨hS0, hS1⟩ := hSw); go_simp; try (with_reducible rfl))
      try simp only [Act.put, List.setIfInBounds_toArray, List.set_cons_zero, List.set_cons_succ, List.getElem_toArray, List.getElem_cons_zero, List.getElem_cons_succ]
      refine wpAnyH_take (i := 9) (oi := _) (v := ?_) rfl (by kernel_rfl) (by kernel_rfl) (by kernel_rfl) (fun _ _ _ h => h) (Or.inl ⟨by rfl, ?_⟩) (by assumption) ?_
      rotate_left
      · (intro w hSw; (try dsimp only at hSw); (try obtain ⟨hS0, hS1⟩ := hSw); go_simp; try (with_reducible rfl))
      try simp only [Act.put, List.setIfInBounds_toArray, List.set_cons_zero, List.set_cons_succ, List.getElem_toArray, List.getElem_cons_zero, List.getElem_cons_succ]
      refine wpAnyH_take (i := 10) (oi := _) (v := ?_) rfl (by kernel_rfl) (by kernel_rfl) (by kernel_rfl) (fun _ _ _ h => h) (Or.inl ⟨by rfl, ?_⟩) (by assumption) ?_
      rotate_left
      · (intro w hSw; (try dsimp only at hSw); (try obtain ⟨hS0, hS1⟩ := hSw); go_simp; try (with_reducible rfl))
      try simp only [Act.put, List.setIfInBounds_toArray, List.set_cons_zero, List.set_cons_succ, List.getElem_toArray, List.getElem_cons_zero, List.getElem_cons_succ]
      refine wpAnyH_ready (rs := [11]) (by kernel_rfl) (by simp) ?_
      refine AllReadyH.cons (o := _) rfl (fun K hK => ?_) AllReadyH.nil
      go_simp
      go_at_call 12; refine (CN.out _ (hT.below bel6)).mono ?_; rintro r w7 ⟨rfl, hb7⟩
      have X7 := X6.below hb7
      have bel7 := bel_go bel6 hb7
      refine hK.out _ _ ?_ (fun hHeld => ?_)
      · exact ⟨X7.c0, X7.c1⟩
      clear hK K
      try simp only [Act.put, List.setIfInBounds_toArray, List.set_cons_zero, List.set_cons_succ, List.getElem_toArray, List.getElem_cons_zero, List.getElem_cons_succ]
      refine wpAnyH_ready (rs := [12]) (by kernel_rfl) (by simp) ?_
      refine AllReadyH.cons (o := _) rfl (fun K hK => ?_) AllReadyH.nil
      go_simp
      go_at_call 20; refine (CC1.out _ (hT.below bel7)).mono ?_; rintro r w8 ⟨rfl, hb8⟩
      have X8 := X7.below hb8
      have bel8 := bel_go bel7 hb8
      refine hK.out _ _ ?_ (fun hHeld => ?_)
      · exact ⟨X8.c0, X8.c1⟩
      clear hK K
      try simp only [Act.put, List.setIfInBounds_toArray, List.set_cons_zero, List.set_cons_succ, List.getElem_toArray, List.getElem_cons_zero, List.getElem_cons_succ]
      refine wpAnyH_take (i := 13) (oi := _) (v := ?_) rfl (by kernel_rfl) (by kernel_rfl) (by kernel_rfl) (fun _ _ _ h => h) (Or.inl ⟨by rfl, ?_⟩) (by assumption) ?_
      rotate_left
      · (intro w hSw; (try dsimp only at hSw); (try obtain ⟨hS0, hS1⟩ := hSw); go_simp; try (with_reducible rfl))
      try simp only [Act.put, List.setIfInBounds_toArray, List.set_cons_zero, List.set_cons_succ, List.getElem_toArray, List.getElem_cons_zero, List.getElem_cons_succ]
      refine wpAnyH_take (i := 14) (oi := _) (v := ?_) rfl (by kernel_rfl) (by kernel_rfl) (by kernel_rfl) (fun _ _ _ h => h) (Or.inl ⟨by rfl, ?_⟩) (by assumption) ?_
      rotate_left
      · (intro w hSw; (try dsimp only at hSw); (try obtain ⟨hS0, hS1⟩ := hSw); go_simp; try (with_reducible rfl))
      try simp only [Act.put, List.setIfInBounds_toArray, List.set_cons_zero, List.set_cons_succ, List.getElem_toArray, List.getElem_cons_zero, List.getElem_cons_succ]
      refine wpAnyH_take (i := 15) (oi := _) (v := ?_) rfl (by kernel_rfl) (by kernel_rfl) (by kernel_rfl) (fun _ _ _ h => h) (Or.inl ⟨by rfl, ?_⟩) (by assumption) ?_
      rotate_left
      · (intro w hSw; (try dsimp only at hSw); (try obtain ⟨hS0, hS1⟩ := hSw); go_simp; try (with_reducible rfl))
      try simp only [Act.put, List.setIfInBounds_toArray, List.set_cons_zero, List.set_cons_succ, List.getElem_toArray, List.getElem_cons_zero, List.getElem_cons_succ]
      refine wpAnyH_take (i := 16) (oi := _) (v := ?_) rfl (by kernel_rfl) (by kernel_rfl) (by kernel_rfl) (fun _ _ _ h => h) (Or.inl ⟨by rfl, ?_⟩) (by assumption) ?_
      rotate_left
      · (intro w hSw; (try dsimp only at hSw); (try obtain ⟨hS0, hS1⟩ := hSw); go_simp; try (with_reducible rfl))
      try simp only [Act.put, List.setIfInBounds_toArray, List.set_cons_zero, List.set_cons_succ, List.getElem_toArray, List.getElem_cons_zero, List.getElem_cons_succ]
      refine wpAnyH_take (i := 17) (oi := _) (v := ?_) rfl (by kernel_rfl) (by kernel_rfl) (by kernel_rfl) (fun _ _ _ h => h) (Or.inl ⟨by rfl, ?_⟩) (by assumption) ?_
      rotate_left
      · (intro w hSw; (try dsimp only at hSw); (try obtain ⟨hS0, hS1⟩ := hSw); go_simp; try (with_reducible rfl))
      try simp only [Act.put, List.setIfInBounds_toArray, List.set_cons_zero, List.set_cons_succ, List.getElem_toArray, List.getElem_cons_zero, List.getElem_cons_succ]
      refine wpAnyH_ready (rs := [18]) (by kernel_rfl) (by simp) ?_
      refine AllReadyH.cons (o := _) rfl (fun K hK => ?_) AllReadyH.nil
      go_simp
      go_at_call 20; refine (CC2.out _ (hT.below bel8)).mono ?_; rintro r w9 ⟨rfl, hb9⟩
      have X9 := X8.below hb9
      have bel9 := bel_go bel8 hb9
      refine hK.out _ _ ?_ (fun hHeld => ?_)
      · exact ⟨X9.c0, X9.c1⟩
      clear hK K
      try simp only [Act.put, List.setIfInBounds_toArray, List.set_cons_zero, List.set_cons_succ, List.getElem_toArray, List.getElem_cons_zero, List.getElem_cons_succ]
      refine wpAnyH_take (i := 19) (oi := _) (v := ?_) rfl (by kernel_rfl) (by kernel_rfl) (by kernel_rfl) (fun _ _ _ h => h) (Or.inl ⟨by rfl, ?_⟩) (by assumption) ?_
      rotate_left
      · (intro w hSw; (try dsimp only at hSw); (try obtain ⟨hS0, hS1⟩ := hSw); go_simp; try (with_reducible rfl))
      try simp only [Act.put, List.setIfInBounds_toArray, List.set_cons_zero, List.set_cons_succ, List.getElem_toArray, List.getElem_cons_zero, List.getElem_cons_succ]
      refine wpAnyH_take (i := 20) (oi := _) (v := ?_) rfl (by kernel_rfl) (by kernel_rfl) (by kernel_rfl) (fun _ _ _ h => h) (Or.inl ⟨by rfl, ?_⟩) (by assumption) ?_
      rotate_left
      · (intro w hSw; (try dsimp only at hSw); (try obtain ⟨hS0, hS1⟩ := hSw); go_simp; try (with_reducible rfl))
      try simp only [Act.put, List.setIfInBounds_toArray, List.set_cons_zero, List.set_cons_succ, List.getElem_toArray, List.getElem_cons_zero, List.getElem_cons_succ]
      refine wpAnyH_done (by kernel_rfl) ?_ _
      go_wp2_with fail
      refine (CU.out _ (hT.below bel9)).mono ?_
      rintro r w10 ⟨rfl, hb10⟩
      have bel10 := bel_go bel9 hb10
      go_wp2_with fail
      refine (CI0.out _ (hT.below bel10)).mono ?_
      rintro r w11 ⟨rfl, hb11⟩
      have bel11 := bel_go bel10 hb11
      go_wp2_with fail
      refine (CI.out _ (hT.below bel11)).mono ?_
      rintro r w12 ⟨rfl, hb12⟩
      have bel12 := bel_go bel11 hb12
      go_wp2_with fail
      refine (CC3.out _ (hT.below bel12)).mono ?_
      rintro r w13 ⟨rfl, hb13⟩
      have bel13 := bel_go bel12 hb13
      go_wp2_with fail
      refine (CD.out _ (hT.below bel13)).mono ?_
      rintro r w14 ⟨rfl, hb14⟩
      have bel14 := bel_go bel13 hb14
      go_wp2_with fail
      refine (CZ0.out _ (hT.below bel14)).mono ?_
      rintro r w15 ⟨rfl, hb15⟩
      have bel15 := bel_go bel14 hb15
      go_wp2_with fail
      refine (CZ.out _ (hT.below bel15)).mono ?_
      rintro r w16 ⟨rfl, hb16⟩
      have bel16 := bel_go bel15 hb16
      go_wp2_with fail
      refine (CC4.out _ (hT.below bel16)).mono ?_
      rintro r w17 ⟨rfl, hb17⟩
      have bel17 := bel_go bel16 hb17
      go_wp2_with fail
      refine (CM1.out _ (hT.below bel17)).mono ?_
      rintro r w18 ⟨rfl, hb18⟩
      have bel18 := bel_go bel17 hb18
      go_wp2_with fail
      refine (CG1.out _ (hT.below bel18)).mono ?_
      rintro r w19 ⟨rfl, hb19⟩
      have bel19 := bel_go bel18 hb19
      go_wp2_with fail
      refine (CM2.out _ (hT.below bel19)).mono ?_
      rintro r w20 ⟨rfl, hb20⟩
      have bel20 := bel_go bel19 hb20
      go_wp2_with fail
      refine (CL1.out _ (hT.below bel20)).mono ?_
      rintro r w21 ⟨rfl, hb21⟩
      have bel21 := bel_go bel20 hb21
      go_wp2
      go_ret
      exact ⟨rfl, bel21⟩
  by_cases h64 : fm = 64
  · subst h64
    cases ng
    · have CG : Hid (∀ w' : World, Tab w' → Calls Tryd.prog 14 #[.int .i64 64, .bool false] w' fun e w'' => e = .returned (.int .u64 9218868437227405311) ∧ Below w'.heap.size w' w'') := hid (fun w' h => impl_Greatest64 false w' h)
      have CL : Hid (∀ w' : World, Tab w' → Calls Tryd.prog 15 #[.int .i64 64, .bool false] w' fun e w'' => e = .returned (.int .u64 1) ∧ Below w'.heap.size w' w'') := hid (fun w' h => impl_Least64 false w' h)
      have CN : Hid (∀ w' : World, Tab w' → Calls Tryd.prog 12 #[.int .i64 64] w' fun e w'' => e = .returned (.int .u64 9221120237041090560) ∧ Below w'.heap.size w' w'') := hid (fun w' h => impl_nan64 w' h)
      have CC1 : Hid (∀ w' : World, Tab w' → Calls Tryd.prog 20 #[.int .i64 64, .int .u64 9221120237041090560] w' fun e w'' => e = .returned (.int .i64 4) ∧ Below w'.heap.size w' w'') := hid (fun w' h => by have q := impl_cls 64 9221120237041090560 w' h (by decide) (by decide); rw [show cls 64 9221120237041090560 = 4 by decide +kernel] at q; exact q)
      have CC2 : Hid (∀ w' : World, Tab w' → Calls Tryd.prog 20 #[.int .i64 64, .int .u64 9218868437227405311] w' fun e w'' => e = .returned (.int .i64 2) ∧ Below w'.heap.size w' w'') := hid (fun w' h => by have q := impl_cls 64 9218868437227405311 w' h (by decide) (by decide); rw [show cls 64 9218868437227405311 = 2 by decide +kernel] at q; exact q)
      have CU : Hid (∀ w' : World, Tab w' → Calls Tryd.prog 21 #[.int .i64 64, .int .u64 9218868437227405311] w' fun e w'' => e = .returned (.int .u64 9218868437227405312) ∧ Below w'.heap.size w' w'') := hid (fun w' h => by have q := impl_up 64 9218868437227405311 w' h (by decide) (by decide); rw [show upF 64 9218868437227405311 = 9218868437227405312 by decide +kernel] at q; exact q)
      have CI0 : Hid (∀ w' : World, Tab w' → Calls Tryd.prog 13 #[.int .i64 64, .bool false] w' fun e w'' => e = .returned (.int .u64 9218868437227405312) ∧ Below w'.heap.size w' w'') := hid (fun w' h => impl_Inf64 false w' h)
      have CI : Hid (∀ w' : World, Tab w' → Calls Tryd.prog 13 #[.int .i64 64, .bool false] w' fun e w'' => e = .returned (.int .u64 9218868437227405312) ∧ Below w'.heap.size w' w'') := hid (fun w' h => impl_Inf64 false w' h)
      have CC3 : Hid (∀ w' : World, Tab w' → Calls Tryd.prog 20 #[.int .i64 64, .int .u64 9218868437227405312] w' fun e w'' => e = .returned (.int .i64 3) ∧ Below w'.heap.size w' w'') := hid (fun w' h => by have q := impl_cls 64 9218868437227405312 w' h (by decide) (by decide); rw [show cls 64 9218868437227405312 = 3 by decide +kernel] at q; exact q)
      have CD : Hid (∀ w' : World, Tab w' → Calls Tryd.prog 22 #[.int .i64 64, .int .u64 1] w' fun e w'' => e = .returned (.int .u64 0) ∧ Below w'.heap.size w' w'') := hid (fun w' h => by have q := impl_down 64 1 w' h (by decide) (by decide); rw [show downF 64 1 = 0 by decide +kernel] at q; exact q)
      have CZ0 : Hid (∀ w' : World, Tab w' → Calls Tryd.prog 16 #[.int .i64 64, .bool false] w' fun e w'' => e = .returned (.int .u64 0) ∧ Below w'.heap.size w' w'') := hid (fun w' h => impl_Zero64 false w' h)
      have CZ : Hid (∀ w' : World, Tab w' → Calls Tryd.prog 16 #[.int .i64 64, .bool false] w' fun e w'' => e = .returned (.int .u64 0) ∧ Below w'.heap.size w' w'') := hid (fun w' h => impl_Zero64 false w' h)
      have CC4 : Hid (∀ w' : World, Tab w' → Calls Tryd.prog 20 #[.int .i64 64, .int .u64 0] w' fun e w'' => e = .returned (.int .i64 0) ∧ Below w'.heap.size w' w'') := hid (fun w' h => by have q := impl_cls 64 0 w' h (by decide) (by decide); rw [show cls 64 0 = 0 by decide +kernel] at q; exact q)
      have CM1 : Hid (∀ w' : World, Tab w' → Calls Tryd.prog 23 #[.int .i64 64, .int .u64 9218868437227405311] w' fun e w'' => e = .returned (.int .u64 18442240474082181119) ∧ Below w'.heap.size w' w'') := hid (fun w' h => impl_neg64 9218868437227405311 w' h (by decide) (by decide))
      have CG1 : Hid (∀ w' : World, Tab w' → Calls Tryd.prog 14 #[.int .i64 64, .bool true] w' fun e w'' => e = .returned (.int .u64 18442240474082181119) ∧ Below w'.heap.size w' w'') := hid (fun w' h => impl_Greatest64 true w' h)
      have CM2 : Hid (∀ w' : World, Tab w' → Calls Tryd.prog 23 #[.int .i64 64, .int .u64 1] w' fun e w'' => e = .returned (.int .u64 9223372036854775809) ∧ Below w'.heap.size w' w'') := hid (fun w' h => impl_neg64 1 w' h (by decide) (by decide))
      have CL1 : Hid (∀ w' : World, Tab w' → Calls Tryd.prog 15 #[.int .i64 64, .bool true] w' fun e w'' => e = .returned (.int .u64 9223372036854775809) ∧ Below w'.heap.size w' w'') := hid (fun w' h => impl_Least64 true w' h)
      have hun : unI 64 1 = 1 := by decide +kernel
      have hfi : finB 64 1 = true := by decide +kernel
      have CQ := hid (fun w' h => units_impl 64 1 w' h (by decide) (by decide))
      unfold Ans at CQ
      rw [hun, hfi] at CQ
      have C1 := hid (fun w' => wof_impl 1 w' (by decide) (by decide))
      have hL2 : (Nm.wl 1).length ≤ 1048576 := by unfold Nm.wl; exact Nat.le_trans (lim_len (k := 1) (by have := (Nm.bl_le_iff (1 : Int).natAbs 1).2 (by decide); omega)) (by decide)
      obtain ⟨G, hG⟩ : ∃ G, G = Nm.wn 1 := ⟨_, rfl⟩
      obtain ⟨L, hL⟩ : ∃ L, L = Nm.wl 1 := ⟨_, rfl⟩
      simp only [← hG, ← hL] at CQ C1
      rw [← hL] at hL2
      clear hG hL hun hfi
      go_wp2_with fail
      refine (CG.out _ (hT.below bel1)).mono ?_
      rintro r w2 ⟨rfl, hb2⟩
      have bel2 := bel_go bel1 hb2
      go_wp2_with fail
      refine (CL.out _ (hT.below bel2)).mono ?_
      rintro r w3 ⟨rfl, hb3⟩
      have bel3 := bel_go bel2 hb3
      go_wp2_with fail
      refine (CQ.out _ (hT.below bel3)).mono ?_
      rintro r w4 ⟨a4, c4, rfl, o4, hb4⟩
      have X := R2.new w4 (.bool G) (.slice a4 L.length c4) 31
      replace o4 := o4.alloc (.cells #[.bool G, .slice a4 L.length c4] 31)
      have bel4 := bel_al (bel_go bel3 hb4) (.cells #[.bool G, .slice a4 L.length c4] 31)
      clear hb2 hb3 hb4
      go_upto_region 21 with fail
      refine wp_region_held_drew (S := fun w' => w'.cell? ⟨w4.heap.size, 0, none⟩ = some (.bool G) ∧ w'.cell? ⟨w4.heap.size, 1, none⟩ = some (.slice a4 L.length c4)) (by kernel_rfl) ?_ (fun hHeld => ?_)
      · exact ⟨X.c0, X.c1⟩
      refine wpAnyH_take (i := 0) (oi := _) (v := ?_) rfl (by kernel_rfl) (by kernel_rfl) (by kernel_rfl) (fun _ _ _ h => h) (Or.inl ⟨by rfl, ?_⟩) (by assumption) ?_
      rotate_left
      · (intro w hSw; (try dsimp only at hSw); (try obtain ⟨hS0, hS1⟩ := hSw); go_simp; try (with_reducible rfl))
      try simp only [Act.put, List.setIfInBounds_toArray, List.set_cons_zero, List.set_cons_succ, List.getElem_toArray, List.getElem_cons_zero, List.getElem_cons_succ]
      refine wpAnyH_take (i := 1) (oi := _) (v := ?_) rfl (by kernel_rfl) (by kernel_rfl) (by kernel_rfl) (fun _ _ _ h => h) (Or.inl ⟨by rfl, ?_⟩) (by assumption) ?_
      rotate_left
      · (intro w hSw; (try dsimp only at hSw); (try obtain ⟨hS0, hS1⟩ := hSw); go_simp; try (with_reducible rfl))
      try simp only [Act.put, List.setIfInBounds_toArray, List.set_cons_zero, List.set_cons_succ, List.getElem_toArray, List.getElem_cons_zero, List.getElem_cons_succ]
      refine wpAnyH_take (i := 2) (oi := _) (v := ?_) rfl (by kernel_rfl) (by kernel_rfl) (by kernel_rfl) (fun _ _ _ h => h) (Or.inl ⟨by rfl, ?_⟩) (by assumption) ?_
      rotate_left
      · (intro w hSw; (try dsimp only at hSw); (try obtain ⟨hS0, hS1⟩ := hSw); go_simp; try (with_reducible rfl))
      try simp only [Act.put, List.setIfInBounds_toArray, List.set_cons_zero, List.set_cons_succ, List.getElem_toArray, List.getElem_cons_zero, List.getElem_cons_succ]
      refine wpAnyH_take (i := 3) (oi := _) (v := ?_) rfl (by kernel_rfl) (by kernel_rfl) (by kernel_rfl) (fun _ _ _ h => h) (Or.inl ⟨by rfl, ?_⟩) (by assumption) ?_
      rotate_left
      · (intro w hSw; (try dsimp only at hSw); (try obtain ⟨hS0, hS1⟩ := hSw); go_simp; try (with_reducible rfl))
      try simp only [Act.put, List.setIfInBounds_toArray, List.set_cons_zero, List.set_cons_succ, List.getElem_toArray, List.getElem_cons_zero, List.getElem_cons_succ]
      refine wpAnyH_ready (rs := [4]) (by kernel_rfl) (by simp) ?_
      refine AllReadyH.cons (o := _) rfl (fun K hK => ?_) AllReadyH.nil
      go_simp
      go_at_call 19; refine (C1.out _).mono ?_; rintro r w5 ⟨a5, c5, rfl, o5, hb5⟩
      have X5 := X.drew.below hb5
      have o4' := o4.drew.below hb5
      have bel5 := bel_go (Below.drew bel4) hb5
      refine hK.out _ _ ?_ (fun hHeld => ?_)
      · exact ⟨X5.c0, X5.c1⟩
      clear hK K
      try simp only [Act.put, List.setIfInBounds_toArray, List.set_cons_zero, List.set_cons_succ, List.getElem_toArray, List.getElem_cons_zero, List.getElem_cons_succ]
      refine wpAnyH_ready (rs := [5]) (by kernel_rfl) (by simp) ?_
      refine AllReadyH.cons (o := _) rfl (fun K hK => ?_) AllReadyH.nil
      go_simp
      go_at_call 18; refine (same_yes G a4 a5 c4 c5 L _ o4'.sl o5.sl hL2).mono ?_; rintro r w6 ⟨rfl, hb6⟩
      have X6 := X5.below hb6
      have bel6 := bel_go bel5 hb6
      refine hK.out _ _ ?_ (fun hHeld => ?_)
      · exact ⟨X6.c0, X6.c1⟩
      clear hK K
      try simp only [Act.put, List.setIfInBounds_toArray, List.set_cons_zero, List.set_cons_succ, List.getElem_toArray, List.getElem_cons_zero, List.getElem_cons_succ]
      refine wpAnyH_take (i := 6) (oi := _) (v := ?_) rfl (by kernel_rfl) (by kernel_rfl) (by kernel_rfl) (fun _ _ _ h => h) (Or.inl ⟨by rfl, ?_⟩) (by assumption) ?_
      rotate_left
      · (intro w hSw; (try dsimp only at hSw); (try obtain ⟨hS0, hS1⟩ := hSw); go_simp; try (with_reducible rfl))
      try simp only [Act.put, List.setIfInBounds_toArray, List.set_cons_zero, List.set_cons_succ, List.getElem_toArray, List.getElem_cons_zero, List.getElem_cons_succ]
      refine wpAnyH_take (i := 7) (oi := _) (v := ?_) rfl (by kernel_rfl) (by kernel_rfl) (by kernel_rfl) (fun _ _ _ h => h) (Or.inl ⟨by rfl, ?_⟩) (by assumption) ?_
      rotate_left
      · (intro w hSw; (try dsimp only at hSw); (try obtain ⟨hS0, hS1⟩ := hSw); go_simp; try (with_reducible rfl))
      try simp only [Act.put, List.setIfInBounds_toArray, List.set_cons_zero, List.set_cons_succ, List.getElem_toArray, List.getElem_cons_zero, List.getElem_cons_succ]
      refine wpAnyH_take (i := 8) (oi := _) (v := ?_) rfl (by kernel_rfl) (by kernel_rfl) (by kernel_rfl) (fun _ _ _ h => h) (Or.inl ⟨by rfl, ?_⟩) (by assumption) ?_
      rotate_left
      · (intro w hSw; (try dsimp only at hSw); (try obtain ⟨hS0, hS1⟩ := hSw); go_simp; try (with_reducible rfl))
      try simp only [Act.put, List.setIfInBounds_toArray, List.set_cons_zero, List.set_cons_succ, List.getElem_toArray, List.getElem_cons_zero, List.getElem_cons_succ]
      refine wpAnyH_take (i := 9) (oi := _) (v := ?_) rfl (by kernel_rfl) (by kernel_rfl) (by kernel_rfl) (fun _ _ _ h => h) (Or.inl ⟨by rfl, ?_⟩) (by assumption) ?_
      rotate_left
      · (intro w hSw; (try dsimp only at hSw); (try obtain ⟨hS0, hS1⟩ := hSw); go_simp; try (with_reducible rfl))
      try simp only [Act.put, List.setIfInBounds_toArray, List.set_cons_zero, List.set_cons_succ, List.getElem_toArray, List.getElem_cons_zero, List.getElem_cons_succ]
      refine wpAnyH_take (i := 10) (oi := _) (v := ?_) rfl (by kernel_rfl) (by kernel_rfl) (by kernel_rfl) (fun _ _ _ h => h) (Or.inl ⟨by rfl, ?_⟩) (by assumption) ?_
      rotate_left
      · (intro w hSw; (try dsimp only at hSw); (try obtain ⟨hS0, hS1⟩ := hSw); go_simp; try (with_reducible rfl))
      try simp only [Act.put, List.setIfInBounds_toArray, List.set_cons_zero, List.set_cons_succ, List.getElem_toArray, List.getElem_cons_zero, List.getElem_cons_succ]
      refine wpAnyH_ready (rs := [11]) (by kernel_rfl) (by simp) ?_
      refine AllReadyH.cons (o := _) rfl (fun K hK => ?_) AllReadyH.nil
      go_simp
      go_at_call 12; refine (CN.out _ (hT.below bel6)).mono ?_; rintro r w7 ⟨rfl, hb7⟩
      have X7 := X6.below hb7
      have bel7 := bel_go bel6 hb7
      refine hK.out _ _ ?_ (fun hHeld => ?_)
      · exact ⟨X7.c0, X7.c1⟩
      clear hK K
      try simp only [Act.put, List.setIfInBounds_toArray, List.set_cons_zero, List.set_cons_succ, List.getElem_toArray, List.getElem_cons_zero, List.getElem_cons_succ]
      refine wpAnyH_ready (rs := [12]) (by kernel_rfl) (by simp) ?_
      refine AllReadyH.cons (o := _) rfl (fun K hK => ?_) AllReadyH.nil
      go_simp
      go_at_call 20; refine (CC1.out _ (hT.below bel7)).mono ?_; rintro r w8 ⟨rfl, hb8⟩
      have X8 := X7.below hb8
      have bel8 := bel_go bel7 hb8
      refine hK.out _ _ ?_ (fun hHeld => ?_)
      · exact ⟨X8.c0, X8.c1⟩
      clear hK K
      try simp only [Act.put, List.setIfInBounds_toArray, List.set_cons_zero, List.set_cons_succ, List.getElem_toArray, List.getElem_cons_zero, List.getElem_cons_succ]
      refine wpAnyH_take (i := 13) (oi := _) (v := ?_) rfl (by kernel_rfl) (by kernel_rfl) (by kernel_rfl) (fun _ _ _ h => h) (Or.inl ⟨by rfl, ?_⟩) (by assumption) ?_
      rotate_left
      · (intro w hSw; (try dsimp only at hSw); (try obtain ⟨hS0, hS1⟩ := hSw); go_simp; try (with_reducible rfl))
      try simp only [Act.put, List.setIfInBounds_toArray, List.set_cons_zero, List.set_cons_succ, List.getElem_toArray, List.getElem_cons_zero, List.getElem_cons_succ]
      refine wpAnyH_take (i := 14) (oi := _) (v := ?_) rfl (by kernel_rfl) (by kernel_rfl) (by kernel_rfl) (fun _ _ _ h => h) (Or.inl ⟨by rfl, ?_⟩) (by assumption) ?_
      rotate_left
      · (intro w hSw; (try dsimp only at hSw); (try obtain ⟨hS0, hS1⟩ := hSw); go_simp; try (with_reducible rfl))
      try simp only [Act.put, List.setIfInBounds_toArray, List.set_cons_zero, List.set_cons_succ, List.getElem_toArray, List.getElem_cons_zero, List.getElem_cons_succ]
      refine wpAnyH_take (i := 15) (oi := _) (v := ?_) rfl (by kernel_rfl) (by kernel_rfl) (by kernel_rfl) (fun _ _ _ h => h) (Or.inl ⟨by rfl, ?_⟩) (by assumption) ?_
      rotate_left
      · (intro w hSw; (try dsimp only at hSw); (try obtain ⟨hS0, hS1⟩ := hSw); go_simp; try (with_reducible rfl))
      try simp only [Act.put, List.setIfInBounds_toArray, List.set_cons_zero, List.set_cons_succ, List.getElem_toArray, List.getElem_cons_zero, List.getElem_cons_succ]
      refine wpAnyH_take (i := 16) (oi := _) (v := ?_) rfl (by kernel_rfl) (by kernel_rfl) (by kernel_rfl) (fun _ _ _ h => h) (Or.inl ⟨by rfl, ?_⟩) (by assumption) ?_
      rotate_left
      · (intro w hSw; (try dsimp only at hSw); (try obtain ⟨hS0, hS1⟩ := hSw); go_simp; try (with_reducible rfl))
      try simp only [Act.put, List.setIfInBounds_toArray, List.set_cons_zero, List.set_cons_succ, List.getElem_toArray, List.getElem_cons_zero, List.getElem_cons_succ]
      refine wpAnyH_take (i := 17) (oi := _) (v := ?_) rfl (by kernel_rfl) (by kernel_rfl) (by kernel_rfl) (fun _ _ _ h => h) (Or.inl ⟨by rfl, ?_⟩) (by assumption) ?_
      rotate_left
      · (intro w hSw; (try dsimp only at hSw); (try obtain ⟨hS0, hS1⟩ := hSw); go_simp; try (with_reducible rfl))
      try simp only [Act.put, List.setIfInBounds_toArray, List.set_cons_zero, List.set_cons_succ, List.getElem_toArray, List.getElem_cons_zero, List.getElem_cons_succ]
      refine wpAnyH_ready (rs := [18]) (by kernel_rfl) (by simp) ?_
      refine AllReadyH.cons (o := _) rfl (fun K hK => ?_) AllReadyH.nil
      go_simp
      go_at_call 20; refine (CC2.out _ (hT.below bel8)).mono ?_; rintro r w9 ⟨rfl, hb9⟩
      have X9 := X8.below hb9
      have bel9 := bel_go bel8 hb9
      refine hK.out _ _ ?_ (fun hHeld => ?_)
      · exact ⟨X9.c0, X9.c1⟩
      clear hK K
      try simp only [Act.put, List.setIfInBounds_toArray, List.set_cons_zero, List.set_cons_succ, List.getElem_toArray, List.getElem_cons_zero, List.getElem_cons_succ]
      refine wpAnyH_take (i := 19) (oi := _) (v := ?_) rfl (by kernel_rfl) (by kernel_rfl) (by kernel_rfl) (fun _ _ _ h => h) (Or.inl ⟨by rfl, ?_⟩) (by assumption) ?_
      rotate_left
      · (intro w hSw; (try dsimp only at hSw); (try obtain ⟨hS0, hS1⟩ := hSw); go_simp; try (with_reducible rfl))
      try simp only [Act.put, List.setIfInBounds_toArray, List.set_cons_zero, List.set_cons_succ, List.getElem_toArray, List.getElem_cons_zero, List.getElem_cons_succ]
      refine wpAnyH_take (i := 20) (oi := _) (v := ?_) rfl (by kernel_rfl) (by kernel_rfl) (by kernel_rfl) (fun _ _ _ h => h) (Or.inl ⟨by rfl, ?_⟩) (by assumption) ?_
      rotate_left
      · (intro w hSw; (try dsimp only at hSw); (try obtain ⟨hS0, hS1⟩ := hSw); go_simp; try (with_reducible rfl))
      try simp only [Act.put, List.setIfInBounds_toArray, List.set_cons_zero, List.set_cons_succ, List.getElem_toArray, List.getElem_cons_zero, List.getElem_cons_succ]
      refine wpAnyH_done (by kernel_rfl) ?_ _
      go_wp2_with fail
      refine (CU.out _ (hT.below bel9)).mono ?_
      rintro r w10 ⟨rfl, hb10⟩
      have bel10 := bel_go bel9 hb10
      go_wp2_with fail
      refine (CI0.out _ (hT.below bel10)).mono ?_
      rintro r w11 ⟨rfl, hb11⟩
      have bel11 := bel_go bel10 hb11
      go_wp2_with fail
      refine (CI.out _ (hT.below bel11)).mono ?_
      rintro r w12 ⟨rfl, hb12⟩
      have bel12 := bel_go bel11 hb12
      go_wp2_with fail
      refine (CC3.out _ (hT.below bel12)).mono ?_
      rintro r w13 ⟨rfl, hb13⟩
      have bel13 := bel_go bel12 hb13
      go_wp2_with fail
      refine (CD.out _ (hT.below bel13)).mono ?_
      rintro r w14 ⟨rfl, hb14⟩
      have bel14 := bel_go bel13 hb14
      go_wp2_with fail
      refine (CZ0.out _ (hT.below bel14)).mono ?_
      rintro r w15 ⟨rfl, hb15⟩
      have bel15 := bel_go bel14 hb15
      go_wp2_with fail
      refine (CZ.out _ (hT.below bel15)).mono ?_
      rintro r w16 ⟨rfl, hb16⟩
      have bel16 := bel_go bel15 hb16
      go_wp2_with fail
      refine (CC4.out _ (hT.below bel16)).mono ?_
      rintro r w17 ⟨rfl, hb17⟩
      have bel17 := bel_go bel16 hb17
      go_wp2_with fail
      refine (CM1.out _ (hT.below bel17)).mono ?_
      rintro r w18 ⟨rfl, hb18⟩
      have bel18 := bel_go bel17 hb18
      go_wp2_with fail
      refine (CG1.out _ (hT.below bel18)).mono ?_
      rintro r w19 ⟨rfl, hb19⟩
      have bel19 := bel_go bel18 hb19
      go_wp2_with fail
      refine (CM2.out _ (hT.below bel19)).mono ?_
      rintro r w20 ⟨rfl, hb20⟩
      have bel20 := bel_go bel19 hb20
      go_wp2_with fail
      refine (CL1.out _ (hT.below bel20)).mono ?_
      rintro r w21 ⟨rfl, hb21⟩
      have bel21 := bel_go bel20 hb21
      go_wp2
      go_ret
      exact ⟨rfl, bel21⟩
    · have CG : Hid (∀ w' : World, Tab w' → Calls Tryd.prog 14 #[.int .i64 64, .bool false] w' fun e w'' => e = .returned (.int .u64 9218868437227405311) ∧ Below w'.heap.size w' w'') := hid (fun w' h => impl_Greatest64 false w' h)
      have CL : Hid (∀ w' : World, Tab w' → Calls Tryd.prog 15 #[.int .i64 64, .bool false] w' fun e w'' => e = .returned (.int .u64 1) ∧ Below w'.heap.size w' w'') := hid (fun w' h => impl_Least64 false w' h)
      have CN : Hid (∀ w' : World, Tab w' → Calls Tryd.prog 12 #[.int .i64 64] w' fun e w'' => e = .returned (.int .u64 9221120237041090560) ∧ Below w'.heap.size w' w'') := hid (fun w' h => impl_nan64 w' h)
      have CC1 : Hid (∀ w' : World, Tab w' → Calls Tryd.prog 20 #[.int .i64 64, .int .u64 9221120237041090560] w' fun e w'' => e = .returned (.int .i64 4) ∧ Below w'.heap.size w' w'') := hid (fun w' h => by have q := impl_cls 64 9221120237041090560 w' h (by decide) (by decide); rw [show cls 64 9221120237041090560 = 4 by decide +kernel] at q; exact q)
      have CC2 : Hid (∀ w' : World, Tab w' → Calls Tryd.prog 20 #[.int .i64 64, .int .u64 9218868437227405311] w' fun e w'' => e = .returned (.int .i64 2) ∧ Below w'.heap.size w' w'') := hid (fun w' h => by have q := impl_cls 64 9218868437227405311 w' h (by decide) (by decide); rw [show cls 64 9218868437227405311 = 2 by decide +kernel] at q; exact q)
      have CU : Hid (∀ w' : World, Tab w' → Calls Tryd.prog 21 #[.int .i64 64, .int .u64 9218868437227405311] w' fun e w'' => e = .returned (.int .u64 9218868437227405312) ∧ Below w'.heap.size w' w'') := hid (fun w' h => by have q := impl_up 64 9218868437227405311 w' h (by decide) (by decide); rw [show upF 64 9218868437227405311 = 9218868437227405312 by decide +kernel] at q; exact q)
      have CI0 : Hid (∀ w' : World, Tab w' → Calls Tryd.prog 13 #[.int .i64 64, .bool false] w' fun e w'' => e = .returned (.int .u64 9218868437227405312) ∧ Below w'.heap.size w' w'') := hid (fun w' h => impl_Inf64 false w' h)
      have CI : Hid (∀ w' : World, Tab w' → Calls Tryd.prog 13 #[.int .i64 64, .bool true] w' fun e w'' => e = .returned (.int .u64 18442240474082181120) ∧ Below w'.heap.size w' w'') := hid (fun w' h => impl_Inf64 true w' h)
      have CC3 : Hid (∀ w' : World, Tab w' → Calls Tryd.prog 20 #[.int .i64 64, .int .u64 18442240474082181120] w' fun e w'' => e = .returned (.int .i64 3) ∧ Below w'.heap.size w' w'') := hid (fun w' h => by have q := impl_cls 64 18442240474082181120 w' h (by decide) (by decide); rw [show cls 64 18442240474082181120 = 3 by decide +kernel] at q; exact q)
      have CD : Hid (∀ w' : World, Tab w' → Calls Tryd.prog 22 #[.int .i64 64, .int .u64 1] w' fun e w'' => e = .returned (.int .u64 0) ∧ Below w'.heap.size w' w'') := hid (fun w' h => by have q := impl_down 64 1 w' h (by decide) (by decide); rw [show downF 64 1 = 0 by decide +kernel] at q; exact q)
      have CZ0 : Hid (∀ w' : World, Tab w' → Calls Tryd.prog 16 #[.int .i64 64, .bool false] w' fun e w'' => e = .returned (.int .u64 0) ∧ Below w'.heap.size w' w'') := hid (fun w' h => impl_Zero64 false w' h)
      have CZ : Hid (∀ w' : World, Tab w' → Calls Tryd.prog 16 #[.int .i64 64, .bool true] w' fun e w'' => e = .returned (.int .u64 9223372036854775808) ∧ Below w'.heap.size w' w'') := hid (fun w' h => impl_Zero64 true w' h)
      have CC4 : Hid (∀ w' : World, Tab w' → Calls Tryd.prog 20 #[.int .i64 64, .int .u64 9223372036854775808] w' fun e w'' => e = .returned (.int .i64 0) ∧ Below w'.heap.size w' w'') := hid (fun w' h => by have q := impl_cls 64 9223372036854775808 w' h (by decide) (by decide); rw [show cls 64 9223372036854775808 = 0 by decide +kernel] at q; exact q)
      have CM1 : Hid (∀ w' : World, Tab w' → Calls Tryd.prog 23 #[.int .i64 64, .int .u64 9218868437227405311] w' fun e w'' => e = .returned (.int .u64 18442240474082181119) ∧ Below w'.heap.size w' w'') := hid (fun w' h => impl_neg64 9218868437227405311 w' h (by decide) (by decide))
      have CG1 : Hid (∀ w' : World, Tab w' → Calls Tryd.prog 14 #[.int .i64 64, .bool true] w' fun e w'' => e = .returned (.int .u64 18442240474082181119) ∧ Below w'.heap.size w' w'') := hid (fun w' h => impl_Greatest64 true w' h)
      have CM2 : Hid (∀ w' : World, Tab w' → Calls Tryd.prog 23 #[.int .i64 64, .int .u64 1] w' fun e w'' => e = .returned (.int .u64 9223372036854775809) ∧ Below w'.heap.size w' w'') := hid (fun w' h => impl_neg64 1 w' h (by decide) (by decide))
      have CL1 : Hid (∀ w' : World, Tab w' → Calls Tryd.prog 15 #[.int .i64 64, .bool true] w' fun e w'' => e = .returned (.int .u64 9223372036854775809) ∧ Below w'.heap.size w' w'') := hid (fun w' h => impl_Least64 true w' h)
      have hun : unI 64 1 = 1 := by decide +kernel
      have hfi : finB 64 1 = true := by decide +kernel
      have CQ := hid (fun w' h => units_impl 64 1 w' h (by decide) (by decide))
      unfold Ans at CQ
      rw [hun, hfi] at CQ
      have C1 := hid (fun w' => wof_impl 1 w' (by decide) (by decide))
      have hL2 : (Nm.wl 1).length ≤ 1048576 := by unfold Nm.wl; exact Nat.le_trans (lim_len (k := 1) (by have := (Nm.bl_le_iff (1 : Int).natAbs 1).2 (by decide); omega)) (by decide)
      obtain ⟨G, hG⟩ : ∃ G, G = Nm.wn 1 := ⟨_, rfl⟩
      obtain ⟨L, hL⟩ : ∃ L, L = Nm.wl 1 := ⟨_, rfl⟩
      simp only [← hG, ← hL] at CQ C1
      rw [← hL] at hL2
      clear hG hL hun hfi
      go_wp2_with fail
      refine (CG.out _ (hT.below bel1)).mono ?_
      rintro r w2 ⟨rfl, hb2⟩
      have bel2 := bel_go bel1 hb2
      go_wp2_with fail
      refine (CL.out _ (hT.below bel2)).mono ?_
      rintro r w3 ⟨rfl, hb3⟩
      have bel3 := bel_go bel2 hb3
      go_wp2_with fail
      refine (CQ.out _ (hT.below bel3)).mono ?_
      rintro r w4 ⟨a4, c4, rfl, o4, hb4⟩
      have X := R2.new w4 (.bool G) (.slice a4 L.length c4) 31
      replace o4 := o4.alloc (.cells #[.bool G, .slice a4 L.length c4] 31)
      have bel4 := bel_al (bel_go bel3 hb4) (.cells #[.bool G, .slice a4 L.length c4] 31)
      clear hb2 hb3 hb4
      go_upto_region 21 with fail
      refine wp_region_held_drew (S := fun w' => w'.cell? ⟨w4.heap.size, 0, none⟩ = some (.bool G) ∧ w'.cell? ⟨w4.heap.size, 1, none⟩ = some (.slice a4 L.length c4)) (by kernel_rfl) ?_ (fun hHeld => ?_)
      · exact ⟨X.c0, X.c1⟩
      refine wpAnyH_take (i := 0) (oi := _) (v := ?_) rfl (by kernel_rfl) (by kernel_rfl) (by kernel_rfl) (fun _ _ _ h => h) (Or.inl ⟨by rfl, ?_⟩) (by assumption) ?_
      rotate_left
      · (intro w hSw; (try dsimp only at hSw); (try obtain ⟨hS0, hS1⟩ := hSw); go_simp; try (with_reducible rfl))
      try simp only [Act.put, List.setIfInBounds_toArray, List.set_cons_zero, List.set_cons_succ, List.getElem_toArray, List.getElem_cons_zero, List.getElem_cons_succ]
      refine wpAnyH_take (i := 1) (oi := _) (v := ?_) rfl (by kernel_rfl) (by kernel_rfl) (by kernel_rfl) (fun _ _ _ h => h) (Or.inl ⟨by rfl, ?_⟩) (by assumption) ?_
      rotate_left
      · (intro w hSw; (try dsimp only at hSw); (try obtain ⟨hS0, hS1⟩ := hSw); go_simp; try (with_reducible rfl))
      try simp only [Act.put, List.setIfInBounds_toArray, List.set_cons_zero, List.set_cons_succ, List.getElem_toArray, List.getElem_cons_zero, List.getElem_cons_succ]
      refine wpAnyH_take (i := 2) (oi := _) (v := ?_) rfl (by kernel_rfl) (by kernel_rfl) (by kernel_rfl) (fun _ _ _ h => h) (Or.inl ⟨by rfl, ?_⟩) (by assumption) ?_
      rotate_left
      · (intro w hSw; (try dsimp only at hSw); (try obtain ⟨hS0, hS1⟩ := hSw); go_simp; try (with_reducible rfl))
      try simp only [Act.put, List.setIfInBounds_toArray, List.set_cons_zero, List.set_cons_succ, List.getElem_toArray, List.getElem_cons_zero, List.getElem_cons_succ]
      refine wpAnyH_take (i := 3) (oi := _) (v := ?_) rfl (by kernel_rfl) (by kernel_rfl) (by kernel_rfl) (fun _ _ _ h => h) (Or.inl ⟨by rfl, ?_⟩) (by assumption) ?_
      rotate_left
      · (intro w hSw; (try dsimp only at hSw); (try obtain ⟨hS0, hS1⟩ := hSw); go_simp; try (with_reducible rfl))
      try simp only [Act.put, List.setIfInBounds_toArray, List.set_cons_zero, List.set_cons_succ, List.getElem_toArray, List.getElem_cons_zero, List.getElem_cons_succ]
      refine wpAnyH_ready (rs := [4]) (by kernel_rfl) (by simp) ?_
      refine AllReadyH.cons (o := _) rfl (fun K hK => ?_) AllReadyH.nil
      go_simp
      go_at_call 19; refine (C1.out _).mono ?_; rintro r w5 ⟨a5, c5, rfl, o5, hb5⟩
      have X5 := X.drew.below hb5
      have o4' := o4.drew.below hb5
      have bel5 := bel_go (Below.drew bel4) hb5
      refine hK.out _ _ ?_ (fun hHeld => ?_)
      · exact ⟨X5.c0, X5.c1⟩
      clear hK K
      try simp only [Act.put, List.setIfInBounds_toArray, List.set_cons_zero, List.set_cons_succ, List.getElem_toArray, List.getElem_cons_zero, List.getElem_cons_succ]
      refine wpAnyH_ready (rs := [5]) (by kernel_rfl) (by simp) ?_
      refine AllReadyH.cons (o := _) rfl (fun K hK => ?_) AllReadyH.nil
      go_simp
      go_at_call 18; refine (same_yes G a4 a5 c4 c5 L _ o4'.sl o5.sl hL2).mono ?_; rintro r w6 ⟨rfl, hb6⟩
      have X6 := X5.below hb6
      have bel6 := bel_go bel5 hb6
      refine hK.out _ _ ?_ (fun hHeld => ?_)
      · exact ⟨X6.c0, X6.c1⟩
      clear hK K
      try simp only [Act.put, List.setIfInBounds_toArray, List.set_cons_zero, List.set_cons_succ, List.getElem_toArray, List.getElem_cons_zero, List.getElem_cons_succ]
      refine wpAnyH_take (i := 6) (oi := _) (v := ?_) rfl (by kernel_rfl) (by kernel_rfl) (by kernel_rfl) (fun _ _ _ h => h) (Or.inl ⟨by rfl, ?_⟩) (by assumption) ?_
      rotate_left
      · (intro w hSw; (try dsimp only at hSw); (try obtain ⟨hS0, hS1⟩ := hSw); go_simp; try (with_reducible rfl))
      try simp only [Act.put, List.setIfInBounds_toArray, List.set_cons_zero, List.set_cons_succ, List.getElem_toArray, List.getElem_cons_zero, List.getElem_cons_succ]
      refine wpAnyH_take (i := 7) (oi := _) (v := ?_) rfl (by kernel_rfl) (by kernel_rfl) (by kernel_rfl) (fun _ _ _ h => h) (Or.inl ⟨by rfl, ?_⟩) (by assumption) ?_
      rotate_left
      · (intro w hSw; (try dsimp only at hSw); (try obtain ⟨hS0, hS1⟩ := hSw); go_simp; try (with_reducible rfl))
      try simp only [Act.put, List.setIfInBounds_toArray, List.set_cons_zero, List.set_cons_succ, List.getElem_toArray, List.getElem_cons_zero, List.getElem_cons_succ]
      refine wpAnyH_take (i := 8) (oi := _) (v := ?_) rfl (by kernel_rfl) (by kernel_rfl) (by kernel_rfl) (fun _ _ _ h => h) (Or.inl ⟨by rfl, ?_⟩) (by assumption) ?_
      rotate_left
      · (intro w hSw; (try dsimp only at hSw); (try obtain ⟨hS0, hS1⟩ := hSw); go_simp; try (with_reducible rfl))
      try simp only [Act.put, List.setIfInBounds_toArray, List.set_cons_zero, List.set_cons_succ, List.getElem_toArray, List.getElem_cons_zero, List.getElem_cons_succ]
      refine wpAnyH_take (i := 9) (oi := _) (v := ?_) rfl (by kernel_rfl) (by kernel_rfl) (by kernel_rfl) (fun _ _ _ h => h) (Or.inl ⟨by rfl, ?_⟩) (by assumption) ?_
      rotate_left
      · (intro w hSw; (try dsimp only at hSw); (try obtain ⟨hS0, hS1⟩ := hSw); go_simp; try (with_reducible rfl))
      try simp only [Act.put, List.setIfInBounds_toArray, List.set_cons_zero, List.set_cons_succ, List.getElem_toArray, List.getElem_cons_zero, List.getElem_cons_succ]
      refine wpAnyH_take (i := 10) (oi := _) (v := ?_) rfl (by kernel_rfl) (by kernel_rfl) (by kernel_rfl) (fun _ _ _ h => h) (Or.inl ⟨by rfl, ?_⟩) (by assumption) ?_
      rotate_left
      · (intro w hSw; (try dsimp only at hSw); (try obtain ⟨hS0, hS1⟩ := hSw); go_simp; try (with_reducible rfl))
      try simp only [Act.put, List.setIfInBounds_toArray, List.set_cons_zero, List.set_cons_succ, List.getElem_toArray, List.getElem_cons_zero, List.getElem_cons_succ]
      refine wpAnyH_ready (rs := [11]) (by kernel_rfl) (by simp) ?_
      refine AllReadyH.cons (o := _) rfl (fun K hK => ?_) AllReadyH.nil
      go_simp
      go_at_call 12; refine (CN.out _ (hT.below bel6)).mono ?_; rintro r w7 ⟨rfl, hb7⟩
      have X7 := X6.below hb7
      have bel7 := bel_go bel6 hb7
      refine hK.out _ _ ?_ (fun hHeld => ?_)
      · exact ⟨X7.c0, X7.c1⟩
      clear hK K
      try simp only [Act.put, List.setIfInBounds_toArray, List.set_cons_zero, List.set_cons_succ, List.getElem_toArray, List.getElem_cons_zero, List.getElem_cons_succ]
      refine wpAnyH_ready (rs := [12]) (by kernel_rfl) (by simp) ?_
      refine AllReadyH.cons (o := _) rfl (fun K hK => ?_) AllReadyH.nil
      go_simp
      go_at_call 20; refine (CC1.out _ (hT.below bel7)).mono ?_; rintro r w8 ⟨rfl, hb8⟩
      have X8 := X7.below hb8
      have bel8 := bel_go bel7 hb8
      refine hK.out _ _ ?_ (fun hHeld => ?_)
      · exact ⟨X8.c0, X8.c1⟩
      clear hK K
      try simp only [Act.put, List.setIfInBounds_toArray, List.set_cons_zero, List.set_cons_succ, List.getElem_toArray, List.getElem_cons_zero, List.getElem_cons_succ]
      refine wpAnyH_take (i := 13) (oi := _) (v := ?_) rfl (by kernel_rfl) (by kernel_rfl) (by kernel_rfl) (fun _ _ _ h => h) (Or.inl ⟨by rfl, ?_⟩) (by assumption) ?_
      rotate_left
      · (intro w hSw; (try dsimp only at hSw); (try obtain ⟨hS0, hS1⟩ := hSw); go_simp; try (with_reducible rfl))
      try simp only [Act.put, List.setIfInBounds_toArray, List.set_cons_zero, List.set_cons_succ, List.getElem_toArray, List.getElem_cons_zero, List.getElem_cons_succ]
      refine wpAnyH_take (i := 14) (oi := _) (v := ?_) rfl (by kernel_rfl) (by kernel_rfl) (by kernel_rfl) (fun _ _ _ h => h) (Or.inl ⟨by rfl, ?_⟩) (by assumption) ?_
      rotate_left
      · (intro w hSw; (try dsimp only at hSw); (try obtain ⟨hS0, hS1⟩ := hSw); go_simp; try (with_reducible rfl))
      try simp only [Act.put, List.setIfInBounds_toArray, List.set_cons_zero, List.set_cons_succ, List.getElem_toArray, List.getElem_cons_zero, List.getElem_cons_succ]
      refine wpAnyH_take (i := 15) (oi := _) (v := ?_) rfl (by kernel_rfl) (by kernel_rfl) (by kernel_rfl) (fun _ _ _ h => h) (Or.inl ⟨by rfl, ?_⟩) (by assumption) ?_
      rotate_left
      · (intro w hSw; (try dsimp only at hSw); (try obtain ⟨hS0, hS1⟩ := hSw); go_simp; try (with_reducible rfl))
      try simp only [Act.put, List.setIfInBounds_toArray, List.set_cons_zero, List.set_cons_succ, List.getElem_toArray, List.getElem_cons_zero, List.getElem_cons_succ]
      refine wpAnyH_take (i := 16) (oi := _) (v := ?_) rfl (by kernel_rfl) (by kernel_rfl) (by kernel_rfl) (fun _ _ _ h => h) (Or.inl ⟨by rfl, ?_⟩) (by assumption) ?_
      rotate_left
      · (intro w hSw; (try dsimp only at hSw); (try obtain ⟨hS0, hS1⟩ := hSw); go_simp; try (with_reducible rfl))
      try simp only [Act.put, List.setIfInBounds_toArray, List.set_cons_zero, List.set_cons_succ, List.getElem_toArray, List.getElem_cons_zero, List.getElem_cons_succ]
      refine wpAnyH_take (i := 17) (oi := _) (v := ?_) rfl (by kernel_rfl) (by kernel_rfl) (by kernel_rfl) (fun _ _ _ h => h) (Or.inl ⟨by rfl, ?_⟩) (by assumption) ?_
      rotate_left
      · (intro w hSw; (try dsimp only at hSw); (try obtain ⟨hS0, hS1⟩ := hSw); go_simp; try (with_reducible rfl))
      try simp only [Act.put, List.setIfInBounds_toArray, List.set_cons_zero, List.set_cons_succ, List.getElem_toArray, List.getElem_cons_zero, List.getElem_cons_succ]
      refine wpAnyH_ready (rs := [18]) (by kernel_rfl) (by simp) ?_
      refine AllReadyH.cons (o := _) rfl (fun K hK => ?_) AllReadyH.nil
      go_simp
      go_at_call 20; refine (CC2.out _ (hT.below bel8)).mono ?_; rintro r w9 ⟨rfl, hb9⟩
      have X9 := X8.below hb9
      have bel9 := bel_go bel8 hb9
      refine hK.out _ _ ?_ (fun hHeld => ?_)
      · exact ⟨X9.c0, X9.c1⟩
      clear hK K
      try simp only [Act.put, List.setIfInBounds_toArray, List.set_cons_zero, List.set_cons_succ, List.getElem_toArray, List.getElem_cons_zero, List.getElem_cons_succ]
      refine wpAnyH_take (i := 19) (oi := _) (v := ?_) rfl (by kernel_rfl) (by kernel_rfl) (by kernel_rfl) (fun _ _ _ h => h) (Or.inl ⟨by rfl, ?_⟩) (by assumption) ?_
      rotate_left
      · (intro w hSw; (try dsimp only at hSw); (try obtain ⟨hS0, hS1⟩ := hSw); go_simp; try (with_reducible rfl))
      try simp only [Act.put, List.setIfInBounds_toArray, List.set_cons_zero, List.set_cons_succ, List.getElem_toArray, List.getElem_cons_zero, List.getElem_cons_succ]
      refine wpAnyH_take (i := 20) (oi := _) (v := ?_) rfl (by kernel_rfl) (by kernel_rfl) (by kernel_rfl) (fun _ _ _ h => h) (Or.inl ⟨by rfl, ?_⟩) (by assumption) ?_
      rotate_left
      · (intro w hSw; (try dsimp only at hSw); (try obtain ⟨hS0, hS1⟩ := hSw); go_simp; try (with_reducible rfl))
      try simp only [Act.put, List.setIfInBounds_toArray, List.set_cons_zero, List.set_cons_succ, List.getElem_toArray, List.getElem_cons_zero, List.getElem_cons_succ]
      refine wpAnyH_done (by kernel_rfl) ?_ _
      go_wp2_with fail
      refine (CU.out _ (hT.below bel9)).mono ?_
      rintro r w10 ⟨rfl, hb10⟩
      have bel10 := bel_go bel9 hb10
      go_wp2_with fail
      refine (CI0.out _ (hT.below bel10)).mono ?_
      rintro r w11 ⟨rfl, hb11⟩
      have bel11 := bel_go bel10 hb11
      go_wp2_with fail
      refine (CI.out _ (hT.below bel11)).mono ?_
      rintro r w12 ⟨rfl, hb12⟩
      have bel12 := bel_go bel11 hb12
      go_wp2_with fail
      refine (CC3.out _ (hT.below bel12)).mono ?_
      rintro r w13 ⟨rfl, hb13⟩
      have bel13 := bel_go bel12 hb13
      go_wp2_with fail
      refine (CD.out _ (hT.below bel13)).mono ?_
      rintro r w14 ⟨rfl, hb14⟩
      have bel14 := bel_go bel13 hb14
      go_wp2_with fail
      refine (CZ0.out _ (hT.below bel14)).mono ?_
      rintro r w15 ⟨rfl, hb15⟩
      have bel15 := bel_go bel14 hb15
      go_wp2_with fail
      refine (CZ.out _ (hT.below bel15)).mono ?_
      rintro r w16 ⟨rfl, hb16⟩
      have bel16 := bel_go bel15 hb16
      go_wp2_with fail
      refine (CC4.out _ (hT.below bel16)).mono ?_
      rintro r w17 ⟨rfl, hb17⟩
      have bel17 := bel_go bel16 hb17
      go_wp2_with fail
      refine (CM1.out _ (hT.below bel17)).mono ?_
      rintro r w18 ⟨rfl, hb18⟩
      have bel18 := bel_go bel17 hb18
      go_wp2_with fail
      refine (CG1.out _ (hT.below bel18)).mono ?_
      rintro r w19 ⟨rfl, hb19⟩
      have bel19 := bel_go bel18 hb19
      go_wp2_with fail
      refine (CM2.out _ (hT.below bel19)).mono ?_
      rintro r w20 ⟨rfl, hb20⟩
      have bel20 := bel_go bel19 hb20
      go_wp2_with fail
      refine (CL1.out _ (hT.below bel20)).mono ?_
      rintro r w21 ⟨rfl, hb21⟩
      have bel21 := bel_go bel20 hb21
      go_wp2
      go_ret
      exact ⟨rfl, bel21⟩
  have q1 : (fm != 32) = true := by simpa using h32
  have q2 : (fm != 64) = true := by simpa using h64
  have D1 := hid (fun w' h => impl_nan0 fm w' h h32 h64)
  have D2 := hid (fun w' h => impl_Inf0 fm ng w' h h32 h64)
  have D3 := hid (fun w' h => impl_Greatest0 fm ng w' h h32 h64)
  have D4 := hid (fun w' h => impl_Least0 fm ng w' h h32 h64)
  have D5 := hid (fun w' h => impl_Zero0 fm ng w' h h32 h64)
  clear h32 h64
  go_wp2_with fail
  refine (D1.out _ (hT.below bel1)).mono ?_
  rintro r w2 ⟨rfl, hb2⟩
  have bel2 := bel_go bel1 hb2
  go_wp2_with fail
  refine (D2.out _ (hT.below bel2)).mono ?_
  rintro r w3 ⟨rfl, hb3⟩
  have bel3 := bel_go bel2 hb3
  go_wp2_with fail
  refine (D3.out _ (hT.below bel3)).mono ?_
  rintro r w4 ⟨rfl, hb4⟩
  have bel4 := bel_go bel3 hb4
  go_wp2_with fail
  refine (D4.out _ (hT.below bel4)).mono ?_
  rintro r w5 ⟨rfl, hb5⟩
  have bel5 := bel_go bel4 hb5
  go_wp2_with fail
  refine (D5.out _ (hT.below bel5)).mono ?_
  rintro r w6 ⟨rfl, hb6⟩
  have bel6 := bel_go bel5 hb6
  go_wp2
  go_ret
  exact ⟨rfl, bel6⟩
theorem law_all (ca : Option Addr) (cc : Nat) (cs : List Int) (w : World) (hT : Tab w) (hs : Sl .u8 w (.slice ca cs.length cc) cs) (hby : ∀ i, 0 ≤ cs.getD i 0 ∧ cs.getD i 0 ≤ 255) :
    Calls Tryd.prog 3 #[.slice ca cs.length cc] w fun e w' => e = .returned (.bool true) ∧ Below w.heap.size w w' := by
  by_cases h : cs.length ≤ 1048576
  · exact law ca cc cs w hT hs hby h
  · have hn : cs.length ≤ 9223372036854775807 := by obtain ⟨_, h1, h2, _⟩ := hs.cells; unfold maxLen at h2; omega
    have CB := hid (big_any ca cs.length cc w hn true (by simp; omega))
    clear hs hby h hn
    go_enter Tryd.func3, Tryd.ntmps3
    go_wp2_with fail
    refine CB.out.mono ?_
    rintro e w0 ⟨rfl, rfl⟩
    go_wp2
    go_ret
    exact ⟨rfl, Below.refl _ _⟩
end Fd
end Go.Proofs.YtojcaoccjapdoaaDoor
