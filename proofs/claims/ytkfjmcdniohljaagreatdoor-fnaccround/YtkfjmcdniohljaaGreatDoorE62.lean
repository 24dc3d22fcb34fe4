/-
  What is needed of LAr.
-/
import Derived.Test.YtkfjmcdniohljaaGreatDoorE60
set_option maxHeartbeats 16000000
set_option maxRecDepth 1000000
namespace Go.Proofs.YtkfjmcdniohljaaGreatDoor
set_option linter.unusedVariables false
set_option linter.unusedSimpArgs false
open Go.RowKit Go.Deep
namespace Fd
theorem unit_a {fm : Int} (h : fmtB fm = true) (w : World) :
    Calls Tryz.prog 23 #[.int .i64 fm] w fun e w' => e = .returned (.int .i64 (unQ fm)) ∧ Below w.heap.size w w' := by
  rcases fmt_cases h with rfl | rfl
  · exact unit32 w
  · exact unit64 w
theorem arclaw (ca : Option Addr) (cc : Nat) (cs : List Int) (w : World) (hT : T3 w) (hs : Sl .u8 w (.slice ca cs.length cc) cs) (hby : ∀ i, 0 ≤ cs.getD i 0 ∧ cs.getD i 0 ≤ 255) (hl : cs.length ≤ 1048576) :
    Calls Tryz.prog 11 #[.slice ca cs.length cc] w fun e w' => e = .returned (.bool true) ∧ Below w.heap.size w w' := by
  go_enter Tryz.func11, Tryz.ntmps11
  go_wp2_with fail
  refine (big_any ca cs.length cc _ (by omega) false (by simp; omega)).mono ?_
  rintro r w0 ⟨rfl, rfl⟩
  go_wp2_with fail
  refine (drawAccRound_x ca cc cs _ hs hby hl).mono ?_
  rintro r w1 ⟨F, ng, zs, T, nn, bd, pl, mi, am, a, c, m, rfl, l1, d1, o1, bel⟩
  have T3' := hT.below bel
  have s1 := o1.sl
  have CI := hid (fun w' k k' => round_impl F ng T nn bd pl mi am a c zs m w' k k' d1 (by omega))
  have CS := hid (fun w' k => round_spec F ng T nn bd pl mi am a c zs m w' k d1 (by omega))
  have CU := hid (fun (h : fmtB F = true) w' => unit_a h w')
  have CR := hid (fun w' k k' => rounded_impl F m ng zs (2 * unQ F) a c w' k k' d1 (by omega))
  have AR := hid (ar_is (F := F) (ng := ng) (zs := zs) (T := T) (nn := nn) (bd := bd) (pl := pl) (mi := mi) (am := am) (m := m))
  have hq := unq_bd F
  clear hs hby hl hT o1 d1
  obtain ⟨q, h_q⟩ : ∃ q, q = unQ F := ⟨_, rfl⟩
  obtain ⟨X, h_X⟩ : ∃ q, q = arB F ng zs T nn bd pl mi am m := ⟨_, rfl⟩
  obtain ⟨Y, h_Y⟩ : ∃ q, q = arF F ng zs T nn bd pl mi am m := ⟨_, rfl⟩
  obtain ⟨O, h_O⟩ : ∃ q, q = arO F ng zs T nn bd pl mi am m := ⟨_, rfl⟩
  rw [← h_q] at CU CR AR hq
  rw [← h_X, ← h_Y, ← h_O] at CI CS AR
  clear h_q h_X h_Y h_O
  have ne_X : (X != X) = false := by simp
  have eq_X : (X == X) = true := by simp
  have ne_Y : (Y != Y) = false := by simp
  have eq_Y : (Y == Y) = true := by simp
  have ne_O : (O != O) = false := by simp
  have eq_O : (O == O) = true := by simp
  cases O
  · clear AR CU CR
    replace T3' := T3'.below (al_b _ (.cells #[.int .i64 F, .bool ng, .slice a zs.length c, .int .i64 T, .bool nn, .bool bd, .bool pl, .bool mi, .bool am] 50))
    replace s1 := s1.below (al_b _ (.cells #[.int .i64 F, .bool ng, .slice a zs.length c, .int .i64 T, .bool nn, .bool bd, .bool pl, .bool mi, .bool am] 50))
    replace bel := bel_al bel (.cells #[.int .i64 F, .bool ng, .slice a zs.length c, .int .i64 T, .bool nn, .bool bd, .bool pl, .bool mi, .bool am] 50)
    have Ba := Q9.new w1 (.int .i64 F) (.bool ng) (.slice a zs.length c) (.int .i64 T) (.bool nn) (.bool bd) (.bool pl) (.bool mi) (.bool am) 50
    obtain ⟨ka0, ka1, ka2, ka3, ka4, ka5, ka6, ka7, ka8, -, -, -, -, -, -, -, -, -⟩ := id Ba
    go_wp2_with fail
    refine (CI.out _ T3' s1).mono ?_
    rintro r w2 ⟨rfl, hb⟩
    clear ka0 ka1 ka2 ka3 ka4 ka5 ka6 ka7 ka8
    replace bel := bel_go bel hb
    replace T3' := T3'.below hb
    replace s1 := s1.below hb
    replace Ba := Ba.below hb
    clear hb
    obtain ⟨ka0, ka1, ka2, ka3, ka4, ka5, ka6, ka7, ka8, -, -, -, -, -, -, -, -, -⟩ := id Ba
    go_wp2_with fail
    refine (CS.out _ s1).mono ?_
    rintro r w3 ⟨rfl, hb⟩
    clear ka0 ka1 ka2 ka3 ka4 ka5 ka6 ka7 ka8
    replace bel := bel_go bel hb
    replace T3' := T3'.below hb
    replace s1 := s1.below hb
    replace Ba := Ba.below hb
    clear hb
    obtain ⟨ka0, ka1, ka2, ka3, ka4, ka5, ka6, ka7, ka8, -, -, -, -, -, -, -, -, -⟩ := id Ba
    go_wp2
    all_goals go_ret
    all_goals exact ⟨rfl, bel⟩
  · obtain ⟨hfm, AR1⟩ := AR.out rfl
    have CU1 := hid (fun w' => CU.out hfm w')
    clear AR CU hfm
    have AR := hid AR1
    clear AR1
    cases nn
    rotate_left
    · clear AR CU1 CR
      replace T3' := T3'.below (al_b _ (.cells #[.int .i64 F, .bool ng, .slice a zs.length c, .int .i64 T, .bool true, .bool bd, .bool pl, .bool mi, .bool am] 50))
      replace s1 := s1.below (al_b _ (.cells #[.int .i64 F, .bool ng, .slice a zs.length c, .int .i64 T, .bool true, .bool bd, .bool pl, .bool mi, .bool am] 50))
      replace bel := bel_al bel (.cells #[.int .i64 F, .bool ng, .slice a zs.length c, .int .i64 T, .bool true, .bool bd, .bool pl, .bool mi, .bool am] 50)
      have Ba := Q9.new w1 (.int .i64 F) (.bool ng) (.slice a zs.length c) (.int .i64 T) (.bool true) (.bool bd) (.bool pl) (.bool mi) (.bool am) 50
      obtain ⟨ka0, ka1, ka2, ka3, ka4, ka5, ka6, ka7, ka8, -, -, -, -, -, -, -, -, -⟩ := id Ba
      go_wp2_with fail
      refine (CI.out _ T3' s1).mono ?_
      rintro r w2 ⟨rfl, hb⟩
      clear ka0 ka1 ka2 ka3 ka4 ka5 ka6 ka7 ka8
      replace bel := bel_go bel hb
      replace T3' := T3'.below hb
      replace s1 := s1.below hb
      replace Ba := Ba.below hb
      clear hb
      obtain ⟨ka0, ka1, ka2, ka3, ka4, ka5, ka6, ka7, ka8, -, -, -, -, -, -, -, -, -⟩ := id Ba
      go_wp2_with fail
      refine (CS.out _ s1).mono ?_
      rintro r w3 ⟨rfl, hb⟩
      clear ka0 ka1 ka2 ka3 ka4 ka5 ka6 ka7 ka8
      replace bel := bel_go bel hb
      replace T3' := T3'.below hb
      replace s1 := s1.below hb
      replace Ba := Ba.below hb
      clear hb
      obtain ⟨ka0, ka1, ka2, ka3, ka4, ka5, ka6, ka7, ka8, -, -, -, -, -, -, -, -, -⟩ := id Ba
      go_wp2
      all_goals go_ret
      all_goals exact ⟨rfl, bel⟩
    cases pl
    rotate_left
    · clear AR CU1 CR
      replace T3' := T3'.below (al_b _ (.cells #[.int .i64 F, .bool ng, .slice a zs.length c, .int .i64 T, .bool false, .bool bd, .bool true, .bool mi, .bool am] 50))
      replace s1 := s1.below (al_b _ (.cells #[.int .i64 F, .bool ng, .slice a zs.length c, .int .i64 T, .bool false, .bool bd, .bool true, .bool mi, .bool am] 50))
      replace bel := bel_al bel (.cells #[.int .i64 F, .bool ng, .slice a zs.length c, .int .i64 T, .bool false, .bool bd, .bool true, .bool mi, .bool am] 50)
      have Ba := Q9.new w1 (.int .i64 F) (.bool ng) (.slice a zs.length c) (.int .i64 T) (.bool false) (.bool bd) (.bool true) (.bool mi) (.bool am) 50
      obtain ⟨ka0, ka1, ka2, ka3, ka4, ka5, ka6, ka7, ka8, -, -, -, -, -, -, -, -, -⟩ := id Ba
      go_wp2_with fail
      refine (CI.out _ T3' s1).mono ?_
      rintro r w2 ⟨rfl, hb⟩
      clear ka0 ka1 ka2 ka3 ka4 ka5 ka6 ka7 ka8
      replace bel := bel_go bel hb
      replace T3' := T3'.below hb
      replace s1 := s1.below hb
      replace Ba := Ba.below hb
      clear hb
      obtain ⟨ka0, ka1, ka2, ka3, ka4, ka5, ka6, ka7, ka8, -, -, -, -, -, -, -, -, -⟩ := id Ba
      go_wp2_with fail
      refine (CS.out _ s1).mono ?_
      rintro r w3 ⟨rfl, hb⟩
      clear ka0 ka1 ka2 ka3 ka4 ka5 ka6 ka7 ka8
      replace bel := bel_go bel hb
      replace T3' := T3'.below hb
      replace s1 := s1.below hb
      replace Ba := Ba.below hb
      clear hb
      obtain ⟨ka0, ka1, ka2, ka3, ka4, ka5, ka6, ka7, ka8, -, -, -, -, -, -, -, -, -⟩ := id Ba
      go_wp2
      all_goals go_ret
      all_goals exact ⟨rfl, bel⟩
    cases mi
    rotate_left
    · clear AR CU1 CR
      replace T3' := T3'.below (al_b _ (.cells #[.int .i64 F, .bool ng, .slice a zs.length c, .int .i64 T, .bool false, .bool bd, .bool false, .bool true, .bool am] 50))
      replace s1 := s1.below (al_b _ (.cells #[.int .i64 F, .bool ng, .slice a zs.length c, .int .i64 T, .bool false, .bool bd, .bool false, .bool true, .bool am] 50))
      replace bel := bel_al bel (.cells #[.int .i64 F, .bool ng, .slice a zs.length c, .int .i64 T, .bool false, .bool bd, .bool false, .bool true, .bool am] 50)
      have Ba := Q9.new w1 (.int .i64 F) (.bool ng) (.slice a zs.length c) (.int .i64 T) (.bool false) (.bool bd) (.bool false) (.bool true) (.bool am) 50
      obtain ⟨ka0, ka1, ka2, ka3, ka4, ka5, ka6, ka7, ka8, -, -, -, -, -, -, -, -, -⟩ := id Ba
      go_wp2_with fail
      refine (CI.out _ T3' s1).mono ?_
      rintro r w2 ⟨rfl, hb⟩
      clear ka0 ka1 ka2 ka3 ka4 ka5 ka6 ka7 ka8
      replace bel := bel_go bel hb
      replace T3' := T3'.below hb
      replace s1 := s1.below hb
      replace Ba := Ba.below hb
      clear hb
      obtain ⟨ka0, ka1, ka2, ka3, ka4, ka5, ka6, ka7, ka8, -, -, -, -, -, -, -, -, -⟩ := id Ba
      go_wp2_with fail
      refine (CS.out _ s1).mono ?_
      rintro r w3 ⟨rfl, hb⟩
      clear ka0 ka1 ka2 ka3 ka4 ka5 ka6 ka7 ka8
      replace bel := bel_go bel hb
      replace T3' := T3'.below hb
      replace s1 := s1.below hb
      replace Ba := Ba.below hb
      clear hb
      obtain ⟨ka0, ka1, ka2, ka3, ka4, ka5, ka6, ka7, ka8, -, -, -, -, -, -, -, -, -⟩ := id Ba
      go_wp2
      all_goals go_ret
      all_goals exact ⟨rfl, bel⟩
    by_cases hz : zs.length = 0
    · clear AR CU1 CR
      have hz1 : ((zs.length : Int) == 0) = true := by simp [hz]
      have hz2 : (zs.length == 0) = true := by simp [hz]
      have HZ := hid hz
      clear hz
      replace T3' := T3'.below (al_b _ (.cells #[.int .i64 F, .bool ng, .slice a zs.length c, .int .i64 T, .bool false, .bool bd, .bool false, .bool false, .bool am] 50))
      replace s1 := s1.below (al_b _ (.cells #[.int .i64 F, .bool ng, .slice a zs.length c, .int .i64 T, .bool false, .bool bd, .bool false, .bool false, .bool am] 50))
      replace bel := bel_al bel (.cells #[.int .i64 F, .bool ng, .slice a zs.length c, .int .i64 T, .bool false, .bool bd, .bool false, .bool false, .bool am] 50)
      have Ba := Q9.new w1 (.int .i64 F) (.bool ng) (.slice a zs.length c) (.int .i64 T) (.bool false) (.bool bd) (.bool false) (.bool false) (.bool am) 50
      obtain ⟨ka0, ka1, ka2, ka3, ka4, ka5, ka6, ka7, ka8, -, -, -, -, -, -, -, -, -⟩ := id Ba
      go_wp2_with fail
      refine (CI.out _ T3' s1).mono ?_
      rintro r w2 ⟨rfl, hb⟩
      clear ka0 ka1 ka2 ka3 ka4 ka5 ka6 ka7 ka8
      replace bel := bel_go bel hb
      replace T3' := T3'.below hb
      replace s1 := s1.below hb
      replace Ba := Ba.below hb
      clear hb
      obtain ⟨ka0, ka1, ka2, ka3, ka4, ka5, ka6, ka7, ka8, -, -, -, -, -, -, -, -, -⟩ := id Ba
      go_wp2_with fail
      refine (CS.out _ s1).mono ?_
      rintro r w3 ⟨rfl, hb⟩
      clear ka0 ka1 ka2 ka3 ka4 ka5 ka6 ka7 ka8
      replace bel := bel_go bel hb
      replace T3' := T3'.below hb
      replace s1 := s1.below hb
      replace Ba := Ba.below hb
      clear hb
      obtain ⟨ka0, ka1, ka2, ka3, ka4, ka5, ka6, ka7, ka8, -, -, -, -, -, -, -, -, -⟩ := id Ba
      go_wp2
      all_goals go_ret
      all_goals exact ⟨rfl, bel⟩
    · obtain ⟨e1, e2, e3⟩ := AR.out rfl rfl rfl hz
      rw [e1, ← e2, ← e3] at CR
      have hw1 : IntKind.i64.wrap (2 * q) = 2 * q := by rw [IntKind.wrap_i64]; omega
      have hw2 : wrap64 (2 * q) = 2 * q := by unfold wrap64; omega
      have hz1 : ((zs.length : Int) == 0) = false := by simpa using hz
      clear e1 e2 e3 AR hz
      replace T3' := T3'.below (al_b _ (.cells #[.int .i64 F, .bool ng, .slice a zs.length c, .int .i64 T, .bool false, .bool bd, .bool false, .bool false, .bool am] 50))
      replace s1 := s1.below (al_b _ (.cells #[.int .i64 F, .bool ng, .slice a zs.length c, .int .i64 T, .bool false, .bool bd, .bool false, .bool false, .bool am] 50))
      replace bel := bel_al bel (.cells #[.int .i64 F, .bool ng, .slice a zs.length c, .int .i64 T, .bool false, .bool bd, .bool false, .bool false, .bool am] 50)
      have Ba := Q9.new w1 (.int .i64 F) (.bool ng) (.slice a zs.length c) (.int .i64 T) (.bool false) (.bool bd) (.bool false) (.bool false) (.bool am) 50
      obtain ⟨ka0, ka1, ka2, ka3, ka4, ka5, ka6, ka7, ka8, -, -, -, -, -, -, -, -, -⟩ := id Ba
      go_wp2_with fail
      refine (CI.out _ T3' s1).mono ?_
      rintro r w2 ⟨rfl, hb⟩
      clear ka0 ka1 ka2 ka3 ka4 ka5 ka6 ka7 ka8
      replace bel := bel_go bel hb
      replace T3' := T3'.below hb
      replace s1 := s1.below hb
      replace Ba := Ba.below hb
      clear hb
      obtain ⟨ka0, ka1, ka2, ka3, ka4, ka5, ka6, ka7, ka8, -, -, -, -, -, -, -, -, -⟩ := id Ba
      go_wp2_with fail
      refine (CS.out _ s1).mono ?_
      rintro r w3 ⟨rfl, hb⟩
      clear ka0 ka1 ka2 ka3 ka4 ka5 ka6 ka7 ka8
      replace bel := bel_go bel hb
      replace T3' := T3'.below hb
      replace s1 := s1.below hb
      replace Ba := Ba.below hb
      clear hb
      obtain ⟨ka0, ka1, ka2, ka3, ka4, ka5, ka6, ka7, ka8, -, -, -, -, -, -, -, -, -⟩ := id Ba
      go_upto_region 17 with fail
      clear ka0 ka1 ka2 ka3 ka4 ka5 ka6 ka7 ka8
      generalize w3 = W at bel T3' s1 Ba ⊢
      have belR := Below.drew (Below.refl W.heap.size W)
      refine wp_region_held_drew (S := fun w' => (w'.cell? ⟨w1.heap.size, 0, none⟩ = some (.int .i64 F) ∧ w'.cell? ⟨w1.heap.size, 1, none⟩ = some (.bool ng) ∧ w'.cell? ⟨w1.heap.size, 2, none⟩ = some (.slice a zs.length c) ∧ w'.cell? ⟨w1.heap.size, 3, none⟩ = some (.int .i64 T) ∧ w'.cell? ⟨w1.heap.size, 4, none⟩ = some (.bool false) ∧ w'.cell? ⟨w1.heap.size, 5, none⟩ = some (.bool bd) ∧ w'.cell? ⟨w1.heap.size, 6, none⟩ = some (.bool false) ∧ w'.cell? ⟨w1.heap.size, 7, none⟩ = some (.bool false) ∧ w'.cell? ⟨w1.heap.size, 8, none⟩ = some (.bool am))) (by kernel_rfl) ?_ (fun hHeld => ?_)
      · exact ⟨(Ba).c0, (Ba).c1, (Ba).c2, (Ba).c3, (Ba).c4, (Ba).c5, (Ba).c6, (Ba).c7, (Ba).c8⟩
      generalize W.drew = v0 at belR hHeld ⊢
      refine tk 0 ?_ rfl (Or.inl ⟨by rfl, ?_⟩) ?_
      rotate_left
      · (intro w hSw; go_simp; try (with_reducible rfl))
      try simp only [Act.put, Ls]
      refine tk 1 ?_ rfl (Or.inl ⟨by rfl, ?_⟩) ?_
      rotate_left
      · (intro w hSw; (try dsimp only at hSw); obtain ⟨hS0, hS1, hS2, hS3, hS4, hS5, hS6, hS7, hS8⟩ := hSw; go_simp; try (with_reducible rfl))
      try simp only [Act.put, Ls]
      refine tk 2 ?_ rfl (Or.inl ⟨by rfl, ?_⟩) ?_
      rotate_left
      · (intro w hSw; go_simp; try (with_reducible rfl))
      try simp only [Act.put, Ls]
      refine tk 3 ?_ rfl (Or.inl ⟨by rfl, ?_⟩) ?_
      rotate_left
      · (intro w hSw; go_simp; try (with_reducible rfl))
      try simp only [Act.put, Ls]
      refine tk 4 ?_ rfl (Or.inl ⟨by rfl, ?_⟩) ?_
      rotate_left
      · (intro w hSw; (try dsimp only at hSw); obtain ⟨hS0, hS1, hS2, hS3, hS4, hS5, hS6, hS7, hS8⟩ := hSw; go_simp; try (with_reducible rfl))
      try simp only [Act.put, Ls]
      refine tk 5 ?_ rfl (Or.inl ⟨by rfl, ?_⟩) ?_
      rotate_left
      · (intro w hSw; go_simp; try (with_reducible rfl))
      try simp only [Act.put, Ls]
      refine tk 6 ?_ rfl (Or.inl ⟨by rfl, ?_⟩) ?_
      rotate_left
      · (intro w hSw; (try dsimp only at hSw); obtain ⟨hS0, hS1, hS2, hS3, hS4, hS5, hS6, hS7, hS8⟩ := hSw; go_simp; try (with_reducible rfl))
      try simp only [Act.put, Ls]
      refine rdy 7 rfl (fun K hK => ?_)
      go_simp
      go_at_call 23
      refine (CU1.out _).mono ?_
      rintro r v1 ⟨rfl, hb'⟩
      have hz' := belR.size
      replace belR := bel_go belR hb'
      clear hb' hz'
      refine hK.out _ _ ?_ (fun hHeld => ?_)
      · exact ⟨(Ba.below belR).c0, (Ba.below belR).c1, (Ba.below belR).c2, (Ba.below belR).c3, (Ba.below belR).c4, (Ba.below belR).c5, (Ba.below belR).c6, (Ba.below belR).c7, (Ba.below belR).c8⟩
      clear hK K
      try simp only [Act.put, Ls]
      refine tk 8 ?_ rfl (Or.inl ⟨by rfl, ?_⟩) ?_
      rotate_left
      · (intro w hSw; go_simp; try (with_reducible rfl))
      try simp only [Act.put, Ls]
      refine rdy 9 rfl (fun K hK => ?_)
      go_simp
      go_at_call 57
      refine (CR.out _ (T3'.below belR) (s1.below belR)).mono ?_
      rintro r v2 ⟨rfl, hb'⟩
      have hz' := belR.size
      replace belR := bel_go belR hb'
      clear hb' hz'
      refine hK.out _ _ ?_ (fun hHeld => ?_)
      · exact ⟨(Ba.below belR).c0, (Ba.below belR).c1, (Ba.below belR).c2, (Ba.below belR).c3, (Ba.below belR).c4, (Ba.below belR).c5, (Ba.below belR).c6, (Ba.below belR).c7, (Ba.below belR).c8⟩
      clear hK K
      try simp only [Act.put, Ls]
      refine tk 10 ?_ rfl (Or.inl ⟨by rfl, ?_⟩) ?_
      rotate_left
      · (intro w hSw; go_simp; try (with_reducible rfl))
      try simp only [Act.put, Ls]
      refine tk 11 ?_ rfl (Or.inl ⟨by rfl, ?_⟩) ?_
      rotate_left
      · (intro w hSw; go_simp; try (with_reducible rfl))
      try simp only [Act.put, Ls]
      refine tk 12 ?_ rfl (Or.inl ⟨by rfl, ?_⟩) ?_
      rotate_left
      · (intro w hSw; go_simp; try (with_reducible rfl))
      try simp only [Act.put, Ls]
      refine tk 13 ?_ rfl (Or.inl ⟨by rfl, ?_⟩) ?_
      rotate_left
      · (intro w hSw; go_simp; try (with_reducible rfl))
      try simp only [Act.put, Ls]
      refine rdy 14 rfl (fun K hK => ?_)
      go_simp
      refine hK.out _ _ ?_ (fun hHeld => ?_)
      · exact ⟨(Ba.below belR).c0, (Ba.below belR).c1, (Ba.below belR).c2, (Ba.below belR).c3, (Ba.below belR).c4, (Ba.below belR).c5, (Ba.below belR).c6, (Ba.below belR).c7, (Ba.below belR).c8⟩
      clear hK K
      try simp only [Act.put, Ls]
      refine rdy 15 rfl (fun K hK => ?_)
      go_simp
      refine hK.out _ _ ?_ (fun hHeld => ?_)
      · exact ⟨(Ba.below belR).c0, (Ba.below belR).c1, (Ba.below belR).c2, (Ba.below belR).c3, (Ba.below belR).c4, (Ba.below belR).c5, (Ba.below belR).c6, (Ba.below belR).c7, (Ba.below belR).c8⟩
      clear hK K
      try simp only [Act.put, Ls]
      refine rdy 16 rfl (fun K hK => ?_)
      go_simp
      refine hK.out _ _ ?_ (fun hHeld => ?_)
      · exact ⟨(Ba.below belR).c0, (Ba.below belR).c1, (Ba.below belR).c2, (Ba.below belR).c3, (Ba.below belR).c4, (Ba.below belR).c5, (Ba.below belR).c6, (Ba.below belR).c7, (Ba.below belR).c8⟩
      clear hK K
      try simp only [Act.put, Ls]
      refine wpAnyH_done (by kernel_rfl) ?_ _
      replace bel := bel.trans (belR.mono bel.size)
      replace T3' := T3'.below belR
      replace s1 := s1.below belR
      replace Ba := Ba.below belR
      clear belR
      obtain ⟨ka0, ka1, ka2, ka3, ka4, ka5, ka6, ka7, ka8, -, -, -, -, -, -, -, -, -⟩ := id Ba
      go_wp2
      all_goals go_ret
      all_goals exact ⟨rfl, bel⟩
theorem arclaw_all (ca : Option Addr) (cc : Nat) (cs : List Int) (w : World) (hT : T3 w) (hs : Sl .u8 w (.slice ca cs.length cc) cs) (hby : ∀ i, 0 ≤ cs.getD i 0 ∧ cs.getD i 0 ≤ 255) :
    Calls Tryz.prog 11 #[.slice ca cs.length cc] w fun e w' => e = .returned (.bool true) ∧ Below w.heap.size w w' := by
  by_cases h : cs.length ≤ 1048576
  · exact arclaw ca cc cs w hT hs hby h
  · have hn : cs.length ≤ 9223372036854775807 := by obtain ⟨_, h1, h2, _⟩ := hs.cells; unfold maxLen at h2; omega
    have CB := hid (big_any ca cs.length cc w hn true (by simp; omega))
    clear hs hby h hn
    go_enter Tryz.func11, Tryz.ntmps11
    go_wp2_with fail
    refine CB.out.mono ?_
    rintro e w0 ⟨rfl, rfl⟩
    go_wp2
    go_ret
    exact ⟨rfl, Below.refl _ _⟩
end Fd
end Go.Proofs.YtkfjmcdniohljaaGreatDoor
