/-
  What is needed of LAn.
-/
import Derived.Test.YtkfjmcdniohljaaGreatDoorF48
set_option maxHeartbeats 16000000
set_option maxRecDepth 1000000
namespace Go.Proofs.YtkfjmcdniohljaaGreatDoor
set_option linter.unusedVariables false
set_option linter.unusedSimpArgs false
open Go.RowKit Go.Deep
namespace Fd
theorem ng_main {F : Int} {s : St} (hR : Rt F s) (X Y X' Y' : Int) (hX : X = arB F (Nm.wn s.z) (Nm.wl s.z) s.T s.nn s.bd s.pl s.mi s.am 2) (hY : Y = arF F (Nm.wn s.z) (Nm.wl s.z) s.T s.nn s.bd s.pl s.mi s.am 2) (hX' : X' = arB F (Nm.wn s.ng.z) (Nm.wl s.ng.z) s.ng.T s.ng.nn s.ng.bd s.ng.pl s.ng.mi s.ng.am 3) (hY' : Y' = arF F (Nm.wn s.ng.z) (Nm.wl s.ng.z) s.ng.T s.ng.nn s.ng.bd s.ng.pl s.ng.mi s.ng.am 3) :
  s.nn = false → s.pl = false → s.mi = false → (Nm.wl s.z).length ≠ 0 → X' = negF F X ∧ Y' = Y ∧ 0 ≤ X ∧ X < 18446744073709551616 := by
 intro e1 e2 e3 e4
 have hfm := hR.f
 have hq := unq_bd F
 have o1 : arO F (Nm.wn s.z) (Nm.wl s.z) s.T s.nn s.bd s.pl s.mi s.am 2 = true := by unfold arO; rw [show accB F (Nm.wn s.z) (Nm.wl s.z) s.T s.nn s.bd s.pl s.mi s.am = true from hR]; rfl
 have o2 : arO F (Nm.wn s.ng.z) (Nm.wl s.ng.z) s.ng.T s.ng.nn s.ng.bd s.ng.pl s.ng.mi s.ng.am 3 = true := by unfold arO; rw [show accB F (Nm.wn s.ng.z) (Nm.wl s.ng.z) s.ng.T s.ng.nn s.ng.bd s.ng.pl s.ng.mi s.ng.am = true from hR.ng]; rfl
 have hz0 : s.z ≠ 0 := fun h => e4 (by rw [h, show Nm.wl 0 = [] from Nm.lim_zero]; rfl)
 have hwl : Nm.wl s.ng.z = Nm.wl s.z := by show Nm.wl (-s.z) = Nm.wl s.z; unfold Nm.wl; rw [Int.natAbs_neg]
 have hwn : Nm.wn s.ng.z = !Nm.wn s.z := by
  show Nm.wn (-s.z) = !Nm.wn s.z
  unfold Nm.wn
  by_cases h : s.z < 0
  ·rw [decide_eq_true h, decide_eq_false (show ¬ -s.z < 0 by omega)]; rfl
  ·rw [decide_eq_false h, decide_eq_true (show -s.z < 0 by omega)]; rfl
 obtain ⟨r1, r2, r3⟩ := (ar_is o1).2 e1 e2 e3 e4
 obtain ⟨k1, k2, k3⟩ := (ar_is o2).2 e1 e3 e2 (by rw [hwl]; exact e4)
 have hO := rdo_any (fm := F) (mode := 0) (z := s.z) (e := 2 * unQ F) hfm (by decide) hR.len (by omega) (by omega)
 obtain ⟨m1, m2, m3, -, m5, m6⟩ := mir hfm 2 (Nm.wn s.z) (Nm.wl s.z) (2 * unQ F) hO (by decide) e4
 have hoth : othM 2 = 3 := rfl
 rw [hoth] at m1 m2 m3
 rw [hX, hY, hX', hY', r2, r3, k2, k3, hwl, hwn, m2, m3]
 exact ⟨rfl, rfl, m5, m6⟩
theorem anlaw (ca : Option Addr) (cc : Nat) (cs : List Int) (w : World) (hT : T3 w) (hs : Sl .u8 w (.slice ca cs.length cc) cs) (hby : ∀ i, 0 ≤ cs.getD i 0 ∧ cs.getD i 0 ≤ 255) (hl : cs.length ≤ 1048576) :
  Calls Tryz.prog 9 #[.slice ca cs.length cc] w fun e w' => e = .returned (.bool true) ∧ Below w.heap.size w w' := by
 go_enter Tryz.func9, Tryz.ntmps9
 go_wp2_with fail
 refine (big_any ca cs.length cc _ (by omega) false (by simp; omega)).mono ?_
 rintro r w0 ⟨rfl, rfl⟩
 go_wp2_with fail
 refine (drawAccNeg_x ca cc cs _ hs hby hl).mono ?_
 rintro r w1 ⟨F, ng, zs, T, nn, bd, pl, mi, am, a, c, rfl, l1, d1, o1, bel⟩
 have T3' := hT.below bel
 have s1 := o1.sl
 clear hs hby hl hT o1
 cases hk : accB F ng zs T nn bd pl mi am
 ·have CI := hid (fun w' k k' => ngI0 a c w' k (by omega) k' hk)
  have CS := hid (fun w' k => ngS0 a c w' (by omega) k hk)
  have CA := hid (fun w' k => accok_spec F ng T nn bd pl mi am a c zs w' k (by omega))
  rw [hk] at CA
  clear hk d1
  replace T3' := T3'.below (al_b _ (.cells #[.int .i64 F, .bool ng, .slice a zs.length c, .int .i64 T, .bool nn, .bool bd, .bool pl, .bool mi, .bool am] 50))
  replace s1 := s1.below (al_b _ (.cells #[.int .i64 F, .bool ng, .slice a zs.length c, .int .i64 T, .bool nn, .bool bd, .bool pl, .bool mi, .bool am] 50))
  replace bel := bel_al bel (.cells #[.int .i64 F, .bool ng, .slice a zs.length c, .int .i64 T, .bool nn, .bool bd, .bool pl, .bool mi, .bool am] 50)
  have Ba := Q9.new w1 (.int .i64 F) (.bool ng) (.slice a zs.length c) (.int .i64 T) (.bool nn) (.bool bd) (.bool pl) (.bool mi) (.bool am) 50
  obtain ⟨ka0, ka1, ka2, ka3, ka4, ka5, ka6, ka7, ka8, -, -, -, -, -, -, -, -, -⟩ := id Ba
  go_wp2_with fail
  refine (CI.out _ T3'.s.f s1).mono ?_
  rintro r w2 ⟨rfl, hb⟩
  clear ka0 ka1 ka2 ka3 ka4 ka5 ka6 ka7 ka8
  replace bel := bel_go bel hb
  replace T3' := T3'.below hb
  replace s1 := s1.below hb
  replace Ba := Ba.below hb
  clear hb
  replace T3' := T3'.below (al_b _ (.cells #[.int .i64 0, .bool false, .slice none 0 0, .int .i64 0, .bool false, .bool false, .bool false, .bool false, .bool false] 50))
  replace s1 := s1.below (al_b _ (.cells #[.int .i64 0, .bool false, .slice none 0 0, .int .i64 0, .bool false, .bool false, .bool false, .bool false, .bool false] 50))
  replace Ba := Ba.below (al_b _ (.cells #[.int .i64 0, .bool false, .slice none 0 0, .int .i64 0, .bool false, .bool false, .bool false, .bool false, .bool false] 50))
  replace bel := bel_al bel (.cells #[.int .i64 0, .bool false, .slice none 0 0, .int .i64 0, .bool false, .bool false, .bool false, .bool false, .bool false] 50)
  have Bn := Q9.new w2 (.int .i64 0) (.bool false) (.slice none 0 0) (.int .i64 0) (.bool false) (.bool false) (.bool false) (.bool false) (.bool false) 50
  obtain ⟨ka0, ka1, ka2, ka3, ka4, ka5, ka6, ka7, ka8, -, -, -, -, -, -, -, -, -⟩ := id Ba
  obtain ⟨kn0, kn1, kn2, kn3, kn4, kn5, kn6, kn7, kn8, -, -, -, -, -, -, -, -, -⟩ := id Bn
  go_upto_region 10 with fail
  clear ka0 ka1 ka2 ka3 ka4 ka5 ka6 ka7 ka8 kn0 kn1 kn2 kn3 kn4 kn5 kn6 kn7 kn8
  generalize (w2.alloc (.cells #[.int .i64 0, .bool false, .slice none 0 0, .int .i64 0, .bool false, .bool false, .bool false, .bool false, .bool false] 50)) = W at bel T3' s1 Ba Bn ⊢
  have belR := Below.drew (Below.refl W.heap.size W)
  refine wp_region_held_drew (S := fun w' => (w'.cell? ⟨w1.heap.size, 0, none⟩ = some (.int .i64 F) ∧ w'.cell? ⟨w1.heap.size, 1, none⟩ = some (.bool ng) ∧ w'.cell? ⟨w1.heap.size, 2, none⟩ = some (.slice a zs.length c) ∧ w'.cell? ⟨w1.heap.size, 3, none⟩ = some (.int .i64 T) ∧ w'.cell? ⟨w1.heap.size, 4, none⟩ = some (.bool nn) ∧ w'.cell? ⟨w1.heap.size, 5, none⟩ = some (.bool bd) ∧ w'.cell? ⟨w1.heap.size, 6, none⟩ = some (.bool pl) ∧ w'.cell? ⟨w1.heap.size, 7, none⟩ = some (.bool mi) ∧ w'.cell? ⟨w1.heap.size, 8, none⟩ = some (.bool am)) ∧ (w'.cell? ⟨w2.heap.size, 0, none⟩ = some (.int .i64 0) ∧ w'.cell? ⟨w2.heap.size, 1, none⟩ = some (.bool false) ∧ w'.cell? ⟨w2.heap.size, 2, none⟩ = some (.slice none 0 0) ∧ w'.cell? ⟨w2.heap.size, 3, none⟩ = some (.int .i64 0) ∧ w'.cell? ⟨w2.heap.size, 4, none⟩ = some (.bool false) ∧ w'.cell? ⟨w2.heap.size, 5, none⟩ = some (.bool false) ∧ w'.cell? ⟨w2.heap.size, 6, none⟩ = some (.bool false) ∧ w'.cell? ⟨w2.heap.size, 7, none⟩ = some (.bool false) ∧ w'.cell? ⟨w2.heap.size, 8, none⟩ = some (.bool false))) (by kernel_rfl) ?_ (fun hHeld => ?_)
  ·exact ⟨⟨(Ba).c0, (Ba).c1, (Ba).c2, (Ba).c3, (Ba).c4, (Ba).c5, (Ba).c6, (Ba).c7, (Ba).c8⟩, ⟨(Bn).c0, (Bn).c1, (Bn).c2, (Bn).c3, (Bn).c4, (Bn).c5, (Bn).c6, (Bn).c7, (Bn).c8⟩⟩
  generalize W.drew = v0 at belR hHeld ⊢
  refine tk 0 ?_ rfl (Or.inl ⟨by rfl, ?_⟩) ?_
  rotate_left
  ·(intro w hSw; (try dsimp only at hSw); obtain ⟨⟨hS0, hS1, hS2, hS3, hS4, hS5, hS6, hS7, hS8⟩, ⟨hS9, hS10, hS11, hS12, hS13, hS14, hS15, hS16, hS17⟩⟩ := hSw; go_simp; try (with_reducible rfl))
  try simp only [Act.put, Ls]
  refine tk 1 ?_ rfl (Or.inl ⟨by rfl, ?_⟩) ?_
  rotate_left
  ·(intro w hSw; (try dsimp only at hSw); obtain ⟨⟨hS0, hS1, hS2, hS3, hS4, hS5, hS6, hS7, hS8⟩, ⟨hS9, hS10, hS11, hS12, hS13, hS14, hS15, hS16, hS17⟩⟩ := hSw; go_simp; try (with_reducible rfl))
  try simp only [Act.put, Ls]
  refine rdy 2 rfl (fun K hK => ?_)
  go_simp
  go_at_call 47
  refine (CS.out _ (s1.below belR)).mono ?_
  rintro r v1 ⟨rfl, hb'⟩
  have hz' := belR.size
  replace belR := bel_go belR hb'
  clear hb' hz'
  refine hK.out _ _ ?_ (fun hHeld => ?_)
  ·exact ⟨⟨(Ba.below belR).c0, (Ba.below belR).c1, (Ba.below belR).c2, (Ba.below belR).c3, (Ba.below belR).c4, (Ba.below belR).c5, (Ba.below belR).c6, (Ba.below belR).c7, (Ba.below belR).c8⟩, ⟨(Bn.below belR).c0, (Bn.below belR).c1, (Bn.below belR).c2, (Bn.below belR).c3, (Bn.below belR).c4, (Bn.below belR).c5, (Bn.below belR).c6, (Bn.below belR).c7, (Bn.below belR).c8⟩⟩
  clear hK K
  try simp only [Act.put, Ls]
  refine rdy 3 rfl (fun K hK => ?_)
  go_simp
  go_at_call 35
  refine (sameZ _).mono ?_
  rintro r v2 ⟨rfl, hb'⟩
  have hz' := belR.size
  replace belR := bel_go belR hb'
  clear hb' hz'
  refine hK.out _ _ ?_ (fun hHeld => ?_)
  ·exact ⟨⟨(Ba.below belR).c0, (Ba.below belR).c1, (Ba.below belR).c2, (Ba.below belR).c3, (Ba.below belR).c4, (Ba.below belR).c5, (Ba.below belR).c6, (Ba.below belR).c7, (Ba.below belR).c8⟩, ⟨(Bn.below belR).c0, (Bn.below belR).c1, (Bn.below belR).c2, (Bn.below belR).c3, (Bn.below belR).c4, (Bn.below belR).c5, (Bn.below belR).c6, (Bn.below belR).c7, (Bn.below belR).c8⟩⟩
  clear hK K
  try simp only [Act.put, Ls]
  refine tk 4 ?_ rfl (Or.inl ⟨by rfl, ?_⟩) ?_
  rotate_left
  ·(intro w hSw; go_simp; try (with_reducible rfl))
  try simp only [Act.put, Ls]
  refine tk 5 ?_ rfl (Or.inl ⟨by rfl, ?_⟩) ?_
  rotate_left
  ·(intro w hSw; go_simp; try (with_reducible rfl))
  try simp only [Act.put, Ls]
  refine tk 6 ?_ rfl (Or.inl ⟨by rfl, ?_⟩) ?_
  rotate_left
  ·(intro w hSw; (try dsimp only at hSw); obtain ⟨⟨hS0, hS1, hS2, hS3, hS4, hS5, hS6, hS7, hS8⟩, ⟨hS9, hS10, hS11, hS12, hS13, hS14, hS15, hS16, hS17⟩⟩ := hSw; go_simp; try (with_reducible rfl))
  try simp only [Act.put, Ls]
  refine rdy 7 rfl (fun K hK => ?_)
  go_simp
  go_at_call 48
  refine (CA.out _ (s1.below belR)).mono ?_
  rintro r v3 ⟨rfl, hb'⟩
  have hz' := belR.size
  replace belR := bel_go belR hb'
  clear hb' hz'
  refine hK.out _ _ ?_ (fun hHeld => ?_)
  ·exact ⟨⟨(Ba.below belR).c0, (Ba.below belR).c1, (Ba.below belR).c2, (Ba.below belR).c3, (Ba.below belR).c4, (Ba.below belR).c5, (Ba.below belR).c6, (Ba.below belR).c7, (Ba.below belR).c8⟩, ⟨(Bn.below belR).c0, (Bn.below belR).c1, (Bn.below belR).c2, (Bn.below belR).c3, (Bn.below belR).c4, (Bn.below belR).c5, (Bn.below belR).c6, (Bn.below belR).c7, (Bn.below belR).c8⟩⟩
  clear hK K
  try simp only [Act.put, Ls]
  refine tk 8 ?_ rfl (Or.inl ⟨by rfl, ?_⟩) ?_
  rotate_left
  ·(intro w hSw; go_simp; try (with_reducible rfl))
  try simp only [Act.put, Ls]
  refine tk 9 ?_ rfl (Or.inl ⟨by rfl, ?_⟩) ?_
  rotate_left
  ·(intro w hSw; go_simp; try (with_reducible rfl))
  try simp only [Act.put, Ls]
  refine wpAnyH_done (by kernel_rfl) ?_ _
  replace bel := bel.trans (belR.mono bel.size)
  replace T3' := T3'.below belR
  replace s1 := s1.below belR
  replace Ba := Ba.below belR
  replace Bn := Bn.below belR
  clear belR
  obtain ⟨ka0, ka1, ka2, ka3, ka4, ka5, ka6, ka7, ka8, -, -, -, -, -, -, -, -, -⟩ := id Ba
  obtain ⟨kn0, kn1, kn2, kn3, kn4, kn5, kn6, kn7, kn8, -, -, -, -, -, -, -, -, -⟩ := id Bn
  go_upto_region 5 with fail
  clear ka0 ka1 ka2 ka3 ka4 ka5 ka6 ka7 ka8 kn0 kn1 kn2 kn3 kn4 kn5 kn6 kn7 kn8
  generalize v3 = W2 at bel T3' s1 Ba Bn ⊢
  have belR := Below.drew (Below.refl W2.heap.size W2)
  refine wp_region_held_drew (S := fun w' => (w'.cell? ⟨w1.heap.size, 0, none⟩ = some (.int .i64 F) ∧ w'.cell? ⟨w1.heap.size, 1, none⟩ = some (.bool ng) ∧ w'.cell? ⟨w1.heap.size, 2, none⟩ = some (.slice a zs.length c) ∧ w'.cell? ⟨w1.heap.size, 3, none⟩ = some (.int .i64 T) ∧ w'.cell? ⟨w1.heap.size, 4, none⟩ = some (.bool nn) ∧ w'.cell? ⟨w1.heap.size, 5, none⟩ = some (.bool bd) ∧ w'.cell? ⟨w1.heap.size, 6, none⟩ = some (.bool pl) ∧ w'.cell? ⟨w1.heap.size, 7, none⟩ = some (.bool mi) ∧ w'.cell? ⟨w1.heap.size, 8, none⟩ = some (.bool am)) ∧ (w'.cell? ⟨w2.heap.size, 0, none⟩ = some (.int .i64 0) ∧ w'.cell? ⟨w2.heap.size, 1, none⟩ = some (.bool false) ∧ w'.cell? ⟨w2.heap.size, 2, none⟩ = some (.slice none 0 0) ∧ w'.cell? ⟨w2.heap.size, 3, none⟩ = some (.int .i64 0) ∧ w'.cell? ⟨w2.heap.size, 4, none⟩ = some (.bool false) ∧ w'.cell? ⟨w2.heap.size, 5, none⟩ = some (.bool false) ∧ w'.cell? ⟨w2.heap.size, 6, none⟩ = some (.bool false) ∧ w'.cell? ⟨w2.heap.size, 7, none⟩ = some (.bool false) ∧ w'.cell? ⟨w2.heap.size, 8, none⟩ = some (.bool false))) (by kernel_rfl) ?_ (fun hHeld => ?_)
  ·exact ⟨⟨(Ba).c0, (Ba).c1, (Ba).c2, (Ba).c3, (Ba).c4, (Ba).c5, (Ba).c6, (Ba).c7, (Ba).c8⟩, ⟨(Bn).c0, (Bn).c1, (Bn).c2, (Bn).c3, (Bn).c4, (Bn).c5, (Bn).c6, (Bn).c7, (Bn).c8⟩⟩
  generalize W2.drew = v0 at belR hHeld ⊢
  refine tk 0 ?_ rfl (Or.inl ⟨by rfl, ?_⟩) ?_
  rotate_left
  ·(intro w hSw; (try dsimp only at hSw); obtain ⟨⟨hS0, hS1, hS2, hS3, hS4, hS5, hS6, hS7, hS8⟩, ⟨hS9, hS10, hS11, hS12, hS13, hS14, hS15, hS16, hS17⟩⟩ := hSw; go_simp; try (with_reducible rfl))
  try simp only [Act.put, Ls]
  refine tk 1 ?_ rfl (Or.inl ⟨by rfl, ?_⟩) ?_
  rotate_left
  ·(intro w hSw; (try dsimp only at hSw); obtain ⟨⟨hS0, hS1, hS2, hS3, hS4, hS5, hS6, hS7, hS8⟩, ⟨hS9, hS10, hS11, hS12, hS13, hS14, hS15, hS16, hS17⟩⟩ := hSw; go_simp; try (with_reducible rfl))
  try simp only [Act.put, Ls]
  refine rdy 2 rfl (fun K hK => ?_)
  go_simp
  go_at_call 47
  refine (CS.out _ (s1.below belR)).mono ?_
  rintro r v1 ⟨rfl, hb'⟩
  have hz' := belR.size
  replace belR := bel_go belR hb'
  clear hb' hz'
  refine hK.out _ _ ?_ (fun hHeld => ?_)
  ·exact ⟨⟨(Ba.below belR).c0, (Ba.below belR).c1, (Ba.below belR).c2, (Ba.below belR).c3, (Ba.below belR).c4, (Ba.below belR).c5, (Ba.below belR).c6, (Ba.below belR).c7, (Ba.below belR).c8⟩, ⟨(Bn.below belR).c0, (Bn.below belR).c1, (Bn.below belR).c2, (Bn.below belR).c3, (Bn.below belR).c4, (Bn.below belR).c5, (Bn.below belR).c6, (Bn.below belR).c7, (Bn.below belR).c8⟩⟩
  clear hK K
  try simp only [Act.put, Ls]
  refine rdy 3 rfl (fun K hK => ?_)
  go_simp
  go_at_call 35
  refine (sameZ _).mono ?_
  rintro r v2 ⟨rfl, hb'⟩
  have hz' := belR.size
  replace belR := bel_go belR hb'
  clear hb' hz'
  refine hK.out _ _ ?_ (fun hHeld => ?_)
  ·exact ⟨⟨(Ba.below belR).c0, (Ba.below belR).c1, (Ba.below belR).c2, (Ba.below belR).c3, (Ba.below belR).c4, (Ba.below belR).c5, (Ba.below belR).c6, (Ba.below belR).c7, (Ba.below belR).c8⟩, ⟨(Bn.below belR).c0, (Bn.below belR).c1, (Bn.below belR).c2, (Bn.below belR).c3, (Bn.below belR).c4, (Bn.below belR).c5, (Bn.below belR).c6, (Bn.below belR).c7, (Bn.below belR).c8⟩⟩
  clear hK K
  try simp only [Act.put, Ls]
  refine rdy 4 rfl (fun K hK => ?_)
  go_simp
  refine hK.out _ _ ?_ (fun hHeld => ?_)
  ·exact ⟨⟨(Ba.below belR).c0, (Ba.below belR).c1, (Ba.below belR).c2, (Ba.below belR).c3, (Ba.below belR).c4, (Ba.below belR).c5, (Ba.below belR).c6, (Ba.below belR).c7, (Ba.below belR).c8⟩, ⟨(Bn.below belR).c0, (Bn.below belR).c1, (Bn.below belR).c2, (Bn.below belR).c3, (Bn.below belR).c4, (Bn.below belR).c5, (Bn.below belR).c6, (Bn.below belR).c7, (Bn.below belR).c8⟩⟩
  clear hK K
  try simp only [Act.put, Ls]
  refine wpAnyH_done (by kernel_rfl) ?_ _
  replace bel := bel.trans (belR.mono bel.size)
  replace T3' := T3'.below belR
  replace s1 := s1.below belR
  replace Ba := Ba.below belR
  replace Bn := Bn.below belR
  clear belR
  obtain ⟨ka0, ka1, ka2, ka3, ka4, ka5, ka6, ka7, ka8, -, -, -, -, -, -, -, -, -⟩ := id Ba
  obtain ⟨kn0, kn1, kn2, kn3, kn4, kn5, kn6, kn7, kn8, -, -, -, -, -, -, -, -, -⟩ := id Bn
  go_wp2
  all_goals go_ret
  all_goals exact ⟨rfl, bel⟩
 ·obtain ⟨s, hR, rfl, rfl, rfl, rfl, rfl, rfl, rfl, rfl⟩ := to_st d1 hk
  have CN := hid (fun w' k k' => ngI F s a c w' k hR k' _ rfl)
  have CS := hid (fun w' k => ngS F s a c w' hR k _ rfl)
  have CA := hid (fun w' k => accok_spec F (Nm.wn s.z) s.T s.nn s.bd s.pl s.mi s.am a c (Nm.wl s.z) w' k (by have := hR.len; omega))
  rw [show accB F (Nm.wn s.z) (Nm.wl s.z) s.T s.nn s.bd s.pl s.mi s.am = true from hR] at CA
  have CM := hid (fun (h : s.T + s.T ≤ 1000000) q d w' k k1 k2 => mgI F s s.ng a q c d w' k hR hR.ng h k1 k2 _ rfl)
  have CF := hid (fun (h : 1000000 < s.T + s.T) q d w' k k1 k2 => mgI3 F s s.ng a q c d w' k hR hR.ng h k1 k2)
  have CR := hid (fun w' k k' => round_impl F (Nm.wn s.z) s.T s.nn s.bd s.pl s.mi s.am a c (Nm.wl s.z) 2 w' k k' (Nm.wl_dg _) (by have := hR.len; omega))
  have CQ := hid (fun q d w' k k' => round_impl F (Nm.wn s.ng.z) s.ng.T s.ng.nn s.ng.bd s.ng.pl s.ng.mi s.ng.am q d (Nm.wl s.ng.z) 3 w' k k' (Nm.wl_dg _) (by have := hR.ng.len; omega))
  have o1 : arO F (Nm.wn s.z) (Nm.wl s.z) s.T s.nn s.bd s.pl s.mi s.am 2 = true := by unfold arO; rw [show accB F (Nm.wn s.z) (Nm.wl s.z) s.T s.nn s.bd s.pl s.mi s.am = true from hR]; rfl
  have o2 : arO F (Nm.wn s.ng.z) (Nm.wl s.ng.z) s.ng.T s.ng.nn s.ng.bd s.ng.pl s.ng.mi s.ng.am 3 = true := by unfold arO; rw [show accB F (Nm.wn s.ng.z) (Nm.wl s.ng.z) s.ng.T s.ng.nn s.ng.bd s.ng.pl s.ng.mi s.ng.am = true from hR.ng]; rfl
  rw [o1] at CR
  rw [o2] at CQ
  have MN := hid (ng_main hR _ _ _ _ rfl rfl rfl rfl)
  have NX := hid (fun x w' k h0 h1 => iNegated F x w' k h0 h1)
  have hl2 : (Nm.wl s.ng.z).length ≤ 1048576 := by have := hR.ng.len; omega
  have hu1 : (((Nm.wl (s.mg s.ng).z).length : Int) == 0) = true := by
   have : (s.mg s.ng).z = 0 := by show s.z + -s.z = 0; omega
   rw [this, show Nm.wl 0 = [] from Nm.lim_zero]; rfl
  clear hk d1 l1 hR o1 o2
  obtain ⟨X, h_X⟩ : ∃ q, q = arB F (Nm.wn s.z) (Nm.wl s.z) s.T s.nn s.bd s.pl s.mi s.am 2 := ⟨_, rfl⟩
  obtain ⟨Y, h_Y⟩ : ∃ q, q = arF F (Nm.wn s.z) (Nm.wl s.z) s.T s.nn s.bd s.pl s.mi s.am 2 := ⟨_, rfl⟩
  obtain ⟨X', h_X'⟩ : ∃ q, q = arB F (Nm.wn s.ng.z) (Nm.wl s.ng.z) s.ng.T s.ng.nn s.ng.bd s.ng.pl s.ng.mi s.ng.am 3 := ⟨_, rfl⟩
  obtain ⟨Y', h_Y'⟩ : ∃ q, q = arF F (Nm.wn s.ng.z) (Nm.wl s.ng.z) s.ng.T s.ng.nn s.ng.bd s.ng.pl s.ng.mi s.ng.am 3 := ⟨_, rfl⟩
  rw [← h_X, ← h_Y] at CR
  rw [← h_X', ← h_Y'] at CQ
  rw [← h_X, ← h_Y, ← h_X', ← h_Y'] at MN
  clear h_X h_Y h_X' h_Y'
  obtain ⟨u, h_u⟩ : ∃ q, q = s.mg s.ng := ⟨_, rfl⟩
  rw [← h_u] at CM hu1
  clear h_u
  obtain ⟨t, h_t⟩ : ∃ q, q = s.ng := ⟨_, rfl⟩
  rw [← h_t] at CN CS CM CF CQ hl2
  clear h_t
  obtain ⟨G, h_G⟩ : ∃ q, q = Nm.wn s.z := ⟨_, rfl⟩
  obtain ⟨L, h_L⟩ : ∃ q, q = Nm.wl s.z := ⟨_, rfl⟩
  obtain ⟨T, h_T⟩ : ∃ q, q = s.T := ⟨_, rfl⟩
  obtain ⟨nn, h_nn⟩ : ∃ q, q = s.nn := ⟨_, rfl⟩
  obtain ⟨bd, h_bd⟩ : ∃ q, q = s.bd := ⟨_, rfl⟩
  obtain ⟨pl, h_pl⟩ : ∃ q, q = s.pl := ⟨_, rfl⟩
  obtain ⟨mi, h_mi⟩ : ∃ q, q = s.mi := ⟨_, rfl⟩
  obtain ⟨am, h_am⟩ : ∃ q, q = s.am := ⟨_, rfl⟩
  try simp only [← h_G, ← h_L, ← h_T, ← h_nn, ← h_bd, ← h_pl, ← h_mi, ← h_am] at CN CS CA CM CF CR MN s1 ⊢
  clear h_G h_L h_T h_nn h_bd h_pl h_mi h_am
  obtain ⟨Gt, h_Gt⟩ : ∃ q, q = Nm.wn t.z := ⟨_, rfl⟩
  obtain ⟨Lt, h_Lt⟩ : ∃ q, q = Nm.wl t.z := ⟨_, rfl⟩
  obtain ⟨Tt, h_Tt⟩ : ∃ q, q = t.T := ⟨_, rfl⟩
  obtain ⟨nnt, h_nnt⟩ : ∃ q, q = t.nn := ⟨_, rfl⟩
  obtain ⟨bdt, h_bdt⟩ : ∃ q, q = t.bd := ⟨_, rfl⟩
  obtain ⟨plt, h_plt⟩ : ∃ q, q = t.pl := ⟨_, rfl⟩
  obtain ⟨mit, h_mit⟩ : ∃ q, q = t.mi := ⟨_, rfl⟩
  obtain ⟨amt, h_amt⟩ : ∃ q, q = t.am := ⟨_, rfl⟩
  try simp only [← h_Gt, ← h_Lt, ← h_Tt, ← h_nnt, ← h_bdt, ← h_plt, ← h_mit, ← h_amt] at CN CS CM CF CQ hl2
  clear h_Gt h_Lt h_Tt h_nnt h_bdt h_plt h_mit h_amt
  obtain ⟨Gu, h_Gu⟩ : ∃ q, q = Nm.wn u.z := ⟨_, rfl⟩
  obtain ⟨Lu, h_Lu⟩ : ∃ q, q = Nm.wl u.z := ⟨_, rfl⟩
  obtain ⟨Tu, h_Tu⟩ : ∃ q, q = u.T := ⟨_, rfl⟩
  obtain ⟨nnu, h_nnu⟩ : ∃ q, q = u.nn := ⟨_, rfl⟩
  obtain ⟨bdu, h_bdu⟩ : ∃ q, q = u.bd := ⟨_, rfl⟩
  obtain ⟨plu, h_plu⟩ : ∃ q, q = u.pl := ⟨_, rfl⟩
  obtain ⟨miu, h_miu⟩ : ∃ q, q = u.mi := ⟨_, rfl⟩
  obtain ⟨amu, h_amu⟩ : ∃ q, q = u.am := ⟨_, rfl⟩
  try simp only [← h_Gu, ← h_Lu, ← h_Tu, ← h_nnu, ← h_bdu, ← h_plu, ← h_miu, ← h_amu] at CM hu1
  clear h_Gu h_Lu h_Tu h_nnu h_bdu h_plu h_miu h_amu
  replace T3' := T3'.below (al_b _ (.cells #[.int .i64 F, .bool G, .slice a L.length c, .int .i64 T, .bool nn, .bool bd, .bool pl, .bool mi, .bool am] 50))
  replace s1 := s1.below (al_b _ (.cells #[.int .i64 F, .bool G, .slice a L.length c, .int .i64 T, .bool nn, .bool bd, .bool pl, .bool mi, .bool am] 50))
  replace bel := bel_al bel (.cells #[.int .i64 F, .bool G, .slice a L.length c, .int .i64 T, .bool nn, .bool bd, .bool pl, .bool mi, .bool am] 50)
  have Ba := Q9.new w1 (.int .i64 F) (.bool G) (.slice a L.length c) (.int .i64 T) (.bool nn) (.bool bd) (.bool pl) (.bool mi) (.bool am) 50
  obtain ⟨ka0, ka1, ka2, ka3, ka4, ka5, ka6, ka7, ka8, -, -, -, -, -, -, -, -, -⟩ := id Ba
  go_wp2_with fail
  refine (CN.out _ T3'.s.f s1).mono ?_
  rintro r w2 ⟨an, cn, rfl, on, hb⟩
  clear ka0 ka1 ka2 ka3 ka4 ka5 ka6 ka7 ka8
  replace bel := bel_go bel hb
  replace T3' := T3'.below hb
  replace s1 := s1.below hb
  replace Ba := Ba.below hb
  clear hb
  have sn := on.sl
  clear on
  replace T3' := T3'.below (al_b _ (.cells #[.int .i64 F, .bool Gt, .slice an Lt.length cn, .int .i64 Tt, .bool nnt, .bool bdt, .bool plt, .bool mit, .bool amt] 50))
  replace s1 := s1.below (al_b _ (.cells #[.int .i64 F, .bool Gt, .slice an Lt.length cn, .int .i64 Tt, .bool nnt, .bool bdt, .bool plt, .bool mit, .bool amt] 50))
  replace Ba := Ba.below (al_b _ (.cells #[.int .i64 F, .bool Gt, .slice an Lt.length cn, .int .i64 Tt, .bool nnt, .bool bdt, .bool plt, .bool mit, .bool amt] 50))
  replace sn := sn.below (al_b _ (.cells #[.int .i64 F, .bool Gt, .slice an Lt.length cn, .int .i64 Tt, .bool nnt, .bool bdt, .bool plt, .bool mit, .bool amt] 50))
  replace bel := bel_al bel (.cells #[.int .i64 F, .bool Gt, .slice an Lt.length cn, .int .i64 Tt, .bool nnt, .bool bdt, .bool plt, .bool mit, .bool amt] 50)
  have Bn := Q9.new w2 (.int .i64 F) (.bool Gt) (.slice an Lt.length cn) (.int .i64 Tt) (.bool nnt) (.bool bdt) (.bool plt) (.bool mit) (.bool amt) 50
  obtain ⟨ka0, ka1, ka2, ka3, ka4, ka5, ka6, ka7, ka8, -, -, -, -, -, -, -, -, -⟩ := id Ba
  obtain ⟨kn0, kn1, kn2, kn3, kn4, kn5, kn6, kn7, kn8, -, -, -, -, -, -, -, -, -⟩ := id Bn
  go_upto_region 10 with fail
  clear ka0 ka1 ka2 ka3 ka4 ka5 ka6 ka7 ka8 kn0 kn1 kn2 kn3 kn4 kn5 kn6 kn7 kn8
  generalize (w2.alloc (.cells #[.int .i64 F, .bool Gt, .slice an Lt.length cn, .int .i64 Tt, .bool nnt, .bool bdt, .bool plt, .bool mit, .bool amt] 50)) = W at bel T3' s1 Ba sn Bn ⊢
  have belR := Below.drew (Below.refl W.heap.size W)
  refine wp_region_held_drew (S := fun w' => (w'.cell? ⟨w1.heap.size, 0, none⟩ = some (.int .i64 F) ∧ w'.cell? ⟨w1.heap.size, 1, none⟩ = some (.bool G) ∧ w'.cell? ⟨w1.heap.size, 2, none⟩ = some (.slice a L.length c) ∧ w'.cell? ⟨w1.heap.size, 3, none⟩ = some (.int .i64 T) ∧ w'.cell? ⟨w1.heap.size, 4, none⟩ = some (.bool nn) ∧ w'.cell? ⟨w1.heap.size, 5, none⟩ = some (.bool bd) ∧ w'.cell? ⟨w1.heap.size, 6, none⟩ = some (.bool pl) ∧ w'.cell? ⟨w1.heap.size, 7, none⟩ = some (.bool mi) ∧ w'.cell? ⟨w1.heap.size, 8, none⟩ = some (.bool am)) ∧ (w'.cell? ⟨w2.heap.size, 0, none⟩ = some (.int .i64 F) ∧ w'.cell? ⟨w2.heap.size, 1, none⟩ = some (.bool Gt) ∧ w'.cell? ⟨w2.heap.size, 2, none⟩ = some (.slice an Lt.length cn) ∧ w'.cell? ⟨w2.heap.size, 3, none⟩ = some (.int .i64 Tt) ∧ w'.cell? ⟨w2.heap.size, 4, none⟩ = some (.bool nnt) ∧ w'.cell? ⟨w2.heap.size, 5, none⟩ = some (.bool bdt) ∧ w'.cell? ⟨w2.heap.size, 6, none⟩ = some (.bool plt) ∧ w'.cell? ⟨w2.heap.size, 7, none⟩ = some (.bool mit) ∧ w'.cell? ⟨w2.heap.size, 8, none⟩ = some (.bool amt))) (by kernel_rfl) ?_ (fun hHeld => ?_)
  ·exact ⟨⟨(Ba).c0, (Ba).c1, (Ba).c2, (Ba).c3, (Ba).c4, (Ba).c5, (Ba).c6, (Ba).c7, (Ba).c8⟩, ⟨(Bn).c0, (Bn).c1, (Bn).c2, (Bn).c3, (Bn).c4, (Bn).c5, (Bn).c6, (Bn).c7, (Bn).c8⟩⟩
  generalize W.drew = v0 at belR hHeld ⊢
  refine tk 0 ?_ rfl (Or.inl ⟨by rfl, ?_⟩) ?_
  rotate_left
  ·(intro w hSw; (try dsimp only at hSw); obtain ⟨⟨hS0, hS1, hS2, hS3, hS4, hS5, hS6, hS7, hS8⟩, ⟨hS9, hS10, hS11, hS12, hS13, hS14, hS15, hS16, hS17⟩⟩ := hSw; go_simp; try (with_reducible rfl))
  try simp only [Act.put, Ls]
  refine tk 1 ?_ rfl (Or.inl ⟨by rfl, ?_⟩) ?_
  rotate_left
  ·(intro w hSw; (try dsimp only at hSw); obtain ⟨⟨hS0, hS1, hS2, hS3, hS4, hS5, hS6, hS7, hS8⟩, ⟨hS9, hS10, hS11, hS12, hS13, hS14, hS15, hS16, hS17⟩⟩ := hSw; go_simp; try (with_reducible rfl))
  try simp only [Act.put, Ls]
  refine rdy 2 rfl (fun K hK => ?_)
  go_simp
  go_at_call 47
  refine (CS.out _ (s1.below belR)).mono ?_
  rintro r v1 ⟨a2, c2, rfl, o2, hb'⟩
  have hz' := belR.size
  replace belR := bel_go belR hb'
  replace o2 := Own.base o2 (B' := W.heap.size) (by omega)
  clear hb' hz'
  refine hK.out _ _ ?_ (fun hHeld => ?_)
  ·exact ⟨⟨(Ba.below belR).c0, (Ba.below belR).c1, (Ba.below belR).c2, (Ba.below belR).c3, (Ba.below belR).c4, (Ba.below belR).c5, (Ba.below belR).c6, (Ba.below belR).c7, (Ba.below belR).c8⟩, ⟨(Bn.below belR).c0, (Bn.below belR).c1, (Bn.below belR).c2, (Bn.below belR).c3, (Bn.below belR).c4, (Bn.below belR).c5, (Bn.below belR).c6, (Bn.below belR).c7, (Bn.below belR).c8⟩⟩
  clear hK K
  try simp only [Act.put, Ls]
  refine rdy 3 rfl (fun K hK => ?_)
  go_simp
  go_at_call 35
  refine (sameA F Gt Tt nnt bdt plt mit amt an a2 cn c2 Lt _ (sn.below belR) o2.sl hl2).mono ?_
  rintro r v2 ⟨rfl, hb'⟩
  replace o2 := o2.below hb'
  have hz' := belR.size
  replace belR := bel_go belR hb'
  clear hb' hz'
  refine hK.out _ _ ?_ (fun hHeld => ?_)
  ·exact ⟨⟨(Ba.below belR).c0, (Ba.below belR).c1, (Ba.below belR).c2, (Ba.below belR).c3, (Ba.below belR).c4, (Ba.below belR).c5, (Ba.below belR).c6, (Ba.below belR).c7, (Ba.below belR).c8⟩, ⟨(Bn.below belR).c0, (Bn.below belR).c1, (Bn.below belR).c2, (Bn.below belR).c3, (Bn.below belR).c4, (Bn.below belR).c5, (Bn.below belR).c6, (Bn.below belR).c7, (Bn.below belR).c8⟩⟩
  clear hK K
  try simp only [Act.put, Ls]
  refine tk 4 ?_ rfl (Or.inl ⟨by rfl, ?_⟩) ?_
  rotate_left
  ·(intro w hSw; go_simp; try (with_reducible rfl))
  try simp only [Act.put, Ls]
  refine tk 5 ?_ rfl (Or.inl ⟨by rfl, ?_⟩) ?_
  rotate_left
  ·(intro w hSw; go_simp; try (with_reducible rfl))
  try simp only [Act.put, Ls]
  refine tk 6 ?_ rfl (Or.inl ⟨by rfl, ?_⟩) ?_
  rotate_left
  ·(intro w hSw; (try dsimp only at hSw); obtain ⟨⟨hS0, hS1, hS2, hS3, hS4, hS5, hS6, hS7, hS8⟩, ⟨hS9, hS10, hS11, hS12, hS13, hS14, hS15, hS16, hS17⟩⟩ := hSw; go_simp; try (with_reducible rfl))
  try simp only [Act.put, Ls]
  refine rdy 7 rfl (fun K hK => ?_)
  go_simp
  go_at_call 48
  refine (CA.out _ (s1.below belR)).mono ?_
  rintro r v3 ⟨rfl, hb'⟩
  replace o2 := o2.below hb'
  have hz' := belR.size
  replace belR := bel_go belR hb'
  clear hb' hz'
  refine hK.out _ _ ?_ (fun hHeld => ?_)
  ·exact ⟨⟨(Ba.below belR).c0, (Ba.below belR).c1, (Ba.below belR).c2, (Ba.below belR).c3, (Ba.below belR).c4, (Ba.below belR).c5, (Ba.below belR).c6, (Ba.below belR).c7, (Ba.below belR).c8⟩, ⟨(Bn.below belR).c0, (Bn.below belR).c1, (Bn.below belR).c2, (Bn.below belR).c3, (Bn.below belR).c4, (Bn.below belR).c5, (Bn.below belR).c6, (Bn.below belR).c7, (Bn.below belR).c8⟩⟩
  clear hK K
  try simp only [Act.put, Ls]
  refine tk 8 ?_ rfl (Or.inl ⟨by rfl, ?_⟩) ?_
  rotate_left
  ·(intro w hSw; go_simp; try (with_reducible rfl))
  try simp only [Act.put, Ls]
  refine tk 9 ?_ rfl (Or.inl ⟨by rfl, ?_⟩) ?_
  rotate_left
  ·(intro w hSw; go_simp; try (with_reducible rfl))
  try simp only [Act.put, Ls]
  refine wpAnyH_done (by kernel_rfl) ?_ _
  replace bel := bel.trans (belR.mono bel.size)
  replace T3' := T3'.below belR
  replace s1 := s1.below belR
  replace Ba := Ba.below belR
  replace sn := sn.below belR
  replace Bn := Bn.below belR
  clear belR
  clear CN CS CA hl2
  by_cases hT : 1000000 < T + T
  ·have CF1 := hid (CF.out hT)
   clear CM CF hT hu1
   cases nn
   rotate_left
   ·clear MN NX
    obtain ⟨ka0, ka1, ka2, ka3, ka4, ka5, ka6, ka7, ka8, -, -, -, -, -, -, -, -, -⟩ := id Ba
    obtain ⟨kn0, kn1, kn2, kn3, kn4, kn5, kn6, kn7, kn8, -, -, -, -, -, -, -, -, -⟩ := id Bn
    go_wp2_with fail
    refine (CF1.out an cn _ T3'.s.f s1 sn).mono ?_
    rintro r w7 ⟨rfl, hb⟩
    clear ka0 ka1 ka2 ka3 ka4 ka5 ka6 ka7 ka8 kn0 kn1 kn2 kn3 kn4 kn5 kn6 kn7 kn8
    replace bel := bel_go bel hb
    replace T3' := T3'.below hb
    replace s1 := s1.below hb
    replace Ba := Ba.below hb
    replace sn := sn.below hb
    replace Bn := Bn.below hb
    clear hb
    replace T3' := T3'.below (al_b _ (.cells #[.int .i64 0, .bool false, .slice none 0 0, .int .i64 0, .bool false, .bool false, .bool false, .bool false, .bool false] 50))
    replace s1 := s1.below (al_b _ (.cells #[.int .i64 0, .bool false, .slice none 0 0, .int .i64 0, .bool false, .bool false, .bool false, .bool false, .bool false] 50))
    replace Ba := Ba.below (al_b _ (.cells #[.int .i64 0, .bool false, .slice none 0 0, .int .i64 0, .bool false, .bool false, .bool false, .bool false, .bool false] 50))
    replace sn := sn.below (al_b _ (.cells #[.int .i64 0, .bool false, .slice none 0 0, .int .i64 0, .bool false, .bool false, .bool false, .bool false, .bool false] 50))
    replace Bn := Bn.below (al_b _ (.cells #[.int .i64 0, .bool false, .slice none 0 0, .int .i64 0, .bool false, .bool false, .bool false, .bool false, .bool false] 50))
    replace bel := bel_al bel (.cells #[.int .i64 0, .bool false, .slice none 0 0, .int .i64 0, .bool false, .bool false, .bool false, .bool false, .bool false] 50)
    have Bm := Q9.new w7 (.int .i64 0) (.bool false) (.slice none 0 0) (.int .i64 0) (.bool false) (.bool false) (.bool false) (.bool false) (.bool false) 50
    obtain ⟨ka0, ka1, ka2, ka3, ka4, ka5, ka6, ka7, ka8, -, -, -, -, -, -, -, -, -⟩ := id Ba
    obtain ⟨kn0, kn1, kn2, kn3, kn4, kn5, kn6, kn7, kn8, -, -, -, -, -, -, -, -, -⟩ := id Bn
    obtain ⟨km0, km1, km2, km3, km4, km5, km6, km7, km8, -, -, -, -, -, -, -, -, -⟩ := id Bm
    go_wp2_with fail
    refine (CR.out _ T3' s1).mono ?_
    rintro r w8 ⟨rfl, hb⟩
    clear ka0 ka1 ka2 ka3 ka4 ka5 ka6 ka7 ka8 kn0 kn1 kn2 kn3 kn4 kn5 kn6 kn7 kn8 km0 km1 km2 km3 km4 km5 km6 km7 km8
    replace bel := bel_go bel hb
    replace T3' := T3'.below hb
    replace s1 := s1.below hb
    replace Ba := Ba.below hb
    replace sn := sn.below hb
    replace Bn := Bn.below hb
    replace Bm := Bm.below hb
    clear hb
    obtain ⟨ka0, ka1, ka2, ka3, ka4, ka5, ka6, ka7, ka8, -, -, -, -, -, -, -, -, -⟩ := id Ba
    obtain ⟨kn0, kn1, kn2, kn3, kn4, kn5, kn6, kn7, kn8, -, -, -, -, -, -, -, -, -⟩ := id Bn
    obtain ⟨km0, km1, km2, km3, km4, km5, km6, km7, km8, -, -, -, -, -, -, -, -, -⟩ := id Bm
    go_wp2_with fail
    refine (CQ.out an cn _ T3' sn).mono ?_
    rintro r w9 ⟨rfl, hb⟩
    clear ka0 ka1 ka2 ka3 ka4 ka5 ka6 ka7 ka8 kn0 kn1 kn2 kn3 kn4 kn5 kn6 kn7 kn8 km0 km1 km2 km3 km4 km5 km6 km7 km8
    replace bel := bel_go bel hb
    replace T3' := T3'.below hb
    replace s1 := s1.below hb
    replace Ba := Ba.below hb
    replace sn := sn.below hb
    replace Bn := Bn.below hb
    replace Bm := Bm.below hb
    clear hb
    obtain ⟨ka0, ka1, ka2, ka3, ka4, ka5, ka6, ka7, ka8, -, -, -, -, -, -, -, -, -⟩ := id Ba
    obtain ⟨kn0, kn1, kn2, kn3, kn4, kn5, kn6, kn7, kn8, -, -, -, -, -, -, -, -, -⟩ := id Bn
    obtain ⟨km0, km1, km2, km3, km4, km5, km6, km7, km8, -, -, -, -, -, -, -, -, -⟩ := id Bm
    go_wp2
    all_goals go_ret
    all_goals exact ⟨rfl, bel⟩
   cases pl
   rotate_left
   ·clear MN NX
    obtain ⟨ka0, ka1, ka2, ka3, ka4, ka5, ka6, ka7, ka8, -, -, -, -, -, -, -, -, -⟩ := id Ba
    obtain ⟨kn0, kn1, kn2, kn3, kn4, kn5, kn6, kn7, kn8, -, -, -, -, -, -, -, -, -⟩ := id Bn
    go_wp2_with fail
    refine (CF1.out an cn _ T3'.s.f s1 sn).mono ?_
    rintro r w7 ⟨rfl, hb⟩
    clear ka0 ka1 ka2 ka3 ka4 ka5 ka6 ka7 ka8 kn0 kn1 kn2 kn3 kn4 kn5 kn6 kn7 kn8
    replace bel := bel_go bel hb
    replace T3' := T3'.below hb
    replace s1 := s1.below hb
    replace Ba := Ba.below hb
    replace sn := sn.below hb
    replace Bn := Bn.below hb
    clear hb
    replace T3' := T3'.below (al_b _ (.cells #[.int .i64 0, .bool false, .slice none 0 0, .int .i64 0, .bool false, .bool false, .bool false, .bool false, .bool false] 50))
    replace s1 := s1.below (al_b _ (.cells #[.int .i64 0, .bool false, .slice none 0 0, .int .i64 0, .bool false, .bool false, .bool false, .bool false, .bool false] 50))
    replace Ba := Ba.below (al_b _ (.cells #[.int .i64 0, .bool false, .slice none 0 0, .int .i64 0, .bool false, .bool false, .bool false, .bool false, .bool false] 50))
    replace sn := sn.below (al_b _ (.cells #[.int .i64 0, .bool false, .slice none 0 0, .int .i64 0, .bool false, .bool false, .bool false, .bool false, .bool false] 50))
    replace Bn := Bn.below (al_b _ (.cells #[.int .i64 0, .bool false, .slice none 0 0, .int .i64 0, .bool false, .bool false, .bool false, .bool false, .bool false] 50))
    replace bel := bel_al bel (.cells #[.int .i64 0, .bool false, .slice none 0 0, .int .i64 0, .bool false, .bool false, .bool false, .bool false, .bool false] 50)
    have Bm := Q9.new w7 (.int .i64 0) (.bool false) (.slice none 0 0) (.int .i64 0) (.bool false) (.bool false) (.bool false) (.bool false) (.bool false) 50
    obtain ⟨ka0, ka1, ka2, ka3, ka4, ka5, ka6, ka7, ka8, -, -, -, -, -, -, -, -, -⟩ := id Ba
    obtain ⟨kn0, kn1, kn2, kn3, kn4, kn5, kn6, kn7, kn8, -, -, -, -, -, -, -, -, -⟩ := id Bn
    obtain ⟨km0, km1, km2, km3, km4, km5, km6, km7, km8, -, -, -, -, -, -, -, -, -⟩ := id Bm
    go_wp2_with fail
    refine (CR.out _ T3' s1).mono ?_
    rintro r w8 ⟨rfl, hb⟩
    clear ka0 ka1 ka2 ka3 ka4 ka5 ka6 ka7 ka8 kn0 kn1 kn2 kn3 kn4 kn5 kn6 kn7 kn8 km0 km1 km2 km3 km4 km5 km6 km7 km8
    replace bel := bel_go bel hb
    replace T3' := T3'.below hb
    replace s1 := s1.below hb
    replace Ba := Ba.below hb
    replace sn := sn.below hb
    replace Bn := Bn.below hb
    replace Bm := Bm.below hb
    clear hb
    obtain ⟨ka0, ka1, ka2, ka3, ka4, ka5, ka6, ka7, ka8, -, -, -, -, -, -, -, -, -⟩ := id Ba
    obtain ⟨kn0, kn1, kn2, kn3, kn4, kn5, kn6, kn7, kn8, -, -, -, -, -, -, -, -, -⟩ := id Bn
    obtain ⟨km0, km1, km2, km3, km4, km5, km6, km7, km8, -, -, -, -, -, -, -, -, -⟩ := id Bm
    go_wp2_with fail
    refine (CQ.out an cn _ T3' sn).mono ?_
    rintro r w9 ⟨rfl, hb⟩
    clear ka0 ka1 ka2 ka3 ka4 ka5 ka6 ka7 ka8 kn0 kn1 kn2 kn3 kn4 kn5 kn6 kn7 kn8 km0 km1 km2 km3 km4 km5 km6 km7 km8
    replace bel := bel_go bel hb
    replace T3' := T3'.below hb
    replace s1 := s1.below hb
    replace Ba := Ba.below hb
    replace sn := sn.below hb
    replace Bn := Bn.below hb
    replace Bm := Bm.below hb
    clear hb
    obtain ⟨ka0, ka1, ka2, ka3, ka4, ka5, ka6, ka7, ka8, -, -, -, -, -, -, -, -, -⟩ := id Ba
    obtain ⟨kn0, kn1, kn2, kn3, kn4, kn5, kn6, kn7, kn8, -, -, -, -, -, -, -, -, -⟩ := id Bn
    obtain ⟨km0, km1, km2, km3, km4, km5, km6, km7, km8, -, -, -, -, -, -, -, -, -⟩ := id Bm
    go_wp2
    all_goals go_ret
    all_goals exact ⟨rfl, bel⟩
   cases mi
   rotate_left
   ·clear MN NX
    obtain ⟨ka0, ka1, ka2, ka3, ka4, ka5, ka6, ka7, ka8, -, -, -, -, -, -, -, -, -⟩ := id Ba
    obtain ⟨kn0, kn1, kn2, kn3, kn4, kn5, kn6, kn7, kn8, -, -, -, -, -, -, -, -, -⟩ := id Bn
    go_wp2_with fail
    refine (CF1.out an cn _ T3'.s.f s1 sn).mono ?_
    rintro r w7 ⟨rfl, hb⟩
    clear ka0 ka1 ka2 ka3 ka4 ka5 ka6 ka7 ka8 kn0 kn1 kn2 kn3 kn4 kn5 kn6 kn7 kn8
    replace bel := bel_go bel hb
    replace T3' := T3'.below hb
    replace s1 := s1.below hb
    replace Ba := Ba.below hb
    replace sn := sn.below hb
    replace Bn := Bn.below hb
    clear hb
    replace T3' := T3'.below (al_b _ (.cells #[.int .i64 0, .bool false, .slice none 0 0, .int .i64 0, .bool false, .bool false, .bool false, .bool false, .bool false] 50))
    replace s1 := s1.below (al_b _ (.cells #[.int .i64 0, .bool false, .slice none 0 0, .int .i64 0, .bool false, .bool false, .bool false, .bool false, .bool false] 50))
    replace Ba := Ba.below (al_b _ (.cells #[.int .i64 0, .bool false, .slice none 0 0, .int .i64 0, .bool false, .bool false, .bool false, .bool false, .bool false] 50))
    replace sn := sn.below (al_b _ (.cells #[.int .i64 0, .bool false, .slice none 0 0, .int .i64 0, .bool false, .bool false, .bool false, .bool false, .bool false] 50))
    replace Bn := Bn.below (al_b _ (.cells #[.int .i64 0, .bool false, .slice none 0 0, .int .i64 0, .bool false, .bool false, .bool false, .bool false, .bool false] 50))
    replace bel := bel_al bel (.cells #[.int .i64 0, .bool false, .slice none 0 0, .int .i64 0, .bool false, .bool false, .bool false, .bool false, .bool false] 50)
    have Bm := Q9.new w7 (.int .i64 0) (.bool false) (.slice none 0 0) (.int .i64 0) (.bool false) (.bool false) (.bool false) (.bool false) (.bool false) 50
    obtain ⟨ka0, ka1, ka2, ka3, ka4, ka5, ka6, ka7, ka8, -, -, -, -, -, -, -, -, -⟩ := id Ba
    obtain ⟨kn0, kn1, kn2, kn3, kn4, kn5, kn6, kn7, kn8, -, -, -, -, -, -, -, -, -⟩ := id Bn
    obtain ⟨km0, km1, km2, km3, km4, km5, km6, km7, km8, -, -, -, -, -, -, -, -, -⟩ := id Bm
    go_wp2_with fail
    refine (CR.out _ T3' s1).mono ?_
    rintro r w8 ⟨rfl, hb⟩
    clear ka0 ka1 ka2 ka3 ka4 ka5 ka6 ka7 ka8 kn0 kn1 kn2 kn3 kn4 kn5 kn6 kn7 kn8 km0 km1 km2 km3 km4 km5 km6 km7 km8
    replace bel := bel_go bel hb
    replace T3' := T3'.below hb
    replace s1 := s1.below hb
    replace Ba := Ba.below hb
    replace sn := sn.below hb
    replace Bn := Bn.below hb
    replace Bm := Bm.below hb
    clear hb
    obtain ⟨ka0, ka1, ka2, ka3, ka4, ka5, ka6, ka7, ka8, -, -, -, -, -, -, -, -, -⟩ := id Ba
    obtain ⟨kn0, kn1, kn2, kn3, kn4, kn5, kn6, kn7, kn8, -, -, -, -, -, -, -, -, -⟩ := id Bn
    obtain ⟨km0, km1, km2, km3, km4, km5, km6, km7, km8, -, -, -, -, -, -, -, -, -⟩ := id Bm
    go_wp2_with fail
    refine (CQ.out an cn _ T3' sn).mono ?_
    rintro r w9 ⟨rfl, hb⟩
    clear ka0 ka1 ka2 ka3 ka4 ka5 ka6 ka7 ka8 kn0 kn1 kn2 kn3 kn4 kn5 kn6 kn7 kn8 km0 km1 km2 km3 km4 km5 km6 km7 km8
    replace bel := bel_go bel hb
    replace T3' := T3'.below hb
    replace s1 := s1.below hb
    replace Ba := Ba.below hb
    replace sn := sn.below hb
    replace Bn := Bn.below hb
    replace Bm := Bm.below hb
    clear hb
    obtain ⟨ka0, ka1, ka2, ka3, ka4, ka5, ka6, ka7, ka8, -, -, -, -, -, -, -, -, -⟩ := id Ba
    obtain ⟨kn0, kn1, kn2, kn3, kn4, kn5, kn6, kn7, kn8, -, -, -, -, -, -, -, -, -⟩ := id Bn
    obtain ⟨km0, km1, km2, km3, km4, km5, km6, km7, km8, -, -, -, -, -, -, -, -, -⟩ := id Bm
    go_wp2
    all_goals go_ret
    all_goals exact ⟨rfl, bel⟩
   by_cases hz : L.length = 0
   ·have hz1 : ((L.length : Int) == 0) = true := by simp [hz]
    clear hz MN NX
    obtain ⟨ka0, ka1, ka2, ka3, ka4, ka5, ka6, ka7, ka8, -, -, -, -, -, -, -, -, -⟩ := id Ba
    obtain ⟨kn0, kn1, kn2, kn3, kn4, kn5, kn6, kn7, kn8, -, -, -, -, -, -, -, -, -⟩ := id Bn
    go_wp2_with fail
    refine (CF1.out an cn _ T3'.s.f s1 sn).mono ?_
    rintro r w7 ⟨rfl, hb⟩
    clear ka0 ka1 ka2 ka3 ka4 ka5 ka6 ka7 ka8 kn0 kn1 kn2 kn3 kn4 kn5 kn6 kn7 kn8
    replace bel := bel_go bel hb
    replace T3' := T3'.below hb
    replace s1 := s1.below hb
    replace Ba := Ba.below hb
    replace sn := sn.below hb
    replace Bn := Bn.below hb
    clear hb
    replace T3' := T3'.below (al_b _ (.cells #[.int .i64 0, .bool false, .slice none 0 0, .int .i64 0, .bool false, .bool false, .bool false, .bool false, .bool false] 50))
    replace s1 := s1.below (al_b _ (.cells #[.int .i64 0, .bool false, .slice none 0 0, .int .i64 0, .bool false, .bool false, .bool false, .bool false, .bool false] 50))
    replace Ba := Ba.below (al_b _ (.cells #[.int .i64 0, .bool false, .slice none 0 0, .int .i64 0, .bool false, .bool false, .bool false, .bool false, .bool false] 50))
    replace sn := sn.below (al_b _ (.cells #[.int .i64 0, .bool false, .slice none 0 0, .int .i64 0, .bool false, .bool false, .bool false, .bool false, .bool false] 50))
    replace Bn := Bn.below (al_b _ (.cells #[.int .i64 0, .bool false, .slice none 0 0, .int .i64 0, .bool false, .bool false, .bool false, .bool false, .bool false] 50))
    replace bel := bel_al bel (.cells #[.int .i64 0, .bool false, .slice none 0 0, .int .i64 0, .bool false, .bool false, .bool false, .bool false, .bool false] 50)
    have Bm := Q9.new w7 (.int .i64 0) (.bool false) (.slice none 0 0) (.int .i64 0) (.bool false) (.bool false) (.bool false) (.bool false) (.bool false) 50
    obtain ⟨ka0, ka1, ka2, ka3, ka4, ka5, ka6, ka7, ka8, -, -, -, -, -, -, -, -, -⟩ := id Ba
    obtain ⟨kn0, kn1, kn2, kn3, kn4, kn5, kn6, kn7, kn8, -, -, -, -, -, -, -, -, -⟩ := id Bn
    obtain ⟨km0, km1, km2, km3, km4, km5, km6, km7, km8, -, -, -, -, -, -, -, -, -⟩ := id Bm
    go_wp2_with fail
    refine (CR.out _ T3' s1).mono ?_
    rintro r w8 ⟨rfl, hb⟩
    clear ka0 ka1 ka2 ka3 ka4 ka5 ka6 ka7 ka8 kn0 kn1 kn2 kn3 kn4 kn5 kn6 kn7 kn8 km0 km1 km2 km3 km4 km5 km6 km7 km8
    replace bel := bel_go bel hb
    replace T3' := T3'.below hb
    replace s1 := s1.below hb
    replace Ba := Ba.below hb
    replace sn := sn.below hb
    replace Bn := Bn.below hb
    replace Bm := Bm.below hb
    clear hb
    obtain ⟨ka0, ka1, ka2, ka3, ka4, ka5, ka6, ka7, ka8, -, -, -, -, -, -, -, -, -⟩ := id Ba
    obtain ⟨kn0, kn1, kn2, kn3, kn4, kn5, kn6, kn7, kn8, -, -, -, -, -, -, -, -, -⟩ := id Bn
    obtain ⟨km0, km1, km2, km3, km4, km5, km6, km7, km8, -, -, -, -, -, -, -, -, -⟩ := id Bm
    go_wp2_with fail
    refine (CQ.out an cn _ T3' sn).mono ?_
    rintro r w9 ⟨rfl, hb⟩
    clear ka0 ka1 ka2 ka3 ka4 ka5 ka6 ka7 ka8 kn0 kn1 kn2 kn3 kn4 kn5 kn6 kn7 kn8 km0 km1 km2 km3 km4 km5 km6 km7 km8
    replace bel := bel_go bel hb
    replace T3' := T3'.below hb
    replace s1 := s1.below hb
    replace Ba := Ba.below hb
    replace sn := sn.below hb
    replace Bn := Bn.below hb
    replace Bm := Bm.below hb
    clear hb
    obtain ⟨ka0, ka1, ka2, ka3, ka4, ka5, ka6, ka7, ka8, -, -, -, -, -, -, -, -, -⟩ := id Ba
    obtain ⟨kn0, kn1, kn2, kn3, kn4, kn5, kn6, kn7, kn8, -, -, -, -, -, -, -, -, -⟩ := id Bn
    obtain ⟨km0, km1, km2, km3, km4, km5, km6, km7, km8, -, -, -, -, -, -, -, -, -⟩ := id Bm
    go_wp2
    all_goals go_ret
    all_goals exact ⟨rfl, bel⟩
   ·have hz1 : ((L.length : Int) == 0) = false := by simpa using hz
    obtain ⟨e1, e2, e3, e4⟩ := MN.out rfl rfl rfl hz
    have NX1 := hid (fun w' k => NX.out X w' k e3 e4)
    rw [← e1] at NX1
    have eqY : (Y' == Y) = true := by rw [e2]; simp
    have eqX : (X' == X') = true := by simp
    have eqZ : (Y == Y') = true := by rw [e2]; simp
    clear e1 e2 e3 e4 hz MN NX
    obtain ⟨ka0, ka1, ka2, ka3, ka4, ka5, ka6, ka7, ka8, -, -, -, -, -, -, -, -, -⟩ := id Ba
    obtain ⟨kn0, kn1, kn2, kn3, kn4, kn5, kn6, kn7, kn8, -, -, -, -, -, -, -, -, -⟩ := id Bn
    go_wp2_with fail
    refine (CF1.out an cn _ T3'.s.f s1 sn).mono ?_
    rintro r w7 ⟨rfl, hb⟩
    clear ka0 ka1 ka2 ka3 ka4 ka5 ka6 ka7 ka8 kn0 kn1 kn2 kn3 kn4 kn5 kn6 kn7 kn8
    replace bel := bel_go bel hb
    replace T3' := T3'.below hb
    replace s1 := s1.below hb
    replace Ba := Ba.below hb
    replace sn := sn.below hb
    replace Bn := Bn.below hb
    clear hb
    replace T3' := T3'.below (al_b _ (.cells #[.int .i64 0, .bool false, .slice none 0 0, .int .i64 0, .bool false, .bool false, .bool false, .bool false, .bool false] 50))
    replace s1 := s1.below (al_b _ (.cells #[.int .i64 0, .bool false, .slice none 0 0, .int .i64 0, .bool false, .bool false, .bool false, .bool false, .bool false] 50))
    replace Ba := Ba.below (al_b _ (.cells #[.int .i64 0, .bool false, .slice none 0 0, .int .i64 0, .bool false, .bool false, .bool false, .bool false, .bool false] 50))
    replace sn := sn.below (al_b _ (.cells #[.int .i64 0, .bool false, .slice none 0 0, .int .i64 0, .bool false, .bool false, .bool false, .bool false, .bool false] 50))
    replace Bn := Bn.below (al_b _ (.cells #[.int .i64 0, .bool false, .slice none 0 0, .int .i64 0, .bool false, .bool false, .bool false, .bool false, .bool false] 50))
    replace bel := bel_al bel (.cells #[.int .i64 0, .bool false, .slice none 0 0, .int .i64 0, .bool false, .bool false, .bool false, .bool false, .bool false] 50)
    have Bm := Q9.new w7 (.int .i64 0) (.bool false) (.slice none 0 0) (.int .i64 0) (.bool false) (.bool false) (.bool false) (.bool false) (.bool false) 50
    obtain ⟨ka0, ka1, ka2, ka3, ka4, ka5, ka6, ka7, ka8, -, -, -, -, -, -, -, -, -⟩ := id Ba
    obtain ⟨kn0, kn1, kn2, kn3, kn4, kn5, kn6, kn7, kn8, -, -, -, -, -, -, -, -, -⟩ := id Bn
    obtain ⟨km0, km1, km2, km3, km4, km5, km6, km7, km8, -, -, -, -, -, -, -, -, -⟩ := id Bm
    go_wp2_with fail
    refine (CR.out _ T3' s1).mono ?_
    rintro r w8 ⟨rfl, hb⟩
    clear ka0 ka1 ka2 ka3 ka4 ka5 ka6 ka7 ka8 kn0 kn1 kn2 kn3 kn4 kn5 kn6 kn7 kn8 km0 km1 km2 km3 km4 km5 km6 km7 km8
    replace bel := bel_go bel hb
    replace T3' := T3'.below hb
    replace s1 := s1.below hb
    replace Ba := Ba.below hb
    replace sn := sn.below hb
    replace Bn := Bn.below hb
    replace Bm := Bm.below hb
    clear hb
    obtain ⟨ka0, ka1, ka2, ka3, ka4, ka5, ka6, ka7, ka8, -, -, -, -, -, -, -, -, -⟩ := id Ba
    obtain ⟨kn0, kn1, kn2, kn3, kn4, kn5, kn6, kn7, kn8, -, -, -, -, -, -, -, -, -⟩ := id Bn
    obtain ⟨km0, km1, km2, km3, km4, km5, km6, km7, km8, -, -, -, -, -, -, -, -, -⟩ := id Bm
    go_wp2_with fail
    refine (CQ.out an cn _ T3' sn).mono ?_
    rintro r w9 ⟨rfl, hb⟩
    clear ka0 ka1 ka2 ka3 ka4 ka5 ka6 ka7 ka8 kn0 kn1 kn2 kn3 kn4 kn5 kn6 kn7 kn8 km0 km1 km2 km3 km4 km5 km6 km7 km8
    replace bel := bel_go bel hb
    replace T3' := T3'.below hb
    replace s1 := s1.below hb
    replace Ba := Ba.below hb
    replace sn := sn.below hb
    replace Bn := Bn.below hb
    replace Bm := Bm.below hb
    clear hb
    obtain ⟨ka0, ka1, ka2, ka3, ka4, ka5, ka6, ka7, ka8, -, -, -, -, -, -, -, -, -⟩ := id Ba
    obtain ⟨kn0, kn1, kn2, kn3, kn4, kn5, kn6, kn7, kn8, -, -, -, -, -, -, -, -, -⟩ := id Bn
    obtain ⟨km0, km1, km2, km3, km4, km5, km6, km7, km8, -, -, -, -, -, -, -, -, -⟩ := id Bm
    go_wp2_with fail
    refine (NX1.out _ T3'.s.f).mono ?_
    rintro r w10 ⟨rfl, hb⟩
    clear ka0 ka1 ka2 ka3 ka4 ka5 ka6 ka7 ka8 kn0 kn1 kn2 kn3 kn4 kn5 kn6 kn7 kn8 km0 km1 km2 km3 km4 km5 km6 km7 km8
    replace bel := bel_go bel hb
    replace T3' := T3'.below hb
    replace s1 := s1.below hb
    replace Ba := Ba.below hb
    replace sn := sn.below hb
    replace Bn := Bn.below hb
    replace Bm := Bm.below hb
    clear hb
    obtain ⟨ka0, ka1, ka2, ka3, ka4, ka5, ka6, ka7, ka8, -, -, -, -, -, -, -, -, -⟩ := id Ba
    obtain ⟨kn0, kn1, kn2, kn3, kn4, kn5, kn6, kn7, kn8, -, -, -, -, -, -, -, -, -⟩ := id Bn
    obtain ⟨km0, km1, km2, km3, km4, km5, km6, km7, km8, -, -, -, -, -, -, -, -, -⟩ := id Bm
    go_wp2
    all_goals go_ret
    all_goals exact ⟨rfl, bel⟩
  ·have CM1 := hid (CM.out (by omega))
   clear CM CF hT
   cases nn
   rotate_left
   ·clear MN NX
    obtain ⟨ka0, ka1, ka2, ka3, ka4, ka5, ka6, ka7, ka8, -, -, -, -, -, -, -, -, -⟩ := id Ba
    obtain ⟨kn0, kn1, kn2, kn3, kn4, kn5, kn6, kn7, kn8, -, -, -, -, -, -, -, -, -⟩ := id Bn
    go_wp2_with fail
    refine (CM1.out an cn _ T3'.s.f s1 sn).mono ?_
    rintro r w7 ⟨am', cm, rfl, om, hb⟩
    clear ka0 ka1 ka2 ka3 ka4 ka5 ka6 ka7 ka8 kn0 kn1 kn2 kn3 kn4 kn5 kn6 kn7 kn8
    replace bel := bel_go bel hb
    replace T3' := T3'.below hb
    replace s1 := s1.below hb
    replace Ba := Ba.below hb
    replace sn := sn.below hb
    replace Bn := Bn.below hb
    clear hb
    have sm := om.sl
    clear om
    replace T3' := T3'.below (al_b _ (.cells #[.int .i64 F, .bool Gu, .slice am' Lu.length cm, .int .i64 Tu, .bool nnu, .bool bdu, .bool plu, .bool miu, .bool amu] 50))
    replace s1 := s1.below (al_b _ (.cells #[.int .i64 F, .bool Gu, .slice am' Lu.length cm, .int .i64 Tu, .bool nnu, .bool bdu, .bool plu, .bool miu, .bool amu] 50))
    replace Ba := Ba.below (al_b _ (.cells #[.int .i64 F, .bool Gu, .slice am' Lu.length cm, .int .i64 Tu, .bool nnu, .bool bdu, .bool plu, .bool miu, .bool amu] 50))
    replace sn := sn.below (al_b _ (.cells #[.int .i64 F, .bool Gu, .slice am' Lu.length cm, .int .i64 Tu, .bool nnu, .bool bdu, .bool plu, .bool miu, .bool amu] 50))
    replace Bn := Bn.below (al_b _ (.cells #[.int .i64 F, .bool Gu, .slice am' Lu.length cm, .int .i64 Tu, .bool nnu, .bool bdu, .bool plu, .bool miu, .bool amu] 50))
    replace sm := sm.below (al_b _ (.cells #[.int .i64 F, .bool Gu, .slice am' Lu.length cm, .int .i64 Tu, .bool nnu, .bool bdu, .bool plu, .bool miu, .bool amu] 50))
    replace bel := bel_al bel (.cells #[.int .i64 F, .bool Gu, .slice am' Lu.length cm, .int .i64 Tu, .bool nnu, .bool bdu, .bool plu, .bool miu, .bool amu] 50)
    have Bm := Q9.new w7 (.int .i64 F) (.bool Gu) (.slice am' Lu.length cm) (.int .i64 Tu) (.bool nnu) (.bool bdu) (.bool plu) (.bool miu) (.bool amu) 50
    obtain ⟨ka0, ka1, ka2, ka3, ka4, ka5, ka6, ka7, ka8, -, -, -, -, -, -, -, -, -⟩ := id Ba
    obtain ⟨kn0, kn1, kn2, kn3, kn4, kn5, kn6, kn7, kn8, -, -, -, -, -, -, -, -, -⟩ := id Bn
    obtain ⟨km0, km1, km2, km3, km4, km5, km6, km7, km8, -, -, -, -, -, -, -, -, -⟩ := id Bm
    go_wp2_with fail
    refine (CR.out _ T3' s1).mono ?_
    rintro r w8 ⟨rfl, hb⟩
    clear ka0 ka1 ka2 ka3 ka4 ka5 ka6 ka7 ka8 kn0 kn1 kn2 kn3 kn4 kn5 kn6 kn7 kn8 km0 km1 km2 km3 km4 km5 km6 km7 km8
    replace bel := bel_go bel hb
    replace T3' := T3'.below hb
    replace s1 := s1.below hb
    replace Ba := Ba.below hb
    replace sn := sn.below hb
    replace Bn := Bn.below hb
    replace sm := sm.below hb
    replace Bm := Bm.below hb
    clear hb
    obtain ⟨ka0, ka1, ka2, ka3, ka4, ka5, ka6, ka7, ka8, -, -, -, -, -, -, -, -, -⟩ := id Ba
    obtain ⟨kn0, kn1, kn2, kn3, kn4, kn5, kn6, kn7, kn8, -, -, -, -, -, -, -, -, -⟩ := id Bn
    obtain ⟨km0, km1, km2, km3, km4, km5, km6, km7, km8, -, -, -, -, -, -, -, -, -⟩ := id Bm
    go_wp2_with fail
    refine (CQ.out an cn _ T3' sn).mono ?_
    rintro r w9 ⟨rfl, hb⟩
    clear ka0 ka1 ka2 ka3 ka4 ka5 ka6 ka7 ka8 kn0 kn1 kn2 kn3 kn4 kn5 kn6 kn7 kn8 km0 km1 km2 km3 km4 km5 km6 km7 km8
    replace bel := bel_go bel hb
    replace T3' := T3'.below hb
    replace s1 := s1.below hb
    replace Ba := Ba.below hb
    replace sn := sn.below hb
    replace Bn := Bn.below hb
    replace sm := sm.below hb
    replace Bm := Bm.below hb
    clear hb
    obtain ⟨ka0, ka1, ka2, ka3, ka4, ka5, ka6, ka7, ka8, -, -, -, -, -, -, -, -, -⟩ := id Ba
    obtain ⟨kn0, kn1, kn2, kn3, kn4, kn5, kn6, kn7, kn8, -, -, -, -, -, -, -, -, -⟩ := id Bn
    obtain ⟨km0, km1, km2, km3, km4, km5, km6, km7, km8, -, -, -, -, -, -, -, -, -⟩ := id Bm
    go_wp2
    all_goals go_ret
    all_goals exact ⟨rfl, bel⟩
   cases pl
   rotate_left
   ·clear MN NX
    obtain ⟨ka0, ka1, ka2, ka3, ka4, ka5, ka6, ka7, ka8, -, -, -, -, -, -, -, -, -⟩ := id Ba
    obtain ⟨kn0, kn1, kn2, kn3, kn4, kn5, kn6, kn7, kn8, -, -, -, -, -, -, -, -, -⟩ := id Bn
    go_wp2_with fail
    refine (CM1.out an cn _ T3'.s.f s1 sn).mono ?_
    rintro r w7 ⟨am', cm, rfl, om, hb⟩
    clear ka0 ka1 ka2 ka3 ka4 ka5 ka6 ka7 ka8 kn0 kn1 kn2 kn3 kn4 kn5 kn6 kn7 kn8
    replace bel := bel_go bel hb
    replace T3' := T3'.below hb
    replace s1 := s1.below hb
    replace Ba := Ba.below hb
    replace sn := sn.below hb
    replace Bn := Bn.below hb
    clear hb
    have sm := om.sl
    clear om
    replace T3' := T3'.below (al_b _ (.cells #[.int .i64 F, .bool Gu, .slice am' Lu.length cm, .int .i64 Tu, .bool nnu, .bool bdu, .bool plu, .bool miu, .bool amu] 50))
    replace s1 := s1.below (al_b _ (.cells #[.int .i64 F, .bool Gu, .slice am' Lu.length cm, .int .i64 Tu, .bool nnu, .bool bdu, .bool plu, .bool miu, .bool amu] 50))
    replace Ba := Ba.below (al_b _ (.cells #[.int .i64 F, .bool Gu, .slice am' Lu.length cm, .int .i64 Tu, .bool nnu, .bool bdu, .bool plu, .bool miu, .bool amu] 50))
    replace sn := sn.below (al_b _ (.cells #[.int .i64 F, .bool Gu, .slice am' Lu.length cm, .int .i64 Tu, .bool nnu, .bool bdu, .bool plu, .bool miu, .bool amu] 50))
    replace Bn := Bn.below (al_b _ (.cells #[.int .i64 F, .bool Gu, .slice am' Lu.length cm, .int .i64 Tu, .bool nnu, .bool bdu, .bool plu, .bool miu, .bool amu] 50))
    replace sm := sm.below (al_b _ (.cells #[.int .i64 F, .bool Gu, .slice am' Lu.length cm, .int .i64 Tu, .bool nnu, .bool bdu, .bool plu, .bool miu, .bool amu] 50))
    replace bel := bel_al bel (.cells #[.int .i64 F, .bool Gu, .slice am' Lu.length cm, .int .i64 Tu, .bool nnu, .bool bdu, .bool plu, .bool miu, .bool amu] 50)
    have Bm := Q9.new w7 (.int .i64 F) (.bool Gu) (.slice am' Lu.length cm) (.int .i64 Tu) (.bool nnu) (.bool bdu) (.bool plu) (.bool miu) (.bool amu) 50
    obtain ⟨ka0, ka1, ka2, ka3, ka4, ka5, ka6, ka7, ka8, -, -, -, -, -, -, -, -, -⟩ := id Ba
    obtain ⟨kn0, kn1, kn2, kn3, kn4, kn5, kn6, kn7, kn8, -, -, -, -, -, -, -, -, -⟩ := id Bn
    obtain ⟨km0, km1, km2, km3, km4, km5, km6, km7, km8, -, -, -, -, -, -, -, -, -⟩ := id Bm
    go_wp2_with fail
    refine (CR.out _ T3' s1).mono ?_
    rintro r w8 ⟨rfl, hb⟩
    clear ka0 ka1 ka2 ka3 ka4 ka5 ka6 ka7 ka8 kn0 kn1 kn2 kn3 kn4 kn5 kn6 kn7 kn8 km0 km1 km2 km3 km4 km5 km6 km7 km8
    replace bel := bel_go bel hb
    replace T3' := T3'.below hb
    replace s1 := s1.below hb
    replace Ba := Ba.below hb
    replace sn := sn.below hb
    replace Bn := Bn.below hb
    replace sm := sm.below hb
    replace Bm := Bm.below hb
    clear hb
    obtain ⟨ka0, ka1, ka2, ka3, ka4, ka5, ka6, ka7, ka8, -, -, -, -, -, -, -, -, -⟩ := id Ba
    obtain ⟨kn0, kn1, kn2, kn3, kn4, kn5, kn6, kn7, kn8, -, -, -, -, -, -, -, -, -⟩ := id Bn
    obtain ⟨km0, km1, km2, km3, km4, km5, km6, km7, km8, -, -, -, -, -, -, -, -, -⟩ := id Bm
    go_wp2_with fail
    refine (CQ.out an cn _ T3' sn).mono ?_
    rintro r w9 ⟨rfl, hb⟩
    clear ka0 ka1 ka2 ka3 ka4 ka5 ka6 ka7 ka8 kn0 kn1 kn2 kn3 kn4 kn5 kn6 kn7 kn8 km0 km1 km2 km3 km4 km5 km6 km7 km8
    replace bel := bel_go bel hb
    replace T3' := T3'.below hb
    replace s1 := s1.below hb
    replace Ba := Ba.below hb
    replace sn := sn.below hb
    replace Bn := Bn.below hb
    replace sm := sm.below hb
    replace Bm := Bm.below hb
    clear hb
    obtain ⟨ka0, ka1, ka2, ka3, ka4, ka5, ka6, ka7, ka8, -, -, -, -, -, -, -, -, -⟩ := id Ba
    obtain ⟨kn0, kn1, kn2, kn3, kn4, kn5, kn6, kn7, kn8, -, -, -, -, -, -, -, -, -⟩ := id Bn
    obtain ⟨km0, km1, km2, km3, km4, km5, km6, km7, km8, -, -, -, -, -, -, -, -, -⟩ := id Bm
    go_wp2
    all_goals go_ret
    all_goals exact ⟨rfl, bel⟩
   cases mi
   rotate_left
   ·clear MN NX
    obtain ⟨ka0, ka1, ka2, ka3, ka4, ka5, ka6, ka7, ka8, -, -, -, -, -, -, -, -, -⟩ := id Ba
    obtain ⟨kn0, kn1, kn2, kn3, kn4, kn5, kn6, kn7, kn8, -, -, -, -, -, -, -, -, -⟩ := id Bn
    go_wp2_with fail
    refine (CM1.out an cn _ T3'.s.f s1 sn).mono ?_
    rintro r w7 ⟨am', cm, rfl, om, hb⟩
    clear ka0 ka1 ka2 ka3 ka4 ka5 ka6 ka7 ka8 kn0 kn1 kn2 kn3 kn4 kn5 kn6 kn7 kn8
    replace bel := bel_go bel hb
    replace T3' := T3'.below hb
    replace s1 := s1.below hb
    replace Ba := Ba.below hb
    replace sn := sn.below hb
    replace Bn := Bn.below hb
    clear hb
    have sm := om.sl
    clear om
    replace T3' := T3'.below (al_b _ (.cells #[.int .i64 F, .bool Gu, .slice am' Lu.length cm, .int .i64 Tu, .bool nnu, .bool bdu, .bool plu, .bool miu, .bool amu] 50))
    replace s1 := s1.below (al_b _ (.cells #[.int .i64 F, .bool Gu, .slice am' Lu.length cm, .int .i64 Tu, .bool nnu, .bool bdu, .bool plu, .bool miu, .bool amu] 50))
    replace Ba := Ba.below (al_b _ (.cells #[.int .i64 F, .bool Gu, .slice am' Lu.length cm, .int .i64 Tu, .bool nnu, .bool bdu, .bool plu, .bool miu, .bool amu] 50))
    replace sn := sn.below (al_b _ (.cells #[.int .i64 F, .bool Gu, .slice am' Lu.length cm, .int .i64 Tu, .bool nnu, .bool bdu, .bool plu, .bool miu, .bool amu] 50))
    replace Bn := Bn.below (al_b _ (.cells #[.int .i64 F, .bool Gu, .slice am' Lu.length cm, .int .i64 Tu, .bool nnu, .bool bdu, .bool plu, .bool miu, .bool amu] 50))
    replace sm := sm.below (al_b _ (.cells #[.int .i64 F, .bool Gu, .slice am' Lu.length cm, .int .i64 Tu, .bool nnu, .bool bdu, .bool plu, .bool miu, .bool amu] 50))
    replace bel := bel_al bel (.cells #[.int .i64 F, .bool Gu, .slice am' Lu.length cm, .int .i64 Tu, .bool nnu, .bool bdu, .bool plu, .bool miu, .bool amu] 50)
    have Bm := Q9.new w7 (.int .i64 F) (.bool Gu) (.slice am' Lu.length cm) (.int .i64 Tu) (.bool nnu) (.bool bdu) (.bool plu) (.bool miu) (.bool amu) 50
    obtain ⟨ka0, ka1, ka2, ka3, ka4, ka5, ka6, ka7, ka8, -, -, -, -, -, -, -, -, -⟩ := id Ba
    obtain ⟨kn0, kn1, kn2, kn3, kn4, kn5, kn6, kn7, kn8, -, -, -, -, -, -, -, -, -⟩ := id Bn
    obtain ⟨km0, km1, km2, km3, km4, km5, km6, km7, km8, -, -, -, -, -, -, -, -, -⟩ := id Bm
    go_wp2_with fail
    refine (CR.out _ T3' s1).mono ?_
    rintro r w8 ⟨rfl, hb⟩
    clear ka0 ka1 ka2 ka3 ka4 ka5 ka6 ka7 ka8 kn0 kn1 kn2 kn3 kn4 kn5 kn6 kn7 kn8 km0 km1 km2 km3 km4 km5 km6 km7 km8
    replace bel := bel_go bel hb
    replace T3' := T3'.below hb
    replace s1 := s1.below hb
    replace Ba := Ba.below hb
    replace sn := sn.below hb
    replace Bn := Bn.below hb
    replace sm := sm.below hb
    replace Bm := Bm.below hb
    clear hb
    obtain ⟨ka0, ka1, ka2, ka3, ka4, ka5, ka6, ka7, ka8, -, -, -, -, -, -, -, -, -⟩ := id Ba
    obtain ⟨kn0, kn1, kn2, kn3, kn4, kn5, kn6, kn7, kn8, -, -, -, -, -, -, -, -, -⟩ := id Bn
    obtain ⟨km0, km1, km2, km3, km4, km5, km6, km7, km8, -, -, -, -, -, -, -, -, -⟩ := id Bm
    go_wp2_with fail
    refine (CQ.out an cn _ T3' sn).mono ?_
    rintro r w9 ⟨rfl, hb⟩
    clear ka0 ka1 ka2 ka3 ka4 ka5 ka6 ka7 ka8 kn0 kn1 kn2 kn3 kn4 kn5 kn6 kn7 kn8 km0 km1 km2 km3 km4 km5 km6 km7 km8
    replace bel := bel_go bel hb
    replace T3' := T3'.below hb
    replace s1 := s1.below hb
    replace Ba := Ba.below hb
    replace sn := sn.below hb
    replace Bn := Bn.below hb
    replace sm := sm.below hb
    replace Bm := Bm.below hb
    clear hb
    obtain ⟨ka0, ka1, ka2, ka3, ka4, ka5, ka6, ka7, ka8, -, -, -, -, -, -, -, -, -⟩ := id Ba
    obtain ⟨kn0, kn1, kn2, kn3, kn4, kn5, kn6, kn7, kn8, -, -, -, -, -, -, -, -, -⟩ := id Bn
    obtain ⟨km0, km1, km2, km3, km4, km5, km6, km7, km8, -, -, -, -, -, -, -, -, -⟩ := id Bm
    go_wp2
    all_goals go_ret
    all_goals exact ⟨rfl, bel⟩
   by_cases hz : L.length = 0
   ·have hz1 : ((L.length : Int) == 0) = true := by simp [hz]
    clear hz MN NX
    obtain ⟨ka0, ka1, ka2, ka3, ka4, ka5, ka6, ka7, ka8, -, -, -, -, -, -, -, -, -⟩ := id Ba
    obtain ⟨kn0, kn1, kn2, kn3, kn4, kn5, kn6, kn7, kn8, -, -, -, -, -, -, -, -, -⟩ := id Bn
    go_wp2_with fail
    refine (CM1.out an cn _ T3'.s.f s1 sn).mono ?_
    rintro r w7 ⟨am', cm, rfl, om, hb⟩
    clear ka0 ka1 ka2 ka3 ka4 ka5 ka6 ka7 ka8 kn0 kn1 kn2 kn3 kn4 kn5 kn6 kn7 kn8
    replace bel := bel_go bel hb
    replace T3' := T3'.below hb
    replace s1 := s1.below hb
    replace Ba := Ba.below hb
    replace sn := sn.below hb
    replace Bn := Bn.below hb
    clear hb
    have sm := om.sl
    clear om
    replace T3' := T3'.below (al_b _ (.cells #[.int .i64 F, .bool Gu, .slice am' Lu.length cm, .int .i64 Tu, .bool nnu, .bool bdu, .bool plu, .bool miu, .bool amu] 50))
    replace s1 := s1.below (al_b _ (.cells #[.int .i64 F, .bool Gu, .slice am' Lu.length cm, .int .i64 Tu, .bool nnu, .bool bdu, .bool plu, .bool miu, .bool amu] 50))
    replace Ba := Ba.below (al_b _ (.cells #[.int .i64 F, .bool Gu, .slice am' Lu.length cm, .int .i64 Tu, .bool nnu, .bool bdu, .bool plu, .bool miu, .bool amu] 50))
    replace sn := sn.below (al_b _ (.cells #[.int .i64 F, .bool Gu, .slice am' Lu.length cm, .int .i64 Tu, .bool nnu, .bool bdu, .bool plu, .bool miu, .bool amu] 50))
    replace Bn := Bn.below (al_b _ (.cells #[.int .i64 F, .bool Gu, .slice am' Lu.length cm, .int .i64 Tu, .bool nnu, .bool bdu, .bool plu, .bool miu, .bool amu] 50))
    replace sm := sm.below (al_b _ (.cells #[.int .i64 F, .bool Gu, .slice am' Lu.length cm, .int .i64 Tu, .bool nnu, .bool bdu, .bool plu, .bool miu, .bool amu] 50))
    replace bel := bel_al bel (.cells #[.int .i64 F, .bool Gu, .slice am' Lu.length cm, .int .i64 Tu, .bool nnu, .bool bdu, .bool plu, .bool miu, .bool amu] 50)
    have Bm := Q9.new w7 (.int .i64 F) (.bool Gu) (.slice am' Lu.length cm) (.int .i64 Tu) (.bool nnu) (.bool bdu) (.bool plu) (.bool miu) (.bool amu) 50
    obtain ⟨ka0, ka1, ka2, ka3, ka4, ka5, ka6, ka7, ka8, -, -, -, -, -, -, -, -, -⟩ := id Ba
    obtain ⟨kn0, kn1, kn2, kn3, kn4, kn5, kn6, kn7, kn8, -, -, -, -, -, -, -, -, -⟩ := id Bn
    obtain ⟨km0, km1, km2, km3, km4, km5, km6, km7, km8, -, -, -, -, -, -, -, -, -⟩ := id Bm
    go_wp2_with fail
    refine (CR.out _ T3' s1).mono ?_
    rintro r w8 ⟨rfl, hb⟩
    clear ka0 ka1 ka2 ka3 ka4 ka5 ka6 ka7 ka8 kn0 kn1 kn2 kn3 kn4 kn5 kn6 kn7 kn8 km0 km1 km2 km3 km4 km5 km6 km7 km8
    replace bel := bel_go bel hb
    replace T3' := T3'.below hb
    replace s1 := s1.below hb
    replace Ba := Ba.below hb
    replace sn := sn.below hb
    replace Bn := Bn.below hb
    replace sm := sm.below hb
    replace Bm := Bm.below hb
    clear hb
    obtain ⟨ka0, ka1, ka2, ka3, ka4, ka5, ka6, ka7, ka8, -, -, -, -, -, -, -, -, -⟩ := id Ba
    obtain ⟨kn0, kn1, kn2, kn3, kn4, kn5, kn6, kn7, kn8, -, -, -, -, -, -, -, -, -⟩ := id Bn
    obtain ⟨km0, km1, km2, km3, km4, km5, km6, km7, km8, -, -, -, -, -, -, -, -, -⟩ := id Bm
    go_wp2_with fail
    refine (CQ.out an cn _ T3' sn).mono ?_
    rintro r w9 ⟨rfl, hb⟩
    clear ka0 ka1 ka2 ka3 ka4 ka5 ka6 ka7 ka8 kn0 kn1 kn2 kn3 kn4 kn5 kn6 kn7 kn8 km0 km1 km2 km3 km4 km5 km6 km7 km8
    replace bel := bel_go bel hb
    replace T3' := T3'.below hb
    replace s1 := s1.below hb
    replace Ba := Ba.below hb
    replace sn := sn.below hb
    replace Bn := Bn.below hb
    replace sm := sm.below hb
    replace Bm := Bm.below hb
    clear hb
    obtain ⟨ka0, ka1, ka2, ka3, ka4, ka5, ka6, ka7, ka8, -, -, -, -, -, -, -, -, -⟩ := id Ba
    obtain ⟨kn0, kn1, kn2, kn3, kn4, kn5, kn6, kn7, kn8, -, -, -, -, -, -, -, -, -⟩ := id Bn
    obtain ⟨km0, km1, km2, km3, km4, km5, km6, km7, km8, -, -, -, -, -, -, -, -, -⟩ := id Bm
    go_wp2
    all_goals go_ret
    all_goals exact ⟨rfl, bel⟩
   ·have hz1 : ((L.length : Int) == 0) = false := by simpa using hz
    obtain ⟨e1, e2, e3, e4⟩ := MN.out rfl rfl rfl hz
    have NX1 := hid (fun w' k => NX.out X w' k e3 e4)
    rw [← e1] at NX1
    have eqY : (Y' == Y) = true := by rw [e2]; simp
    have eqX : (X' == X') = true := by simp
    have eqZ : (Y == Y') = true := by rw [e2]; simp
    clear e1 e2 e3 e4 hz MN NX
    obtain ⟨ka0, ka1, ka2, ka3, ka4, ka5, ka6, ka7, ka8, -, -, -, -, -, -, -, -, -⟩ := id Ba
    obtain ⟨kn0, kn1, kn2, kn3, kn4, kn5, kn6, kn7, kn8, -, -, -, -, -, -, -, -, -⟩ := id Bn
    go_wp2_with fail
    refine (CM1.out an cn _ T3'.s.f s1 sn).mono ?_
    rintro r w7 ⟨am', cm, rfl, om, hb⟩
    clear ka0 ka1 ka2 ka3 ka4 ka5 ka6 ka7 ka8 kn0 kn1 kn2 kn3 kn4 kn5 kn6 kn7 kn8
    replace bel := bel_go bel hb
    replace T3' := T3'.below hb
    replace s1 := s1.below hb
    replace Ba := Ba.below hb
    replace sn := sn.below hb
    replace Bn := Bn.below hb
    clear hb
    have sm := om.sl
    clear om
    replace T3' := T3'.below (al_b _ (.cells #[.int .i64 F, .bool Gu, .slice am' Lu.length cm, .int .i64 Tu, .bool nnu, .bool bdu, .bool plu, .bool miu, .bool amu] 50))
    replace s1 := s1.below (al_b _ (.cells #[.int .i64 F, .bool Gu, .slice am' Lu.length cm, .int .i64 Tu, .bool nnu, .bool bdu, .bool plu, .bool miu, .bool amu] 50))
    replace Ba := Ba.below (al_b _ (.cells #[.int .i64 F, .bool Gu, .slice am' Lu.length cm, .int .i64 Tu, .bool nnu, .bool bdu, .bool plu, .bool miu, .bool amu] 50))
    replace sn := sn.below (al_b _ (.cells #[.int .i64 F, .bool Gu, .slice am' Lu.length cm, .int .i64 Tu, .bool nnu, .bool bdu, .bool plu, .bool miu, .bool amu] 50))
    replace Bn := Bn.below (al_b _ (.cells #[.int .i64 F, .bool Gu, .slice am' Lu.length cm, .int .i64 Tu, .bool nnu, .bool bdu, .bool plu, .bool miu, .bool amu] 50))
    replace sm := sm.below (al_b _ (.cells #[.int .i64 F, .bool Gu, .slice am' Lu.length cm, .int .i64 Tu, .bool nnu, .bool bdu, .bool plu, .bool miu, .bool amu] 50))
    replace bel := bel_al bel (.cells #[.int .i64 F, .bool Gu, .slice am' Lu.length cm, .int .i64 Tu, .bool nnu, .bool bdu, .bool plu, .bool miu, .bool amu] 50)
    have Bm := Q9.new w7 (.int .i64 F) (.bool Gu) (.slice am' Lu.length cm) (.int .i64 Tu) (.bool nnu) (.bool bdu) (.bool plu) (.bool miu) (.bool amu) 50
    obtain ⟨ka0, ka1, ka2, ka3, ka4, ka5, ka6, ka7, ka8, -, -, -, -, -, -, -, -, -⟩ := id Ba
    obtain ⟨kn0, kn1, kn2, kn3, kn4, kn5, kn6, kn7, kn8, -, -, -, -, -, -, -, -, -⟩ := id Bn
    obtain ⟨km0, km1, km2, km3, km4, km5, km6, km7, km8, -, -, -, -, -, -, -, -, -⟩ := id Bm
    go_wp2_with fail
    refine (CR.out _ T3' s1).mono ?_
    rintro r w8 ⟨rfl, hb⟩
    clear ka0 ka1 ka2 ka3 ka4 ka5 ka6 ka7 ka8 kn0 kn1 kn2 kn3 kn4 kn5 kn6 kn7 kn8 km0 km1 km2 km3 km4 km5 km6 km7 km8
    replace bel := bel_go bel hb
    replace T3' := T3'.below hb
    replace s1 := s1.below hb
    replace Ba := Ba.below hb
    replace sn := sn.below hb
    replace Bn := Bn.below hb
    replace sm := sm.below hb
    replace Bm := Bm.below hb
    clear hb
    obtain ⟨ka0, ka1, ka2, ka3, ka4, ka5, ka6, ka7, ka8, -, -, -, -, -, -, -, -, -⟩ := id Ba
    obtain ⟨kn0, kn1, kn2, kn3, kn4, kn5, kn6, kn7, kn8, -, -, -, -, -, -, -, -, -⟩ := id Bn
    obtain ⟨km0, km1, km2, km3, km4, km5, km6, km7, km8, -, -, -, -, -, -, -, -, -⟩ := id Bm
    go_wp2_with fail
    refine (CQ.out an cn _ T3' sn).mono ?_
    rintro r w9 ⟨rfl, hb⟩
    clear ka0 ka1 ka2 ka3 ka4 ka5 ka6 ka7 ka8 kn0 kn1 kn2 kn3 kn4 kn5 kn6 kn7 kn8 km0 km1 km2 km3 km4 km5 km6 km7 km8
    replace bel := bel_go bel hb
    replace T3' := T3'.below hb
    replace s1 := s1.below hb
    replace Ba := Ba.below hb
    replace sn := sn.below hb
    replace Bn := Bn.below hb
    replace sm := sm.below hb
    replace Bm := Bm.below hb
    clear hb
    obtain ⟨ka0, ka1, ka2, ka3, ka4, ka5, ka6, ka7, ka8, -, -, -, -, -, -, -, -, -⟩ := id Ba
    obtain ⟨kn0, kn1, kn2, kn3, kn4, kn5, kn6, kn7, kn8, -, -, -, -, -, -, -, -, -⟩ := id Bn
    obtain ⟨km0, km1, km2, km3, km4, km5, km6, km7, km8, -, -, -, -, -, -, -, -, -⟩ := id Bm
    go_wp2_with fail
    refine (NX1.out _ T3'.s.f).mono ?_
    rintro r w10 ⟨rfl, hb⟩
    clear ka0 ka1 ka2 ka3 ka4 ka5 ka6 ka7 ka8 kn0 kn1 kn2 kn3 kn4 kn5 kn6 kn7 kn8 km0 km1 km2 km3 km4 km5 km6 km7 km8
    replace bel := bel_go bel hb
    replace T3' := T3'.below hb
    replace s1 := s1.below hb
    replace Ba := Ba.below hb
    replace sn := sn.below hb
    replace Bn := Bn.below hb
    replace sm := sm.below hb
    replace Bm := Bm.below hb
    clear hb
    obtain ⟨ka0, ka1, ka2, ka3, ka4, ka5, ka6, ka7, ka8, -, -, -, -, -, -, -, -, -⟩ := id Ba
    obtain ⟨kn0, kn1, kn2, kn3, kn4, kn5, kn6, kn7, kn8, -, -, -, -, -, -, -, -, -⟩ := id Bn
    obtain ⟨km0, km1, km2, km3, km4, km5, km6, km7, km8, -, -, -, -, -, -, -, -, -⟩ := id Bm
    go_wp2
    all_goals go_ret
    all_goals exact ⟨rfl, bel⟩
theorem anlaw_all (ca : Option Addr) (cc : Nat) (cs : List Int) (w : World) (hT : T3 w) (hs : Sl .u8 w (.slice ca cs.length cc) cs) (hby : ∀ i, 0 ≤ cs.getD i 0 ∧ cs.getD i 0 ≤ 255) :
  Calls Tryz.prog 9 #[.slice ca cs.length cc] w fun e w' => e = .returned (.bool true) ∧ Below w.heap.size w w' := by
 by_cases h : cs.length ≤ 1048576
 ·exact anlaw ca cc cs w hT hs hby h
 ·have hn : cs.length ≤ 9223372036854775807 := by obtain ⟨_, h1, h2, _⟩ := hs.cells; unfold maxLen at h2; omega
  have CB := hid (big_any ca cs.length cc w hn true (by simp; omega))
  clear hs hby h hn
  go_enter Tryz.func9, Tryz.ntmps9
  go_wp2_with fail
  refine CB.out.mono ?_
  rintro e w0 ⟨rfl, rfl⟩
  go_wp2
  go_ret
  exact ⟨rfl, Below.refl _ _⟩
end Fd
end Go.Proofs.YtkfjmcdniohljaaGreatDoor
