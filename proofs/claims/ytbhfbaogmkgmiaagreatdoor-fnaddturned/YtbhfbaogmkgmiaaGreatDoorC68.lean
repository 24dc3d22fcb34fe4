/-
  What is needed of AT.
-/
import Derived.Test.YtbhfbaogmkgmiaaGreatDoorC50
import Derived.Test.YtbhfbaogmkgmiaaGreatDoorC56
set_option maxHeartbeats 16000000
set_option maxRecDepth 1000000
namespace Go.Proofs.YtbhfbaogmkgmiaaGreatDoor
set_option linter.unusedVariables false
set_option linter.unusedSimpArgs false
open Go.RowKit Go.Deep
namespace Fd
theorem muO_comm (fm mode x y : Int) : muO fm mode y x = muO fm mode x y := by
  unfold muO allB; simp [Bool.and_comm]
theorem bne_c (a b : Bool) : (a != b) = (b != a) := by cases a <;> cases b <;> rfl
theorem bne_i (a b : Int) : (a != b) = (b != a) := by
  by_cases h : a = b
  · subst h; rfl
  · have h' : b ≠ a := fun e => h e.symm
    rw [bne_iff_ne.2 h, bne_iff_ne.2 h']
theorem aB_comm (fm mode x y : Int) : aB fm mode y x = aB fm mode x y ∧ aF fm mode y x = aF fm mode x y := by
  unfold aB aF
  rw [Int.add_comm (unI fm y) (unI fm x), bne_i y x, bne_c (sigB fm y) (sigB fm x), Bool.and_comm (sigB fm y) (sigB fm x), Bool.and_comm (nI fm y) (nI fm x), Bool.or_comm (nI fm y) (nI fm x)]
  refine ⟨?_, rfl⟩
  by_cases hd : (nI fm x && nI fm y && (x != y)) = true
  · rw [if_pos hd, if_pos hd]
  · rw [if_neg hd, if_neg hd]
    by_cases h1 : nI fm x = true
    · by_cases h2 : nI fm y = true
      · rw [if_pos h2, if_pos h1]
        by_cases e : x = y
        · exact e.symm
        · exfalso; apply hd; rw [h1, h2]; simpa using e
      · rw [if_neg h2, if_pos h1, if_pos h1]
    · rw [if_neg h1, if_neg h1]
theorem ad_comm (fm mode x y : Int) : adB fm mode y x = adB fm mode x y ∧ adF fm mode y x = adF fm mode x y := by
  unfold adB adF
  rw [muO_comm, (aB_comm fm mode x y).1, (aB_comm fm mode x y).2, Bool.or_comm (nanB fm y) (nanB fm x), Bool.or_comm (nB fm y) (nB fm x)]
  exact ⟨rfl, rfl⟩
theorem mu_comm (fm mode x y : Int) : muB fm mode y x = muB fm mode x y ∧ muF fm mode y x = muF fm mode x y := by
  unfold muB muF
  rw [muO_comm, Bool.or_comm (nanB fm y) (nanB fm x), Bool.or_comm (nB fm y) (nB fm x), Bool.or_comm (nI fm y) (nI fm x), Bool.or_comm (zF fm y) (zF fm x), bne_c (sigB fm y) (sigB fm x), Int.mul_comm (nZ fm y) (nZ fm x), Int.add_comm (nE fm y) (nE fm x)]
  exact ⟨rfl, rfl⟩
theorem atlaw (ca : Option Addr) (cc : Nat) (cs : List Int) (w : World) (hT : EX3 w) (hs : Sl .u8 w (.slice ca cs.length cc) cs) (hby : ∀ i, 0 ≤ cs.getD i 0 ∧ cs.getD i 0 ≤ 255) (hl : cs.length ≤ 1048576) :
    Calls Tryz.prog 7 #[.slice ca cs.length cc] w fun e w' => e = .returned (.bool true) ∧ Below w.heap.size w w' := by
  go_enter Tryz.func7, Tryz.ntmps7
  go_wp2_with fail
  refine (big_any ca cs.length cc _ (by omega) false (by simp; omega)).mono ?_
  rintro r w0 ⟨rfl, rfl⟩
  go_wp2_with fail
  refine (drawMul_x ca cc cs _ hs hby hl).mono ?_
  rintro r w1 ⟨fm, mode, a, b, rfl, a0, a1, b0, b1, bel⟩
  obtain ⟨u, T⟩ := hT.below bel
  clear hs hby hl hT
  have AI := hid (fun w' h => addf_all fm mode a b u w' h a0 a1 b0 b1 _ _ _ rfl rfl rfl)
  have AJ := hid (fun w' h => addf_all fm mode b a u w' h b0 b1 a0 a1 _ _ _ (ad_comm fm mode a b).1.symm (ad_comm fm mode a b).2.symm (muO_comm fm mode a b).symm)
  have MI := hid (fun w' h => muli_all fm mode a b u w' h a0 a1 b0 b1 _ _ _ rfl rfl rfl)
  have MJ := hid (fun w' h => muli_all fm mode b a u w' h b0 b1 a0 a1 _ _ _ (mu_comm fm mode a b).1.symm (mu_comm fm mode a b).2.symm (muO_comm fm mode a b).symm)
  have MS := hid (fun w' => mul_spec fm mode a b w' a0 a1 b0 b1 _ _ _ rfl rfl rfl)
  obtain ⟨X, hX⟩ : ∃ q, q = adB fm mode a b := ⟨_, rfl⟩
  obtain ⟨F, hF⟩ : ∃ q, q = adF fm mode a b := ⟨_, rfl⟩
  obtain ⟨O, hO⟩ : ∃ q, q = muO fm mode a b := ⟨_, rfl⟩
  obtain ⟨Y, hY⟩ : ∃ q, q = muB fm mode a b := ⟨_, rfl⟩
  obtain ⟨G, hG⟩ : ∃ q, q = muF fm mode a b := ⟨_, rfl⟩
  rw [← hX, ← hF, ← hO] at AI AJ
  rw [← hY, ← hG, ← hO] at MI MJ MS
  clear hX hF hO hY hG
  have q1 : (X == X) = true := by simp
  have q2 : (F == F) = true := by simp
  have q3 : (O == O) = true := by simp
  have q4 : (Y == Y) = true := by simp
  have q5 : (G == G) = true := by simp
  go_wp2_with fail
  refine (AI.out _ T).mono ?_
  rintro r w2 ⟨rfl, hb⟩
  replace bel := bel_go bel hb
  replace T := T.below hb
  clear hb
  go_wp2_with fail
  refine (AJ.out _ T).mono ?_
  rintro r w2 ⟨rfl, hb⟩
  replace bel := bel_go bel hb
  replace T := T.below hb
  clear hb
  go_wp2_with fail
  refine (MI.out _ T).mono ?_
  rintro r w2 ⟨rfl, hb⟩
  replace bel := bel_go bel hb
  replace T := T.below hb
  clear hb
  go_wp2_with fail
  refine (MJ.out _ T).mono ?_
  rintro r w2 ⟨rfl, hb⟩
  replace bel := bel_go bel hb
  replace T := T.below hb
  clear hb
  go_wp2_with fail
  refine (MS.out _).mono ?_
  rintro r w2 ⟨rfl, hb⟩
  replace bel := bel_go bel hb
  clear hb
  go_wp2
  go_ret
  exact ⟨rfl, bel⟩
theorem atlaw_all (ca : Option Addr) (cc : Nat) (cs : List Int) (w : World) (hT : EX3 w) (hs : Sl .u8 w (.slice ca cs.length cc) cs) (hby : ∀ i, 0 ≤ cs.getD i 0 ∧ cs.getD i 0 ≤ 255) :
    Calls Tryz.prog 7 #[.slice ca cs.length cc] w fun e w' => e = .returned (.bool true) ∧ Below w.heap.size w w' := by
  by_cases h : cs.length ≤ 1048576
  · exact atlaw ca cc cs w hT hs hby h
  · have hn : cs.length ≤ 9223372036854775807 := by obtain ⟨_, h1, h2, _⟩ := hs.cells; unfold maxLen at h2; omega
    have CB := hid (big_any ca cs.length cc w hn true (by simp; omega))
    clear hs hby h hn
    go_enter Tryz.func7, Tryz.ntmps7
    go_wp2_with fail
    refine CB.out.mono ?_
    rintro e w0 ⟨rfl, rfl⟩
    go_wp2
    go_ret
    exact ⟨rfl, Below.refl _ _⟩
end Fd
end Go.Proofs.YtbhfbaogmkgmiaaGreatDoor
