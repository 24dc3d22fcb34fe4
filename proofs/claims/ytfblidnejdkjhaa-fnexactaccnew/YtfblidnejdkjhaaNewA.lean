/-
  The accumulator without terms: by the program and by the specification; the law.
-/
import Derived.Test.YtfblidnejdkjhaaAccA
namespace Go.Proofs.Ytfblidnejdkjhaa
set_option linter.unusedVariables false
set_option linter.unusedSimpArgs false
open Go.RowKit Go.Deep
def nwF (fm : Int) : Int := if fm = 32 ∨ fm = 64 then fm else 0
theorem nform_impl (fm : Int) (w : World) :
    Calls Try.prog 10 #[.int .i64 fm] w fun e w' => ∃ n : Int, e = .returned (.int .i64 n) ∧ (n == 0) = (nwF fm == 0) ∧ Below w.heap.size w w' := by
  by_cases h1 : fm = 32
  · subst h1
    go_enter Try.func10, Try.ntmps10
    go_wp2
    go_ret
    exact ⟨1, rfl, rfl, Below.refl _ _⟩
  · by_cases h2 : fm = 64
    · subst h2
      go_enter Try.func10, Try.ntmps10
      go_wp2
      go_ret
      exact ⟨2, rfl, rfl, Below.refl _ _⟩
    · have e1 : (fm == 32) = false := by simpa using h1
      have e2 : (fm == 64) = false := by simpa using h2
      have H : Hid (nwF fm = 0) := hid (by unfold nwF; rw [if_neg (by omega)])
      clear h1 h2
      go_enter Try.func10, Try.ntmps10
      go_wp2
      go_ret
      exact ⟨0, rfl, by rw [H.out], Below.refl _ _⟩
theorem nform_spec (fm : Int) (w : World) :
    Calls Try.prog 9 #[.int .i64 fm] w fun e w' => e = .returned (.bool (!(nwF fm == 0))) ∧ Below w.heap.size w w' := by
  by_cases h1 : fm = 32
  · subst h1
    go_enter Try.func9, Try.ntmps9
    go_wp2
    go_ret
    exact ⟨rfl, Below.refl _ _⟩
  · by_cases h2 : fm = 64
    · subst h2
      go_enter Try.func9, Try.ntmps9
      go_wp2
      go_ret
      exact ⟨rfl, Below.refl _ _⟩
    · have e1 : (fm == 32) = false := by simpa using h1
      have e2 : (fm == 64) = false := by simpa using h2
      have H : Hid (nwF fm = 0) := hid (by unfold nwF; rw [if_neg (by omega)])
      clear h1 h2
      go_enter Try.func9, Try.ntmps9
      go_wp2
      go_ret
      exact ⟨ret_bool (by rw [H.out]; rfl), Below.refl _ _⟩
theorem nw_yes {fm : Int} (h : (nwF fm == 0) = false) : nwF fm = fm := by
  unfold nwF at *
  by_cases h1 : fm = 32 ∨ fm = 64
  · rw [if_pos h1]
  · rw [if_neg h1] at h; simp at h
set_option maxHeartbeats 2000000 in
theorem new_impl (fm : Int) (w : World) (f : Int) (hf : f = nwF fm) :
    Calls Try.prog 5 #[.int .i64 fm] w fun e w' => e = .returned (.agg #[.int .i64 f, .bool false, .slice none 0 0, .int .i64 0, .bool false, .bool false, .bool false, .bool false, .bool false]) ∧ Below w.heap.size w w' := by
  have C := hid (fun w' => nform_impl fm w')
  rw [← hf] at C
  have Q := Q9.new w (.int .i64 0) (.bool false) (.slice none 0 0) (.int .i64 0) (.bool false) (.bool false) (.bool false) (.bool false) (.bool false) 26
  cases h0 : (f == 0) with
  | true =>
    rw [h0] at C
    have hf0 : f = 0 := by simpa using h0
    subst hf0
    clear h0 hf
    go_enter Try.func5, Try.ntmps5
    go_wp2_with fail
    refine (C.out _).mono ?_
    first | (rintro e w1 ⟨n, rfl, hn, hb1⟩) | (rintro e w1 ⟨rfl, hb1⟩)
    obtain ⟨r0, r1, r2, r3, r4, r5, r6, r7, r8, f0, f1, f2, f3, f4, f5, f6, f7, f8⟩ := Q.below hb1
    clear Q
    go_wp2
    refine bodyPost_ret (v := .agg #[.int .i64 0, .bool false, .slice none 0 0, .int .i64 0, .bool false, .bool false, .bool false, .bool false, .bool false]) (by simp [results, Try.results5, go_sem, r0, r1, r2, r3, r4, r5, r6, r7, r8]) rfl ⟨rfl, ?_⟩
    exact (by repeat (first | (with_reducible refine Below.setCell ?_ ?_ _; rotate_left; focus (first | omega | (simp; done) | (simp; omega))) | (with_reducible exact Below.refl _ _) | (with_reducible refine Below.drew ?_) | (with_reducible refine bel_dn ?_ _) | (with_reducible refine bel_al ?_ _) | (with_reducible refine bel_go ?_ hb1) | (with_reducible refine Below.alloc ?_ ?_ _; rotate_left; focus (first | omega | (simp; done) | (simp; omega))) | (with_reducible refine Below.trans ?_ (Below.mono hb1 ?_); rotate_left; focus (first | omega | (simp; done) | (simp; omega)))))
  | false =>
    rw [h0] at C
    have hff : f = fm := by rw [hf]; exact nw_yes (by rw [← hf]; exact h0)
    subst hff
    clear h0 hf
    go_enter Try.func5, Try.ntmps5
    go_wp2_with fail
    refine (C.out _).mono ?_
    first | (rintro e w1 ⟨n, rfl, hn, hb1⟩) | (rintro e w1 ⟨rfl, hb1⟩)
    obtain ⟨r0, r1, r2, r3, r4, r5, r6, r7, r8, f0, f1, f2, f3, f4, f5, f6, f7, f8⟩ := Q.below hb1
    clear Q
    go_wp2
    refine bodyPost_ret (v := .agg #[.int .i64 f, .bool false, .slice none 0 0, .int .i64 0, .bool false, .bool false, .bool false, .bool false, .bool false]) (by simp [results, Try.results5, go_sem, r0, r1, r2, r3, r4, r5, r6, r7, r8]) rfl ⟨rfl, ?_⟩
    exact (by repeat (first | (with_reducible refine Below.setCell ?_ ?_ _; rotate_left; focus (first | omega | (simp; done) | (simp; omega))) | (with_reducible exact Below.refl _ _) | (with_reducible refine Below.drew ?_) | (with_reducible refine bel_dn ?_ _) | (with_reducible refine bel_al ?_ _) | (with_reducible refine bel_go ?_ hb1) | (with_reducible refine Below.alloc ?_ ?_ _; rotate_left; focus (first | omega | (simp; done) | (simp; omega))) | (with_reducible refine Below.trans ?_ (Below.mono hb1 ?_); rotate_left; focus (first | omega | (simp; done) | (simp; omega)))))
set_option maxHeartbeats 2000000 in
theorem new_spec (fm : Int) (w : World) (f : Int) (hf : f = nwF fm) :
    Calls Try.prog 4 #[.int .i64 fm] w fun e w' => e = .returned (.agg #[.int .i64 f, .bool false, .slice none 0 0, .int .i64 0, .bool false, .bool false, .bool false, .bool false, .bool false]) ∧ Below w.heap.size w w' := by
  have C := hid (fun w' => nform_spec fm w')
  rw [← hf] at C
  have Q := Q9.new w (.int .i64 0) (.bool false) (.slice none 0 0) (.int .i64 0) (.bool false) (.bool false) (.bool false) (.bool false) (.bool false) 26
  cases h0 : (f == 0) with
  | true =>
    rw [h0] at C
    have hf0 : f = 0 := by simpa using h0
    subst hf0
    clear h0 hf
    go_enter Try.func4, Try.ntmps4
    go_wp2_with fail
    refine (C.out _).mono ?_
    first | (rintro e w1 ⟨n, rfl, hn, hb1⟩) | (rintro e w1 ⟨rfl, hb1⟩)
    obtain ⟨r0, r1, r2, r3, r4, r5, r6, r7, r8, f0, f1, f2, f3, f4, f5, f6, f7, f8⟩ := Q.below hb1
    clear Q
    go_wp2
    refine bodyPost_ret (v := .agg #[.int .i64 0, .bool false, .slice none 0 0, .int .i64 0, .bool false, .bool false, .bool false, .bool false, .bool false]) (by simp [results, Try.results4, go_sem, r0, r1, r2, r3, r4, r5, r6, r7, r8]) rfl ⟨rfl, ?_⟩
    exact (by repeat (first | (with_reducible refine Below.setCell ?_ ?_ _; rotate_left; focus (first | omega | (simp; done) | (simp; omega))) | (with_reducible exact Below.refl _ _) | (with_reducible refine Below.drew ?_) | (with_reducible refine bel_dn ?_ _) | (with_reducible refine bel_al ?_ _) | (with_reducible refine bel_go ?_ hb1) | (with_reducible refine Below.alloc ?_ ?_ _; rotate_left; focus (first | omega | (simp; done) | (simp; omega))) | (with_reducible refine Below.trans ?_ (Below.mono hb1 ?_); rotate_left; focus (first | omega | (simp; done) | (simp; omega)))))
  | false =>
    rw [h0] at C
    have hff : f = fm := by rw [hf]; exact nw_yes (by rw [← hf]; exact h0)
    subst hff
    clear h0 hf
    go_enter Try.func4, Try.ntmps4
    go_wp2_with fail
    refine (C.out _).mono ?_
    first | (rintro e w1 ⟨n, rfl, hn, hb1⟩) | (rintro e w1 ⟨rfl, hb1⟩)
    obtain ⟨r0, r1, r2, r3, r4, r5, r6, r7, r8, f0, f1, f2, f3, f4, f5, f6, f7, f8⟩ := Q.below hb1
    clear Q
    go_wp2
    refine bodyPost_ret (v := .agg #[.int .i64 f, .bool false, .slice none 0 0, .int .i64 0, .bool false, .bool false, .bool false, .bool false, .bool false]) (by simp [results, Try.results4, go_sem, r0, r1, r2, r3, r4, r5, r6, r7, r8]) rfl ⟨rfl, ?_⟩
    exact (by repeat (first | (with_reducible refine Below.setCell ?_ ?_ _; rotate_left; focus (first | omega | (simp; done) | (simp; omega))) | (with_reducible exact Below.refl _ _) | (with_reducible refine Below.drew ?_) | (with_reducible refine bel_dn ?_ _) | (with_reducible refine bel_al ?_ _) | (with_reducible refine bel_go ?_ hb1) | (with_reducible refine Below.alloc ?_ ?_ _; rotate_left; focus (first | omega | (simp; done) | (simp; omega))) | (with_reducible refine Below.trans ?_ (Below.mono hb1 ?_); rotate_left; focus (first | omega | (simp; done) | (simp; omega)))))
theorem held0 : heldR 1 [] = 1 := rfl
set_option maxHeartbeats 4000000 in
set_option maxRecDepth 100000 in
theorem law_AccNew (fm : Int) (w : World) :
    Calls Try.prog 3 #[.int .i64 fm] w fun e w' => e = .returned (.bool true) ∧ Below w.heap.size w w' := by
  obtain ⟨f, hf⟩ : ∃ f, f = nwF fm := ⟨_, rfl⟩
  have HSP := hid (fun w => new_spec fm w f hf)
  have HIM := hid (fun w => new_impl fm w f hf)
  clear hf
  have EQ := hid (fun w => eqA_same f false 0 false false false false false none none 0 0 [] w (Sl.nil _ _) (Sl.nil _ _) (by simp))
  have MK := hid (fun w => markA_any f false 0 false false false false false none 0 [] 1 0 w (Own.nil _ _) (by simp) (by decide) (by decide))
  have HE := hid (fun w => heldA_any f false 0 false false false false false none 0 [] 1 w (Sl.nil _ _) Nm.Dg.nil (by simp) (by decide) (by decide))
  simp only [List.length_nil, held0] at EQ MK HE
  go_enter Try.func3, Try.ntmps3
  go_wp2_with fail
  refine (HSP.out _).mono ?_
  rintro e w1 ⟨rfl, hb1⟩
  have S := Q9.new w1 (.int .i64 f) (.bool false) (.slice none 0 0) (.int .i64 0) (.bool false) (.bool false) (.bool false) (.bool false) (.bool false) 26
  have bel := bel_al hb1 (.cells #[.int .i64 f, .bool false, .slice none 0 0, .int .i64 0, .bool false, .bool false, .bool false, .bool false, .bool false] 26)
  clear hb1
  go_wp2_with fail
  refine (HIM.out _).mono ?_
  rintro e w2 ⟨rfl, hb2⟩
  replace S := (S.below hb2).alloc (.cells #[.int .i64 f, .bool false, .slice none 0 0, .int .i64 0, .bool false, .bool false, .bool false, .bool false, .bool false] 26)
  have G := Q9.new w2 (.int .i64 f) (.bool false) (.slice none 0 0) (.int .i64 0) (.bool false) (.bool false) (.bool false) (.bool false) (.bool false) 26
  replace bel := bel_al (bel_go bel hb2) (.cells #[.int .i64 f, .bool false, .slice none 0 0, .int .i64 0, .bool false, .bool false, .bool false, .bool false, .bool false] 26)
  clear hb2
  obtain ⟨c0, c1, c2, c3, c4, c5, c6, c7, c8⟩ := S.cs
  obtain ⟨d0, d1, d2, d3, d4, d5, d6, d7, d8⟩ := G.cs
  go_wp2_with fail
  refine (EQ.out _).mono ?_
  rintro e w3 ⟨rfl, hb3⟩
  clear c0 c1 c2 c3 c4 c5 c6 c7 c8 d0 d1 d2 d3 d4 d5 d6 d7 d8
  replace S := S.below hb3
  replace G := G.below hb3
  replace bel := bel_go bel hb3
  clear hb3
  obtain ⟨d0, d1, d2, d3, d4, d5, d6, d7, d8⟩ := G.cs
  go_wp2_with fail
  refine (MK.out _).mono ?_
  rintro e w4 ⟨rfl, -, hg4⟩
  clear d0 d1 d2 d3 d4 d5 d6 d7 d8
  replace S := S.grown hg4 (fun g hg => by cases hg)
  replace G := G.grown hg4 (fun g hg => by cases hg)
  replace bel : Below w.heap.size w w4 := bel_mark bel hg4 (fun g hg => by cases hg)
  clear hg4
  obtain ⟨d0, d1, d2, d3, d4, d5, d6, d7, d8⟩ := G.cs
  go_wp2_with fail
  refine (HE.out _).mono ?_
  rintro e w5 ⟨rfl, hb5⟩
  clear d0 d1 d2 d3 d4 d5 d6 d7 d8
  replace S := S.below hb5
  replace G := G.below hb5
  replace bel := bel_go bel hb5
  clear hb5
  go_wp2_with fail
  refine (HIM.out _).mono ?_
  rintro e w6 ⟨rfl, hb6⟩
  replace S := (S.below hb6).alloc (.cells #[.int .i64 f, .bool false, .slice none 0 0, .int .i64 0, .bool false, .bool false, .bool false, .bool false, .bool false] 26)
  replace G := (G.below hb6).alloc (.cells #[.int .i64 f, .bool false, .slice none 0 0, .int .i64 0, .bool false, .bool false, .bool false, .bool false, .bool false] 26)
  have H := Q9.new w6 (.int .i64 f) (.bool false) (.slice none 0 0) (.int .i64 0) (.bool false) (.bool false) (.bool false) (.bool false) (.bool false) 26
  replace bel := bel_al (bel_go bel hb6) (.cells #[.int .i64 f, .bool false, .slice none 0 0, .int .i64 0, .bool false, .bool false, .bool false, .bool false, .bool false] 26)
  clear hb6
  obtain ⟨c0, c1, c2, c3, c4, c5, c6, c7, c8⟩ := S.cs
  obtain ⟨d0, d1, d2, d3, d4, d5, d6, d7, d8⟩ := H.cs
  go_wp2_with fail
  refine (EQ.out _).mono ?_
  rintro e w7 ⟨rfl, hb7⟩
  clear c0 c1 c2 c3 c4 c5 c6 c7 c8 d0 d1 d2 d3 d4 d5 d6 d7 d8
  replace G := G.below hb7
  replace bel := bel_go bel hb7
  clear hb7 S H
  obtain ⟨d0, d1, d2, d3, d4, d5, d6, d7, d8⟩ := G.cs
  go_wp2_with fail
  refine (HE.out _).mono ?_
  rintro e w8 ⟨rfl, hb8⟩
  go_wp2
  go_ret
  exact ⟨rfl, bel_go bel hb8⟩
end Go.Proofs.Ytfblidnejdkjhaa
