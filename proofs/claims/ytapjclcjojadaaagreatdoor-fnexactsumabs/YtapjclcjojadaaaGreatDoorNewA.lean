/-
  The accumulator without terms: by the program and by the specification; the law.
-/
import Derived.Test.YtapjclcjojadaaaGreatDoorG01
namespace Go.Proofs.YtapjclcjojadaaaGreatDoor
set_option linter.unusedVariables false
set_option linter.unusedSimpArgs false
open Go.RowKit Go.Deep
def nwF (fm : Int) : Int := if fm = 32 ∨ fm = 64 then fm else 0
theorem nform_impl (fm : Int) (w : World) :
    Calls Tryz.prog 145 #[.int .i64 fm] w fun e w' => ∃ n : Int, e = .returned (.int .i64 n) ∧ (n == 0) = (nwF fm == 0) ∧ Below w.heap.size w w' := by
  by_cases h1 : fm = 32
  · subst h1
    go_enter Tryz.func145, Tryz.ntmps145
    go_wp2
    go_ret
    exact ⟨1, rfl, rfl, Below.refl _ _⟩
  · by_cases h2 : fm = 64
    · subst h2
      go_enter Tryz.func145, Tryz.ntmps145
      go_wp2
      go_ret
      exact ⟨2, rfl, rfl, Below.refl _ _⟩
    · have e1 : (fm == 32) = false := by simpa using h1
      have e2 : (fm == 64) = false := by simpa using h2
      have H : Hid (nwF fm = 0) := hid (by unfold nwF; rw [if_neg (by omega)])
      clear h1 h2
      go_enter Tryz.func145, Tryz.ntmps145
      go_wp2
      go_ret
      exact ⟨0, rfl, by rw [H.out], Below.refl _ _⟩
theorem nform_spec (fm : Int) (w : World) :
    Calls Tryz.prog 120 #[.int .i64 fm] w fun e w' => e = .returned (.bool (!(nwF fm == 0))) ∧ Below w.heap.size w w' := by
  by_cases h1 : fm = 32
  · subst h1
    go_enter Tryz.func120, Tryz.ntmps120
    go_wp2
    go_ret
    exact ⟨rfl, Below.refl _ _⟩
  · by_cases h2 : fm = 64
    · subst h2
      go_enter Tryz.func120, Tryz.ntmps120
      go_wp2
      go_ret
      exact ⟨rfl, Below.refl _ _⟩
    · have e1 : (fm == 32) = false := by simpa using h1
      have e2 : (fm == 64) = false := by simpa using h2
      have H : Hid (nwF fm = 0) := hid (by unfold nwF; rw [if_neg (by omega)])
      clear h1 h2
      go_enter Tryz.func120, Tryz.ntmps120
      go_wp2
      go_ret
      exact ⟨ret_bool (by rw [H.out]; rfl), Below.refl _ _⟩
theorem nw_yes {fm : Int} (h : (nwF fm == 0) = false) : nwF fm = fm := by
  unfold nwF at *
  by_cases h1 : fm = 32 ∨ fm = 64
  · rw [if_pos h1]
  · rw [if_neg h1] at h; simp at h
set_option maxHeartbeats 2000000 in
theorem new_impl (fm : Int) (w : World) (f : Int) (hf : f = nwF fm) :
    Calls Tryz.prog 149 #[.int .i64 fm] w fun e w' => e = .returned (.agg #[.int .i64 f, .bool false, .slice none 0 0, .int .i64 0, .bool false, .bool false, .bool false, .bool false, .bool false]) ∧ Below w.heap.size w w' := by
  have C := hid (fun w' => nform_impl fm w')
  rw [← hf] at C
  have Q := Q9.new w (.int .i64 0) (.bool false) (.slice none 0 0) (.int .i64 0) (.bool false) (.bool false) (.bool false) (.bool false) (.bool false) 31
  cases h0 : (f == 0) with
  | true =>
    rw [h0] at C
    have hf0 : f = 0 := by simpa using h0
    subst hf0
    clear h0 hf
    go_enter Tryz.func149, Tryz.ntmps149
    go_wp2_with fail
    refine (C.out _).mono ?_
    first | (rintro e w1 ⟨n, rfl, hn, hb1⟩) | (rintro e w1 ⟨rfl, hb1⟩)
    obtain ⟨r0, r1, r2, r3, r4, r5, r6, r7, r8, f0, f1, f2, f3, f4, f5, f6, f7, f8⟩ := Q.below hb1
    clear Q
    go_wp2
    refine bodyPost_ret (v := .agg #[.int .i64 0, .bool false, .slice none 0 0, .int .i64 0, .bool false, .bool false, .bool false, .bool false, .bool false]) (by simp [results, Tryz.results149, go_sem, r0, r1, r2, r3, r4, r5, r6, r7, r8]) rfl ⟨rfl, ?_⟩
    exact (by repeat (first | (with_reducible refine Below.setCell ?_ ?_ _; rotate_left; focus (first | omega | (simp; done) | (simp; omega))) | (with_reducible exact Below.refl _ _) | (with_reducible refine Below.drew ?_) | (with_reducible refine bel_dn ?_ _) | (with_reducible refine bel_al ?_ _) | (with_reducible refine bel_go ?_ hb1) | (with_reducible refine Below.alloc ?_ ?_ _; rotate_left; focus (first | omega | (simp; done) | (simp; omega))) | (with_reducible refine Below.trans ?_ (Below.mono hb1 ?_); rotate_left; focus (first | omega | (simp; done) | (simp; omega)))))
  | false =>
    rw [h0] at C
    have hff : f = fm := by rw [hf]; exact nw_yes (by rw [← hf]; exact h0)
    subst hff
    clear h0 hf
    go_enter Tryz.func149, Tryz.ntmps149
    go_wp2_with fail
    refine (C.out _).mono ?_
    first | (rintro e w1 ⟨n, rfl, hn, hb1⟩) | (rintro e w1 ⟨rfl, hb1⟩)
    obtain ⟨r0, r1, r2, r3, r4, r5, r6, r7, r8, f0, f1, f2, f3, f4, f5, f6, f7, f8⟩ := Q.below hb1
    clear Q
    go_wp2
    refine bodyPost_ret (v := .agg #[.int .i64 f, .bool false, .slice none 0 0, .int .i64 0, .bool false, .bool false, .bool false, .bool false, .bool false]) (by simp [results, Tryz.results149, go_sem, r0, r1, r2, r3, r4, r5, r6, r7, r8]) rfl ⟨rfl, ?_⟩
    exact (by repeat (first | (with_reducible refine Below.setCell ?_ ?_ _; rotate_left; focus (first | omega | (simp; done) | (simp; omega))) | (with_reducible exact Below.refl _ _) | (with_reducible refine Below.drew ?_) | (with_reducible refine bel_dn ?_ _) | (with_reducible refine bel_al ?_ _) | (with_reducible refine bel_go ?_ hb1) | (with_reducible refine Below.alloc ?_ ?_ _; rotate_left; focus (first | omega | (simp; done) | (simp; omega))) | (with_reducible refine Below.trans ?_ (Below.mono hb1 ?_); rotate_left; focus (first | omega | (simp; done) | (simp; omega)))))
set_option maxHeartbeats 2000000 in
theorem new_spec (fm : Int) (w : World) (f : Int) (hf : f = nwF fm) :
    Calls Tryz.prog 74 #[.int .i64 fm] w fun e w' => e = .returned (.agg #[.int .i64 f, .bool false, .slice none 0 0, .int .i64 0, .bool false, .bool false, .bool false, .bool false, .bool false]) ∧ Below w.heap.size w w' := by
  have C := hid (fun w' => nform_spec fm w')
  rw [← hf] at C
  have Q := Q9.new w (.int .i64 0) (.bool false) (.slice none 0 0) (.int .i64 0) (.bool false) (.bool false) (.bool false) (.bool false) (.bool false) 31
  cases h0 : (f == 0) with
  | true =>
    rw [h0] at C
    have hf0 : f = 0 := by simpa using h0
    subst hf0
    clear h0 hf
    go_enter Tryz.func74, Tryz.ntmps74
    go_wp2_with fail
    refine (C.out _).mono ?_
    first | (rintro e w1 ⟨n, rfl, hn, hb1⟩) | (rintro e w1 ⟨rfl, hb1⟩)
    obtain ⟨r0, r1, r2, r3, r4, r5, r6, r7, r8, f0, f1, f2, f3, f4, f5, f6, f7, f8⟩ := Q.below hb1
    clear Q
    go_wp2
    refine bodyPost_ret (v := .agg #[.int .i64 0, .bool false, .slice none 0 0, .int .i64 0, .bool false, .bool false, .bool false, .bool false, .bool false]) (by simp [results, Tryz.results74, go_sem, r0, r1, r2, r3, r4, r5, r6, r7, r8]) rfl ⟨rfl, ?_⟩
    exact (by repeat (first | (with_reducible refine Below.setCell ?_ ?_ _; rotate_left; focus (first | omega | (simp; done) | (simp; omega))) | (with_reducible exact Below.refl _ _) | (with_reducible refine Below.drew ?_) | (with_reducible refine bel_dn ?_ _) | (with_reducible refine bel_al ?_ _) | (with_reducible refine bel_go ?_ hb1) | (with_reducible refine Below.alloc ?_ ?_ _; rotate_left; focus (first | omega | (simp; done) | (simp; omega))) | (with_reducible refine Below.trans ?_ (Below.mono hb1 ?_); rotate_left; focus (first | omega | (simp; done) | (simp; omega)))))
  | false =>
    rw [h0] at C
    have hff : f = fm := by rw [hf]; exact nw_yes (by rw [← hf]; exact h0)
    subst hff
    clear h0 hf
    go_enter Tryz.func74, Tryz.ntmps74
    go_wp2_with fail
    refine (C.out _).mono ?_
    first | (rintro e w1 ⟨n, rfl, hn, hb1⟩) | (rintro e w1 ⟨rfl, hb1⟩)
    obtain ⟨r0, r1, r2, r3, r4, r5, r6, r7, r8, f0, f1, f2, f3, f4, f5, f6, f7, f8⟩ := Q.below hb1
    clear Q
    go_wp2
    refine bodyPost_ret (v := .agg #[.int .i64 f, .bool false, .slice none 0 0, .int .i64 0, .bool false, .bool false, .bool false, .bool false, .bool false]) (by simp [results, Tryz.results74, go_sem, r0, r1, r2, r3, r4, r5, r6, r7, r8]) rfl ⟨rfl, ?_⟩
    exact (by repeat (first | (with_reducible refine Below.setCell ?_ ?_ _; rotate_left; focus (first | omega | (simp; done) | (simp; omega))) | (with_reducible exact Below.refl _ _) | (with_reducible refine Below.drew ?_) | (with_reducible refine bel_dn ?_ _) | (with_reducible refine bel_al ?_ _) | (with_reducible refine bel_go ?_ hb1) | (with_reducible refine Below.alloc ?_ ?_ _; rotate_left; focus (first | omega | (simp; done) | (simp; omega))) | (with_reducible refine Below.trans ?_ (Below.mono hb1 ?_); rotate_left; focus (first | omega | (simp; done) | (simp; omega)))))
theorem held0 : heldR 1 [] = 1 := rfl
end Go.Proofs.YtapjclcjojadaaaGreatDoor
