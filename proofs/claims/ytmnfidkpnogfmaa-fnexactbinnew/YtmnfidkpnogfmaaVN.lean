/-
  A new accumulator of a few bins: by the specification, by the program; the law.
-/
import Derived.Test.YtmnfidkpnogfmaaVB
import Derived.Test.YtmnfidkpnogfmaaVI
import Derived.Test.YtmnfidkpnogfmaaK26
import Derived.Test.YtmnfidkpnogfmaaK23
import Derived.Test.YtmnfidkpnogfmaaK10
namespace Go.Proofs.Ytmnfidkpnogfmaa
set_option linter.unusedVariables false
set_option linter.unusedSimpArgs false
open Go.RowKit Go.Deep
theorem Q10.s0 {w : World} {b : Nat} {v0 v1 v2 v3 v4 v5 v6 v7 v8 v9 : Value} (h : Q10 w b v0 v1 v2 v3 v4 v5 v6 v7 v8 v9) (u : Value) : Q10 (w.setCell ⟨b, 0, none⟩ u) b u v1 v2 v3 v4 v5 v6 v7 v8 v9 :=
  ⟨by simp [go_sem, h.c0], by simp [go_sem, h.c1], by simp [go_sem, h.c2], by simp [go_sem, h.c3], by simp [go_sem, h.c4], by simp [go_sem, h.c5], by simp [go_sem, h.c6], by simp [go_sem, h.c7], by simp [go_sem, h.c8], by simp [go_sem, h.c9], by simp [go_sem, h.f0], by simp [go_sem, h.f1], by simp [go_sem, h.f2], by simp [go_sem, h.f3], by simp [go_sem, h.f4], by simp [go_sem, h.f5], by simp [go_sem, h.f6], by simp [go_sem, h.f7], by simp [go_sem, h.f8], by simp [go_sem, h.f9]⟩
theorem Q10.s1 {w : World} {b : Nat} {v0 v1 v2 v3 v4 v5 v6 v7 v8 v9 : Value} (h : Q10 w b v0 v1 v2 v3 v4 v5 v6 v7 v8 v9) (u : Value) : Q10 (w.setCell ⟨b, 1, none⟩ u) b v0 u v2 v3 v4 v5 v6 v7 v8 v9 :=
  ⟨by simp [go_sem, h.c0], by simp [go_sem, h.c1], by simp [go_sem, h.c2], by simp [go_sem, h.c3], by simp [go_sem, h.c4], by simp [go_sem, h.c5], by simp [go_sem, h.c6], by simp [go_sem, h.c7], by simp [go_sem, h.c8], by simp [go_sem, h.c9], by simp [go_sem, h.f0], by simp [go_sem, h.f1], by simp [go_sem, h.f2], by simp [go_sem, h.f3], by simp [go_sem, h.f4], by simp [go_sem, h.f5], by simp [go_sem, h.f6], by simp [go_sem, h.f7], by simp [go_sem, h.f8], by simp [go_sem, h.f9]⟩
theorem Q10.s2 {w : World} {b : Nat} {v0 v1 v2 v3 v4 v5 v6 v7 v8 v9 : Value} (h : Q10 w b v0 v1 v2 v3 v4 v5 v6 v7 v8 v9) (u : Value) : Q10 (w.setCell ⟨b, 2, none⟩ u) b v0 v1 u v3 v4 v5 v6 v7 v8 v9 :=
  ⟨by simp [go_sem, h.c0], by simp [go_sem, h.c1], by simp [go_sem, h.c2], by simp [go_sem, h.c3], by simp [go_sem, h.c4], by simp [go_sem, h.c5], by simp [go_sem, h.c6], by simp [go_sem, h.c7], by simp [go_sem, h.c8], by simp [go_sem, h.c9], by simp [go_sem, h.f0], by simp [go_sem, h.f1], by simp [go_sem, h.f2], by simp [go_sem, h.f3], by simp [go_sem, h.f4], by simp [go_sem, h.f5], by simp [go_sem, h.f6], by simp [go_sem, h.f7], by simp [go_sem, h.f8], by simp [go_sem, h.f9]⟩
theorem Q10.s3 {w : World} {b : Nat} {v0 v1 v2 v3 v4 v5 v6 v7 v8 v9 : Value} (h : Q10 w b v0 v1 v2 v3 v4 v5 v6 v7 v8 v9) (u : Value) : Q10 (w.setCell ⟨b, 3, none⟩ u) b v0 v1 v2 u v4 v5 v6 v7 v8 v9 :=
  ⟨by simp [go_sem, h.c0], by simp [go_sem, h.c1], by simp [go_sem, h.c2], by simp [go_sem, h.c3], by simp [go_sem, h.c4], by simp [go_sem, h.c5], by simp [go_sem, h.c6], by simp [go_sem, h.c7], by simp [go_sem, h.c8], by simp [go_sem, h.c9], by simp [go_sem, h.f0], by simp [go_sem, h.f1], by simp [go_sem, h.f2], by simp [go_sem, h.f3], by simp [go_sem, h.f4], by simp [go_sem, h.f5], by simp [go_sem, h.f6], by simp [go_sem, h.f7], by simp [go_sem, h.f8], by simp [go_sem, h.f9]⟩
theorem Q10.s4 {w : World} {b : Nat} {v0 v1 v2 v3 v4 v5 v6 v7 v8 v9 : Value} (h : Q10 w b v0 v1 v2 v3 v4 v5 v6 v7 v8 v9) (u : Value) : Q10 (w.setCell ⟨b, 4, none⟩ u) b v0 v1 v2 v3 u v5 v6 v7 v8 v9 :=
  ⟨by simp [go_sem, h.c0], by simp [go_sem, h.c1], by simp [go_sem, h.c2], by simp [go_sem, h.c3], by simp [go_sem, h.c4], by simp [go_sem, h.c5], by simp [go_sem, h.c6], by simp [go_sem, h.c7], by simp [go_sem, h.c8], by simp [go_sem, h.c9], by simp [go_sem, h.f0], by simp [go_sem, h.f1], by simp [go_sem, h.f2], by simp [go_sem, h.f3], by simp [go_sem, h.f4], by simp [go_sem, h.f5], by simp [go_sem, h.f6], by simp [go_sem, h.f7], by simp [go_sem, h.f8], by simp [go_sem, h.f9]⟩
theorem Q10.s5 {w : World} {b : Nat} {v0 v1 v2 v3 v4 v5 v6 v7 v8 v9 : Value} (h : Q10 w b v0 v1 v2 v3 v4 v5 v6 v7 v8 v9) (u : Value) : Q10 (w.setCell ⟨b, 5, none⟩ u) b v0 v1 v2 v3 v4 u v6 v7 v8 v9 :=
  ⟨by simp [go_sem, h.c0], by simp [go_sem, h.c1], by simp [go_sem, h.c2], by simp [go_sem, h.c3], by simp [go_sem, h.c4], by simp [go_sem, h.c5], by simp [go_sem, h.c6], by simp [go_sem, h.c7], by simp [go_sem, h.c8], by simp [go_sem, h.c9], by simp [go_sem, h.f0], by simp [go_sem, h.f1], by simp [go_sem, h.f2], by simp [go_sem, h.f3], by simp [go_sem, h.f4], by simp [go_sem, h.f5], by simp [go_sem, h.f6], by simp [go_sem, h.f7], by simp [go_sem, h.f8], by simp [go_sem, h.f9]⟩
theorem Q10.s6 {w : World} {b : Nat} {v0 v1 v2 v3 v4 v5 v6 v7 v8 v9 : Value} (h : Q10 w b v0 v1 v2 v3 v4 v5 v6 v7 v8 v9) (u : Value) : Q10 (w.setCell ⟨b, 6, none⟩ u) b v0 v1 v2 v3 v4 v5 u v7 v8 v9 :=
  ⟨by simp [go_sem, h.c0], by simp [go_sem, h.c1], by simp [go_sem, h.c2], by simp [go_sem, h.c3], by simp [go_sem, h.c4], by simp [go_sem, h.c5], by simp [go_sem, h.c6], by simp [go_sem, h.c7], by simp [go_sem, h.c8], by simp [go_sem, h.c9], by simp [go_sem, h.f0], by simp [go_sem, h.f1], by simp [go_sem, h.f2], by simp [go_sem, h.f3], by simp [go_sem, h.f4], by simp [go_sem, h.f5], by simp [go_sem, h.f6], by simp [go_sem, h.f7], by simp [go_sem, h.f8], by simp [go_sem, h.f9]⟩
theorem Q10.s7 {w : World} {b : Nat} {v0 v1 v2 v3 v4 v5 v6 v7 v8 v9 : Value} (h : Q10 w b v0 v1 v2 v3 v4 v5 v6 v7 v8 v9) (u : Value) : Q10 (w.setCell ⟨b, 7, none⟩ u) b v0 v1 v2 v3 v4 v5 v6 u v8 v9 :=
  ⟨by simp [go_sem, h.c0], by simp [go_sem, h.c1], by simp [go_sem, h.c2], by simp [go_sem, h.c3], by simp [go_sem, h.c4], by simp [go_sem, h.c5], by simp [go_sem, h.c6], by simp [go_sem, h.c7], by simp [go_sem, h.c8], by simp [go_sem, h.c9], by simp [go_sem, h.f0], by simp [go_sem, h.f1], by simp [go_sem, h.f2], by simp [go_sem, h.f3], by simp [go_sem, h.f4], by simp [go_sem, h.f5], by simp [go_sem, h.f6], by simp [go_sem, h.f7], by simp [go_sem, h.f8], by simp [go_sem, h.f9]⟩
theorem Q10.s8 {w : World} {b : Nat} {v0 v1 v2 v3 v4 v5 v6 v7 v8 v9 : Value} (h : Q10 w b v0 v1 v2 v3 v4 v5 v6 v7 v8 v9) (u : Value) : Q10 (w.setCell ⟨b, 8, none⟩ u) b v0 v1 v2 v3 v4 v5 v6 v7 u v9 :=
  ⟨by simp [go_sem, h.c0], by simp [go_sem, h.c1], by simp [go_sem, h.c2], by simp [go_sem, h.c3], by simp [go_sem, h.c4], by simp [go_sem, h.c5], by simp [go_sem, h.c6], by simp [go_sem, h.c7], by simp [go_sem, h.c8], by simp [go_sem, h.c9], by simp [go_sem, h.f0], by simp [go_sem, h.f1], by simp [go_sem, h.f2], by simp [go_sem, h.f3], by simp [go_sem, h.f4], by simp [go_sem, h.f5], by simp [go_sem, h.f6], by simp [go_sem, h.f7], by simp [go_sem, h.f8], by simp [go_sem, h.f9]⟩
theorem Q10.s9 {w : World} {b : Nat} {v0 v1 v2 v3 v4 v5 v6 v7 v8 v9 : Value} (h : Q10 w b v0 v1 v2 v3 v4 v5 v6 v7 v8 v9) (u : Value) : Q10 (w.setCell ⟨b, 9, none⟩ u) b v0 v1 v2 v3 v4 v5 v6 v7 v8 u :=
  ⟨by simp [go_sem, h.c0], by simp [go_sem, h.c1], by simp [go_sem, h.c2], by simp [go_sem, h.c3], by simp [go_sem, h.c4], by simp [go_sem, h.c5], by simp [go_sem, h.c6], by simp [go_sem, h.c7], by simp [go_sem, h.c8], by simp [go_sem, h.c9], by simp [go_sem, h.f0], by simp [go_sem, h.f1], by simp [go_sem, h.f2], by simp [go_sem, h.f3], by simp [go_sem, h.f4], by simp [go_sem, h.f5], by simp [go_sem, h.f6], by simp [go_sem, h.f7], by simp [go_sem, h.f8], by simp [go_sem, h.f9]⟩
theorem fmt_not {fm : Int} (h : fmtB fm = false) : fm ≠ 32 ∧ fm ≠ 64 := by simpa [fmtB] using h
theorem fmt_cas {fm : Int} (h : fmtB fm = true) : fm = 32 ∨ fm = 64 := by simpa [fmtB] using h
theorem fmt_sp (fm : Int) (w : World) :
    Calls Try.prog 86 #[.int .i64 fm] w fun e w' => e = .returned (.bool (fmtB fm)) ∧ w' = w := by
  cases h : fmtB fm
  · obtain ⟨h1, h2⟩ := fmt_not h
    have e1 : (fm == 32) = false := by simpa using h1
    have e2 : (fm == 64) = false := by simpa using h2
    clear h h1 h2
    go_enter Try.func86, Try.ntmps86
    go_wp2
    go_ret
    exact ⟨rfl, rfl⟩
  · rcases fmt_cas h with rfl | rfl
    · go_enter Try.func86, Try.ntmps86
      go_wp2
      go_ret
      exact ⟨rfl, rfl⟩
    · go_enter Try.func86, Try.ntmps86
      go_wp2
      go_ret
      exact ⟨rfl, rfl⟩
theorem bco_i (k : Int) (w : World) : Calls Try.prog 89 #[.int .i64 k] w fun e w' => e = .returned (.bool (inZ k 2 4)) ∧ w' = w := by
  by_cases h : 2 ≤ k
  · have h1 : decide (2 ≤ k) = true := decide_eq_true h
    have HE : Hid (inZ k 2 4 = decide (k ≤ 4)) := hid (by unfold inZ; rw [h1]; rfl)
    go_enter Try.func89, Try.ntmps89
    go_wp2
    go_ret
    exact ⟨by rw [HE.out]; rfl, rfl⟩
  · have h1 : decide (2 ≤ k) = false := decide_eq_false h
    have HE : Hid (inZ k 2 4 = false) := hid (by unfold inZ; rw [h1]; rfl)
    go_enter Try.func89, Try.ntmps89
    go_wp2
    go_ret
    exact ⟨by rw [HE.out]; rfl, rfl⟩
set_option maxHeartbeats 8000000 in
set_option maxRecDepth 100000 in
theorem bn_spec_no (fm k : Int) (w : World) (hn : (fmtB fm && inZ k 2 4) = false) :
    Calls Try.prog 34 #[.int .i64 fm, .int .i64 k] w fun e w' => e = .returned (.agg #[.int .i64 0, .int .i64 0, .int .i64 0, .slice none 0 0, .int .i64 0, .bool false, .bool false, .bool false, .bool false, .bool false]) ∧ Below w.heap.size w w' := by
  have CF := hid (fun w' => fmt_sp fm w')
  have CI := hid (fun w' => in_any k 2 4 w')
  cases hf : fmtB fm
  · rw [hf] at CF
    clear hf hn CI
    have bel := Below.refl w.heap.size w
    go_enter Try.func34, Try.ntmps34
    replace bel := bel_al bel (.cells #[.int .i64 0, .int .i64 0, .int .i64 0, .slice none 0 0, .int .i64 0, .bool false, .bool false, .bool false, .bool false, .bool false] 55)
    have Br := Q10.new w (.int .i64 0) (.int .i64 0) (.int .i64 0) (.slice none 0 0) (.int .i64 0) (.bool false) (.bool false) (.bool false) (.bool false) (.bool false) 55

    obtain ⟨kr0, kr1, kr2, kr3, kr4, kr5, kr6, kr7, kr8, kr9, -, -, -, -, -, -, -, -, -, -⟩ := id Br
    go_wp2_with fail
    refine (CF.out _).mono ?_
    rintro r w1 ⟨rfl, rfl⟩
    clear kr0 kr1 kr2 kr3 kr4 kr5 kr6 kr7 kr8 kr9
    obtain ⟨kr0, kr1, kr2, kr3, kr4, kr5, kr6, kr7, kr8, kr9, -, -, -, -, -, -, -, -, -, -⟩ := id Br
    go_wp2
    refine bodyPost_ret (v := .agg #[.int .i64 0, .int .i64 0, .int .i64 0, .slice none 0 0, .int .i64 0, .bool false, .bool false, .bool false, .bool false, .bool false]) (by simp [results, Try.results34, go_sem]) rfl ⟨rfl, bel_al (Below.refl _ _) _⟩
  · rw [hf, Bool.true_and] at hn
    rw [hf] at CF
    rw [hn] at CI
    clear hf hn
    have bel := Below.refl w.heap.size w
    go_enter Try.func34, Try.ntmps34
    replace bel := bel_al bel (.cells #[.int .i64 0, .int .i64 0, .int .i64 0, .slice none 0 0, .int .i64 0, .bool false, .bool false, .bool false, .bool false, .bool false] 55)
    have Br := Q10.new w (.int .i64 0) (.int .i64 0) (.int .i64 0) (.slice none 0 0) (.int .i64 0) (.bool false) (.bool false) (.bool false) (.bool false) (.bool false) 55

    obtain ⟨kr0, kr1, kr2, kr3, kr4, kr5, kr6, kr7, kr8, kr9, -, -, -, -, -, -, -, -, -, -⟩ := id Br
    go_wp2_with fail
    refine (CF.out _).mono ?_
    rintro r w1 ⟨rfl, rfl⟩
    go_wp2_with fail
    refine (CI.out _).mono ?_
    rintro r w2 ⟨rfl, rfl⟩
    clear kr0 kr1 kr2 kr3 kr4 kr5 kr6 kr7 kr8 kr9
    obtain ⟨kr0, kr1, kr2, kr3, kr4, kr5, kr6, kr7, kr8, kr9, -, -, -, -, -, -, -, -, -, -⟩ := id Br
    go_wp2
    refine bodyPost_ret (v := .agg #[.int .i64 0, .int .i64 0, .int .i64 0, .slice none 0 0, .int .i64 0, .bool false, .bool false, .bool false, .bool false, .bool false]) (by simp [results, Try.results34, go_sem]) rfl ⟨rfl, bel_al (Below.refl _ _) _⟩
set_option maxHeartbeats 8000000 in
set_option maxRecDepth 100000 in
theorem bn_spec_yes (fm : Int) (n : Nat) (w : World) (hf : fmtB fm = true) (h2 : 2 ≤ n) (h4 : n ≤ 4) :
    Calls Try.prog 34 #[.int .i64 fm, .int .i64 n] w fun e w' => ∃ g, e = .returned (.agg #[.int .i64 fm, .int .i64 n, .int .i64 (-1), .slice (some ⟨g, 0, none⟩) n n, .int .i64 0, .bool false, .bool false, .bool false, .bool false, .bool false]) ∧ O9 w' w.heap.size (some ⟨g, 0, none⟩) n (List.replicate n 0) ∧ Below w.heap.size w w' := by
  have CF := hid (fun w' => fmt_sp fm w')
  have CI := hid (fun w' => in_any (n : Int) 2 4 w')
  have hi : inZ (n : Int) 2 4 = true := by unfold inZ; simp; omega
  rw [hf] at CF
  rw [hi] at CI
  have hmk := run_make_row' (P := Try.prog) 27 2 (.int .i64 0) 8 Try.underlying27 infoI rfl .i64 .i64 n (by omega) (by omega)
  clear hf hi
  have bel := Below.refl w.heap.size w
  go_enter Try.func34, Try.ntmps34
  replace bel := bel_al bel (.cells #[.int .i64 0, .int .i64 0, .int .i64 0, .slice none 0 0, .int .i64 0, .bool false, .bool false, .bool false, .bool false, .bool false] 55)
  have Br := Q10.new w (.int .i64 0) (.int .i64 0) (.int .i64 0) (.slice none 0 0) (.int .i64 0) (.bool false) (.bool false) (.bool false) (.bool false) (.bool false) 55
  obtain ⟨kr0, kr1, kr2, kr3, kr4, kr5, kr6, kr7, kr8, kr9, -, -, -, -, -, -, -, -, -, -⟩ := id Br
  go_wp2_with fail
  refine (CF.out _).mono ?_
  rintro r w1 ⟨rfl, rfl⟩
  go_wp2_with fail
  refine (CI.out _).mono ?_
  rintro r w2 ⟨rfl, rfl⟩
  go_wp2
  refine bodyPost_ret (v := .agg #[.int .i64 fm, .int .i64 n, .int .i64 (-1), .slice (some ⟨w.heap.size + 1, 0, none⟩) n n, .int .i64 0, .bool false, .bool false, .bool false, .bool false, .bool false]) (by simp [results, Try.results34, go_sem]) rfl ⟨w.heap.size + 1, rfl, ?_, bel_al (bel_al (Below.refl _ _) _) _⟩
  have h := World.rowIs_made (w.alloc (.cells #[.int .i64 fm, .int .i64 n, .int .i64 (-1), .slice (some ⟨w.heap.size + 1, 0, none⟩) n n, .int .i64 0, .bool false, .bool false, .bool false, .bool false, .bool false] 55)) (.int .i64 0) n 2
  have hs : (w.alloc (.cells #[.int .i64 fm, .int .i64 n, .int .i64 (-1), .slice (some ⟨w.heap.size + 1, 0, none⟩) n n, .int .i64 0, .bool false, .bool false, .bool false, .bool false, .bool false] 55)).heap.size = w.heap.size + 1 := by simp
  rw [hs] at h
  have h2 := O9.of_row (zs := List.replicate n 0) (base := w.heap.size) (f := fun _ => .int .i64 0) (by rw [List.length_replicate]; exact h) (fun i hi => by rw [List.getD_eq_getElem?_getD, List.getElem?_replicate]; split <;> rfl) (by omega) (by rw [List.length_replicate]; unfold maxLen; omega)
  rw [List.length_replicate] at h2
  exact h2
end Go.Proofs.Ytmnfidkpnogfmaa
