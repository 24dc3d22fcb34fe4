/-
  What a sum lacks: the law.
-/
import Derived.Test.YtdjfajjlmjkpdaaDoorEP
import Derived.Test.YtdjfajjlmjkpdaaDoorEQ
namespace Go.Proofs.YtdjfajjlmjkpdaaDoor
set_option linter.unusedVariables false
set_option linter.unusedSimpArgs false
open Go.RowKit Go.Deep
theorem row_lt {w : World} {g n : Nat} {t : TypeId} {f : Nat → Value} (h : w.rowIs g t n f) : g < w.heap.size := by
  obtain ⟨c, h1, h2, h3⟩ := h
  exact (Array.getElem?_eq_some_iff.1 h1).1
theorem row_bel {w w' : World} {g n : Nat} {t : TypeId} {f : Nat → Value} (h : w.rowIs g t n f) (hb : Below w.heap.size w w') : w'.rowIs g t n f := by
  have hlt := row_lt h
  obtain ⟨c, h1, h2, h3⟩ := h
  exact ⟨c, by rw [hb.block g hlt]; exact h1, h2, h3⟩
set_option maxHeartbeats 1000000 in
theorem toV_row (v : Value) (zs : List Int) (w : World) (hs : Sl .u64 w v zs) (hl : zs.length ≤ 1048576) :
    Calls Tryd.prog 10 #[v] w fun e w' => ∃ g, e = .returned (.slice (some ⟨g, 0, none⟩) zs.length zs.length) ∧ w.heap.size ≤ g ∧ g < w'.heap.size ∧ w'.rowIs g 22 zs.length (copV zs zs.length) ∧ Below w.heap.size w w' := by
  obtain ⟨a, cap, rfl, hc1, hc2, hz⟩ := hs
  have hmk := run_make_row' (P := Tryd.prog) 26 22 (.int .u64 0) 8 Tryd.underlying26 info64 rfl .i64 .i64 zs.length (by omega) (by omega)
  go_enter Tryd.func10, Tryd.ntmps10
  go_wp2
  go_loopw [4] (fun i wr => ∃ k : Nat, k ≤ zs.length ∧ i = .int .i64 k ∧ wr.rowIs w.heap.size 22 zs.length (copV zs k) ∧ Below w.heap.size w wr) (fun i _ => zs.length - (intOf i).toNat)
  case atStart => exact ⟨0, Nat.zero_le _, rfl, (World.rowIs_made w _ zs.length 22).congr (fun j _ => by simp [copV]), (Below.refl _ _).alloc (Nat.le_refl _) _⟩
  case round =>
    obtain ⟨k, hk, rfl, hrow, hb⟩ := hrel
    by_cases hlt : k < zs.length
    · obtain ⟨b, off, rfl, hcell⟩ : ∃ b off, a = some ⟨b, off, none⟩ ∧ ∀ i, i < zs.length → w.cell? ⟨b, off + i, none⟩ = some (.int .u64 (zs.getD i 0)) := by
        rcases hz with rfl | hz
        · simp at hlt
        · exact hz
      have hc0 := hcell k hlt
      have hc : wr.cell? ⟨b, off + k, none⟩ = some (.int .u64 (zs.getD k 0)) := (hb.cell (p := ⟨b, off + k, none⟩) (World.block_lt_of_cell? w _ hc0)).trans hc0
      have hold := hrow.cell hlt
      have hfr := hrow.frozen k
      clear hz hcell hc0
      go_wp2
      go_roundw
      case rel => exact ⟨k + 1, by omega, by go_num, copV_step hrow (by simp [hlt]), hb.setCell (Nat.le_refl _) _⟩
      case measure => simp [intOf]; omega
    · obtain rfl : k = zs.length := by omega
      clear hz
      go_wp2
      go_ret
      exact ⟨_, rfl, Nat.le_refl _, row_lt hrow, hrow, hb⟩
theorem R2.box' {w : World} {b : Nat} {v0 v1 : Value} (h : R2 w b v0 v1) : Box w b v0 v1 := ⟨h.c0, h.c1⟩
theorem r2_of {w w' : World} {b : Nat} {v0 v1 : Value} {row : Option Nat} (h : Box w' b v0 v1) (h0 : R2 w b v0 v1) (hg : w.grownBy w' row) (hne : ∀ g, row = some g → b ≠ g) : R2 w' b v0 v1 := by
  have hlt := World.block_lt_of_cell? w _ h0.c0
  have e := hg.block b hlt (by
    cases row with
    | none => simp
    | some g => simpa using hne g rfl)
  exact ⟨h.1, h.2, (World.frozen?_of_block (a := ⟨b, 0, none⟩) e).trans h0.f0, (World.frozen?_of_block (a := ⟨b, 1, none⟩) e).trans h0.f1⟩
theorem row_sl {w : World} {g : Nat} {zs : List Int} (h : w.rowIs g 22 zs.length (copV zs zs.length)) (hl : zs.length ≤ 1048576) : Sl .u64 w (.slice (some ⟨g, 0, none⟩) zs.length zs.length) zs :=
  Sl.of_row64 h (fun i hi => by simp [copV, hi]) (by unfold maxLen; omega)
set_option maxHeartbeats 1000000 in
theorem mark64_any (g n : Nat) (f : Nat → Value) (k : Int) (w : World) (hr : w.rowIs g 22 n f) (hl : n ≤ 1048576) (h0 : 0 ≤ k) (h1 : k ≤ 1073741824) :
    Calls Tryd.prog 14 #[.slice (some ⟨g, 0, none⟩) n n, .int .i64 k] w fun e w' => e = .returned (.int .i64 (k + n)) ∧ w.grownBy w' (some g) := by
  go_enter Tryd.func14, Tryd.ntmps14
  go_wp2
  go_loopw [1, 5] (fun q i wr => ∃ (j : Nat) (f : Nat → Value), j ≤ n ∧ i = .int .i64 j ∧ q = .int .i64 (k + j) ∧ wr.rowIs g 22 n f ∧ w.grownBy wr (some g)) (fun _ i _ => n - (intOf i).toNat)
  case atStart => exact ⟨0, f, Nat.zero_le _, rfl, by simp, hr, ⟨rfl, rfl, rfl, Nat.le_refl _, fun _ _ _ => rfl⟩⟩
  case round =>
    clear hr f
    obtain ⟨j, f, hj, rfl, rfl, hrow, hg⟩ := hrel
    by_cases hlt : j < n
    · have hc := hrow.cell hlt
      have hf := hrow.frozen j
      have HG := hid hg
      clear hg
      go_wp2
      go_roundw
      case rel =>
        refine ⟨j + 1, _, by omega, by go_num, by go_num, hrow.set j _, ?_⟩
        have hg := HG.out
        exact ⟨hg.os, hg.tape, hg.output, by have := hg.size; simp; omega, fun i hi hne => (Below.heap_setCell _ _ _ _ (by intro e; exact hne (by rw [e]))).trans (hg.block i hi hne)⟩
      case measure => simp [intOf]; omega
    · obtain rfl : j = n := by omega
      go_wp2
      go_ret
      exact ⟨rfl, hg⟩
end Go.Proofs.YtdjfajjlmjkpdaaDoor
