/-
  What is needed of NB.
-/
import Derived.Test.YtkfjmcdniohljaaGreatDoorE46
set_option maxHeartbeats 16000000
set_option maxRecDepth 1000000
namespace Go.Proofs.YtkfjmcdniohljaaGreatDoor
set_option linter.unusedVariables false
set_option linter.unusedSimpArgs false
open Go.RowKit Go.Deep
theorem heap6 (w : World) (B b : Nat) (h : b ≠ B) (u0 u1 u2 u3 u4 u5 : Value) : ((((((w.setCell ⟨B, 0, none⟩ u0).setCell ⟨B, 1, none⟩ u1).setCell ⟨B, 2, none⟩ u2).setCell ⟨B, 3, none⟩ u3).setCell ⟨B, 4, none⟩ u4).setCell ⟨B, 5, none⟩ u5).heap[b]? = w.heap[b]? := by
  rw [Below.heap_setCell _ _ _ _ h, Below.heap_setCell _ _ _ _ h, Below.heap_setCell _ _ _ _ h, Below.heap_setCell _ _ _ _ h, Below.heap_setCell _ _ _ _ h, Below.heap_setCell _ _ _ _ h]
theorem keep56 {w : World} {B b : Nat} {v0 v1 v2 v3 v4 : Value} (h : Q5 w b v0 v1 v2 v3 v4) (n : b ≠ B) (u0 u1 u2 u3 u4 u5 : Value) (W : World) (hW : W = ((((((w.setCell ⟨B, 0, none⟩ u0).setCell ⟨B, 1, none⟩ u1).setCell ⟨B, 2, none⟩ u2).setCell ⟨B, 3, none⟩ u3).setCell ⟨B, 4, none⟩ u4).setCell ⟨B, 5, none⟩ u5)) :
    W.cell? ⟨b, 0, none⟩ = some v0 ∧ W.cell? ⟨b, 1, none⟩ = some v1 ∧ W.cell? ⟨b, 2, none⟩ = some v2 ∧ W.cell? ⟨b, 3, none⟩ = some v3 ∧ W.cell? ⟨b, 4, none⟩ = some v4 := by
  subst hW
  exact (h.of_block (heap6 w B b n u0 u1 u2 u3 u4 u5)).cs
theorem zero_any (neg inf G : Bool) (p : Option Addr) (n cap : Nat) (e : Int) (w : World) (hn : n ≤ 9223372036854775807) :
    Calls Tryz.prog 183 #[.agg #[.bool neg, .bool inf, .bool G, .slice p n cap, .int .i64 e]] w fun r w' => r = .returned (.bool (!inf && decide (n = 0))) ∧ Below w.heap.size w w' := by
  cases inf with
  | true =>
    go_enter Tryz.func183, Tryz.ntmps183
    go_wp2
    go_ret
    exact ⟨rfl, (by repeat (first | exact bz0 _ _ | refine bz1 ?_ | refine bz2 ?_ _ | refine bz3 ?_ _ | refine bz5 ?_ _ | refine bz6 ?_ _))⟩
  | false =>
    have hb0 : ((n : Int) == 0) = decide (n = 0) := by rw [Bool.eq_iff_iff, beq_iff_eq, decide_eq_true_eq]; omega
    obtain ⟨z, hz⟩ : ∃ z, z = decide (n = 0) := ⟨_, rfl⟩
    rw [← hz] at hb0 ⊢
    clear hz
    go_enter Tryz.func183, Tryz.ntmps183
    go_wp2
    go_ret
    exact ⟨ret_bool (by simp), (by repeat (first | exact bz0 _ _ | refine bz1 ?_ | refine bz2 ?_ _ | refine bz3 ?_ _ | refine bz5 ?_ _ | refine bz6 ?_ _))⟩
theorem mk_quiet (u : Value) (G : Bool) (p : Option Addr) (n cap : Nat) (e : Int) (w : World) (hg : EA.ErrT w) (hn : n ≤ 9223372036854775807) (h0 : n = 0) :
    Calls Tryz.prog 203 #[.agg #[.bool false, .bool false, .bool G, .slice p n cap, .int .i64 e], .iface 179 (.agg #[.iface 246 u])] w fun r w' => r = .returned (.agg #[.int .i64 1, .bool true, .bool false, .bool false, .bool false, .bool false]) ∧ Below w.heap.size w w' := by
  have C := hid (fun w' h => EA.inv_quiet u w' h)
  have CZ := hid (fun w' => zero_any false false G p n cap e w' hn)
  rw [decide_eq_true h0] at CZ
  simp only [Bool.not_false, Bool.true_and] at CZ
  clear h0
  have Q := (Q5.new w (.bool false) (.bool false) (.bool G) (.slice p n cap) (.int .i64 e) 98).alloc (.cells #[.int .i64 0, .bool false, .bool false, .bool false, .bool false, .bool false] 143)
  have R := Q6.nw2 w (.cells #[.bool false, .bool false, .bool G, .slice p n cap, .int .i64 e] 98) (.int .i64 0) (.bool false) (.bool false) (.bool false) (.bool false) (.bool false) 143
  have hg1 : EA.ErrT ((w.alloc (.cells #[.bool false, .bool false, .bool G, .slice p n cap, .int .i64 e] 98)).alloc (.cells #[.int .i64 0, .bool false, .bool false, .bool false, .bool false, .bool false] 143)) := EA.five hg (by repeat (first | exact bz0 _ _ | refine bz1 ?_ | refine bz2 ?_ _ | refine bz3 ?_ _ | refine bz5 ?_ _ | refine bz6 ?_ _))
  have hg1d : EA.ErrT ((w.alloc (.cells #[.bool false, .bool false, .bool G, .slice p n cap, .int .i64 e] 98)).alloc (.cells #[.int .i64 0, .bool false, .bool false, .bool false, .bool false, .bool false] 143)).drew := hg1
  have cd := Q.drew.cs
  go_enter Tryz.func203, Tryz.ntmps203
  go_wp2_with fail
  refine wp_region_held_drew (S := (fun w' => w'.cell? ⟨w.heap.size, 0, none⟩ = some (.bool false) ∧ w'.cell? ⟨w.heap.size, 1, none⟩ = some (.bool false) ∧ w'.cell? ⟨w.heap.size, 2, none⟩ = some (.bool G) ∧ w'.cell? ⟨w.heap.size, 3, none⟩ = some (.slice p n cap) ∧ w'.cell? ⟨w.heap.size, 4, none⟩ = some (.int .i64 e))) (by kernel_rfl) ?_ (fun hHeld => ?_)
  · exact cd
  refine tk 0 ?_ rfl (Or.inl ⟨by rfl, ?_⟩) ?_
  rotate_left
  · (intro w hSw; (try dsimp only at hSw); go_simp; try (with_reducible rfl))
  try simp only [Act.put, Ls]
  refine tk 1 ?_ rfl (Or.inl ⟨by rfl, ?_⟩) ?_
  rotate_left
  · (intro w hSw; (try dsimp only at hSw); go_simp; try (with_reducible rfl))
  try simp only [Act.put, Ls]
  refine tk 2 ?_ rfl (Or.inl ⟨by rfl, ?_⟩) ?_
  rotate_left
  · (intro w hSw; (try dsimp only at hSw); go_simp; try (with_reducible rfl))
  try simp only [Act.put, Ls]
  refine tk 4 ?_ rfl (Or.inl ⟨by rfl, ?_⟩) ?_
  rotate_left
  · (intro w hSw; (try dsimp only at hSw); go_simp; try (with_reducible rfl))
  try simp only [Act.put, Ls]
  refine tk 5 ?_ rfl (Or.inl ⟨by rfl, ?_⟩) ?_
  rotate_left
  · (intro w hSw; (try dsimp only at hSw); go_simp; try (with_reducible rfl))
  try simp only [Act.put, Ls]
  refine tk 11 ?_ rfl (Or.inl ⟨by rfl, ?_⟩) ?_
  rotate_left
  · (intro w hSw; (try dsimp only at hSw); go_simp; try (with_reducible rfl))
  try simp only [Act.put, Ls]
  refine tk 12 ?_ rfl (Or.inl ⟨by rfl, ?_⟩) ?_
  rotate_left
  · (intro w hSw; (try dsimp only at hSw); go_simp; try (with_reducible rfl))
  try simp only [Act.put, Ls]
  refine tk 17 ?_ rfl (Or.inl ⟨by rfl, ?_⟩) ?_
  rotate_left
  · (intro w hSw; (try dsimp only at hSw); go_simp; try (with_reducible rfl))
  try simp only [Act.put, Ls]
  refine rdy 3 rfl (fun K hK => ?_)
  go_simp
  go_at_call 190; refine (C.out _ hg1d).mono ?_; rintro r q1 ⟨rfl, hq1⟩; have Q1 := Q.drew.below hq1; have R1 := R.drew.below hq1
  refine hK.out _ _ ?_ (fun hHeld => ?_)
  · exact Q1.cs
  clear hK K
  try simp only [Act.put, Ls]
  refine tk 6 ?_ rfl (Or.inl ⟨by rfl, ?_⟩) ?_
  rotate_left
  · (intro w hSw; (try dsimp only at hSw); go_simp; try (with_reducible rfl))
  try simp only [Act.put, Ls]
  refine tk 7 undef rfl (Or.inr ⟨by rfl, rfl⟩) ?_
  try simp only [Act.put, Ls]
  refine tk 8 undef rfl (Or.inr ⟨by rfl, rfl⟩) ?_
  try simp only [Act.put, Ls]
  refine tk 9 undef rfl (Or.inr ⟨by rfl, rfl⟩) ?_
  try simp only [Act.put, Ls]
  refine tk 10 ?_ rfl (Or.inl ⟨by rfl, ?_⟩) ?_
  rotate_left
  · (intro w hSw; (try dsimp only at hSw); go_simp; try (with_reducible rfl))
  try simp only [Act.put, Ls]
  refine tk 13 ?_ rfl (Or.inl ⟨by rfl, ?_⟩) ?_
  rotate_left
  · (intro w hSw; (try dsimp only at hSw); go_simp; try (with_reducible rfl))
  try simp only [Act.put, Ls]
  refine tk 14 undef rfl (Or.inr ⟨by rfl, rfl⟩) ?_
  try simp only [Act.put, Ls]
  refine tk 15 undef rfl (Or.inr ⟨by rfl, rfl⟩) ?_
  try simp only [Act.put, Ls]
  refine tk 16 ?_ rfl (Or.inl ⟨by rfl, ?_⟩) ?_
  rotate_left
  · (intro w hSw; (try dsimp only at hSw); go_simp; try (with_reducible rfl))
  try simp only [Act.put, Ls]
  refine rdy 18 rfl (fun K hK => ?_)
  go_simp
  go_at_call 183; refine (CZ.out _).mono ?_; rintro r q2 ⟨rfl, hq2⟩; have Q2 := Q1.below hq2; have R2' := R1.below hq2; obtain ⟨r0, r1, r2, r3, r4, r5, f0, f1, f2, f3, f4, f5⟩ := R2'
  refine hK.out _ _ ?_ (fun hHeld => ?_)
  · exact Q2.cs
  clear hK K
  try simp only [Act.put, Ls]
  refine tk 19 ?_ rfl (Or.inl ⟨by rfl, ?_⟩) ?_
  rotate_left
  · (intro w hSw; (try dsimp only at hSw); go_simp; try (with_reducible rfl))
  try simp only [Act.put, Ls]
  refine tk 20 ?_ rfl (Or.inl ⟨by rfl, ?_⟩) ?_
  rotate_left
  · (intro w hSw; (try dsimp only at hSw); go_simp; try (with_reducible rfl))
  try simp only [Act.put, Ls]
  refine tk 21 ?_ rfl (Or.inl ⟨by rfl, ?_⟩) ?_
  rotate_left
  · (intro w hSw; (try dsimp only at hSw); go_simp; try (with_reducible rfl))
  try simp only [Act.put, Ls]
  refine tk 22 ?_ rfl (Or.inl ⟨by rfl, ?_⟩) ?_
  rotate_left
  · (intro w hSw; (try dsimp only at hSw); go_simp; try (with_reducible rfl))
  try simp only [Act.put, Ls]
  refine tk 23 ?_ rfl (Or.inl ⟨by rfl, ?_⟩) ?_
  rotate_left
  · (intro w hSw; (try dsimp only at hSw); go_simp; try (with_reducible rfl))
  try simp only [Act.put, Ls]
  refine rdy 24 rfl (fun K hK => ?_)
  go_simp
  refine hK.out _ _ ?_ (fun hHeld => ?_)
  · exact keep56 Q2 (by omega) _ _ _ _ _ _ _ rfl
  clear hK K
  try simp only [Act.put, Ls]
  refine wpAnyH_done (by kernel_rfl) ?_ _
  go_wp2
  refine bodyPost_ret (v := .agg #[.int .i64 1, .bool true, .bool false, .bool false, .bool false, .bool false]) (by simp [results, Tryz.results203, go_sem, r0, r1, r2, r3, r4, r5]) rfl ⟨rfl, ?_⟩
  exact (by (repeat with_reducible first | refine Below.setCell ?_ ?_ _ | exact bz0 _ _ | refine bz1 ?_ | refine bz2 ?_ _ | refine bz3 ?_ _ | refine bz4 ?_ hq2 | refine bz4 ?_ hq1 | refine Below.alloc ?_ ?_ _ | refine Below.trans ?_ (Below.mono hq2 ?_) | refine Below.trans ?_ (Below.mono hq1 ?_)) <;> first | omega | (simp; done) | (simp; omega))
theorem mk_bad (s : ByteArray) (G : Bool) (p : Option Addr) (n cap : Nat) (e : Int) (w : World) (hg : EA.ErrT w) (hn : n ≤ 9223372036854775807) (h0 : n = 0) :
    Calls Tryz.prog 203 #[.agg #[.bool false, .bool false, .bool G, .slice p n cap, .int .i64 e], .iface 179 (.agg #[.iface 181 (.agg #[.string s])])] w fun r w' => r = .returned (.agg #[.int .i64 1, .bool true, .bool true, .bool false, .bool false, .bool false]) ∧ Below w.heap.size w w' := by
  have C := hid (fun w' h => EA.inv_bad s w' h)
  have CZ := hid (fun w' => zero_any false false G p n cap e w' hn)
  rw [decide_eq_true h0] at CZ
  simp only [Bool.not_false, Bool.true_and] at CZ
  clear h0
  have Q := (Q5.new w (.bool false) (.bool false) (.bool G) (.slice p n cap) (.int .i64 e) 98).alloc (.cells #[.int .i64 0, .bool false, .bool false, .bool false, .bool false, .bool false] 143)
  have R := Q6.nw2 w (.cells #[.bool false, .bool false, .bool G, .slice p n cap, .int .i64 e] 98) (.int .i64 0) (.bool false) (.bool false) (.bool false) (.bool false) (.bool false) 143
  have hg1 : EA.ErrT ((w.alloc (.cells #[.bool false, .bool false, .bool G, .slice p n cap, .int .i64 e] 98)).alloc (.cells #[.int .i64 0, .bool false, .bool false, .bool false, .bool false, .bool false] 143)) := EA.five hg (by repeat (first | exact bz0 _ _ | refine bz1 ?_ | refine bz2 ?_ _ | refine bz3 ?_ _ | refine bz5 ?_ _ | refine bz6 ?_ _))
  have hg1d : EA.ErrT ((w.alloc (.cells #[.bool false, .bool false, .bool G, .slice p n cap, .int .i64 e] 98)).alloc (.cells #[.int .i64 0, .bool false, .bool false, .bool false, .bool false, .bool false] 143)).drew := hg1
  have cd := Q.drew.cs
  go_enter Tryz.func203, Tryz.ntmps203
  go_wp2_with fail
  refine wp_region_held_drew (S := (fun w' => w'.cell? ⟨w.heap.size, 0, none⟩ = some (.bool false) ∧ w'.cell? ⟨w.heap.size, 1, none⟩ = some (.bool false) ∧ w'.cell? ⟨w.heap.size, 2, none⟩ = some (.bool G) ∧ w'.cell? ⟨w.heap.size, 3, none⟩ = some (.slice p n cap) ∧ w'.cell? ⟨w.heap.size, 4, none⟩ = some (.int .i64 e))) (by kernel_rfl) ?_ (fun hHeld => ?_)
  · exact cd
  refine tk 0 ?_ rfl (Or.inl ⟨by rfl, ?_⟩) ?_
  rotate_left
  · (intro w hSw; (try dsimp only at hSw); go_simp; try (with_reducible rfl))
  try simp only [Act.put, Ls]
  refine tk 1 ?_ rfl (Or.inl ⟨by rfl, ?_⟩) ?_
  rotate_left
  · (intro w hSw; (try dsimp only at hSw); go_simp; try (with_reducible rfl))
  try simp only [Act.put, Ls]
  refine tk 2 ?_ rfl (Or.inl ⟨by rfl, ?_⟩) ?_
  rotate_left
  · (intro w hSw; (try dsimp only at hSw); go_simp; try (with_reducible rfl))
  try simp only [Act.put, Ls]
  refine tk 4 ?_ rfl (Or.inl ⟨by rfl, ?_⟩) ?_
  rotate_left
  · (intro w hSw; (try dsimp only at hSw); go_simp; try (with_reducible rfl))
  try simp only [Act.put, Ls]
  refine tk 5 ?_ rfl (Or.inl ⟨by rfl, ?_⟩) ?_
  rotate_left
  · (intro w hSw; (try dsimp only at hSw); go_simp; try (with_reducible rfl))
  try simp only [Act.put, Ls]
  refine tk 11 ?_ rfl (Or.inl ⟨by rfl, ?_⟩) ?_
  rotate_left
  · (intro w hSw; (try dsimp only at hSw); go_simp; try (with_reducible rfl))
  try simp only [Act.put, Ls]
  refine tk 12 ?_ rfl (Or.inl ⟨by rfl, ?_⟩) ?_
  rotate_left
  · (intro w hSw; (try dsimp only at hSw); go_simp; try (with_reducible rfl))
  try simp only [Act.put, Ls]
  refine tk 17 ?_ rfl (Or.inl ⟨by rfl, ?_⟩) ?_
  rotate_left
  · (intro w hSw; (try dsimp only at hSw); go_simp; try (with_reducible rfl))
  try simp only [Act.put, Ls]
  refine rdy 3 rfl (fun K hK => ?_)
  go_simp
  go_at_call 190; refine (C.out _ hg1d).mono ?_; rintro r q1 ⟨rfl, hq1⟩; have Q1 := Q.drew.below hq1; have R1 := R.drew.below hq1
  refine hK.out _ _ ?_ (fun hHeld => ?_)
  · exact Q1.cs
  clear hK K
  try simp only [Act.put, Ls]
  refine tk 6 ?_ rfl (Or.inl ⟨by rfl, ?_⟩) ?_
  rotate_left
  · (intro w hSw; (try dsimp only at hSw); go_simp; try (with_reducible rfl))
  try simp only [Act.put, Ls]
  refine tk 7 undef rfl (Or.inr ⟨by rfl, rfl⟩) ?_
  try simp only [Act.put, Ls]
  refine tk 8 undef rfl (Or.inr ⟨by rfl, rfl⟩) ?_
  try simp only [Act.put, Ls]
  refine tk 9 undef rfl (Or.inr ⟨by rfl, rfl⟩) ?_
  try simp only [Act.put, Ls]
  refine tk 10 ?_ rfl (Or.inl ⟨by rfl, ?_⟩) ?_
  rotate_left
  · (intro w hSw; (try dsimp only at hSw); go_simp; try (with_reducible rfl))
  try simp only [Act.put, Ls]
  refine tk 13 ?_ rfl (Or.inl ⟨by rfl, ?_⟩) ?_
  rotate_left
  · (intro w hSw; (try dsimp only at hSw); go_simp; try (with_reducible rfl))
  try simp only [Act.put, Ls]
  refine tk 14 undef rfl (Or.inr ⟨by rfl, rfl⟩) ?_
  try simp only [Act.put, Ls]
  refine tk 15 undef rfl (Or.inr ⟨by rfl, rfl⟩) ?_
  try simp only [Act.put, Ls]
  refine tk 16 ?_ rfl (Or.inl ⟨by rfl, ?_⟩) ?_
  rotate_left
  · (intro w hSw; (try dsimp only at hSw); go_simp; try (with_reducible rfl))
  try simp only [Act.put, Ls]
  refine rdy 18 rfl (fun K hK => ?_)
  go_simp
  go_at_call 183; refine (CZ.out _).mono ?_; rintro r q2 ⟨rfl, hq2⟩; have Q2 := Q1.below hq2; have R2' := R1.below hq2; obtain ⟨r0, r1, r2, r3, r4, r5, f0, f1, f2, f3, f4, f5⟩ := R2'
  refine hK.out _ _ ?_ (fun hHeld => ?_)
  · exact Q2.cs
  clear hK K
  try simp only [Act.put, Ls]
  refine tk 19 ?_ rfl (Or.inl ⟨by rfl, ?_⟩) ?_
  rotate_left
  · (intro w hSw; (try dsimp only at hSw); go_simp; try (with_reducible rfl))
  try simp only [Act.put, Ls]
  refine tk 20 ?_ rfl (Or.inl ⟨by rfl, ?_⟩) ?_
  rotate_left
  · (intro w hSw; (try dsimp only at hSw); go_simp; try (with_reducible rfl))
  try simp only [Act.put, Ls]
  refine tk 21 ?_ rfl (Or.inl ⟨by rfl, ?_⟩) ?_
  rotate_left
  · (intro w hSw; (try dsimp only at hSw); go_simp; try (with_reducible rfl))
  try simp only [Act.put, Ls]
  refine tk 22 ?_ rfl (Or.inl ⟨by rfl, ?_⟩) ?_
  rotate_left
  · (intro w hSw; (try dsimp only at hSw); go_simp; try (with_reducible rfl))
  try simp only [Act.put, Ls]
  refine tk 23 ?_ rfl (Or.inl ⟨by rfl, ?_⟩) ?_
  rotate_left
  · (intro w hSw; (try dsimp only at hSw); go_simp; try (with_reducible rfl))
  try simp only [Act.put, Ls]
  refine rdy 24 rfl (fun K hK => ?_)
  go_simp
  refine hK.out _ _ ?_ (fun hHeld => ?_)
  · exact keep56 Q2 (by omega) _ _ _ _ _ _ _ rfl
  clear hK K
  try simp only [Act.put, Ls]
  refine wpAnyH_done (by kernel_rfl) ?_ _
  go_wp2
  refine bodyPost_ret (v := .agg #[.int .i64 1, .bool true, .bool true, .bool false, .bool false, .bool false]) (by simp [results, Tryz.results203, go_sem, r0, r1, r2, r3, r4, r5]) rfl ⟨rfl, ?_⟩
  exact (by (repeat with_reducible first | refine Below.setCell ?_ ?_ _ | exact bz0 _ _ | refine bz1 ?_ | refine bz2 ?_ _ | refine bz3 ?_ _ | refine bz4 ?_ hq2 | refine bz4 ?_ hq1 | refine Below.alloc ?_ ?_ _ | refine Below.trans ?_ (Below.mono hq2 ?_) | refine Below.trans ?_ (Below.mono hq1 ?_)) <;> first | omega | (simp; done) | (simp; omega))
theorem mk_inf (neg : Bool) (G : Bool) (p : Option Addr) (n cap : Nat) (e : Int) (w : World) (hg : EA.ErrT w) (hn : n ≤ 9223372036854775807) :
    Calls Tryz.prog 203 #[.agg #[.bool neg, .bool true, .bool G, .slice p n cap, .int .i64 e], .nilIface] w fun r w' => r = .returned (.agg #[.int .i64 1, .bool false, .bool false, .bool (!neg), .bool neg, .bool false]) ∧ Below w.heap.size w w' := by
  have C := hid (fun w' h => EA.inv_nil w' h)
  have CZ := hid (fun w' => zero_any neg true G p n cap e w' hn)
  simp only [Bool.not_true, Bool.false_and] at CZ
  have Q := (Q5.new w (.bool neg) (.bool true) (.bool G) (.slice p n cap) (.int .i64 e) 98).alloc (.cells #[.int .i64 0, .bool false, .bool false, .bool false, .bool false, .bool false] 143)
  have R := Q6.nw2 w (.cells #[.bool neg, .bool true, .bool G, .slice p n cap, .int .i64 e] 98) (.int .i64 0) (.bool false) (.bool false) (.bool false) (.bool false) (.bool false) 143
  have hg1 : EA.ErrT ((w.alloc (.cells #[.bool neg, .bool true, .bool G, .slice p n cap, .int .i64 e] 98)).alloc (.cells #[.int .i64 0, .bool false, .bool false, .bool false, .bool false, .bool false] 143)) := EA.five hg (by repeat (first | exact bz0 _ _ | refine bz1 ?_ | refine bz2 ?_ _ | refine bz3 ?_ _ | refine bz5 ?_ _ | refine bz6 ?_ _))
  have hg1d : EA.ErrT ((w.alloc (.cells #[.bool neg, .bool true, .bool G, .slice p n cap, .int .i64 e] 98)).alloc (.cells #[.int .i64 0, .bool false, .bool false, .bool false, .bool false, .bool false] 143)).drew := hg1
  have cd := Q.drew.cs
  go_enter Tryz.func203, Tryz.ntmps203
  go_wp2_with fail
  refine wp_region_held_drew (S := (fun w' => w'.cell? ⟨w.heap.size, 0, none⟩ = some (.bool neg) ∧ w'.cell? ⟨w.heap.size, 1, none⟩ = some (.bool true) ∧ w'.cell? ⟨w.heap.size, 2, none⟩ = some (.bool G) ∧ w'.cell? ⟨w.heap.size, 3, none⟩ = some (.slice p n cap) ∧ w'.cell? ⟨w.heap.size, 4, none⟩ = some (.int .i64 e))) (by kernel_rfl) ?_ (fun hHeld => ?_)
  · exact cd
  refine tk 0 ?_ rfl (Or.inl ⟨by rfl, ?_⟩) ?_
  rotate_left
  · (intro w hSw; (try dsimp only at hSw); go_simp; try (with_reducible rfl))
  try simp only [Act.put, Ls]
  refine tk 1 ?_ rfl (Or.inl ⟨by rfl, ?_⟩) ?_
  rotate_left
  · (intro w hSw; (try dsimp only at hSw); go_simp; try (with_reducible rfl))
  try simp only [Act.put, Ls]
  refine tk 2 ?_ rfl (Or.inl ⟨by rfl, ?_⟩) ?_
  rotate_left
  · (intro w hSw; (try dsimp only at hSw); go_simp; try (with_reducible rfl))
  try simp only [Act.put, Ls]
  refine tk 4 ?_ rfl (Or.inl ⟨by rfl, ?_⟩) ?_
  rotate_left
  · (intro w hSw; (try dsimp only at hSw); go_simp; try (with_reducible rfl))
  try simp only [Act.put, Ls]
  refine tk 5 ?_ rfl (Or.inl ⟨by rfl, ?_⟩) ?_
  rotate_left
  · (intro w hSw; (try dsimp only at hSw); go_simp; try (with_reducible rfl))
  try simp only [Act.put, Ls]
  refine tk 11 ?_ rfl (Or.inl ⟨by rfl, ?_⟩) ?_
  rotate_left
  · (intro w hSw; (try dsimp only at hSw); go_simp; try (with_reducible rfl))
  try simp only [Act.put, Ls]
  refine tk 12 ?_ rfl (Or.inl ⟨by rfl, ?_⟩) ?_
  rotate_left
  · (intro w hSw; (try dsimp only at hSw); go_simp; try (with_reducible rfl))
  try simp only [Act.put, Ls]
  refine tk 17 ?_ rfl (Or.inl ⟨by rfl, ?_⟩) ?_
  rotate_left
  · (intro w hSw; (try dsimp only at hSw); go_simp; try (with_reducible rfl))
  try simp only [Act.put, Ls]
  refine rdy 3 rfl (fun K hK => ?_)
  go_simp
  go_at_call 190; refine (C.out _ hg1d).mono ?_; rintro r q1 ⟨rfl, hq1⟩; have Q1 := Q.drew.below hq1; have R1 := R.drew.below hq1
  refine hK.out _ _ ?_ (fun hHeld => ?_)
  · exact Q1.cs
  clear hK K
  try simp only [Act.put, Ls]
  refine tk 6 ?_ rfl (Or.inl ⟨by rfl, ?_⟩) ?_
  rotate_left
  · (intro w hSw; (try dsimp only at hSw); go_simp; try (with_reducible rfl))
  try simp only [Act.put, Ls]
  refine tk 7 ?_ rfl (Or.inl ⟨by rfl, ?_⟩) ?_
  rotate_left
  · (intro w hSw; (try dsimp only at hSw); go_simp; try (with_reducible rfl))
  try simp only [Act.put, Ls]
  refine tk 8 ?_ rfl (Or.inl ⟨by rfl, ?_⟩) ?_
  rotate_left
  · (intro w hSw; (try dsimp only at hSw); go_simp; try (with_reducible rfl))
  try simp only [Act.put, Ls]
  refine tk 9 ?_ rfl (Or.inl ⟨by rfl, ?_⟩) ?_
  rotate_left
  · (intro w hSw; (try dsimp only at hSw); go_simp; try (with_reducible rfl))
  try simp only [Act.put, Ls]
  refine tk 10 ?_ rfl (Or.inl ⟨by rfl, ?_⟩) ?_
  rotate_left
  · (intro w hSw; (try dsimp only at hSw); go_simp; try (with_reducible rfl))
  try simp only [Act.put, Ls]
  refine tk 13 ?_ rfl (Or.inl ⟨by rfl, ?_⟩) ?_
  rotate_left
  · (intro w hSw; (try dsimp only at hSw); go_simp; try (with_reducible rfl))
  try simp only [Act.put, Ls]
  refine tk 14 ?_ rfl (Or.inl ⟨by rfl, ?_⟩) ?_
  rotate_left
  · (intro w hSw; (try dsimp only at hSw); go_simp; try (with_reducible rfl))
  try simp only [Act.put, Ls]
  refine tk 15 ?_ rfl (Or.inl ⟨by rfl, ?_⟩) ?_
  rotate_left
  · (intro w hSw; (try dsimp only at hSw); go_simp; try (with_reducible rfl))
  try simp only [Act.put, Ls]
  refine tk 16 ?_ rfl (Or.inl ⟨by rfl, ?_⟩) ?_
  rotate_left
  · (intro w hSw; (try dsimp only at hSw); go_simp; try (with_reducible rfl))
  try simp only [Act.put, Ls]
  refine rdy 18 rfl (fun K hK => ?_)
  go_simp
  go_at_call 183; refine (CZ.out _).mono ?_; rintro r q2 ⟨rfl, hq2⟩; have Q2 := Q1.below hq2; have R2' := R1.below hq2; obtain ⟨r0, r1, r2, r3, r4, r5, f0, f1, f2, f3, f4, f5⟩ := R2'
  refine hK.out _ _ ?_ (fun hHeld => ?_)
  · exact Q2.cs
  clear hK K
  try simp only [Act.put, Ls]
  refine tk 19 ?_ rfl (Or.inl ⟨by rfl, ?_⟩) ?_
  rotate_left
  · (intro w hSw; (try dsimp only at hSw); go_simp; try (with_reducible rfl))
  try simp only [Act.put, Ls]
  refine tk 20 undef rfl (Or.inr ⟨by rfl, rfl⟩) ?_
  try simp only [Act.put, Ls]
  refine tk 21 undef rfl (Or.inr ⟨by rfl, rfl⟩) ?_
  try simp only [Act.put, Ls]
  refine tk 22 ?_ rfl (Or.inl ⟨by rfl, ?_⟩) ?_
  rotate_left
  · (intro w hSw; (try dsimp only at hSw); go_simp; try (with_reducible rfl))
  try simp only [Act.put, Ls]
  refine tk 23 ?_ rfl (Or.inl ⟨by rfl, ?_⟩) ?_
  rotate_left
  · (intro w hSw; (try dsimp only at hSw); go_simp; try (with_reducible rfl))
  try simp only [Act.put, Ls]
  refine rdy 24 rfl (fun K hK => ?_)
  go_simp
  refine hK.out _ _ ?_ (fun hHeld => ?_)
  · exact keep56 Q2 (by omega) _ _ _ _ _ _ _ rfl
  clear hK K
  try simp only [Act.put, Ls]
  refine wpAnyH_done (by kernel_rfl) ?_ _
  go_wp2
  refine bodyPost_ret (v := .agg #[.int .i64 1, .bool false, .bool false, .bool (!neg), .bool neg, .bool false]) (by simp [results, Tryz.results203, go_sem, r0, r1, r2, r3, r4, r5]) rfl ⟨rfl, ?_⟩
  exact (by (repeat with_reducible first | refine Below.setCell ?_ ?_ _ | exact bz0 _ _ | refine bz1 ?_ | refine bz2 ?_ _ | refine bz3 ?_ _ | refine bz4 ?_ hq2 | refine bz4 ?_ hq1 | refine Below.alloc ?_ ?_ _ | refine Below.trans ?_ (Below.mono hq2 ?_) | refine Below.trans ?_ (Below.mono hq1 ?_)) <;> first | omega | (simp; done) | (simp; omega))
theorem mk_zero (neg : Bool) (G : Bool) (p : Option Addr) (n cap : Nat) (e : Int) (w : World) (hg : EA.ErrT w) (hn : n ≤ 9223372036854775807) (h0 : n = 0) :
    Calls Tryz.prog 203 #[.agg #[.bool neg, .bool false, .bool G, .slice p n cap, .int .i64 e], .nilIface] w fun r w' => r = .returned (.agg #[.int .i64 1, .bool false, .bool false, .bool false, .bool false, .bool neg]) ∧ Below w.heap.size w w' := by
  have C := hid (fun w' h => EA.inv_nil w' h)
  have CZ := hid (fun w' => zero_any neg false G p n cap e w' hn)
  rw [decide_eq_true h0] at CZ
  simp only [Bool.not_false, Bool.true_and] at CZ
  clear h0
  have Q := (Q5.new w (.bool neg) (.bool false) (.bool G) (.slice p n cap) (.int .i64 e) 98).alloc (.cells #[.int .i64 0, .bool false, .bool false, .bool false, .bool false, .bool false] 143)
  have R := Q6.nw2 w (.cells #[.bool neg, .bool false, .bool G, .slice p n cap, .int .i64 e] 98) (.int .i64 0) (.bool false) (.bool false) (.bool false) (.bool false) (.bool false) 143
  have hg1 : EA.ErrT ((w.alloc (.cells #[.bool neg, .bool false, .bool G, .slice p n cap, .int .i64 e] 98)).alloc (.cells #[.int .i64 0, .bool false, .bool false, .bool false, .bool false, .bool false] 143)) := EA.five hg (by repeat (first | exact bz0 _ _ | refine bz1 ?_ | refine bz2 ?_ _ | refine bz3 ?_ _ | refine bz5 ?_ _ | refine bz6 ?_ _))
  have hg1d : EA.ErrT ((w.alloc (.cells #[.bool neg, .bool false, .bool G, .slice p n cap, .int .i64 e] 98)).alloc (.cells #[.int .i64 0, .bool false, .bool false, .bool false, .bool false, .bool false] 143)).drew := hg1
  have cd := Q.drew.cs
  go_enter Tryz.func203, Tryz.ntmps203
  go_wp2_with fail
  refine wp_region_held_drew (S := (fun w' => w'.cell? ⟨w.heap.size, 0, none⟩ = some (.bool neg) ∧ w'.cell? ⟨w.heap.size, 1, none⟩ = some (.bool false) ∧ w'.cell? ⟨w.heap.size, 2, none⟩ = some (.bool G) ∧ w'.cell? ⟨w.heap.size, 3, none⟩ = some (.slice p n cap) ∧ w'.cell? ⟨w.heap.size, 4, none⟩ = some (.int .i64 e))) (by kernel_rfl) ?_ (fun hHeld => ?_)
  · exact cd
  refine tk 0 ?_ rfl (Or.inl ⟨by rfl, ?_⟩) ?_
  rotate_left
  · (intro w hSw; (try dsimp only at hSw); go_simp; try (with_reducible rfl))
  try simp only [Act.put, Ls]
  refine tk 1 ?_ rfl (Or.inl ⟨by rfl, ?_⟩) ?_
  rotate_left
  · (intro w hSw; (try dsimp only at hSw); go_simp; try (with_reducible rfl))
  try simp only [Act.put, Ls]
  refine tk 2 ?_ rfl (Or.inl ⟨by rfl, ?_⟩) ?_
  rotate_left
  · (intro w hSw; (try dsimp only at hSw); go_simp; try (with_reducible rfl))
  try simp only [Act.put, Ls]
  refine tk 4 ?_ rfl (Or.inl ⟨by rfl, ?_⟩) ?_
  rotate_left
  · (intro w hSw; (try dsimp only at hSw); go_simp; try (with_reducible rfl))
  try simp only [Act.put, Ls]
  refine tk 5 ?_ rfl (Or.inl ⟨by rfl, ?_⟩) ?_
  rotate_left
  · (intro w hSw; (try dsimp only at hSw); go_simp; try (with_reducible rfl))
  try simp only [Act.put, Ls]
  refine tk 11 ?_ rfl (Or.inl ⟨by rfl, ?_⟩) ?_
  rotate_left
  · (intro w hSw; (try dsimp only at hSw); go_simp; try (with_reducible rfl))
  try simp only [Act.put, Ls]
  refine tk 12 ?_ rfl (Or.inl ⟨by rfl, ?_⟩) ?_
  rotate_left
  · (intro w hSw; (try dsimp only at hSw); go_simp; try (with_reducible rfl))
  try simp only [Act.put, Ls]
  refine tk 17 ?_ rfl (Or.inl ⟨by rfl, ?_⟩) ?_
  rotate_left
  · (intro w hSw; (try dsimp only at hSw); go_simp; try (with_reducible rfl))
  try simp only [Act.put, Ls]
  refine rdy 3 rfl (fun K hK => ?_)
  go_simp
  go_at_call 190; refine (C.out _ hg1d).mono ?_; rintro r q1 ⟨rfl, hq1⟩; have Q1 := Q.drew.below hq1; have R1 := R.drew.below hq1
  refine hK.out _ _ ?_ (fun hHeld => ?_)
  · exact Q1.cs
  clear hK K
  try simp only [Act.put, Ls]
  refine tk 6 ?_ rfl (Or.inl ⟨by rfl, ?_⟩) ?_
  rotate_left
  · (intro w hSw; (try dsimp only at hSw); go_simp; try (with_reducible rfl))
  try simp only [Act.put, Ls]
  refine tk 7 undef rfl (Or.inr ⟨by rfl, rfl⟩) ?_
  try simp only [Act.put, Ls]
  refine tk 8 undef rfl (Or.inr ⟨by rfl, rfl⟩) ?_
  try simp only [Act.put, Ls]
  refine tk 9 undef rfl (Or.inr ⟨by rfl, rfl⟩) ?_
  try simp only [Act.put, Ls]
  refine tk 10 ?_ rfl (Or.inl ⟨by rfl, ?_⟩) ?_
  rotate_left
  · (intro w hSw; (try dsimp only at hSw); go_simp; try (with_reducible rfl))
  try simp only [Act.put, Ls]
  refine tk 13 ?_ rfl (Or.inl ⟨by rfl, ?_⟩) ?_
  rotate_left
  · (intro w hSw; (try dsimp only at hSw); go_simp; try (with_reducible rfl))
  try simp only [Act.put, Ls]
  refine tk 14 undef rfl (Or.inr ⟨by rfl, rfl⟩) ?_
  try simp only [Act.put, Ls]
  refine tk 15 undef rfl (Or.inr ⟨by rfl, rfl⟩) ?_
  try simp only [Act.put, Ls]
  refine tk 16 ?_ rfl (Or.inl ⟨by rfl, ?_⟩) ?_
  rotate_left
  · (intro w hSw; (try dsimp only at hSw); go_simp; try (with_reducible rfl))
  try simp only [Act.put, Ls]
  refine rdy 18 rfl (fun K hK => ?_)
  go_simp
  go_at_call 183; refine (CZ.out _).mono ?_; rintro r q2 ⟨rfl, hq2⟩; have Q2 := Q1.below hq2; have R2' := R1.below hq2; obtain ⟨r0, r1, r2, r3, r4, r5, f0, f1, f2, f3, f4, f5⟩ := R2'
  refine hK.out _ _ ?_ (fun hHeld => ?_)
  · exact Q2.cs
  clear hK K
  try simp only [Act.put, Ls]
  refine tk 19 ?_ rfl (Or.inl ⟨by rfl, ?_⟩) ?_
  rotate_left
  · (intro w hSw; (try dsimp only at hSw); go_simp; try (with_reducible rfl))
  try simp only [Act.put, Ls]
  refine tk 20 ?_ rfl (Or.inl ⟨by rfl, ?_⟩) ?_
  rotate_left
  · (intro w hSw; (try dsimp only at hSw); go_simp; try (with_reducible rfl))
  try simp only [Act.put, Ls]
  refine tk 21 ?_ rfl (Or.inl ⟨by rfl, ?_⟩) ?_
  rotate_left
  · (intro w hSw; (try dsimp only at hSw); go_simp; try (with_reducible rfl))
  try simp only [Act.put, Ls]
  refine tk 22 ?_ rfl (Or.inl ⟨by rfl, ?_⟩) ?_
  rotate_left
  · (intro w hSw; (try dsimp only at hSw); go_simp; try (with_reducible rfl))
  try simp only [Act.put, Ls]
  refine tk 23 ?_ rfl (Or.inl ⟨by rfl, ?_⟩) ?_
  rotate_left
  · (intro w hSw; (try dsimp only at hSw); go_simp; try (with_reducible rfl))
  try simp only [Act.put, Ls]
  refine rdy 24 rfl (fun K hK => ?_)
  go_simp
  refine hK.out _ _ ?_ (fun hHeld => ?_)
  · exact keep56 Q2 (by omega) _ _ _ _ _ _ _ rfl
  clear hK K
  try simp only [Act.put, Ls]
  refine wpAnyH_done (by kernel_rfl) ?_ _
  go_wp2
  refine bodyPost_ret (v := .agg #[.int .i64 1, .bool false, .bool false, .bool false, .bool false, .bool neg]) (by simp [results, Tryz.results203, go_sem, r0, r1, r2, r3, r4, r5]) rfl ⟨rfl, ?_⟩
  exact (by (repeat with_reducible first | refine Below.setCell ?_ ?_ _ | exact bz0 _ _ | refine bz1 ?_ | refine bz2 ?_ _ | refine bz3 ?_ _ | refine bz4 ?_ hq2 | refine bz4 ?_ hq1 | refine Below.alloc ?_ ?_ _ | refine Below.trans ?_ (Below.mono hq2 ?_) | refine Below.trans ?_ (Below.mono hq1 ?_)) <;> first | omega | (simp; done) | (simp; omega))
theorem mk_fin (neg : Bool) (G : Bool) (p : Option Addr) (n cap : Nat) (e : Int) (w : World) (hg : EA.ErrT w) (hn : n ≤ 9223372036854775807) (h0 : n ≠ 0) :
    Calls Tryz.prog 203 #[.agg #[.bool neg, .bool false, .bool G, .slice p n cap, .int .i64 e], .nilIface] w fun r w' => r = .returned (.agg #[.int .i64 1, .bool false, .bool false, .bool false, .bool false, .bool false]) ∧ Below w.heap.size w w' := by
  have C := hid (fun w' h => EA.inv_nil w' h)
  have CZ := hid (fun w' => zero_any neg false G p n cap e w' hn)
  rw [decide_eq_false h0] at CZ
  simp only [Bool.and_false] at CZ
  clear h0
  have Q := (Q5.new w (.bool neg) (.bool false) (.bool G) (.slice p n cap) (.int .i64 e) 98).alloc (.cells #[.int .i64 0, .bool false, .bool false, .bool false, .bool false, .bool false] 143)
  have R := Q6.nw2 w (.cells #[.bool neg, .bool false, .bool G, .slice p n cap, .int .i64 e] 98) (.int .i64 0) (.bool false) (.bool false) (.bool false) (.bool false) (.bool false) 143
  have hg1 : EA.ErrT ((w.alloc (.cells #[.bool neg, .bool false, .bool G, .slice p n cap, .int .i64 e] 98)).alloc (.cells #[.int .i64 0, .bool false, .bool false, .bool false, .bool false, .bool false] 143)) := EA.five hg (by repeat (first | exact bz0 _ _ | refine bz1 ?_ | refine bz2 ?_ _ | refine bz3 ?_ _ | refine bz5 ?_ _ | refine bz6 ?_ _))
  have hg1d : EA.ErrT ((w.alloc (.cells #[.bool neg, .bool false, .bool G, .slice p n cap, .int .i64 e] 98)).alloc (.cells #[.int .i64 0, .bool false, .bool false, .bool false, .bool false, .bool false] 143)).drew := hg1
  have cd := Q.drew.cs
  go_enter Tryz.func203, Tryz.ntmps203
  go_wp2_with fail
  refine wp_region_held_drew (S := (fun w' => w'.cell? ⟨w.heap.size, 0, none⟩ = some (.bool neg) ∧ w'.cell? ⟨w.heap.size, 1, none⟩ = some (.bool false) ∧ w'.cell? ⟨w.heap.size, 2, none⟩ = some (.bool G) ∧ w'.cell? ⟨w.heap.size, 3, none⟩ = some (.slice p n cap) ∧ w'.cell? ⟨w.heap.size, 4, none⟩ = some (.int .i64 e))) (by kernel_rfl) ?_ (fun hHeld => ?_)
  · exact cd
  refine tk 0 ?_ rfl (Or.inl ⟨by rfl, ?_⟩) ?_
  rotate_left
  · (intro w hSw; (try dsimp only at hSw); go_simp; try (with_reducible rfl))
  try simp only [Act.put, Ls]
  refine tk 1 ?_ rfl (Or.inl ⟨by rfl, ?_⟩) ?_
  rotate_left
  · (intro w hSw; (try dsimp only at hSw); go_simp; try (with_reducible rfl))
  try simp only [Act.put, Ls]
  refine tk 2 ?_ rfl (Or.inl ⟨by rfl, ?_⟩) ?_
  rotate_left
  · (intro w hSw; (try dsimp only at hSw); go_simp; try (with_reducible rfl))
  try simp only [Act.put, Ls]
  refine tk 4 ?_ rfl (Or.inl ⟨by rfl, ?_⟩) ?_
  rotate_left
  · (intro w hSw; (try dsimp only at hSw); go_simp; try (with_reducible rfl))
  try simp only [Act.put, Ls]
  refine tk 5 ?_ rfl (Or.inl ⟨by rfl, ?_⟩) ?_
  rotate_left
  · (intro w hSw; (try dsimp only at hSw); go_simp; try (with_reducible rfl))
  try simp only [Act.put, Ls]
  refine tk 11 ?_ rfl (Or.inl ⟨by rfl, ?_⟩) ?_
  rotate_left
  · (intro w hSw; (try dsimp only at hSw); go_simp; try (with_reducible rfl))
  try simp only [Act.put, Ls]
  refine tk 12 ?_ rfl (Or.inl ⟨by rfl, ?_⟩) ?_
  rotate_left
  · (intro w hSw; (try dsimp only at hSw); go_simp; try (with_reducible rfl))
  try simp only [Act.put, Ls]
  refine tk 17 ?_ rfl (Or.inl ⟨by rfl, ?_⟩) ?_
  rotate_left
  · (intro w hSw; (try dsimp only at hSw); go_simp; try (with_reducible rfl))
  try simp only [Act.put, Ls]
  refine rdy 3 rfl (fun K hK => ?_)
  go_simp
  go_at_call 190; refine (C.out _ hg1d).mono ?_; rintro r q1 ⟨rfl, hq1⟩; have Q1 := Q.drew.below hq1; have R1 := R.drew.below hq1
  refine hK.out _ _ ?_ (fun hHeld => ?_)
  · exact Q1.cs
  clear hK K
  try simp only [Act.put, Ls]
  refine tk 6 ?_ rfl (Or.inl ⟨by rfl, ?_⟩) ?_
  rotate_left
  · (intro w hSw; (try dsimp only at hSw); go_simp; try (with_reducible rfl))
  try simp only [Act.put, Ls]
  refine tk 7 undef rfl (Or.inr ⟨by rfl, rfl⟩) ?_
  try simp only [Act.put, Ls]
  refine tk 8 undef rfl (Or.inr ⟨by rfl, rfl⟩) ?_
  try simp only [Act.put, Ls]
  refine tk 9 undef rfl (Or.inr ⟨by rfl, rfl⟩) ?_
  try simp only [Act.put, Ls]
  refine tk 10 ?_ rfl (Or.inl ⟨by rfl, ?_⟩) ?_
  rotate_left
  · (intro w hSw; (try dsimp only at hSw); go_simp; try (with_reducible rfl))
  try simp only [Act.put, Ls]
  refine tk 13 ?_ rfl (Or.inl ⟨by rfl, ?_⟩) ?_
  rotate_left
  · (intro w hSw; (try dsimp only at hSw); go_simp; try (with_reducible rfl))
  try simp only [Act.put, Ls]
  refine tk 14 undef rfl (Or.inr ⟨by rfl, rfl⟩) ?_
  try simp only [Act.put, Ls]
  refine tk 15 undef rfl (Or.inr ⟨by rfl, rfl⟩) ?_
  try simp only [Act.put, Ls]
  refine tk 16 ?_ rfl (Or.inl ⟨by rfl, ?_⟩) ?_
  rotate_left
  · (intro w hSw; (try dsimp only at hSw); go_simp; try (with_reducible rfl))
  try simp only [Act.put, Ls]
  refine rdy 18 rfl (fun K hK => ?_)
  go_simp
  go_at_call 183; refine (CZ.out _).mono ?_; rintro r q2 ⟨rfl, hq2⟩; have Q2 := Q1.below hq2; have R2' := R1.below hq2; obtain ⟨r0, r1, r2, r3, r4, r5, f0, f1, f2, f3, f4, f5⟩ := R2'
  refine hK.out _ _ ?_ (fun hHeld => ?_)
  · exact Q2.cs
  clear hK K
  try simp only [Act.put, Ls]
  refine tk 19 ?_ rfl (Or.inl ⟨by rfl, ?_⟩) ?_
  rotate_left
  · (intro w hSw; (try dsimp only at hSw); go_simp; try (with_reducible rfl))
  try simp only [Act.put, Ls]
  refine tk 20 undef rfl (Or.inr ⟨by rfl, rfl⟩) ?_
  try simp only [Act.put, Ls]
  refine tk 21 undef rfl (Or.inr ⟨by rfl, rfl⟩) ?_
  try simp only [Act.put, Ls]
  refine tk 22 ?_ rfl (Or.inl ⟨by rfl, ?_⟩) ?_
  rotate_left
  · (intro w hSw; (try dsimp only at hSw); go_simp; try (with_reducible rfl))
  try simp only [Act.put, Ls]
  refine tk 23 ?_ rfl (Or.inl ⟨by rfl, ?_⟩) ?_
  rotate_left
  · (intro w hSw; (try dsimp only at hSw); go_simp; try (with_reducible rfl))
  try simp only [Act.put, Ls]
  refine rdy 24 rfl (fun K hK => ?_)
  go_simp
  refine hK.out _ _ ?_ (fun hHeld => ?_)
  · exact keep56 Q2 (by omega) _ _ _ _ _ _ _ rfl
  clear hK K
  try simp only [Act.put, Ls]
  refine wpAnyH_done (by kernel_rfl) ?_ _
  go_wp2
  refine bodyPost_ret (v := .agg #[.int .i64 1, .bool false, .bool false, .bool false, .bool false, .bool false]) (by simp [results, Tryz.results203, go_sem, r0, r1, r2, r3, r4, r5]) rfl ⟨rfl, ?_⟩
  exact (by (repeat with_reducible first | refine Below.setCell ?_ ?_ _ | exact bz0 _ _ | refine bz1 ?_ | refine bz2 ?_ _ | refine bz3 ?_ _ | refine bz4 ?_ hq2 | refine bz4 ?_ hq1 | refine Below.alloc ?_ ?_ _ | refine Below.trans ?_ (Below.mono hq2 ?_) | refine Below.trans ?_ (Below.mono hq1 ?_)) <;> first | omega | (simp; done) | (simp; omega))
end Go.Proofs.YtkfjmcdniohljaaGreatDoor
