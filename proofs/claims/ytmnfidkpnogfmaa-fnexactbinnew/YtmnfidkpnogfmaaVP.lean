/-
  Bins as a list of their sums; a new accumulator of a few bins: by both.
-/
import Derived.Test.YtmnfidkpnogfmaaVN
import Derived.Test.YtmnfidkpnogfmaaK28
namespace Go.Proofs.Ytmnfidkpnogfmaa
set_option linter.unusedVariables false
set_option linter.unusedSimpArgs false
open Go.RowKit Go.Deep
structure Q13 (w : World) (b : Nat) (v0 v1 v2 v3 v4 v5 v6 v7 v8 v9 v10 v11 v12 : Value) : Prop where
  c0 : w.cell? ⟨b, 0, none⟩ = some v0
  c1 : w.cell? ⟨b, 1, none⟩ = some v1
  c2 : w.cell? ⟨b, 2, none⟩ = some v2
  c3 : w.cell? ⟨b, 3, none⟩ = some v3
  c4 : w.cell? ⟨b, 4, none⟩ = some v4
  c5 : w.cell? ⟨b, 5, none⟩ = some v5
  c6 : w.cell? ⟨b, 6, none⟩ = some v6
  c7 : w.cell? ⟨b, 7, none⟩ = some v7
  c8 : w.cell? ⟨b, 8, none⟩ = some v8
  c9 : w.cell? ⟨b, 9, none⟩ = some v9
  c10 : w.cell? ⟨b, 10, none⟩ = some v10
  c11 : w.cell? ⟨b, 11, none⟩ = some v11
  c12 : w.cell? ⟨b, 12, none⟩ = some v12
theorem Q13.lt {w : World} {b : Nat} {v0 v1 v2 v3 v4 v5 v6 v7 v8 v9 v10 v11 v12 : Value} (h : Q13 w b v0 v1 v2 v3 v4 v5 v6 v7 v8 v9 v10 v11 v12) : b < w.heap.size := World.block_lt_of_cell? w _ h.c0
theorem Q13.of_block {w w' : World} {b : Nat} {v0 v1 v2 v3 v4 v5 v6 v7 v8 v9 v10 v11 v12 : Value} (h : Q13 w b v0 v1 v2 v3 v4 v5 v6 v7 v8 v9 v10 v11 v12) (e : w'.heap[b]? = w.heap[b]?) : Q13 w' b v0 v1 v2 v3 v4 v5 v6 v7 v8 v9 v10 v11 v12 :=
  ⟨(World.cell?_of_block (a := ⟨b, 0, none⟩) e).trans h.c0, (World.cell?_of_block (a := ⟨b, 1, none⟩) e).trans h.c1, (World.cell?_of_block (a := ⟨b, 2, none⟩) e).trans h.c2, (World.cell?_of_block (a := ⟨b, 3, none⟩) e).trans h.c3, (World.cell?_of_block (a := ⟨b, 4, none⟩) e).trans h.c4, (World.cell?_of_block (a := ⟨b, 5, none⟩) e).trans h.c5, (World.cell?_of_block (a := ⟨b, 6, none⟩) e).trans h.c6, (World.cell?_of_block (a := ⟨b, 7, none⟩) e).trans h.c7, (World.cell?_of_block (a := ⟨b, 8, none⟩) e).trans h.c8, (World.cell?_of_block (a := ⟨b, 9, none⟩) e).trans h.c9, (World.cell?_of_block (a := ⟨b, 10, none⟩) e).trans h.c10, (World.cell?_of_block (a := ⟨b, 11, none⟩) e).trans h.c11, (World.cell?_of_block (a := ⟨b, 12, none⟩) e).trans h.c12⟩
theorem Q13.below {w w' : World} {b : Nat} {v0 v1 v2 v3 v4 v5 v6 v7 v8 v9 v10 v11 v12 : Value} (h : Q13 w b v0 v1 v2 v3 v4 v5 v6 v7 v8 v9 v10 v11 v12) (hb : Below w.heap.size w w') : Q13 w' b v0 v1 v2 v3 v4 v5 v6 v7 v8 v9 v10 v11 v12 := h.of_block (hb.block b h.lt)
theorem Q13.new (w : World) (v0 v1 v2 v3 v4 v5 v6 v7 v8 v9 v10 v11 v12 : Value) (t : TypeId) : Q13 (w.alloc (.cells #[v0, v1, v2, v3, v4, v5, v6, v7, v8, v9, v10, v11, v12] t)) w.heap.size v0 v1 v2 v3 v4 v5 v6 v7 v8 v9 v10 v11 v12 := ⟨by simp, by simp, by simp, by simp, by simp, by simp, by simp, by simp, by simp, by simp, by simp, by simp, by simp⟩
theorem Q13.cs {w : World} {b : Nat} {v0 v1 v2 v3 v4 v5 v6 v7 v8 v9 v10 v11 v12 : Value} (h : Q13 w b v0 v1 v2 v3 v4 v5 v6 v7 v8 v9 v10 v11 v12) : w.cell? ⟨b, 0, none⟩ = some v0 ∧ w.cell? ⟨b, 1, none⟩ = some v1 ∧ w.cell? ⟨b, 2, none⟩ = some v2 ∧ w.cell? ⟨b, 3, none⟩ = some v3 ∧ w.cell? ⟨b, 4, none⟩ = some v4 ∧ w.cell? ⟨b, 5, none⟩ = some v5 ∧ w.cell? ⟨b, 6, none⟩ = some v6 ∧ w.cell? ⟨b, 7, none⟩ = some v7 ∧ w.cell? ⟨b, 8, none⟩ = some v8 ∧ w.cell? ⟨b, 9, none⟩ = some v9 ∧ w.cell? ⟨b, 10, none⟩ = some v10 ∧ w.cell? ⟨b, 11, none⟩ = some v11 ∧ w.cell? ⟨b, 12, none⟩ = some v12 := ⟨h.c0, h.c1, h.c2, h.c3, h.c4, h.c5, h.c6, h.c7, h.c8, h.c9, h.c10, h.c11, h.c12⟩
theorem heap10 (w : World) (B b : Nat) (h : b ≠ B) (u0 u1 u2 u3 u4 u5 u6 u7 u8 u9 : Value) : ((((((((((w.setCell ⟨B, 0, none⟩ u0).setCell ⟨B, 1, none⟩ u1).setCell ⟨B, 2, none⟩ u2).setCell ⟨B, 3, none⟩ u3).setCell ⟨B, 4, none⟩ u4).setCell ⟨B, 5, none⟩ u5).setCell ⟨B, 6, none⟩ u6).setCell ⟨B, 7, none⟩ u7).setCell ⟨B, 8, none⟩ u8).setCell ⟨B, 9, none⟩ u9).heap[b]? = w.heap[b]? :=
  ((Below.heap_setCell _ ⟨B, 9, none⟩ u9 b h).trans ((Below.heap_setCell _ ⟨B, 8, none⟩ u8 b h).trans ((Below.heap_setCell _ ⟨B, 7, none⟩ u7 b h).trans ((Below.heap_setCell _ ⟨B, 6, none⟩ u6 b h).trans ((Below.heap_setCell _ ⟨B, 5, none⟩ u5 b h).trans ((Below.heap_setCell _ ⟨B, 4, none⟩ u4 b h).trans ((Below.heap_setCell _ ⟨B, 3, none⟩ u3 b h).trans ((Below.heap_setCell _ ⟨B, 2, none⟩ u2 b h).trans ((Below.heap_setCell _ ⟨B, 1, none⟩ u1 b h).trans (Below.heap_setCell _ ⟨B, 0, none⟩ u0 b h))))))))))
set_option maxHeartbeats 16000000 in
set_option maxRecDepth 100000 in
theorem binned_2 (T fm tp s0 s1 s2 s3 : Int) (b0 b1 b2 b3 b4 : Bool) (w : World) :
    Calls Try.prog 90 #[.agg #[.int .i64 T, .bool b0, .bool b1, .bool b2, .bool b3, .bool b4, .int .i64 fm, .int .i64 2, .int .i64 tp, .int .i64 s0, .int .i64 s1, .int .i64 s2, .int .i64 s3]] w fun e w' => ∃ a' c', e = .returned (.agg #[.int .i64 fm, .int .i64 2, .int .i64 tp, .slice a' 2 c', .int .i64 T, .bool b0, .bool b1, .bool b2, .bool b3, .bool b4]) ∧ O9 w' w.heap.size a' c' [s0, s1] ∧ Below w.heap.size w w' := by
  have Bp := (Q13.new w (.int .i64 T) (.bool b0) (.bool b1) (.bool b2) (.bool b3) (.bool b4) (.int .i64 fm) (.int .i64 2) (.int .i64 tp) (.int .i64 s0) (.int .i64 s1) (.int .i64 s2) (.int .i64 s3) 117).below (al_b _ (.cells #[.int .i64 0, .int .i64 0, .int .i64 0, .slice none 0 0, .int .i64 0, .bool false, .bool false, .bool false, .bool false, .bool false] 55))
  have Br := Q10.new (w.alloc (.cells #[.int .i64 T, .bool b0, .bool b1, .bool b2, .bool b3, .bool b4, .int .i64 fm, .int .i64 2, .int .i64 tp, .int .i64 s0, .int .i64 s1, .int .i64 s2, .int .i64 s3] 117)) (.int .i64 0) (.int .i64 0) (.int .i64 0) (.slice none 0 0) (.int .i64 0) (.bool false) (.bool false) (.bool false) (.bool false) (.bool false) 55
  have bel := bel_al (bel_al (Below.refl w.heap.size w) (.cells #[.int .i64 T, .bool b0, .bool b1, .bool b2, .bool b3, .bool b4, .int .i64 fm, .int .i64 2, .int .i64 tp, .int .i64 s0, .int .i64 s1, .int .i64 s2, .int .i64 s3] 117)) (.cells #[.int .i64 0, .int .i64 0, .int .i64 0, .slice none 0 0, .int .i64 0, .bool false, .bool false, .bool false, .bool false, .bool false] 55)
  have hsz : (w.alloc (.cells #[.int .i64 T, .bool b0, .bool b1, .bool b2, .bool b3, .bool b4, .int .i64 fm, .int .i64 2, .int .i64 tp, .int .i64 s0, .int .i64 s1, .int .i64 s2, .int .i64 s3] 117)).heap.size = w.heap.size + 1 := by simp
  rw [hsz] at Br
  clear hsz
  have hsW : ((w.alloc (.cells #[.int .i64 T, .bool b0, .bool b1, .bool b2, .bool b3, .bool b4, .int .i64 fm, .int .i64 2, .int .i64 tp, .int .i64 s0, .int .i64 s1, .int .i64 s2, .int .i64 s3] 117)).alloc (.cells #[.int .i64 0, .int .i64 0, .int .i64 0, .slice none 0 0, .int .i64 0, .bool false, .bool false, .bool false, .bool false, .bool false] 55)).heap.size = w.heap.size + 2 := by simp
  go_enter Try.func90, Try.ntmps90
  go_upto_region 31 with fail
  generalize (w.alloc (.cells #[.int .i64 T, .bool b0, .bool b1, .bool b2, .bool b3, .bool b4, .int .i64 fm, .int .i64 2, .int .i64 tp, .int .i64 s0, .int .i64 s1, .int .i64 s2, .int .i64 s3] 117)).alloc (.cells #[.int .i64 0, .int .i64 0, .int .i64 0, .slice none 0 0, .int .i64 0, .bool false, .bool false, .bool false, .bool false, .bool false] 55) = W at Bp Br bel hsW ⊢
  obtain ⟨b, hb0⟩ : ∃ b, b = w.heap.size := ⟨_, rfl⟩
  have hbw : w.heap.size ≤ b := by omega
  rw [← hb0] at Bp Br hsW ⊢
  clear hb0
  have belR := Below.drew (Below.refl W.heap.size W)
  refine wp_region_held_drew (S := fun w' => w'.cell? ⟨b, 0, none⟩ = some (.int .i64 T) ∧ w'.cell? ⟨b, 1, none⟩ = some (.bool b0) ∧ w'.cell? ⟨b, 2, none⟩ = some (.bool b1) ∧ w'.cell? ⟨b, 3, none⟩ = some (.bool b2) ∧ w'.cell? ⟨b, 4, none⟩ = some (.bool b3) ∧ w'.cell? ⟨b, 5, none⟩ = some (.bool b4) ∧ w'.cell? ⟨b, 6, none⟩ = some (.int .i64 fm) ∧ w'.cell? ⟨b, 7, none⟩ = some (.int .i64 2) ∧ w'.cell? ⟨b, 8, none⟩ = some (.int .i64 tp) ∧ w'.cell? ⟨b, 9, none⟩ = some (.int .i64 s0) ∧ w'.cell? ⟨b, 10, none⟩ = some (.int .i64 s1) ∧ w'.cell? ⟨b, 11, none⟩ = some (.int .i64 s2) ∧ w'.cell? ⟨b, 12, none⟩ = some (.int .i64 s3)) (by kernel_rfl) ?_ (fun hHeld => ?_)
  · exact Bp.cs
  generalize W.drew = v0 at belR hHeld ⊢
  refine tk 0 ?_ rfl (Or.inl ⟨by rfl, ?_⟩) ?_
  rotate_left
  · (intro w hSw; go_simp; try (with_reducible rfl))
  try simp only [Act.put, Ls]
  refine tk 1 ?_ rfl (Or.inl ⟨by rfl, ?_⟩) ?_
  rotate_left
  · (intro w hSw; (try dsimp only at hSw); obtain ⟨hS0, hS1, hS2, hS3, hS4, hS5, hS6, hS7, hS8, hS9, hS10, hS11, hS12⟩ := hSw; go_simp; try (with_reducible rfl))
  try simp only [Act.put, Ls]
  refine tk 2 ?_ rfl (Or.inl ⟨by rfl, ?_⟩) ?_
  rotate_left
  · (intro w hSw; go_simp; try (with_reducible rfl))
  try simp only [Act.put, Ls]
  refine tk 3 ?_ rfl (Or.inl ⟨by rfl, ?_⟩) ?_
  rotate_left
  · (intro w hSw; (try dsimp only at hSw); obtain ⟨hS0, hS1, hS2, hS3, hS4, hS5, hS6, hS7, hS8, hS9, hS10, hS11, hS12⟩ := hSw; go_simp; try (with_reducible rfl))
  try simp only [Act.put, Ls]
  refine tk 4 ?_ rfl (Or.inl ⟨by rfl, ?_⟩) ?_
  rotate_left
  · (intro w hSw; go_simp; try (with_reducible rfl))
  try simp only [Act.put, Ls]
  refine tk 5 ?_ rfl (Or.inl ⟨by rfl, ?_⟩) ?_
  rotate_left
  · (intro w hSw; (try dsimp only at hSw); obtain ⟨hS0, hS1, hS2, hS3, hS4, hS5, hS6, hS7, hS8, hS9, hS10, hS11, hS12⟩ := hSw; go_simp; try (with_reducible rfl))
  try simp only [Act.put, Ls]
  refine tk 6 ?_ rfl (Or.inl ⟨by rfl, ?_⟩) ?_
  rotate_left
  · (intro w hSw; go_simp; try (with_reducible rfl))
  try simp only [Act.put, Ls]
  refine tk 7 ?_ rfl (Or.inl ⟨by rfl, ?_⟩) ?_
  rotate_left
  · (intro w hSw; go_simp; try (with_reducible rfl))
  try simp only [Act.put, Ls]
  refine tk 8 ?_ rfl (Or.inl ⟨by rfl, ?_⟩) ?_
  rotate_left
  · (intro w hSw; (try dsimp only at hSw); obtain ⟨hS0, hS1, hS2, hS3, hS4, hS5, hS6, hS7, hS8, hS9, hS10, hS11, hS12⟩ := hSw; go_simp; try (with_reducible rfl))
  try simp only [Act.put, Ls]
  refine tk 9 ?_ rfl (Or.inl ⟨by rfl, ?_⟩) ?_
  rotate_left
  · (intro w hSw; go_simp; try (with_reducible rfl))
  try simp only [Act.put, Ls]
  refine tk 11 ?_ rfl (Or.inl ⟨by rfl, ?_⟩) ?_
  rotate_left
  · (intro w hSw; go_simp; try (with_reducible rfl))
  try simp only [Act.put, Ls]
  refine tk 12 ?_ rfl (Or.inl ⟨by rfl, ?_⟩) ?_
  rotate_left
  · (intro w hSw; go_simp; try (with_reducible rfl))
  try simp only [Act.put, Ls]
  refine tk 13 ?_ rfl (Or.inl ⟨by rfl, ?_⟩) ?_
  rotate_left
  · (intro w hSw; (try dsimp only at hSw); obtain ⟨hS0, hS1, hS2, hS3, hS4, hS5, hS6, hS7, hS8, hS9, hS10, hS11, hS12⟩ := hSw; go_simp; try (with_reducible rfl))
  try simp only [Act.put, Ls]
  refine tk 14 ?_ rfl (Or.inl ⟨by rfl, ?_⟩) ?_
  rotate_left
  · (intro w hSw; go_simp; try (with_reducible rfl))
  try simp only [Act.put, Ls]
  refine tk 15 ?_ rfl (Or.inl ⟨by rfl, ?_⟩) ?_
  rotate_left
  · (intro w hSw; go_simp; try (with_reducible rfl))
  try simp only [Act.put, Ls]
  refine tk 16 ?_ rfl (Or.inl ⟨by rfl, ?_⟩) ?_
  rotate_left
  · (intro w hSw; (try dsimp only at hSw); obtain ⟨hS0, hS1, hS2, hS3, hS4, hS5, hS6, hS7, hS8, hS9, hS10, hS11, hS12⟩ := hSw; go_simp; try (with_reducible rfl))
  try simp only [Act.put, Ls]
  refine tk 17 ?_ rfl (Or.inl ⟨by rfl, ?_⟩) ?_
  rotate_left
  · (intro w hSw; go_simp; try (with_reducible rfl))
  try simp only [Act.put, Ls]
  refine tk 18 ?_ rfl (Or.inl ⟨by rfl, ?_⟩) ?_
  rotate_left
  · (intro w hSw; go_simp; try (with_reducible rfl))
  try simp only [Act.put, Ls]
  refine tk 19 ?_ rfl (Or.inl ⟨by rfl, ?_⟩) ?_
  rotate_left
  · (intro w hSw; (try dsimp only at hSw); obtain ⟨hS0, hS1, hS2, hS3, hS4, hS5, hS6, hS7, hS8, hS9, hS10, hS11, hS12⟩ := hSw; go_simp; try (with_reducible rfl))
  try simp only [Act.put, Ls]
  refine tk 20 ?_ rfl (Or.inl ⟨by rfl, ?_⟩) ?_
  rotate_left
  · (intro w hSw; go_simp; try (with_reducible rfl))
  try simp only [Act.put, Ls]
  refine tk 21 ?_ rfl (Or.inl ⟨by rfl, ?_⟩) ?_
  rotate_left
  · (intro w hSw; go_simp; try (with_reducible rfl))
  try simp only [Act.put, Ls]
  refine tk 22 ?_ rfl (Or.inl ⟨by rfl, ?_⟩) ?_
  rotate_left
  · (intro w hSw; (try dsimp only at hSw); obtain ⟨hS0, hS1, hS2, hS3, hS4, hS5, hS6, hS7, hS8, hS9, hS10, hS11, hS12⟩ := hSw; go_simp; try (with_reducible rfl))
  try simp only [Act.put, Ls]
  refine tk 23 ?_ rfl (Or.inl ⟨by rfl, ?_⟩) ?_
  rotate_left
  · (intro w hSw; go_simp; try (with_reducible rfl))
  try simp only [Act.put, Ls]
  refine tk 24 ?_ rfl (Or.inl ⟨by rfl, ?_⟩) ?_
  rotate_left
  · (intro w hSw; go_simp; try (with_reducible rfl))
  try simp only [Act.put, Ls]
  refine tk 25 ?_ rfl (Or.inl ⟨by rfl, ?_⟩) ?_
  rotate_left
  · (intro w hSw; (try dsimp only at hSw); obtain ⟨hS0, hS1, hS2, hS3, hS4, hS5, hS6, hS7, hS8, hS9, hS10, hS11, hS12⟩ := hSw; go_simp; try (with_reducible rfl))
  try simp only [Act.put, Ls]
  refine tk 26 ?_ rfl (Or.inl ⟨by rfl, ?_⟩) ?_
  rotate_left
  · (intro w hSw; go_simp; try (with_reducible rfl))
  try simp only [Act.put, Ls]
  refine tk 27 ?_ rfl (Or.inl ⟨by rfl, ?_⟩) ?_
  rotate_left
  · (intro w hSw; go_simp; try (with_reducible rfl))
  try simp only [Act.put, Ls]
  refine tk 28 ?_ rfl (Or.inl ⟨by rfl, ?_⟩) ?_
  rotate_left
  · (intro w hSw; (try dsimp only at hSw); obtain ⟨hS0, hS1, hS2, hS3, hS4, hS5, hS6, hS7, hS8, hS9, hS10, hS11, hS12⟩ := hSw; go_simp; try (with_reducible rfl))
  try simp only [Act.put, Ls]
  refine rdy 10 rfl (fun K hK => ?_)
  have hSl : Sl .i64 v0 (.slice (some ⟨b, 9, none⟩) ([s0, s1] : List Int).length 4) [s0, s1] := by
    obtain ⟨-, -, -, -, -, -, -, -, -, q0, q1, q2, q3⟩ := (Bp.below belR).cs
    exact ⟨some ⟨b, 9, none⟩, 4, rfl, (show 2 ≤ 4 by decide), (show 4 ≤ maxLen by decide), .inr ⟨b, 9, rfl, fun i hi => by
      have : i < 2 := hi
      rcases (show i = 0 ∨ i = 1 by omega) with rfl | rfl <;> simp_all⟩⟩
  go_simp
  go_at_call 135
  refine (cloneI_any (some ⟨b, 9, none⟩) 4 [s0, s1] v0 hSl (show 2 ≤ 1048576 by decide)).mono ?_
  rintro r v1 ⟨a', c', rfl, o1, hb1⟩
  have hv0 : W.heap.size ≤ v0.heap.size := belR.size
  replace belR := bel_go belR hb1
  refine hK.out _ _ ?_ (fun hHeld => ?_)
  · exact (Bp.below belR).cs
  clear hK K
  try simp only [Act.put, Ls]
  refine tk 29 ?_ rfl (Or.inl ⟨by rfl, ?_⟩) ?_
  rotate_left
  · (intro w hSw; go_simp; try (with_reducible rfl))
  try simp only [Act.put, Ls]
  refine rdy 30 rfl (fun K hK => ?_)
  have ⟨y0, y1, y2, y3, y4, y5, y6, y7, y8, y9, y10, y11, y12, y13, y14, y15, y16, y17, y18, y19⟩ := Br.below belR
  go_simp
  refine hK.out _ _ ?_ (fun hHeld => ?_)
  · exact ((Bp.below belR).of_block (heap10 v1 (b + 1) b (by omega) (.int .i64 fm) (.int .i64 2) (.int .i64 tp) (.slice a' 2 c') (.int .i64 T) (.bool b0) (.bool b1) (.bool b2) (.bool b3) (.bool b4))).cs
  clear hK K
  try simp only [Act.put, Ls]
  refine wpAnyH_done (by kernel_rfl) ?_ _
  go_wp2
  refine bodyPost_ret (v := .agg #[.int .i64 fm, .int .i64 2, .int .i64 tp, .slice a' 2 c', .int .i64 T, .bool b0, .bool b1, .bool b2, .bool b3, .bool b4]) (by simp [results, Try.results90, go_sem, y0, y1, y2, y3, y4, y5, y6, y7, y8, y9, y10, y11, y12, y13, y14, y15, y16, y17, y18, y19]) rfl ⟨a', c', rfl, ?_, ?_⟩
  · exact O9.base (O9.setBelow (O9.setBelow (O9.setBelow (O9.setBelow (O9.setBelow (O9.setBelow (O9.setBelow (O9.setBelow (O9.setBelow (O9.setBelow o1 (p := ⟨b + 1, 0, none⟩) (by simp only []; omega) (.int .i64 fm)) (p := ⟨b + 1, 1, none⟩) (by simp only []; omega) (.int .i64 2)) (p := ⟨b + 1, 2, none⟩) (by simp only []; omega) (.int .i64 tp)) (p := ⟨b + 1, 3, none⟩) (by simp only []; omega) (.slice a' 2 c')) (p := ⟨b + 1, 4, none⟩) (by simp only []; omega) (.int .i64 T)) (p := ⟨b + 1, 5, none⟩) (by simp only []; omega) (.bool b0)) (p := ⟨b + 1, 6, none⟩) (by simp only []; omega) (.bool b1)) (p := ⟨b + 1, 7, none⟩) (by simp only []; omega) (.bool b2)) (p := ⟨b + 1, 8, none⟩) (by simp only []; omega) (.bool b3)) (p := ⟨b + 1, 9, none⟩) (by simp only []; omega) (.bool b4)) (by omega)
  · exact (Below.setCell (Below.setCell (Below.setCell (Below.setCell (Below.setCell (Below.setCell (Below.setCell (Below.setCell (Below.setCell (Below.setCell (bel.trans (belR.mono bel.size)) (p := ⟨b + 1, 0, none⟩) (by simp only []; omega) (.int .i64 fm)) (p := ⟨b + 1, 1, none⟩) (by simp only []; omega) (.int .i64 2)) (p := ⟨b + 1, 2, none⟩) (by simp only []; omega) (.int .i64 tp)) (p := ⟨b + 1, 3, none⟩) (by simp only []; omega) (.slice a' 2 c')) (p := ⟨b + 1, 4, none⟩) (by simp only []; omega) (.int .i64 T)) (p := ⟨b + 1, 5, none⟩) (by simp only []; omega) (.bool b0)) (p := ⟨b + 1, 6, none⟩) (by simp only []; omega) (.bool b1)) (p := ⟨b + 1, 7, none⟩) (by simp only []; omega) (.bool b2)) (p := ⟨b + 1, 8, none⟩) (by simp only []; omega) (.bool b3)) (p := ⟨b + 1, 9, none⟩) (by simp only []; omega) (.bool b4))
set_option maxHeartbeats 16000000 in
set_option maxRecDepth 100000 in
theorem binned_3 (T fm tp s0 s1 s2 s3 : Int) (b0 b1 b2 b3 b4 : Bool) (w : World) :
    Calls Try.prog 90 #[.agg #[.int .i64 T, .bool b0, .bool b1, .bool b2, .bool b3, .bool b4, .int .i64 fm, .int .i64 3, .int .i64 tp, .int .i64 s0, .int .i64 s1, .int .i64 s2, .int .i64 s3]] w fun e w' => ∃ a' c', e = .returned (.agg #[.int .i64 fm, .int .i64 3, .int .i64 tp, .slice a' 3 c', .int .i64 T, .bool b0, .bool b1, .bool b2, .bool b3, .bool b4]) ∧ O9 w' w.heap.size a' c' [s0, s1, s2] ∧ Below w.heap.size w w' := by
  have Bp := (Q13.new w (.int .i64 T) (.bool b0) (.bool b1) (.bool b2) (.bool b3) (.bool b4) (.int .i64 fm) (.int .i64 3) (.int .i64 tp) (.int .i64 s0) (.int .i64 s1) (.int .i64 s2) (.int .i64 s3) 117).below (al_b _ (.cells #[.int .i64 0, .int .i64 0, .int .i64 0, .slice none 0 0, .int .i64 0, .bool false, .bool false, .bool false, .bool false, .bool false] 55))
  have Br := Q10.new (w.alloc (.cells #[.int .i64 T, .bool b0, .bool b1, .bool b2, .bool b3, .bool b4, .int .i64 fm, .int .i64 3, .int .i64 tp, .int .i64 s0, .int .i64 s1, .int .i64 s2, .int .i64 s3] 117)) (.int .i64 0) (.int .i64 0) (.int .i64 0) (.slice none 0 0) (.int .i64 0) (.bool false) (.bool false) (.bool false) (.bool false) (.bool false) 55
  have bel := bel_al (bel_al (Below.refl w.heap.size w) (.cells #[.int .i64 T, .bool b0, .bool b1, .bool b2, .bool b3, .bool b4, .int .i64 fm, .int .i64 3, .int .i64 tp, .int .i64 s0, .int .i64 s1, .int .i64 s2, .int .i64 s3] 117)) (.cells #[.int .i64 0, .int .i64 0, .int .i64 0, .slice none 0 0, .int .i64 0, .bool false, .bool false, .bool false, .bool false, .bool false] 55)
  have hsz : (w.alloc (.cells #[.int .i64 T, .bool b0, .bool b1, .bool b2, .bool b3, .bool b4, .int .i64 fm, .int .i64 3, .int .i64 tp, .int .i64 s0, .int .i64 s1, .int .i64 s2, .int .i64 s3] 117)).heap.size = w.heap.size + 1 := by simp
  rw [hsz] at Br
  clear hsz
  have hsW : ((w.alloc (.cells #[.int .i64 T, .bool b0, .bool b1, .bool b2, .bool b3, .bool b4, .int .i64 fm, .int .i64 3, .int .i64 tp, .int .i64 s0, .int .i64 s1, .int .i64 s2, .int .i64 s3] 117)).alloc (.cells #[.int .i64 0, .int .i64 0, .int .i64 0, .slice none 0 0, .int .i64 0, .bool false, .bool false, .bool false, .bool false, .bool false] 55)).heap.size = w.heap.size + 2 := by simp
  go_enter Try.func90, Try.ntmps90
  go_upto_region 31 with fail
  generalize (w.alloc (.cells #[.int .i64 T, .bool b0, .bool b1, .bool b2, .bool b3, .bool b4, .int .i64 fm, .int .i64 3, .int .i64 tp, .int .i64 s0, .int .i64 s1, .int .i64 s2, .int .i64 s3] 117)).alloc (.cells #[.int .i64 0, .int .i64 0, .int .i64 0, .slice none 0 0, .int .i64 0, .bool false, .bool false, .bool false, .bool false, .bool false] 55) = W at Bp Br bel hsW ⊢
  obtain ⟨b, hb0⟩ : ∃ b, b = w.heap.size := ⟨_, rfl⟩
  have hbw : w.heap.size ≤ b := by omega
  rw [← hb0] at Bp Br hsW ⊢
  clear hb0
  have belR := Below.drew (Below.refl W.heap.size W)
  refine wp_region_held_drew (S := fun w' => w'.cell? ⟨b, 0, none⟩ = some (.int .i64 T) ∧ w'.cell? ⟨b, 1, none⟩ = some (.bool b0) ∧ w'.cell? ⟨b, 2, none⟩ = some (.bool b1) ∧ w'.cell? ⟨b, 3, none⟩ = some (.bool b2) ∧ w'.cell? ⟨b, 4, none⟩ = some (.bool b3) ∧ w'.cell? ⟨b, 5, none⟩ = some (.bool b4) ∧ w'.cell? ⟨b, 6, none⟩ = some (.int .i64 fm) ∧ w'.cell? ⟨b, 7, none⟩ = some (.int .i64 3) ∧ w'.cell? ⟨b, 8, none⟩ = some (.int .i64 tp) ∧ w'.cell? ⟨b, 9, none⟩ = some (.int .i64 s0) ∧ w'.cell? ⟨b, 10, none⟩ = some (.int .i64 s1) ∧ w'.cell? ⟨b, 11, none⟩ = some (.int .i64 s2) ∧ w'.cell? ⟨b, 12, none⟩ = some (.int .i64 s3)) (by kernel_rfl) ?_ (fun hHeld => ?_)
  · exact Bp.cs
  generalize W.drew = v0 at belR hHeld ⊢
  refine tk 0 ?_ rfl (Or.inl ⟨by rfl, ?_⟩) ?_
  rotate_left
  · (intro w hSw; go_simp; try (with_reducible rfl))
  try simp only [Act.put, Ls]
  refine tk 1 ?_ rfl (Or.inl ⟨by rfl, ?_⟩) ?_
  rotate_left
  · (intro w hSw; (try dsimp only at hSw); obtain ⟨hS0, hS1, hS2, hS3, hS4, hS5, hS6, hS7, hS8, hS9, hS10, hS11, hS12⟩ := hSw; go_simp; try (with_reducible rfl))
  try simp only [Act.put, Ls]
  refine tk 2 ?_ rfl (Or.inl ⟨by rfl, ?_⟩) ?_
  rotate_left
  · (intro w hSw; go_simp; try (with_reducible rfl))
  try simp only [Act.put, Ls]
  refine tk 3 ?_ rfl (Or.inl ⟨by rfl, ?_⟩) ?_
  rotate_left
  · (intro w hSw; (try dsimp only at hSw); obtain ⟨hS0, hS1, hS2, hS3, hS4, hS5, hS6, hS7, hS8, hS9, hS10, hS11, hS12⟩ := hSw; go_simp; try (with_reducible rfl))
  try simp only [Act.put, Ls]
  refine tk 4 ?_ rfl (Or.inl ⟨by rfl, ?_⟩) ?_
  rotate_left
  · (intro w hSw; go_simp; try (with_reducible rfl))
  try simp only [Act.put, Ls]
  refine tk 5 ?_ rfl (Or.inl ⟨by rfl, ?_⟩) ?_
  rotate_left
  · (intro w hSw; (try dsimp only at hSw); obtain ⟨hS0, hS1, hS2, hS3, hS4, hS5, hS6, hS7, hS8, hS9, hS10, hS11, hS12⟩ := hSw; go_simp; try (with_reducible rfl))
  try simp only [Act.put, Ls]
  refine tk 6 ?_ rfl (Or.inl ⟨by rfl, ?_⟩) ?_
  rotate_left
  · (intro w hSw; go_simp; try (with_reducible rfl))
  try simp only [Act.put, Ls]
  refine tk 7 ?_ rfl (Or.inl ⟨by rfl, ?_⟩) ?_
  rotate_left
  · (intro w hSw; go_simp; try (with_reducible rfl))
  try simp only [Act.put, Ls]
  refine tk 8 ?_ rfl (Or.inl ⟨by rfl, ?_⟩) ?_
  rotate_left
  · (intro w hSw; (try dsimp only at hSw); obtain ⟨hS0, hS1, hS2, hS3, hS4, hS5, hS6, hS7, hS8, hS9, hS10, hS11, hS12⟩ := hSw; go_simp; try (with_reducible rfl))
  try simp only [Act.put, Ls]
  refine tk 9 ?_ rfl (Or.inl ⟨by rfl, ?_⟩) ?_
  rotate_left
  · (intro w hSw; go_simp; try (with_reducible rfl))
  try simp only [Act.put, Ls]
  refine tk 11 ?_ rfl (Or.inl ⟨by rfl, ?_⟩) ?_
  rotate_left
  · (intro w hSw; go_simp; try (with_reducible rfl))
  try simp only [Act.put, Ls]
  refine tk 12 ?_ rfl (Or.inl ⟨by rfl, ?_⟩) ?_
  rotate_left
  · (intro w hSw; go_simp; try (with_reducible rfl))
  try simp only [Act.put, Ls]
  refine tk 13 ?_ rfl (Or.inl ⟨by rfl, ?_⟩) ?_
  rotate_left
  · (intro w hSw; (try dsimp only at hSw); obtain ⟨hS0, hS1, hS2, hS3, hS4, hS5, hS6, hS7, hS8, hS9, hS10, hS11, hS12⟩ := hSw; go_simp; try (with_reducible rfl))
  try simp only [Act.put, Ls]
  refine tk 14 ?_ rfl (Or.inl ⟨by rfl, ?_⟩) ?_
  rotate_left
  · (intro w hSw; go_simp; try (with_reducible rfl))
  try simp only [Act.put, Ls]
  refine tk 15 ?_ rfl (Or.inl ⟨by rfl, ?_⟩) ?_
  rotate_left
  · (intro w hSw; go_simp; try (with_reducible rfl))
  try simp only [Act.put, Ls]
  refine tk 16 ?_ rfl (Or.inl ⟨by rfl, ?_⟩) ?_
  rotate_left
  · (intro w hSw; (try dsimp only at hSw); obtain ⟨hS0, hS1, hS2, hS3, hS4, hS5, hS6, hS7, hS8, hS9, hS10, hS11, hS12⟩ := hSw; go_simp; try (with_reducible rfl))
  try simp only [Act.put, Ls]
  refine tk 17 ?_ rfl (Or.inl ⟨by rfl, ?_⟩) ?_
  rotate_left
  · (intro w hSw; go_simp; try (with_reducible rfl))
  try simp only [Act.put, Ls]
  refine tk 18 ?_ rfl (Or.inl ⟨by rfl, ?_⟩) ?_
  rotate_left
  · (intro w hSw; go_simp; try (with_reducible rfl))
  try simp only [Act.put, Ls]
  refine tk 19 ?_ rfl (Or.inl ⟨by rfl, ?_⟩) ?_
  rotate_left
  · (intro w hSw; (try dsimp only at hSw); obtain ⟨hS0, hS1, hS2, hS3, hS4, hS5, hS6, hS7, hS8, hS9, hS10, hS11, hS12⟩ := hSw; go_simp; try (with_reducible rfl))
  try simp only [Act.put, Ls]
  refine tk 20 ?_ rfl (Or.inl ⟨by rfl, ?_⟩) ?_
  rotate_left
  · (intro w hSw; go_simp; try (with_reducible rfl))
  try simp only [Act.put, Ls]
  refine tk 21 ?_ rfl (Or.inl ⟨by rfl, ?_⟩) ?_
  rotate_left
  · (intro w hSw; go_simp; try (with_reducible rfl))
  try simp only [Act.put, Ls]
  refine tk 22 ?_ rfl (Or.inl ⟨by rfl, ?_⟩) ?_
  rotate_left
  · (intro w hSw; (try dsimp only at hSw); obtain ⟨hS0, hS1, hS2, hS3, hS4, hS5, hS6, hS7, hS8, hS9, hS10, hS11, hS12⟩ := hSw; go_simp; try (with_reducible rfl))
  try simp only [Act.put, Ls]
  refine tk 23 ?_ rfl (Or.inl ⟨by rfl, ?_⟩) ?_
  rotate_left
  · (intro w hSw; go_simp; try (with_reducible rfl))
  try simp only [Act.put, Ls]
  refine tk 24 ?_ rfl (Or.inl ⟨by rfl, ?_⟩) ?_
  rotate_left
  · (intro w hSw; go_simp; try (with_reducible rfl))
  try simp only [Act.put, Ls]
  refine tk 25 ?_ rfl (Or.inl ⟨by rfl, ?_⟩) ?_
  rotate_left
  · (intro w hSw; (try dsimp only at hSw); obtain ⟨hS0, hS1, hS2, hS3, hS4, hS5, hS6, hS7, hS8, hS9, hS10, hS11, hS12⟩ := hSw; go_simp; try (with_reducible rfl))
  try simp only [Act.put, Ls]
  refine tk 26 ?_ rfl (Or.inl ⟨by rfl, ?_⟩) ?_
  rotate_left
  · (intro w hSw; go_simp; try (with_reducible rfl))
  try simp only [Act.put, Ls]
  refine tk 27 ?_ rfl (Or.inl ⟨by rfl, ?_⟩) ?_
  rotate_left
  · (intro w hSw; go_simp; try (with_reducible rfl))
  try simp only [Act.put, Ls]
  refine tk 28 ?_ rfl (Or.inl ⟨by rfl, ?_⟩) ?_
  rotate_left
  · (intro w hSw; (try dsimp only at hSw); obtain ⟨hS0, hS1, hS2, hS3, hS4, hS5, hS6, hS7, hS8, hS9, hS10, hS11, hS12⟩ := hSw; go_simp; try (with_reducible rfl))
  try simp only [Act.put, Ls]
  refine rdy 10 rfl (fun K hK => ?_)
  have hSl : Sl .i64 v0 (.slice (some ⟨b, 9, none⟩) ([s0, s1, s2] : List Int).length 4) [s0, s1, s2] := by
    obtain ⟨-, -, -, -, -, -, -, -, -, q0, q1, q2, q3⟩ := (Bp.below belR).cs
    exact ⟨some ⟨b, 9, none⟩, 4, rfl, (show 3 ≤ 4 by decide), (show 4 ≤ maxLen by decide), .inr ⟨b, 9, rfl, fun i hi => by
      have : i < 3 := hi
      rcases (show i = 0 ∨ i = 1 ∨ i = 2 by omega) with rfl | rfl | rfl <;> simp_all⟩⟩
  go_simp
  go_at_call 135
  refine (cloneI_any (some ⟨b, 9, none⟩) 4 [s0, s1, s2] v0 hSl (show 3 ≤ 1048576 by decide)).mono ?_
  rintro r v1 ⟨a', c', rfl, o1, hb1⟩
  have hv0 : W.heap.size ≤ v0.heap.size := belR.size
  replace belR := bel_go belR hb1
  refine hK.out _ _ ?_ (fun hHeld => ?_)
  · exact (Bp.below belR).cs
  clear hK K
  try simp only [Act.put, Ls]
  refine tk 29 ?_ rfl (Or.inl ⟨by rfl, ?_⟩) ?_
  rotate_left
  · (intro w hSw; go_simp; try (with_reducible rfl))
  try simp only [Act.put, Ls]
  refine rdy 30 rfl (fun K hK => ?_)
  have ⟨y0, y1, y2, y3, y4, y5, y6, y7, y8, y9, y10, y11, y12, y13, y14, y15, y16, y17, y18, y19⟩ := Br.below belR
  go_simp
  refine hK.out _ _ ?_ (fun hHeld => ?_)
  · exact ((Bp.below belR).of_block (heap10 v1 (b + 1) b (by omega) (.int .i64 fm) (.int .i64 3) (.int .i64 tp) (.slice a' 3 c') (.int .i64 T) (.bool b0) (.bool b1) (.bool b2) (.bool b3) (.bool b4))).cs
  clear hK K
  try simp only [Act.put, Ls]
  refine wpAnyH_done (by kernel_rfl) ?_ _
  go_wp2
  refine bodyPost_ret (v := .agg #[.int .i64 fm, .int .i64 3, .int .i64 tp, .slice a' 3 c', .int .i64 T, .bool b0, .bool b1, .bool b2, .bool b3, .bool b4]) (by simp [results, Try.results90, go_sem, y0, y1, y2, y3, y4, y5, y6, y7, y8, y9, y10, y11, y12, y13, y14, y15, y16, y17, y18, y19]) rfl ⟨a', c', rfl, ?_, ?_⟩
  · exact O9.base (O9.setBelow (O9.setBelow (O9.setBelow (O9.setBelow (O9.setBelow (O9.setBelow (O9.setBelow (O9.setBelow (O9.setBelow (O9.setBelow o1 (p := ⟨b + 1, 0, none⟩) (by simp only []; omega) (.int .i64 fm)) (p := ⟨b + 1, 1, none⟩) (by simp only []; omega) (.int .i64 3)) (p := ⟨b + 1, 2, none⟩) (by simp only []; omega) (.int .i64 tp)) (p := ⟨b + 1, 3, none⟩) (by simp only []; omega) (.slice a' 3 c')) (p := ⟨b + 1, 4, none⟩) (by simp only []; omega) (.int .i64 T)) (p := ⟨b + 1, 5, none⟩) (by simp only []; omega) (.bool b0)) (p := ⟨b + 1, 6, none⟩) (by simp only []; omega) (.bool b1)) (p := ⟨b + 1, 7, none⟩) (by simp only []; omega) (.bool b2)) (p := ⟨b + 1, 8, none⟩) (by simp only []; omega) (.bool b3)) (p := ⟨b + 1, 9, none⟩) (by simp only []; omega) (.bool b4)) (by omega)
  · exact (Below.setCell (Below.setCell (Below.setCell (Below.setCell (Below.setCell (Below.setCell (Below.setCell (Below.setCell (Below.setCell (Below.setCell (bel.trans (belR.mono bel.size)) (p := ⟨b + 1, 0, none⟩) (by simp only []; omega) (.int .i64 fm)) (p := ⟨b + 1, 1, none⟩) (by simp only []; omega) (.int .i64 3)) (p := ⟨b + 1, 2, none⟩) (by simp only []; omega) (.int .i64 tp)) (p := ⟨b + 1, 3, none⟩) (by simp only []; omega) (.slice a' 3 c')) (p := ⟨b + 1, 4, none⟩) (by simp only []; omega) (.int .i64 T)) (p := ⟨b + 1, 5, none⟩) (by simp only []; omega) (.bool b0)) (p := ⟨b + 1, 6, none⟩) (by simp only []; omega) (.bool b1)) (p := ⟨b + 1, 7, none⟩) (by simp only []; omega) (.bool b2)) (p := ⟨b + 1, 8, none⟩) (by simp only []; omega) (.bool b3)) (p := ⟨b + 1, 9, none⟩) (by simp only []; omega) (.bool b4))
set_option maxHeartbeats 16000000 in
set_option maxRecDepth 100000 in
theorem binned_4 (T fm tp s0 s1 s2 s3 : Int) (b0 b1 b2 b3 b4 : Bool) (w : World) :
    Calls Try.prog 90 #[.agg #[.int .i64 T, .bool b0, .bool b1, .bool b2, .bool b3, .bool b4, .int .i64 fm, .int .i64 4, .int .i64 tp, .int .i64 s0, .int .i64 s1, .int .i64 s2, .int .i64 s3]] w fun e w' => ∃ a' c', e = .returned (.agg #[.int .i64 fm, .int .i64 4, .int .i64 tp, .slice a' 4 c', .int .i64 T, .bool b0, .bool b1, .bool b2, .bool b3, .bool b4]) ∧ O9 w' w.heap.size a' c' [s0, s1, s2, s3] ∧ Below w.heap.size w w' := by
  have Bp := (Q13.new w (.int .i64 T) (.bool b0) (.bool b1) (.bool b2) (.bool b3) (.bool b4) (.int .i64 fm) (.int .i64 4) (.int .i64 tp) (.int .i64 s0) (.int .i64 s1) (.int .i64 s2) (.int .i64 s3) 117).below (al_b _ (.cells #[.int .i64 0, .int .i64 0, .int .i64 0, .slice none 0 0, .int .i64 0, .bool false, .bool false, .bool false, .bool false, .bool false] 55))
  have Br := Q10.new (w.alloc (.cells #[.int .i64 T, .bool b0, .bool b1, .bool b2, .bool b3, .bool b4, .int .i64 fm, .int .i64 4, .int .i64 tp, .int .i64 s0, .int .i64 s1, .int .i64 s2, .int .i64 s3] 117)) (.int .i64 0) (.int .i64 0) (.int .i64 0) (.slice none 0 0) (.int .i64 0) (.bool false) (.bool false) (.bool false) (.bool false) (.bool false) 55
  have bel := bel_al (bel_al (Below.refl w.heap.size w) (.cells #[.int .i64 T, .bool b0, .bool b1, .bool b2, .bool b3, .bool b4, .int .i64 fm, .int .i64 4, .int .i64 tp, .int .i64 s0, .int .i64 s1, .int .i64 s2, .int .i64 s3] 117)) (.cells #[.int .i64 0, .int .i64 0, .int .i64 0, .slice none 0 0, .int .i64 0, .bool false, .bool false, .bool false, .bool false, .bool false] 55)
  have hsz : (w.alloc (.cells #[.int .i64 T, .bool b0, .bool b1, .bool b2, .bool b3, .bool b4, .int .i64 fm, .int .i64 4, .int .i64 tp, .int .i64 s0, .int .i64 s1, .int .i64 s2, .int .i64 s3] 117)).heap.size = w.heap.size + 1 := by simp
  rw [hsz] at Br
  clear hsz
  have hsW : ((w.alloc (.cells #[.int .i64 T, .bool b0, .bool b1, .bool b2, .bool b3, .bool b4, .int .i64 fm, .int .i64 4, .int .i64 tp, .int .i64 s0, .int .i64 s1, .int .i64 s2, .int .i64 s3] 117)).alloc (.cells #[.int .i64 0, .int .i64 0, .int .i64 0, .slice none 0 0, .int .i64 0, .bool false, .bool false, .bool false, .bool false, .bool false] 55)).heap.size = w.heap.size + 2 := by simp
  go_enter Try.func90, Try.ntmps90
  go_upto_region 31 with fail
  generalize (w.alloc (.cells #[.int .i64 T, .bool b0, .bool b1, .bool b2, .bool b3, .bool b4, .int .i64 fm, .int .i64 4, .int .i64 tp, .int .i64 s0, .int .i64 s1, .int .i64 s2, .int .i64 s3] 117)).alloc (.cells #[.int .i64 0, .int .i64 0, .int .i64 0, .slice none 0 0, .int .i64 0, .bool false, .bool false, .bool false, .bool false, .bool false] 55) = W at Bp Br bel hsW ⊢
  obtain ⟨b, hb0⟩ : ∃ b, b = w.heap.size := ⟨_, rfl⟩
  have hbw : w.heap.size ≤ b := by omega
  rw [← hb0] at Bp Br hsW ⊢
  clear hb0
  have belR := Below.drew (Below.refl W.heap.size W)
  refine wp_region_held_drew (S := fun w' => w'.cell? ⟨b, 0, none⟩ = some (.int .i64 T) ∧ w'.cell? ⟨b, 1, none⟩ = some (.bool b0) ∧ w'.cell? ⟨b, 2, none⟩ = some (.bool b1) ∧ w'.cell? ⟨b, 3, none⟩ = some (.bool b2) ∧ w'.cell? ⟨b, 4, none⟩ = some (.bool b3) ∧ w'.cell? ⟨b, 5, none⟩ = some (.bool b4) ∧ w'.cell? ⟨b, 6, none⟩ = some (.int .i64 fm) ∧ w'.cell? ⟨b, 7, none⟩ = some (.int .i64 4) ∧ w'.cell? ⟨b, 8, none⟩ = some (.int .i64 tp) ∧ w'.cell? ⟨b, 9, none⟩ = some (.int .i64 s0) ∧ w'.cell? ⟨b, 10, none⟩ = some (.int .i64 s1) ∧ w'.cell? ⟨b, 11, none⟩ = some (.int .i64 s2) ∧ w'.cell? ⟨b, 12, none⟩ = some (.int .i64 s3)) (by kernel_rfl) ?_ (fun hHeld => ?_)
  · exact Bp.cs
  generalize W.drew = v0 at belR hHeld ⊢
  refine tk 0 ?_ rfl (Or.inl ⟨by rfl, ?_⟩) ?_
  rotate_left
  · (intro w hSw; go_simp; try (with_reducible rfl))
  try simp only [Act.put, Ls]
  refine tk 1 ?_ rfl (Or.inl ⟨by rfl, ?_⟩) ?_
  rotate_left
  · (intro w hSw; (try dsimp only at hSw); obtain ⟨hS0, hS1, hS2, hS3, hS4, hS5, hS6, hS7, hS8, hS9, hS10, hS11, hS12⟩ := hSw; go_simp; try (with_reducible rfl))
  try simp only [Act.put, Ls]
  refine tk 2 ?_ rfl (Or.inl ⟨by rfl, ?_⟩) ?_
  rotate_left
  · (intro w hSw; go_simp; try (with_reducible rfl))
  try simp only [Act.put, Ls]
  refine tk 3 ?_ rfl (Or.inl ⟨by rfl, ?_⟩) ?_
  rotate_left
  · (intro w hSw; (try dsimp only at hSw); obtain ⟨hS0, hS1, hS2, hS3, hS4, hS5, hS6, hS7, hS8, hS9, hS10, hS11, hS12⟩ := hSw; go_simp; try (with_reducible rfl))
  try simp only [Act.put, Ls]
  refine tk 4 ?_ rfl (Or.inl ⟨by rfl, ?_⟩) ?_
  rotate_left
  · (intro w hSw; go_simp; try (with_reducible rfl))
  try simp only [Act.put, Ls]
  refine tk 5 ?_ rfl (Or.inl ⟨by rfl, ?_⟩) ?_
  rotate_left
  · (intro w hSw; (try dsimp only at hSw); obtain ⟨hS0, hS1, hS2, hS3, hS4, hS5, hS6, hS7, hS8, hS9, hS10, hS11, hS12⟩ := hSw; go_simp; try (with_reducible rfl))
  try simp only [Act.put, Ls]
  refine tk 6 ?_ rfl (Or.inl ⟨by rfl, ?_⟩) ?_
  rotate_left
  · (intro w hSw; go_simp; try (with_reducible rfl))
  try simp only [Act.put, Ls]
  refine tk 7 ?_ rfl (Or.inl ⟨by rfl, ?_⟩) ?_
  rotate_left
  · (intro w hSw; go_simp; try (with_reducible rfl))
  try simp only [Act.put, Ls]
  refine tk 8 ?_ rfl (Or.inl ⟨by rfl, ?_⟩) ?_
  rotate_left
  · (intro w hSw; (try dsimp only at hSw); obtain ⟨hS0, hS1, hS2, hS3, hS4, hS5, hS6, hS7, hS8, hS9, hS10, hS11, hS12⟩ := hSw; go_simp; try (with_reducible rfl))
  try simp only [Act.put, Ls]
  refine tk 9 ?_ rfl (Or.inl ⟨by rfl, ?_⟩) ?_
  rotate_left
  · (intro w hSw; go_simp; try (with_reducible rfl))
  try simp only [Act.put, Ls]
  refine tk 11 ?_ rfl (Or.inl ⟨by rfl, ?_⟩) ?_
  rotate_left
  · (intro w hSw; go_simp; try (with_reducible rfl))
  try simp only [Act.put, Ls]
  refine tk 12 ?_ rfl (Or.inl ⟨by rfl, ?_⟩) ?_
  rotate_left
  · (intro w hSw; go_simp; try (with_reducible rfl))
  try simp only [Act.put, Ls]
  refine tk 13 ?_ rfl (Or.inl ⟨by rfl, ?_⟩) ?_
  rotate_left
  · (intro w hSw; (try dsimp only at hSw); obtain ⟨hS0, hS1, hS2, hS3, hS4, hS5, hS6, hS7, hS8, hS9, hS10, hS11, hS12⟩ := hSw; go_simp; try (with_reducible rfl))
  try simp only [Act.put, Ls]
  refine tk 14 ?_ rfl (Or.inl ⟨by rfl, ?_⟩) ?_
  rotate_left
  · (intro w hSw; go_simp; try (with_reducible rfl))
  try simp only [Act.put, Ls]
  refine tk 15 ?_ rfl (Or.inl ⟨by rfl, ?_⟩) ?_
  rotate_left
  · (intro w hSw; go_simp; try (with_reducible rfl))
  try simp only [Act.put, Ls]
  refine tk 16 ?_ rfl (Or.inl ⟨by rfl, ?_⟩) ?_
  rotate_left
  · (intro w hSw; (try dsimp only at hSw); obtain ⟨hS0, hS1, hS2, hS3, hS4, hS5, hS6, hS7, hS8, hS9, hS10, hS11, hS12⟩ := hSw; go_simp; try (with_reducible rfl))
  try simp only [Act.put, Ls]
  refine tk 17 ?_ rfl (Or.inl ⟨by rfl, ?_⟩) ?_
  rotate_left
  · (intro w hSw; go_simp; try (with_reducible rfl))
  try simp only [Act.put, Ls]
  refine tk 18 ?_ rfl (Or.inl ⟨by rfl, ?_⟩) ?_
  rotate_left
  · (intro w hSw; go_simp; try (with_reducible rfl))
  try simp only [Act.put, Ls]
  refine tk 19 ?_ rfl (Or.inl ⟨by rfl, ?_⟩) ?_
  rotate_left
  · (intro w hSw; (try dsimp only at hSw); obtain ⟨hS0, hS1, hS2, hS3, hS4, hS5, hS6, hS7, hS8, hS9, hS10, hS11, hS12⟩ := hSw; go_simp; try (with_reducible rfl))
  try simp only [Act.put, Ls]
  refine tk 20 ?_ rfl (Or.inl ⟨by rfl, ?_⟩) ?_
  rotate_left
  · (intro w hSw; go_simp; try (with_reducible rfl))
  try simp only [Act.put, Ls]
  refine tk 21 ?_ rfl (Or.inl ⟨by rfl, ?_⟩) ?_
  rotate_left
  · (intro w hSw; go_simp; try (with_reducible rfl))
  try simp only [Act.put, Ls]
  refine tk 22 ?_ rfl (Or.inl ⟨by rfl, ?_⟩) ?_
  rotate_left
  · (intro w hSw; (try dsimp only at hSw); obtain ⟨hS0, hS1, hS2, hS3, hS4, hS5, hS6, hS7, hS8, hS9, hS10, hS11, hS12⟩ := hSw; go_simp; try (with_reducible rfl))
  try simp only [Act.put, Ls]
  refine tk 23 ?_ rfl (Or.inl ⟨by rfl, ?_⟩) ?_
  rotate_left
  · (intro w hSw; go_simp; try (with_reducible rfl))
  try simp only [Act.put, Ls]
  refine tk 24 ?_ rfl (Or.inl ⟨by rfl, ?_⟩) ?_
  rotate_left
  · (intro w hSw; go_simp; try (with_reducible rfl))
  try simp only [Act.put, Ls]
  refine tk 25 ?_ rfl (Or.inl ⟨by rfl, ?_⟩) ?_
  rotate_left
  · (intro w hSw; (try dsimp only at hSw); obtain ⟨hS0, hS1, hS2, hS3, hS4, hS5, hS6, hS7, hS8, hS9, hS10, hS11, hS12⟩ := hSw; go_simp; try (with_reducible rfl))
  try simp only [Act.put, Ls]
  refine tk 26 ?_ rfl (Or.inl ⟨by rfl, ?_⟩) ?_
  rotate_left
  · (intro w hSw; go_simp; try (with_reducible rfl))
  try simp only [Act.put, Ls]
  refine tk 27 ?_ rfl (Or.inl ⟨by rfl, ?_⟩) ?_
  rotate_left
  · (intro w hSw; go_simp; try (with_reducible rfl))
  try simp only [Act.put, Ls]
  refine tk 28 ?_ rfl (Or.inl ⟨by rfl, ?_⟩) ?_
  rotate_left
  · (intro w hSw; (try dsimp only at hSw); obtain ⟨hS0, hS1, hS2, hS3, hS4, hS5, hS6, hS7, hS8, hS9, hS10, hS11, hS12⟩ := hSw; go_simp; try (with_reducible rfl))
  try simp only [Act.put, Ls]
  refine rdy 10 rfl (fun K hK => ?_)
  have hSl : Sl .i64 v0 (.slice (some ⟨b, 9, none⟩) ([s0, s1, s2, s3] : List Int).length 4) [s0, s1, s2, s3] := by
    obtain ⟨-, -, -, -, -, -, -, -, -, q0, q1, q2, q3⟩ := (Bp.below belR).cs
    exact ⟨some ⟨b, 9, none⟩, 4, rfl, (show 4 ≤ 4 by decide), (show 4 ≤ maxLen by decide), .inr ⟨b, 9, rfl, fun i hi => by
      have : i < 4 := hi
      rcases (show i = 0 ∨ i = 1 ∨ i = 2 ∨ i = 3 by omega) with rfl | rfl | rfl | rfl <;> simp_all⟩⟩
  go_simp
  go_at_call 135
  refine (cloneI_any (some ⟨b, 9, none⟩) 4 [s0, s1, s2, s3] v0 hSl (show 4 ≤ 1048576 by decide)).mono ?_
  rintro r v1 ⟨a', c', rfl, o1, hb1⟩
  have hv0 : W.heap.size ≤ v0.heap.size := belR.size
  replace belR := bel_go belR hb1
  refine hK.out _ _ ?_ (fun hHeld => ?_)
  · exact (Bp.below belR).cs
  clear hK K
  try simp only [Act.put, Ls]
  refine tk 29 ?_ rfl (Or.inl ⟨by rfl, ?_⟩) ?_
  rotate_left
  · (intro w hSw; go_simp; try (with_reducible rfl))
  try simp only [Act.put, Ls]
  refine rdy 30 rfl (fun K hK => ?_)
  have ⟨y0, y1, y2, y3, y4, y5, y6, y7, y8, y9, y10, y11, y12, y13, y14, y15, y16, y17, y18, y19⟩ := Br.below belR
  go_simp
  refine hK.out _ _ ?_ (fun hHeld => ?_)
  · exact ((Bp.below belR).of_block (heap10 v1 (b + 1) b (by omega) (.int .i64 fm) (.int .i64 4) (.int .i64 tp) (.slice a' 4 c') (.int .i64 T) (.bool b0) (.bool b1) (.bool b2) (.bool b3) (.bool b4))).cs
  clear hK K
  try simp only [Act.put, Ls]
  refine wpAnyH_done (by kernel_rfl) ?_ _
  go_wp2
  refine bodyPost_ret (v := .agg #[.int .i64 fm, .int .i64 4, .int .i64 tp, .slice a' 4 c', .int .i64 T, .bool b0, .bool b1, .bool b2, .bool b3, .bool b4]) (by simp [results, Try.results90, go_sem, y0, y1, y2, y3, y4, y5, y6, y7, y8, y9, y10, y11, y12, y13, y14, y15, y16, y17, y18, y19]) rfl ⟨a', c', rfl, ?_, ?_⟩
  · exact O9.base (O9.setBelow (O9.setBelow (O9.setBelow (O9.setBelow (O9.setBelow (O9.setBelow (O9.setBelow (O9.setBelow (O9.setBelow (O9.setBelow o1 (p := ⟨b + 1, 0, none⟩) (by simp only []; omega) (.int .i64 fm)) (p := ⟨b + 1, 1, none⟩) (by simp only []; omega) (.int .i64 4)) (p := ⟨b + 1, 2, none⟩) (by simp only []; omega) (.int .i64 tp)) (p := ⟨b + 1, 3, none⟩) (by simp only []; omega) (.slice a' 4 c')) (p := ⟨b + 1, 4, none⟩) (by simp only []; omega) (.int .i64 T)) (p := ⟨b + 1, 5, none⟩) (by simp only []; omega) (.bool b0)) (p := ⟨b + 1, 6, none⟩) (by simp only []; omega) (.bool b1)) (p := ⟨b + 1, 7, none⟩) (by simp only []; omega) (.bool b2)) (p := ⟨b + 1, 8, none⟩) (by simp only []; omega) (.bool b3)) (p := ⟨b + 1, 9, none⟩) (by simp only []; omega) (.bool b4)) (by omega)
  · exact (Below.setCell (Below.setCell (Below.setCell (Below.setCell (Below.setCell (Below.setCell (Below.setCell (Below.setCell (Below.setCell (Below.setCell (bel.trans (belR.mono bel.size)) (p := ⟨b + 1, 0, none⟩) (by simp only []; omega) (.int .i64 fm)) (p := ⟨b + 1, 1, none⟩) (by simp only []; omega) (.int .i64 4)) (p := ⟨b + 1, 2, none⟩) (by simp only []; omega) (.int .i64 tp)) (p := ⟨b + 1, 3, none⟩) (by simp only []; omega) (.slice a' 4 c')) (p := ⟨b + 1, 4, none⟩) (by simp only []; omega) (.int .i64 T)) (p := ⟨b + 1, 5, none⟩) (by simp only []; omega) (.bool b0)) (p := ⟨b + 1, 6, none⟩) (by simp only []; omega) (.bool b1)) (p := ⟨b + 1, 7, none⟩) (by simp only []; omega) (.bool b2)) (p := ⟨b + 1, 8, none⟩) (by simp only []; omega) (.bool b3)) (p := ⟨b + 1, 9, none⟩) (by simp only []; omega) (.bool b4))
/-- A new accumulator: its format, its bins' number, its top, its sums. -/
def bnF (fm k : Int) : Int := if fmtB fm && inZ k 2 4 then fm else 0
def bnK (fm k : Int) : Int := if fmtB fm && inZ k 2 4 then k else 0
def bnT (fm k : Int) : Int := if fmtB fm && inZ k 2 4 then -1 else 0
def bnS (fm k : Int) : List Int := if fmtB fm && inZ k 2 4 then List.replicate k.toNat 0 else []
theorem inz_nat {k : Int} (h : inZ k 2 4 = true) : ∃ n : Nat, k = n ∧ 2 ≤ n ∧ n ≤ 4 := by
  unfold inZ at h; simp at h; exact ⟨k.toNat, by omega, by omega, by omega⟩
theorem o9_none (w : World) (B : Nat) : O9 w B none 0 [] := ⟨by simp, .inl ⟨by simp, by simp⟩⟩
theorem bn_spec (fm k : Int) (w : World) :
    Calls Try.prog 34 #[.int .i64 fm, .int .i64 k] w fun e w' => ∃ a c, e = .returned (.agg #[.int .i64 (bnF fm k), .int .i64 (bnK fm k), .int .i64 (bnT fm k), .slice a (bnS fm k).length c, .int .i64 0, .bool false, .bool false, .bool false, .bool false, .bool false]) ∧ O9 w' w.heap.size a c (bnS fm k) ∧ Below w.heap.size w w' := by
  unfold bnF bnK bnT bnS
  cases h : (fmtB fm && inZ k 2 4)
  · exact (bn_spec_no fm k w h).mono fun r w' ⟨h1, h2⟩ => ⟨none, 0, h1, o9_none _ _, h2⟩
  · obtain ⟨hf, hk⟩ := (Bool.and_eq_true _ _).mp h
    obtain ⟨n, rfl, n2, n4⟩ := inz_nat hk
    refine (bn_spec_yes fm n w hf n2 n4).mono fun r w' ⟨g, h1, h2, h3⟩ => ⟨some ⟨g, 0, none⟩, n, ?_, ?_, h3⟩
    · rw [h1]; simp
    · simpa using h2
set_option maxHeartbeats 16000000 in
set_option maxRecDepth 100000 in
theorem bni_2 (fm : Int) (w : World) (hf : fmtB fm = true) :
    Calls Try.prog 35 #[.int .i64 fm, .int .i64 2] w fun e w' => ∃ a c, e = .returned (.agg #[.int .i64 fm, .int .i64 2, .int .i64 (-1), .slice a 2 c, .int .i64 0, .bool false, .bool false, .bool false, .bool false, .bool false]) ∧ O9 w' w.heap.size a c [0, 0] ∧ Below w.heap.size w w' := by
  have CF := hid (fun w' => form_B fm w')
  have CI := hid (fun w' => bco_i 2 w')
  have hi : inZ 2 2 4 = true := by decide
  rw [hf] at CF
  rw [hi] at CI
  clear hf hi
  have Br := Q10.new w (.int .i64 0) (.int .i64 0) (.int .i64 0) (.slice none 0 0) (.int .i64 0) (.bool false) (.bool false) (.bool false) (.bool false) (.bool false) 55
  have bel := bel_al (Below.refl w.heap.size w) (.cells #[.int .i64 0, .int .i64 0, .int .i64 0, .slice none 0 0, .int .i64 0, .bool false, .bool false, .bool false, .bool false, .bool false] 55)
  go_enter Try.func35, Try.ntmps35
  go_wp2_with fail
  refine (CF.out _).mono ?_
  rintro r w1 ⟨n, rfl, hn, hb⟩
  simp only [Bool.not_true] at hn
  replace Br := Br.below hb
  replace bel := bel_go bel hb
  clear hb
  go_wp2_with fail
  refine (CI.out _).mono ?_
  rintro r w2 ⟨rfl, rfl⟩
  go_wp2_with fail
  refine (binned_2 0 fm (-1) 0 0 0 0 false false false false false _).mono ?_
  rintro r w3 ⟨a', c', rfl, o3, hb⟩
  have l2 := bel.size
  have l3 := Br.lt
  replace Br := Br.below hb
  replace bel := bel_go bel hb
  clear hb
  have ⟨y0, y1, y2, y3, y4, y5, y6, y7, y8, y9, y10, y11, y12, y13, y14, y15, y16, y17, y18, y19⟩ := Br
  go_wp2
  refine bodyPost_ret (v := .agg #[.int .i64 fm, .int .i64 2, .int .i64 (-1), .slice a' 2 c', .int .i64 0, .bool false, .bool false, .bool false, .bool false, .bool false]) (by simp [results, Try.results35, go_sem, y0, y1, y2, y3, y4, y5, y6, y7, y8, y9, y10, y11, y12, y13, y14, y15, y16, y17, y18, y19]) rfl ⟨a', c', rfl, ?_, ?_⟩
  · exact O9.base (O9.setBelow (O9.setBelow (O9.setBelow (O9.setBelow (O9.setBelow (O9.setBelow (O9.setBelow (O9.setBelow (O9.setBelow (O9.setBelow o3 (p := ⟨w.heap.size, 0, none⟩) l3 (.int .i64 fm)) (p := ⟨w.heap.size, 1, none⟩) l3 (.int .i64 2)) (p := ⟨w.heap.size, 2, none⟩) l3 (.int .i64 (-1))) (p := ⟨w.heap.size, 3, none⟩) l3 (.slice a' 2 c')) (p := ⟨w.heap.size, 4, none⟩) l3 (.int .i64 0)) (p := ⟨w.heap.size, 5, none⟩) l3 (.bool false)) (p := ⟨w.heap.size, 6, none⟩) l3 (.bool false)) (p := ⟨w.heap.size, 7, none⟩) l3 (.bool false)) (p := ⟨w.heap.size, 8, none⟩) l3 (.bool false)) (p := ⟨w.heap.size, 9, none⟩) l3 (.bool false)) l2
  · exact (Below.setCell (Below.setCell (Below.setCell (Below.setCell (Below.setCell (Below.setCell (Below.setCell (Below.setCell (Below.setCell (Below.setCell bel (p := ⟨w.heap.size, 0, none⟩) (Nat.le_refl _) (.int .i64 fm)) (p := ⟨w.heap.size, 1, none⟩) (Nat.le_refl _) (.int .i64 2)) (p := ⟨w.heap.size, 2, none⟩) (Nat.le_refl _) (.int .i64 (-1))) (p := ⟨w.heap.size, 3, none⟩) (Nat.le_refl _) (.slice a' 2 c')) (p := ⟨w.heap.size, 4, none⟩) (Nat.le_refl _) (.int .i64 0)) (p := ⟨w.heap.size, 5, none⟩) (Nat.le_refl _) (.bool false)) (p := ⟨w.heap.size, 6, none⟩) (Nat.le_refl _) (.bool false)) (p := ⟨w.heap.size, 7, none⟩) (Nat.le_refl _) (.bool false)) (p := ⟨w.heap.size, 8, none⟩) (Nat.le_refl _) (.bool false)) (p := ⟨w.heap.size, 9, none⟩) (Nat.le_refl _) (.bool false))
set_option maxHeartbeats 16000000 in
set_option maxRecDepth 100000 in
theorem bni_3 (fm : Int) (w : World) (hf : fmtB fm = true) :
    Calls Try.prog 35 #[.int .i64 fm, .int .i64 3] w fun e w' => ∃ a c, e = .returned (.agg #[.int .i64 fm, .int .i64 3, .int .i64 (-1), .slice a 3 c, .int .i64 0, .bool false, .bool false, .bool false, .bool false, .bool false]) ∧ O9 w' w.heap.size a c [0, 0, 0] ∧ Below w.heap.size w w' := by
  have CF := hid (fun w' => form_B fm w')
  have CI := hid (fun w' => bco_i 3 w')
  have hi : inZ 3 2 4 = true := by decide
  rw [hf] at CF
  rw [hi] at CI
  clear hf hi
  have Br := Q10.new w (.int .i64 0) (.int .i64 0) (.int .i64 0) (.slice none 0 0) (.int .i64 0) (.bool false) (.bool false) (.bool false) (.bool false) (.bool false) 55
  have bel := bel_al (Below.refl w.heap.size w) (.cells #[.int .i64 0, .int .i64 0, .int .i64 0, .slice none 0 0, .int .i64 0, .bool false, .bool false, .bool false, .bool false, .bool false] 55)
  go_enter Try.func35, Try.ntmps35
  go_wp2_with fail
  refine (CF.out _).mono ?_
  rintro r w1 ⟨n, rfl, hn, hb⟩
  simp only [Bool.not_true] at hn
  replace Br := Br.below hb
  replace bel := bel_go bel hb
  clear hb
  go_wp2_with fail
  refine (CI.out _).mono ?_
  rintro r w2 ⟨rfl, rfl⟩
  go_wp2_with fail
  refine (binned_3 0 fm (-1) 0 0 0 0 false false false false false _).mono ?_
  rintro r w3 ⟨a', c', rfl, o3, hb⟩
  have l2 := bel.size
  have l3 := Br.lt
  replace Br := Br.below hb
  replace bel := bel_go bel hb
  clear hb
  have ⟨y0, y1, y2, y3, y4, y5, y6, y7, y8, y9, y10, y11, y12, y13, y14, y15, y16, y17, y18, y19⟩ := Br
  go_wp2
  refine bodyPost_ret (v := .agg #[.int .i64 fm, .int .i64 3, .int .i64 (-1), .slice a' 3 c', .int .i64 0, .bool false, .bool false, .bool false, .bool false, .bool false]) (by simp [results, Try.results35, go_sem, y0, y1, y2, y3, y4, y5, y6, y7, y8, y9, y10, y11, y12, y13, y14, y15, y16, y17, y18, y19]) rfl ⟨a', c', rfl, ?_, ?_⟩
  · exact O9.base (O9.setBelow (O9.setBelow (O9.setBelow (O9.setBelow (O9.setBelow (O9.setBelow (O9.setBelow (O9.setBelow (O9.setBelow (O9.setBelow o3 (p := ⟨w.heap.size, 0, none⟩) l3 (.int .i64 fm)) (p := ⟨w.heap.size, 1, none⟩) l3 (.int .i64 3)) (p := ⟨w.heap.size, 2, none⟩) l3 (.int .i64 (-1))) (p := ⟨w.heap.size, 3, none⟩) l3 (.slice a' 3 c')) (p := ⟨w.heap.size, 4, none⟩) l3 (.int .i64 0)) (p := ⟨w.heap.size, 5, none⟩) l3 (.bool false)) (p := ⟨w.heap.size, 6, none⟩) l3 (.bool false)) (p := ⟨w.heap.size, 7, none⟩) l3 (.bool false)) (p := ⟨w.heap.size, 8, none⟩) l3 (.bool false)) (p := ⟨w.heap.size, 9, none⟩) l3 (.bool false)) l2
  · exact (Below.setCell (Below.setCell (Below.setCell (Below.setCell (Below.setCell (Below.setCell (Below.setCell (Below.setCell (Below.setCell (Below.setCell bel (p := ⟨w.heap.size, 0, none⟩) (Nat.le_refl _) (.int .i64 fm)) (p := ⟨w.heap.size, 1, none⟩) (Nat.le_refl _) (.int .i64 3)) (p := ⟨w.heap.size, 2, none⟩) (Nat.le_refl _) (.int .i64 (-1))) (p := ⟨w.heap.size, 3, none⟩) (Nat.le_refl _) (.slice a' 3 c')) (p := ⟨w.heap.size, 4, none⟩) (Nat.le_refl _) (.int .i64 0)) (p := ⟨w.heap.size, 5, none⟩) (Nat.le_refl _) (.bool false)) (p := ⟨w.heap.size, 6, none⟩) (Nat.le_refl _) (.bool false)) (p := ⟨w.heap.size, 7, none⟩) (Nat.le_refl _) (.bool false)) (p := ⟨w.heap.size, 8, none⟩) (Nat.le_refl _) (.bool false)) (p := ⟨w.heap.size, 9, none⟩) (Nat.le_refl _) (.bool false))
set_option maxHeartbeats 16000000 in
set_option maxRecDepth 100000 in
theorem bni_4 (fm : Int) (w : World) (hf : fmtB fm = true) :
    Calls Try.prog 35 #[.int .i64 fm, .int .i64 4] w fun e w' => ∃ a c, e = .returned (.agg #[.int .i64 fm, .int .i64 4, .int .i64 (-1), .slice a 4 c, .int .i64 0, .bool false, .bool false, .bool false, .bool false, .bool false]) ∧ O9 w' w.heap.size a c [0, 0, 0, 0] ∧ Below w.heap.size w w' := by
  have CF := hid (fun w' => form_B fm w')
  have CI := hid (fun w' => bco_i 4 w')
  have hi : inZ 4 2 4 = true := by decide
  rw [hf] at CF
  rw [hi] at CI
  clear hf hi
  have Br := Q10.new w (.int .i64 0) (.int .i64 0) (.int .i64 0) (.slice none 0 0) (.int .i64 0) (.bool false) (.bool false) (.bool false) (.bool false) (.bool false) 55
  have bel := bel_al (Below.refl w.heap.size w) (.cells #[.int .i64 0, .int .i64 0, .int .i64 0, .slice none 0 0, .int .i64 0, .bool false, .bool false, .bool false, .bool false, .bool false] 55)
  go_enter Try.func35, Try.ntmps35
  go_wp2_with fail
  refine (CF.out _).mono ?_
  rintro r w1 ⟨n, rfl, hn, hb⟩
  simp only [Bool.not_true] at hn
  replace Br := Br.below hb
  replace bel := bel_go bel hb
  clear hb
  go_wp2_with fail
  refine (CI.out _).mono ?_
  rintro r w2 ⟨rfl, rfl⟩
  go_wp2_with fail
  refine (binned_4 0 fm (-1) 0 0 0 0 false false false false false _).mono ?_
  rintro r w3 ⟨a', c', rfl, o3, hb⟩
  have l2 := bel.size
  have l3 := Br.lt
  replace Br := Br.below hb
  replace bel := bel_go bel hb
  clear hb
  have ⟨y0, y1, y2, y3, y4, y5, y6, y7, y8, y9, y10, y11, y12, y13, y14, y15, y16, y17, y18, y19⟩ := Br
  go_wp2
  refine bodyPost_ret (v := .agg #[.int .i64 fm, .int .i64 4, .int .i64 (-1), .slice a' 4 c', .int .i64 0, .bool false, .bool false, .bool false, .bool false, .bool false]) (by simp [results, Try.results35, go_sem, y0, y1, y2, y3, y4, y5, y6, y7, y8, y9, y10, y11, y12, y13, y14, y15, y16, y17, y18, y19]) rfl ⟨a', c', rfl, ?_, ?_⟩
  · exact O9.base (O9.setBelow (O9.setBelow (O9.setBelow (O9.setBelow (O9.setBelow (O9.setBelow (O9.setBelow (O9.setBelow (O9.setBelow (O9.setBelow o3 (p := ⟨w.heap.size, 0, none⟩) l3 (.int .i64 fm)) (p := ⟨w.heap.size, 1, none⟩) l3 (.int .i64 4)) (p := ⟨w.heap.size, 2, none⟩) l3 (.int .i64 (-1))) (p := ⟨w.heap.size, 3, none⟩) l3 (.slice a' 4 c')) (p := ⟨w.heap.size, 4, none⟩) l3 (.int .i64 0)) (p := ⟨w.heap.size, 5, none⟩) l3 (.bool false)) (p := ⟨w.heap.size, 6, none⟩) l3 (.bool false)) (p := ⟨w.heap.size, 7, none⟩) l3 (.bool false)) (p := ⟨w.heap.size, 8, none⟩) l3 (.bool false)) (p := ⟨w.heap.size, 9, none⟩) l3 (.bool false)) l2
  · exact (Below.setCell (Below.setCell (Below.setCell (Below.setCell (Below.setCell (Below.setCell (Below.setCell (Below.setCell (Below.setCell (Below.setCell bel (p := ⟨w.heap.size, 0, none⟩) (Nat.le_refl _) (.int .i64 fm)) (p := ⟨w.heap.size, 1, none⟩) (Nat.le_refl _) (.int .i64 4)) (p := ⟨w.heap.size, 2, none⟩) (Nat.le_refl _) (.int .i64 (-1))) (p := ⟨w.heap.size, 3, none⟩) (Nat.le_refl _) (.slice a' 4 c')) (p := ⟨w.heap.size, 4, none⟩) (Nat.le_refl _) (.int .i64 0)) (p := ⟨w.heap.size, 5, none⟩) (Nat.le_refl _) (.bool false)) (p := ⟨w.heap.size, 6, none⟩) (Nat.le_refl _) (.bool false)) (p := ⟨w.heap.size, 7, none⟩) (Nat.le_refl _) (.bool false)) (p := ⟨w.heap.size, 8, none⟩) (Nat.le_refl _) (.bool false)) (p := ⟨w.heap.size, 9, none⟩) (Nat.le_refl _) (.bool false))
set_option maxHeartbeats 16000000 in
set_option maxRecDepth 100000 in
theorem bni_no (fm k : Int) (w : World) (h : (fmtB fm && inZ k 2 4) = false) :
    Calls Try.prog 35 #[.int .i64 fm, .int .i64 k] w fun e w' => e = .returned (.agg #[.int .i64 0, .int .i64 0, .int .i64 0, .slice none 0 0, .int .i64 0, .bool false, .bool false, .bool false, .bool false, .bool false]) ∧ Below w.heap.size w w' := by
  have CF := hid (fun w' => form_B fm w')
  have CI := hid (fun w' => bco_i k w')
  have Br := Q10.new w (.int .i64 0) (.int .i64 0) (.int .i64 0) (.slice none 0 0) (.int .i64 0) (.bool false) (.bool false) (.bool false) (.bool false) (.bool false) 55
  have bel := bel_al (Below.refl w.heap.size w) (.cells #[.int .i64 0, .int .i64 0, .int .i64 0, .slice none 0 0, .int .i64 0, .bool false, .bool false, .bool false, .bool false, .bool false] 55)
  cases hf : fmtB fm
  · rw [hf] at CF
    clear hf h CI
    go_enter Try.func35, Try.ntmps35
    go_wp2_with fail
    refine (CF.out _).mono ?_
    rintro r w1 ⟨n, rfl, hn, hb⟩
    simp only [Bool.not_false] at hn
    replace Br := Br.below hb
    replace bel := bel_go bel hb
    clear hb
    have ⟨y0, y1, y2, y3, y4, y5, y6, y7, y8, y9, y10, y11, y12, y13, y14, y15, y16, y17, y18, y19⟩ := Br
    go_wp2
    refine bodyPost_ret (v := .agg #[.int .i64 0, .int .i64 0, .int .i64 0, .slice none 0 0, .int .i64 0, .bool false, .bool false, .bool false, .bool false, .bool false]) (by simp [results, Try.results35, go_sem, y0, y1, y2, y3, y4, y5, y6, y7, y8, y9, y10, y11, y12, y13, y14, y15, y16, y17, y18, y19]) rfl ⟨rfl, (Below.setCell (Below.setCell (Below.setCell (Below.setCell (Below.setCell (Below.setCell (Below.setCell (Below.setCell (Below.setCell (Below.setCell bel (p := ⟨w.heap.size, 0, none⟩) (Nat.le_refl _) (.int .i64 0)) (p := ⟨w.heap.size, 1, none⟩) (Nat.le_refl _) (.int .i64 0)) (p := ⟨w.heap.size, 2, none⟩) (Nat.le_refl _) (.int .i64 0)) (p := ⟨w.heap.size, 3, none⟩) (Nat.le_refl _) (.slice none 0 0)) (p := ⟨w.heap.size, 4, none⟩) (Nat.le_refl _) (.int .i64 0)) (p := ⟨w.heap.size, 5, none⟩) (Nat.le_refl _) (.bool false)) (p := ⟨w.heap.size, 6, none⟩) (Nat.le_refl _) (.bool false)) (p := ⟨w.heap.size, 7, none⟩) (Nat.le_refl _) (.bool false)) (p := ⟨w.heap.size, 8, none⟩) (Nat.le_refl _) (.bool false)) (p := ⟨w.heap.size, 9, none⟩) (Nat.le_refl _) (.bool false))⟩
  · rw [hf, Bool.true_and] at h
    rw [hf] at CF
    rw [h] at CI
    clear hf h
    go_enter Try.func35, Try.ntmps35
    go_wp2_with fail
    refine (CF.out _).mono ?_
    rintro r w1 ⟨n, rfl, hn, hb⟩
    simp only [Bool.not_true] at hn
    replace Br := Br.below hb
    replace bel := bel_go bel hb
    clear hb
    go_wp2_with fail
    refine (CI.out _).mono ?_
    rintro r w2 ⟨rfl, rfl⟩
    have ⟨y0, y1, y2, y3, y4, y5, y6, y7, y8, y9, y10, y11, y12, y13, y14, y15, y16, y17, y18, y19⟩ := Br
    go_wp2
    refine bodyPost_ret (v := .agg #[.int .i64 0, .int .i64 0, .int .i64 0, .slice none 0 0, .int .i64 0, .bool false, .bool false, .bool false, .bool false, .bool false]) (by simp [results, Try.results35, go_sem, y0, y1, y2, y3, y4, y5, y6, y7, y8, y9, y10, y11, y12, y13, y14, y15, y16, y17, y18, y19]) rfl ⟨rfl, (Below.setCell (Below.setCell (Below.setCell (Below.setCell (Below.setCell (Below.setCell (Below.setCell (Below.setCell (Below.setCell (Below.setCell bel (p := ⟨w.heap.size, 0, none⟩) (Nat.le_refl _) (.int .i64 0)) (p := ⟨w.heap.size, 1, none⟩) (Nat.le_refl _) (.int .i64 0)) (p := ⟨w.heap.size, 2, none⟩) (Nat.le_refl _) (.int .i64 0)) (p := ⟨w.heap.size, 3, none⟩) (Nat.le_refl _) (.slice none 0 0)) (p := ⟨w.heap.size, 4, none⟩) (Nat.le_refl _) (.int .i64 0)) (p := ⟨w.heap.size, 5, none⟩) (Nat.le_refl _) (.bool false)) (p := ⟨w.heap.size, 6, none⟩) (Nat.le_refl _) (.bool false)) (p := ⟨w.heap.size, 7, none⟩) (Nat.le_refl _) (.bool false)) (p := ⟨w.heap.size, 8, none⟩) (Nat.le_refl _) (.bool false)) (p := ⟨w.heap.size, 9, none⟩) (Nat.le_refl _) (.bool false))⟩
theorem bn_impl (fm k : Int) (w : World) :
    Calls Try.prog 35 #[.int .i64 fm, .int .i64 k] w fun e w' => ∃ a c, e = .returned (.agg #[.int .i64 (bnF fm k), .int .i64 (bnK fm k), .int .i64 (bnT fm k), .slice a (bnS fm k).length c, .int .i64 0, .bool false, .bool false, .bool false, .bool false, .bool false]) ∧ O9 w' w.heap.size a c (bnS fm k) ∧ Below w.heap.size w w' := by
  unfold bnF bnK bnT bnS
  cases h : (fmtB fm && inZ k 2 4)
  · exact (bni_no fm k w h).mono fun r w' ⟨h1, h2⟩ => ⟨none, 0, h1, o9_none _ _, h2⟩
  · obtain ⟨hf, hk⟩ := (Bool.and_eq_true _ _).mp h
    obtain ⟨n, rfl, n2, n4⟩ := inz_nat hk
    rcases (show n = 2 ∨ n = 3 ∨ n = 4 by omega) with rfl | rfl | rfl
    · exact bni_2 fm w hf
    · exact bni_3 fm w hf
    · exact bni_4 fm w hf
end Go.Proofs.Ytmnfidkpnogfmaa
