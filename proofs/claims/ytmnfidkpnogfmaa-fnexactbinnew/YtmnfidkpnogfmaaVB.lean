/-
  Accumulators of a few bins in memory: the laws' own helpers.
-/
import Derived.Test.YtmnfidkpnogfmaaVI
import Derived.Test.YtmnfidkpnogfmaaVL
import Derived.Test.YtmnfidkpnogfmaaK05
import Derived.Test.YtmnfidkpnogfmaaK29
import Derived.Test.YtmnfidkpnogfmaaK10
namespace Go.Proofs.Ytmnfidkpnogfmaa
set_option linter.unusedVariables false
set_option linter.unusedSimpArgs false
open Go.RowKit Go.Deep
structure Q10 (w : World) (b : Nat) (v0 v1 v2 v3 v4 v5 v6 v7 v8 v9 : Value) : Prop where
  c0 : w.cell? ⟨b, 0, none⟩ = some v0
  c1 : w.cell? ⟨b, 1, none⟩ = some v1
  c2 : w.cell? ⟨b, 2, none⟩ = some v2
  c3 : w.cell? ⟨b, 3, none⟩ = some v3
  c4 : w.cell? ⟨b, 4, none⟩ = some v4
  c5 : w.cell? ⟨b, 5, none⟩ = some v5
  c6 : w.cell? ⟨b, 6, none⟩ = some v6
  c7 : w.cell? ⟨b, 7, none⟩ = some v7
  c8 : w.cell? ⟨b, 8, none⟩ = some v8
  c9 : w.cell? ⟨b, 9, none⟩ = some v9
  f0 : w.frozen? ⟨b, 0, none⟩ = false
  f1 : w.frozen? ⟨b, 1, none⟩ = false
  f2 : w.frozen? ⟨b, 2, none⟩ = false
  f3 : w.frozen? ⟨b, 3, none⟩ = false
  f4 : w.frozen? ⟨b, 4, none⟩ = false
  f5 : w.frozen? ⟨b, 5, none⟩ = false
  f6 : w.frozen? ⟨b, 6, none⟩ = false
  f7 : w.frozen? ⟨b, 7, none⟩ = false
  f8 : w.frozen? ⟨b, 8, none⟩ = false
  f9 : w.frozen? ⟨b, 9, none⟩ = false
theorem Q10.lt {w : World} {b : Nat} {v0 v1 v2 v3 v4 v5 v6 v7 v8 v9 : Value} (h : Q10 w b v0 v1 v2 v3 v4 v5 v6 v7 v8 v9) : b < w.heap.size := World.block_lt_of_cell? w _ h.c0
theorem Q10.of_block {w w' : World} {b : Nat} {v0 v1 v2 v3 v4 v5 v6 v7 v8 v9 : Value} (h : Q10 w b v0 v1 v2 v3 v4 v5 v6 v7 v8 v9) (e : w'.heap[b]? = w.heap[b]?) : Q10 w' b v0 v1 v2 v3 v4 v5 v6 v7 v8 v9 :=
  ⟨(World.cell?_of_block (a := ⟨b, 0, none⟩) e).trans h.c0, (World.cell?_of_block (a := ⟨b, 1, none⟩) e).trans h.c1, (World.cell?_of_block (a := ⟨b, 2, none⟩) e).trans h.c2, (World.cell?_of_block (a := ⟨b, 3, none⟩) e).trans h.c3, (World.cell?_of_block (a := ⟨b, 4, none⟩) e).trans h.c4, (World.cell?_of_block (a := ⟨b, 5, none⟩) e).trans h.c5, (World.cell?_of_block (a := ⟨b, 6, none⟩) e).trans h.c6, (World.cell?_of_block (a := ⟨b, 7, none⟩) e).trans h.c7, (World.cell?_of_block (a := ⟨b, 8, none⟩) e).trans h.c8, (World.cell?_of_block (a := ⟨b, 9, none⟩) e).trans h.c9, (World.frozen?_of_block (a := ⟨b, 0, none⟩) e).trans h.f0, (World.frozen?_of_block (a := ⟨b, 1, none⟩) e).trans h.f1, (World.frozen?_of_block (a := ⟨b, 2, none⟩) e).trans h.f2, (World.frozen?_of_block (a := ⟨b, 3, none⟩) e).trans h.f3, (World.frozen?_of_block (a := ⟨b, 4, none⟩) e).trans h.f4, (World.frozen?_of_block (a := ⟨b, 5, none⟩) e).trans h.f5, (World.frozen?_of_block (a := ⟨b, 6, none⟩) e).trans h.f6, (World.frozen?_of_block (a := ⟨b, 7, none⟩) e).trans h.f7, (World.frozen?_of_block (a := ⟨b, 8, none⟩) e).trans h.f8, (World.frozen?_of_block (a := ⟨b, 9, none⟩) e).trans h.f9⟩
theorem Q10.below {w w' : World} {b : Nat} {v0 v1 v2 v3 v4 v5 v6 v7 v8 v9 : Value} (h : Q10 w b v0 v1 v2 v3 v4 v5 v6 v7 v8 v9) (hb : Below w.heap.size w w') : Q10 w' b v0 v1 v2 v3 v4 v5 v6 v7 v8 v9 := h.of_block (hb.block b h.lt)
theorem Q10.new (w : World) (v0 v1 v2 v3 v4 v5 v6 v7 v8 v9 : Value) (t : TypeId) : Q10 (w.alloc (.cells #[v0, v1, v2, v3, v4, v5, v6, v7, v8, v9] t)) w.heap.size v0 v1 v2 v3 v4 v5 v6 v7 v8 v9 := ⟨by simp, by simp, by simp, by simp, by simp, by simp, by simp, by simp, by simp, by simp, by simp, by simp, by simp, by simp, by simp, by simp, by simp, by simp, by simp, by simp⟩
theorem Q10.alloc {w : World} {b : Nat} {v0 v1 v2 v3 v4 v5 v6 v7 v8 v9 : Value} (h : Q10 w b v0 v1 v2 v3 v4 v5 v6 v7 v8 v9) (o : Obj) : Q10 (w.alloc o) b v0 v1 v2 v3 v4 v5 v6 v7 v8 v9 := h.below ((Below.refl _ _).alloc (Nat.le_refl _) _)
theorem Q10.drew {w : World} {b : Nat} {v0 v1 v2 v3 v4 v5 v6 v7 v8 v9 : Value} (h : Q10 w b v0 v1 v2 v3 v4 v5 v6 v7 v8 v9) : Q10 w.drew b v0 v1 v2 v3 v4 v5 v6 v7 v8 v9 := ⟨h.c0, h.c1, h.c2, h.c3, h.c4, h.c5, h.c6, h.c7, h.c8, h.c9, h.f0, h.f1, h.f2, h.f3, h.f4, h.f5, h.f6, h.f7, h.f8, h.f9⟩
set_option maxHeartbeats 8000000 in
set_option maxRecDepth 100000 in
theorem eqB_same (f q tp te : Int) (b0 b1 b2 b3 b4 : Bool) (a a' : Option Addr) (c c' : Nat) (xs : List Int) (w : World) (s1 : Sl .i64 w (.slice a xs.length c) xs) (s2 : Sl .i64 w (.slice a' xs.length c') xs) (hl : xs.length ≤ 1048576) :
    Calls Try.prog 36 #[.agg #[.int .i64 f, .int .i64 q, .int .i64 tp, .slice a xs.length c, .int .i64 te, .bool b0, .bool b1, .bool b2, .bool b3, .bool b4], .agg #[.int .i64 f, .int .i64 q, .int .i64 tp, .slice a' xs.length c', .int .i64 te, .bool b0, .bool b1, .bool b2, .bool b3, .bool b4]] w fun e w' => e = .returned (.bool true) ∧ Below w.heap.size w w' := by
  have ne_f : (f != f) = false := by simp
  have ne_q : (q != q) = false := by simp
  have ne_tp : (tp != tp) = false := by simp
  have ne_te : (te != te) = false := by simp
  have ne_b0 : (b0 != b0) = false := by simp
  have ne_b1 : (b1 != b1) = false := by simp
  have ne_b2 : (b2 != b2) = false := by simp
  have ne_b3 : (b3 != b3) = false := by simp
  have ne_b4 : (b4 != b4) = false := by simp
  have bel := Below.refl w.heap.size w
  go_enter Try.func36, Try.ntmps36
  replace s1 := s1.below (al_b _ (.cells #[.int .i64 f, .int .i64 q, .int .i64 tp, .slice a xs.length c, .int .i64 te, .bool b0, .bool b1, .bool b2, .bool b3, .bool b4] 55))
  replace s2 := s2.below (al_b _ (.cells #[.int .i64 f, .int .i64 q, .int .i64 tp, .slice a xs.length c, .int .i64 te, .bool b0, .bool b1, .bool b2, .bool b3, .bool b4] 55))
  replace bel := bel_al bel (.cells #[.int .i64 f, .int .i64 q, .int .i64 tp, .slice a xs.length c, .int .i64 te, .bool b0, .bool b1, .bool b2, .bool b3, .bool b4] 55)
  have Bp := Q10.new w (.int .i64 f) (.int .i64 q) (.int .i64 tp) (.slice a xs.length c) (.int .i64 te) (.bool b0) (.bool b1) (.bool b2) (.bool b3) (.bool b4) 55
  replace s1 := s1.below (al_b _ (.cells #[.int .i64 f, .int .i64 q, .int .i64 tp, .slice a' xs.length c', .int .i64 te, .bool b0, .bool b1, .bool b2, .bool b3, .bool b4] 55))
  replace s2 := s2.below (al_b _ (.cells #[.int .i64 f, .int .i64 q, .int .i64 tp, .slice a' xs.length c', .int .i64 te, .bool b0, .bool b1, .bool b2, .bool b3, .bool b4] 55))
  replace Bp := Bp.below (al_b _ (.cells #[.int .i64 f, .int .i64 q, .int .i64 tp, .slice a' xs.length c', .int .i64 te, .bool b0, .bool b1, .bool b2, .bool b3, .bool b4] 55))
  replace bel := bel_al bel (.cells #[.int .i64 f, .int .i64 q, .int .i64 tp, .slice a' xs.length c', .int .i64 te, .bool b0, .bool b1, .bool b2, .bool b3, .bool b4] 55)
  have Br := Q10.new (w.alloc (.cells #[.int .i64 f, .int .i64 q, .int .i64 tp, .slice a xs.length c, .int .i64 te, .bool b0, .bool b1, .bool b2, .bool b3, .bool b4] 55)) (.int .i64 f) (.int .i64 q) (.int .i64 tp) (.slice a' xs.length c') (.int .i64 te) (.bool b0) (.bool b1) (.bool b2) (.bool b3) (.bool b4) 55
  have hsz : (w.alloc (.cells #[.int .i64 f, .int .i64 q, .int .i64 tp, .slice a xs.length c, .int .i64 te, .bool b0, .bool b1, .bool b2, .bool b3, .bool b4] 55)).heap.size = w.heap.size + 1 := by simp
  rw [hsz] at Br
  clear hsz
  obtain ⟨kp0, kp1, kp2, kp3, kp4, kp5, kp6, kp7, kp8, kp9, -, -, -, -, -, -, -, -, -, -⟩ := id Bp
  obtain ⟨kr0, kr1, kr2, kr3, kr4, kr5, kr6, kr7, kr8, kr9, -, -, -, -, -, -, -, -, -, -⟩ := id Br
  go_wp2_with fail
  refine (eqI_same a a' c c' xs _ s1 s2 (by omega)).mono ?_
  rintro r w1 ⟨rfl, hb⟩
  clear kp0 kp1 kp2 kp3 kp4 kp5 kp6 kp7 kp8 kp9 kr0 kr1 kr2 kr3 kr4 kr5 kr6 kr7 kr8 kr9
  replace bel := bel_go bel hb
  replace s1 := s1.below hb
  replace s2 := s2.below hb
  replace Bp := Bp.below hb
  replace Br := Br.below hb
  clear hb
  obtain ⟨kp0, kp1, kp2, kp3, kp4, kp5, kp6, kp7, kp8, kp9, -, -, -, -, -, -, -, -, -, -⟩ := id Bp
  obtain ⟨kr0, kr1, kr2, kr3, kr4, kr5, kr6, kr7, kr8, kr9, -, -, -, -, -, -, -, -, -, -⟩ := id Br
  go_wp2
  all_goals go_ret
  all_goals exact ⟨rfl, bel⟩
set_option maxHeartbeats 8000000 in
set_option maxRecDepth 100000 in
theorem markB_any (f q tp te : Int) (b0 b1 b2 b3 b4 : Bool) (a : Option Addr) (cap : Nat) (zs : List Int) (k : Int) (B : Nat) (w : World) (ho : O9 w B a cap zs) (hl : zs.length ≤ 1048576) (h0 : 0 ≤ k) (h1 : k ≤ 1073741824) :
    Calls Try.prog 37 #[.agg #[.int .i64 f, .int .i64 q, .int .i64 tp, .slice a zs.length cap, .int .i64 te, .bool b0, .bool b1, .bool b2, .bool b3, .bool b4], .int .i64 k] w fun e w' => e = .returned (.int .i64 (k + zs.length)) ∧ O9 w' B a cap (iot k zs.length) ∧ w.grownBy w' (Value.slice a zs.length cap).ownBlock := by
  go_enter Try.func37, Try.ntmps37
  go_wp2_with fail
  refine (mark9_any a cap zs k B _ (ho.below ((Below.refl _ _).alloc (Nat.le_refl _) _)) hl h0 h1).mono ?_
  rintro e w1 ⟨rfl, hown, hg⟩
  go_wp2
  go_ret
  refine ⟨rfl, hown, hg.os, hg.tape, hg.output, ?_, fun i hi hne => ?_⟩
  · have := hg.size; simp at this; omega
  · exact (hg.block i (by simp; omega) hne).trans (Below.heap_alloc _ _ _ hi)
set_option maxHeartbeats 8000000 in
set_option maxRecDepth 100000 in
theorem heldB_any (f q tp te : Int) (b0 b1 b2 b3 b4 : Bool) (a : Option Addr) (cap : Nat) (zs : List Int) (w : World) (hs : Sl .i64 w (.slice a zs.length cap) zs) (hz : I64 zs) (hl : zs.length ≤ 1048576) (hr : heldR 1 zs = 1 + zs.length) :
    Calls Try.prog 38 #[.agg #[.int .i64 f, .int .i64 q, .int .i64 tp, .slice a zs.length cap, .int .i64 te, .bool b0, .bool b1, .bool b2, .bool b3, .bool b4], .int .i64 1] w fun e w' => e = .returned (.int .i64 (1 + zs.length)) ∧ Below w.heap.size w w' := by
  have CH := hid (fun w' k => held9_any a cap zs 1 w' k hz hl (by decide) (by decide))
  rw [hr] at CH
  have hlt : decide ((1 : Int) + zs.length < 0) = false := decide_eq_false (by omega)
  clear hr hz hl
  go_enter Try.func38, Try.ntmps38
  go_wp2_with fail
  refine (CH.out _ (hs.below (bel_al (Below.refl _ _) _))).mono ?_
  rintro e w1 ⟨rfl, hb⟩
  go_wp2
  go_ret
  exact ⟨rfl, bel_go (bel_al (Below.refl _ _) _) hb⟩
end Go.Proofs.Ytmnfidkpnogfmaa
