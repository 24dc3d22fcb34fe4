/-
  What is needed of NA.
-/
import Derived.Test.YtmcflggionkhlaaGreatDoorE03
import Derived.Test.YtmcflggionkhlaaGreatDoorE33
set_option maxHeartbeats 16000000
set_option maxRecDepth 1000000
namespace Go.Proofs.YtmcflggionkhlaaGreatDoor
set_option linter.unusedVariables false
set_option linter.unusedSimpArgs false
open Go.RowKit Go.Deep
/-- A box of five cells that may be written. -/
structure Q5 (w : World) (b : Nat) (v0 v1 v2 v3 v4 : Value) : Prop where
  c0 : w.cell? ⟨b, 0, none⟩ = some v0
  c1 : w.cell? ⟨b, 1, none⟩ = some v1
  c2 : w.cell? ⟨b, 2, none⟩ = some v2
  c3 : w.cell? ⟨b, 3, none⟩ = some v3
  c4 : w.cell? ⟨b, 4, none⟩ = some v4
  f0 : w.frozen? ⟨b, 0, none⟩ = false
  f1 : w.frozen? ⟨b, 1, none⟩ = false
  f2 : w.frozen? ⟨b, 2, none⟩ = false
  f3 : w.frozen? ⟨b, 3, none⟩ = false
  f4 : w.frozen? ⟨b, 4, none⟩ = false
theorem Q5.lt {w : World} {b : Nat} {v0 v1 v2 v3 v4 : Value} (h : Q5 w b v0 v1 v2 v3 v4) : b < w.heap.size := World.block_lt_of_cell? w _ h.c0
theorem Q5.of_block {w w' : World} {b : Nat} {v0 v1 v2 v3 v4 : Value} (h : Q5 w b v0 v1 v2 v3 v4) (e : w'.heap[b]? = w.heap[b]?) : Q5 w' b v0 v1 v2 v3 v4 :=
  ⟨(World.cell?_of_block (a := ⟨b, 0, none⟩) e).trans h.c0, (World.cell?_of_block (a := ⟨b, 1, none⟩) e).trans h.c1, (World.cell?_of_block (a := ⟨b, 2, none⟩) e).trans h.c2, (World.cell?_of_block (a := ⟨b, 3, none⟩) e).trans h.c3, (World.cell?_of_block (a := ⟨b, 4, none⟩) e).trans h.c4, (World.frozen?_of_block (a := ⟨b, 0, none⟩) e).trans h.f0, (World.frozen?_of_block (a := ⟨b, 1, none⟩) e).trans h.f1, (World.frozen?_of_block (a := ⟨b, 2, none⟩) e).trans h.f2, (World.frozen?_of_block (a := ⟨b, 3, none⟩) e).trans h.f3, (World.frozen?_of_block (a := ⟨b, 4, none⟩) e).trans h.f4⟩
theorem Q5.below {w w' : World} {b : Nat} {v0 v1 v2 v3 v4 : Value} (h : Q5 w b v0 v1 v2 v3 v4) (hb : Below w.heap.size w w') : Q5 w' b v0 v1 v2 v3 v4 := h.of_block (hb.block b h.lt)
theorem Q5.new (w : World) (v0 v1 v2 v3 v4 : Value) (t : TypeId) : Q5 (w.alloc (.cells #[v0, v1, v2, v3, v4] t)) w.heap.size v0 v1 v2 v3 v4 := ⟨by simp, by simp, by simp, by simp, by simp, by simp, by simp, by simp, by simp, by simp⟩
theorem Q5.alloc {w : World} {b : Nat} {v0 v1 v2 v3 v4 : Value} (h : Q5 w b v0 v1 v2 v3 v4) (o : Obj) : Q5 (w.alloc o) b v0 v1 v2 v3 v4 := h.below ((Below.refl _ _).alloc (Nat.le_refl _) _)
theorem Q5.drew {w : World} {b : Nat} {v0 v1 v2 v3 v4 : Value} (h : Q5 w b v0 v1 v2 v3 v4) : Q5 w.drew b v0 v1 v2 v3 v4 := ⟨h.c0, h.c1, h.c2, h.c3, h.c4, h.f0, h.f1, h.f2, h.f3, h.f4⟩
theorem Q5.cs {w : World} {b : Nat} {v0 v1 v2 v3 v4 : Value} (h : Q5 w b v0 v1 v2 v3 v4) : w.cell? ⟨b, 0, none⟩ = some v0 ∧ w.cell? ⟨b, 1, none⟩ = some v1 ∧ w.cell? ⟨b, 2, none⟩ = some v2 ∧ w.cell? ⟨b, 3, none⟩ = some v3 ∧ w.cell? ⟨b, 4, none⟩ = some v4 := ⟨h.c0, h.c1, h.c2, h.c3, h.c4⟩
theorem heap5 (w : World) (B b : Nat) (h : b ≠ B) (u0 u1 u2 u3 u4 : Value) :
    (((((w.setCell ⟨B, 0, none⟩ u0).setCell ⟨B, 1, none⟩ u1).setCell ⟨B, 2, none⟩ u2).setCell ⟨B, 3, none⟩ u3).setCell ⟨B, 4, none⟩ u4).heap[b]? = w.heap[b]? := by
  rw [Below.heap_setCell _ _ _ _ h, Below.heap_setCell _ _ _ _ h, Below.heap_setCell _ _ _ _ h, Below.heap_setCell _ _ _ _ h, Below.heap_setCell _ _ _ _ h]
theorem keep5 {w : World} {B b : Nat} {v0 v1 v2 : Value} (h0 : w.cell? ⟨b, 0, none⟩ = some v0) (h1 : w.cell? ⟨b, 1, none⟩ = some v1) (h2 : w.cell? ⟨b, 2, none⟩ = some v2) (n : b ≠ B) (u0 u1 u2 u3 u4 : Value) (W : World)
    (hW : W = ((((w.setCell ⟨B, 0, none⟩ u0).setCell ⟨B, 1, none⟩ u1).setCell ⟨B, 2, none⟩ u2).setCell ⟨B, 3, none⟩ u3).setCell ⟨B, 4, none⟩ u4) :
    W.cell? ⟨b, 0, none⟩ = some v0 ∧ W.cell? ⟨b, 1, none⟩ = some v1 ∧ W.cell? ⟨b, 2, none⟩ = some v2 := by
  subst hW
  have e := heap5 w B b n u0 u1 u2 u3 u4
  exact ⟨(World.cell?_of_block (a := ⟨b, 0, none⟩) e).trans h0, (World.cell?_of_block (a := ⟨b, 1, none⟩) e).trans h1, (World.cell?_of_block (a := ⟨b, 2, none⟩) e).trans h2⟩
/-- The program's error for a quiet NaN lies in its cell. -/
abbrev ErrQ (w : World) (u : Value) : Prop := w.cell? ⟨1, 0, none⟩ = some (.iface 247 u)
theorem num_quiet (fm x : Int) (u : Value) (w : World) (hT : Tab w) (hq : ErrQ w u) (h0 : 0 ≤ x) (h1 : x < 18446744073709551616) (hc : cls fm x = 4) :
    Calls Tryz.prog 85 #[.int .i64 fm, .int .u64 x] w fun e w' => e = .returned (.tuple #[.agg #[.bool false, .bool false, .bool false, .slice none 0 0, .int .i64 0], .iface 168 (.agg #[.iface 247 u])]) ∧ Below w.heap.size w w' := by
  have C := hid (fun w' h => impl_cls fm x w' h h0 h1)
  rw [hc] at C
  clear hc
  have Q := Q5.new w (.bool false) (.bool false) (.bool false) (.slice none 0 0) (.int .i64 0) 99
  go_enter Tryz.func85, Tryz.ntmps85
  go_wp2_with fail
  refine (C.out _ (hT.below ((Below.refl _ _).alloc (Nat.le_refl _) _))).mono ?_
  rintro e w1 ⟨rfl, hb1⟩
  have hlt := World.block_lt_of_cell? w _ hq
  have hq1 : w1.cell? ⟨1, 0, none⟩ = some (.iface 247 u) := (hb1.cell (p := ⟨1, 0, none⟩) (by first | omega | (simp; done) | (simp; omega))).trans ((Below.cell ((Below.refl w.heap.size w).alloc (Nat.le_refl _) _) (p := ⟨1, 0, none⟩) hlt).trans hq)
  obtain ⟨r0, r1, r2, r3, r4, f0, f1, f2, f3, f4⟩ := Q.below hb1
  have hne : w.heap.size ≠ 1 := by (have h9 : (1 : Nat) < w.heap.size := hlt); omega
  clear Q hq
  go_wp2_with fail
  go_region
  all_goals go_wp2
  all_goals refine bodyPost_ret (v := .tuple #[.agg #[.bool false, .bool false, .bool false, .slice none 0 0, .int .i64 0], .iface 168 (.agg #[.iface 247 u])]) (by simp [results, Tryz.results85, go_sem, r0, r1, r2, r3, r4]) rfl ⟨rfl, ?_⟩
  all_goals exact (by (repeat with_reducible first | refine Below.setCell ?_ ?_ _ | exact bz0 _ _ | refine bz1 ?_ | refine bz2 ?_ _ | refine bz3 ?_ _ | refine bz4 ?_ hb1 | refine Below.alloc ?_ ?_ _ | refine Below.trans ?_ (Below.mono hb1 ?_)) <;> first | omega | (simp; done) | (simp; omega))
theorem num_signal (fm x : Int) (w : World) (hT : Tab w) (h0 : 0 ≤ x) (h1 : x < 18446744073709551616) (hc : cls fm x = 5) :
    Calls Tryz.prog 85 #[.int .i64 fm, .int .u64 x] w fun e w' => ∃ s : ByteArray, e = .returned (.tuple #[.agg #[.bool false, .bool false, .bool false, .slice none 0 0, .int .i64 0], .iface 168 (.agg #[.iface 170 (.agg #[.string s])])]) ∧ Below w.heap.size w w' := by
  have C := hid (fun w' h => impl_cls fm x w' h h0 h1)
  rw [hc] at C
  clear hc
  have Q := Q5.new w (.bool false) (.bool false) (.bool false) (.slice none 0 0) (.int .i64 0) 99
  go_enter Tryz.func85, Tryz.ntmps85
  go_wp2_with fail
  refine (C.out _ (hT.below ((Below.refl _ _).alloc (Nat.le_refl _) _))).mono ?_
  rintro e w1 ⟨rfl, hb1⟩
  obtain ⟨r0, r1, r2, r3, r4, f0, f1, f2, f3, f4⟩ := Q.below hb1
  clear Q
  go_wp2
  refine bodyPost_ret (by simp [results, Tryz.results85, go_sem, r0, r1, r2, r3, r4]; rfl) rfl ⟨_, rfl, ?_⟩
  exact (by (repeat with_reducible first | refine Below.setCell ?_ ?_ _ | exact bz0 _ _ | refine bz1 ?_ | refine bz2 ?_ _ | refine bz3 ?_ _ | refine bz4 ?_ hb1 | refine Below.alloc ?_ ?_ _ | refine Below.trans ?_ (Below.mono hb1 ?_)) <;> first | omega | (simp; done) | (simp; omega))
theorem num_inf (fm x : Int) (w : World) (hT : Tab w) (h0 : 0 ≤ x) (h1 : x < 18446744073709551616) (hc : cls fm x = 3) :
    Calls Tryz.prog 85 #[.int .i64 fm, .int .u64 x] w fun e w' => e = .returned (.tuple #[.agg #[.bool (sigB fm x), .bool true, .bool false, .slice none 0 0, .int .i64 0], .nilIface]) ∧ Below w.heap.size w w' := by
  have C := hid (fun w' h => impl_cls fm x w' h h0 h1)
  rw [hc] at C
  clear hc
  have CS := hid (fun w' h => impl_sig fm x w' h h0 h1)
  obtain ⟨sg, hsg⟩ : ∃ sg, sg = sigB fm x := ⟨_, rfl⟩
  rw [← hsg] at CS ⊢
  clear hsg
  have Q := Q5.new w (.bool false) (.bool false) (.bool false) (.slice none 0 0) (.int .i64 0) 99
  go_enter Tryz.func85, Tryz.ntmps85
  go_wp2_with fail
  have hT1 : Tab (w.alloc (.cells #[.bool false, .bool false, .bool false, .slice none 0 0, .int .i64 0] 99)) := hT.below ((Below.refl _ _).alloc (Nat.le_refl _) _)
  refine (C.out _ hT1).mono ?_
  rintro e w1 ⟨rfl, hb1⟩
  go_wp2_with fail
  refine (CS.out _ (hT1.below hb1)).mono ?_
  rintro e w2 ⟨rfl, hb2⟩
  obtain ⟨r0, r1, r2, r3, r4, f0, f1, f2, f3, f4⟩ := (Q.below hb1).below hb2
  clear Q
  go_wp2
  refine bodyPost_ret (v := .tuple #[.agg #[.bool sg, .bool true, .bool false, .slice none 0 0, .int .i64 0], .nilIface]) (by simp [results, Tryz.results85, go_sem, r0, r1, r2, r3, r4]) rfl ⟨rfl, ?_⟩
  exact (by (repeat with_reducible first | refine Below.setCell ?_ ?_ _ | exact bz0 _ _ | refine bz1 ?_ | refine bz2 ?_ _ | refine bz3 ?_ _ | refine bz4 ?_ hb2 | refine bz4 ?_ hb1 | refine Below.alloc ?_ ?_ _ | refine Below.trans ?_ (Below.mono hb2 ?_) | refine Below.trans ?_ (Below.mono hb1 ?_)) <;> first | omega | (simp; done) | (simp; omega))
theorem num_fin (fm x : Int) (w : World) (hT : Tab w) (h0 : 0 ≤ x) (h1 : x < 18446744073709551616) (hf : finB fm x = true) (G : Bool) (L : List Int) (E : Int) (hG : G = Nm.wn (if pS fm x then -pM fm x else pM fm x)) (hL : L = Nm.wl (if pS fm x then -pM fm x else pM fm x)) (hE : E = pE fm x) :
    Calls Tryz.prog 85 #[.int .i64 fm, .int .u64 x] w fun e w' => ∃ a' c', e = .returned (.tuple #[.agg #[.bool (pS fm x), .bool false, .bool G, .slice a' L.length c', .int .i64 E], .nilIface]) ∧ Own w' w.heap.size a' c' L ∧ Below w.heap.size w w' := by
  have hc : 0 ≤ cls fm x ∧ cls fm x ≤ 2 := by simpa [finB] using hf
  have C := hid (fun w' h => impl_cls fm x w' h h0 h1)
  have CP := hid (fun w' h => impl_parts fm x w' h h0 h1)
  have CG := hid (fun w' => signedM_z (pS fm x) (pM fm x) (pE fm x) w' (pM_bd fm x).1 (by have := (pM_bd fm x).2; omega))
  rw [← hG, ← hL] at CG
  rw [hf] at CP
  rw [← hE] at CP CG
  obtain ⟨sg, hsg⟩ : ∃ sg, sg = pS fm x := ⟨_, rfl⟩
  obtain ⟨m, hm⟩ : ∃ m, m = pM fm x := ⟨_, rfl⟩
  obtain ⟨c, hcc⟩ : ∃ c, c = cls fm x := ⟨_, rfl⟩
  rw [← hsg, ← hm] at CP CG
  rw [← hsg]
  rw [← hcc] at C hc
  clear hsg hm hcc hG hL hE hf
  have g3 : (c == 3) = false := by rw [beq_eq_false_iff_ne]; omega
  have g4 : (c == 4) = false := by rw [beq_eq_false_iff_ne]; omega
  have g5 : (c == 5) = false := by rw [beq_eq_false_iff_ne]; omega
  clear hc
  have Q := Q5.new w (.bool false) (.bool false) (.bool false) (.slice none 0 0) (.int .i64 0) 99
  go_enter Tryz.func85, Tryz.ntmps85
  go_wp2_with fail
  have hT1 : Tab (w.alloc (.cells #[.bool false, .bool false, .bool false, .slice none 0 0, .int .i64 0] 99)) := hT.below ((Below.refl _ _).alloc (Nat.le_refl _) _)
  refine (C.out _ hT1).mono ?_
  rintro e w1 ⟨rfl, hb1⟩
  go_wp2_with fail
  refine (CP.out _ (hT1.below hb1)).mono ?_
  rintro e w2 ⟨rfl, hb2⟩
  replace Q := ((Q.below hb1).below hb2).alloc (.cells #[.bool sg, .int .i64 m, .int .i64 E] 77)
  have bel2 : Below w.heap.size w w2 := (by repeat (first | exact bz0 _ _ | refine bz1 ?_ | refine bz2 ?_ _ | refine bz3 ?_ _ | refine bz4 ?_ hb2 | refine bz4 ?_ hb1 | refine bz5 ?_ _ | refine bz6 ?_ _ | refine bz7 ?_ hb2 | refine bz7 ?_ hb1))
  have R := R3.new w2 (.bool sg) (.int .i64 m) (.int .i64 E) 77
  have lw : w.heap.size < w2.heap.size := by have := hb1.size; have := hb2.size; simp at *; omega
  clear hb1 hb2 hT1
  have Rd := R3.dr R
  have rd0 := Rd.c0
  have rd1 := Rd.c1
  have rd2 := Rd.c2
  go_wp2_with fail
  go_region_held3 (fun w' => w'.cell? ⟨w2.heap.size, 0, none⟩ = some (.bool sg) ∧ w'.cell? ⟨w2.heap.size, 1, none⟩ = some (.int .i64 m) ∧ w'.cell? ⟨w2.heap.size, 2, none⟩ = some (.int .i64 E))
    (first | with_reducible assumption | with_reducible exact ⟨rd0, rd1, rd2⟩ | with_reducible exact keep5 k0 k1 k2 (by omega) _ _ _ _ _ _ rfl | fail)
    (first
      | (go_at_call 66; refine (CG.out _).mono ?_; rintro e q1 ⟨a1, k1', rfl, hp1, hq1⟩; have R1 := R3.below Rd hq1; have k0 := R1.c0; have k1 := R1.c1; have k2 := R1.c2; have f1 := And.intro k0 (And.intro k1 k2); obtain ⟨r0, r1, r2, r3, r4, g0, g1, g2, g3', g4'⟩ := Q.drew.below hq1))
  have hp2 : Own q1 (w2.heap.size + 1) a1 k1' L := by simpa using hp1
  go_wp2
  refine bodyPost_ret (v := .tuple #[.agg #[.bool sg, .bool false, .bool G, .slice a1 L.length k1', .int .i64 E], .nilIface]) (by simp [results, Tryz.results85, go_sem, r0, r1, r2, r3, r4]) rfl ⟨a1, k1', rfl, ?_, ?_⟩
  · refine Own.base (B := w2.heap.size + 1) ?_ (by omega)
    repeat (first | with_reducible exact hp2 | (with_reducible refine Own.setBelow ?_ ?_ _; rotate_left; (simp; try omega)))
  · exact (by (repeat with_reducible first | refine Below.setCell ?_ ?_ _ | exact bz0 _ _ | refine bz1 ?_ | refine bz2 ?_ _ | refine bz3 ?_ _ | refine bz4 ?_ hq1 | refine bz4 ?_ bel2 | refine Below.alloc ?_ ?_ _ | refine Below.trans ?_ (Below.mono hq1 ?_) | refine Below.trans ?_ (Below.mono bel2 ?_)) <;> first | omega | (simp; done) | (simp; omega))
end Go.Proofs.YtmcflggionkhlaaGreatDoor
