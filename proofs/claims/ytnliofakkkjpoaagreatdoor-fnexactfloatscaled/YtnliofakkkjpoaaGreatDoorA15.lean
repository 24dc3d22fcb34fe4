/-
  What is needed of NA, EF, AccC, AccF, NB, AccM, AccO, NO, AE, AccI, AF, LaidE, AH.
-/
import Derived.Lib.SmallJoins
import Derived.LaidSub
import Derived.LaidHandle
import Derived.MakeChecks
import Derived.Look8
import Derived.Test.YtnliofakkkjpoaaGreatDoorA14
set_option maxHeartbeats 16000000
set_option maxRecDepth 1000000
namespace Go.Proofs.YtnliofakkkjpoaaGreatDoor
set_option linter.unusedVariables false
set_option linter.unusedSimpArgs false
open Go.RowKit Go.Deep
/-- A box of five cells that may be written. -/
structure Q5 (w : World) (b : Nat) (v0 v1 v2 v3 v4 : Value) : Prop where
  c0 : w.cell? ⟨b, 0, none⟩ = some v0
  c1 : w.cell? ⟨b, 1, none⟩ = some v1
  c2 : w.cell? ⟨b, 2, none⟩ = some v2
  c3 : w.cell? ⟨b, 3, none⟩ = some v3
  c4 : w.cell? ⟨b, 4, none⟩ = some v4
  f0 : w.frozen? ⟨b, 0, none⟩ = false
  f1 : w.frozen? ⟨b, 1, none⟩ = false
  f2 : w.frozen? ⟨b, 2, none⟩ = false
  f3 : w.frozen? ⟨b, 3, none⟩ = false
  f4 : w.frozen? ⟨b, 4, none⟩ = false
theorem Q5.lt {w : World} {b : Nat} {v0 v1 v2 v3 v4 : Value} (h : Q5 w b v0 v1 v2 v3 v4) : b < w.heap.size := World.block_lt_of_cell? w _ h.c0
theorem Q5.of_block {w w' : World} {b : Nat} {v0 v1 v2 v3 v4 : Value} (h : Q5 w b v0 v1 v2 v3 v4) (e : w'.heap[b]? = w.heap[b]?) : Q5 w' b v0 v1 v2 v3 v4 :=
  ⟨(World.cell?_of_block (a := ⟨b, 0, none⟩) e).trans h.c0, (World.cell?_of_block (a := ⟨b, 1, none⟩) e).trans h.c1, (World.cell?_of_block (a := ⟨b, 2, none⟩) e).trans h.c2, (World.cell?_of_block (a := ⟨b, 3, none⟩) e).trans h.c3, (World.cell?_of_block (a := ⟨b, 4, none⟩) e).trans h.c4, (World.frozen?_of_block (a := ⟨b, 0, none⟩) e).trans h.f0, (World.frozen?_of_block (a := ⟨b, 1, none⟩) e).trans h.f1, (World.frozen?_of_block (a := ⟨b, 2, none⟩) e).trans h.f2, (World.frozen?_of_block (a := ⟨b, 3, none⟩) e).trans h.f3, (World.frozen?_of_block (a := ⟨b, 4, none⟩) e).trans h.f4⟩
theorem Q5.below {w w' : World} {b : Nat} {v0 v1 v2 v3 v4 : Value} (h : Q5 w b v0 v1 v2 v3 v4) (hb : Below w.heap.size w w') : Q5 w' b v0 v1 v2 v3 v4 := h.of_block (hb.block b h.lt)
theorem Q5.new (w : World) (v0 v1 v2 v3 v4 : Value) (t : TypeId) : Q5 (w.alloc (.cells #[v0, v1, v2, v3, v4] t)) w.heap.size v0 v1 v2 v3 v4 := ⟨by simp, by simp, by simp, by simp, by simp, by simp, by simp, by simp, by simp, by simp⟩
theorem Q5.alloc {w : World} {b : Nat} {v0 v1 v2 v3 v4 : Value} (h : Q5 w b v0 v1 v2 v3 v4) (o : Obj) : Q5 (w.alloc o) b v0 v1 v2 v3 v4 := h.below ((Below.refl _ _).alloc (Nat.le_refl _) _)
theorem Q5.drew {w : World} {b : Nat} {v0 v1 v2 v3 v4 : Value} (h : Q5 w b v0 v1 v2 v3 v4) : Q5 w.drew b v0 v1 v2 v3 v4 := ⟨h.c0, h.c1, h.c2, h.c3, h.c4, h.f0, h.f1, h.f2, h.f3, h.f4⟩
theorem Q5.cs {w : World} {b : Nat} {v0 v1 v2 v3 v4 : Value} (h : Q5 w b v0 v1 v2 v3 v4) : w.cell? ⟨b, 0, none⟩ = some v0 ∧ w.cell? ⟨b, 1, none⟩ = some v1 ∧ w.cell? ⟨b, 2, none⟩ = some v2 ∧ w.cell? ⟨b, 3, none⟩ = some v3 ∧ w.cell? ⟨b, 4, none⟩ = some v4 := ⟨h.c0, h.c1, h.c2, h.c3, h.c4⟩
theorem heap5 (w : World) (B b : Nat) (h : b ≠ B) (u0 u1 u2 u3 u4 : Value) :
    (((((w.setCell ⟨B, 0, none⟩ u0).setCell ⟨B, 1, none⟩ u1).setCell ⟨B, 2, none⟩ u2).setCell ⟨B, 3, none⟩ u3).setCell ⟨B, 4, none⟩ u4).heap[b]? = w.heap[b]? := by
  rw [Below.heap_setCell _ _ _ _ h, Below.heap_setCell _ _ _ _ h, Below.heap_setCell _ _ _ _ h, Below.heap_setCell _ _ _ _ h, Below.heap_setCell _ _ _ _ h]
theorem keep5 {w : World} {B b : Nat} {v0 v1 v2 : Value} (h0 : w.cell? ⟨b, 0, none⟩ = some v0) (h1 : w.cell? ⟨b, 1, none⟩ = some v1) (h2 : w.cell? ⟨b, 2, none⟩ = some v2) (n : b ≠ B) (u0 u1 u2 u3 u4 : Value) (W : World)
    (hW : W = ((((w.setCell ⟨B, 0, none⟩ u0).setCell ⟨B, 1, none⟩ u1).setCell ⟨B, 2, none⟩ u2).setCell ⟨B, 3, none⟩ u3).setCell ⟨B, 4, none⟩ u4) :
    W.cell? ⟨b, 0, none⟩ = some v0 ∧ W.cell? ⟨b, 1, none⟩ = some v1 ∧ W.cell? ⟨b, 2, none⟩ = some v2 := by
  subst hW
  have e := heap5 w B b n u0 u1 u2 u3 u4
  exact ⟨(World.cell?_of_block (a := ⟨b, 0, none⟩) e).trans h0, (World.cell?_of_block (a := ⟨b, 1, none⟩) e).trans h1, (World.cell?_of_block (a := ⟨b, 2, none⟩) e).trans h2⟩
/-- The program's error for a quiet NaN lies in its cell. -/
abbrev ErrQ (w : World) (u : Value) : Prop := w.cell? ⟨0, 0, none⟩ = some (.iface 244 u)
theorem num_quiet (fm x : Int) (u : Value) (w : World) (hT : Tab w) (hq : ErrQ w u) (h0 : 0 ≤ x) (h1 : x < 18446744073709551616) (hc : cls fm x = 4) :
    Calls Tryz.prog 96 #[.int .i64 fm, .int .u64 x] w fun e w' => e = .returned (.tuple #[.agg #[.bool false, .bool false, .bool false, .slice none 0 0, .int .i64 0], .iface 176 (.agg #[.iface 244 u])]) ∧ Below w.heap.size w w' := by
  have C := hid (fun w' h => impl_cls fm x w' h h0 h1)
  rw [hc] at C
  clear hc
  have Q := Q5.new w (.bool false) (.bool false) (.bool false) (.slice none 0 0) (.int .i64 0) 78
  go_enter Tryz.func96, Tryz.ntmps96
  go_wp2_with fail
  refine (C.out _ (hT.below ((Below.refl _ _).alloc (Nat.le_refl _) _))).mono ?_
  rintro e w1 ⟨rfl, hb1⟩
  have hlt := World.block_lt_of_cell? w _ hq
  have hq1 : w1.cell? ⟨0, 0, none⟩ = some (.iface 244 u) := (hb1.cell (p := ⟨0, 0, none⟩) (by first | omega | (simp; done) | (simp; omega))).trans ((Below.cell ((Below.refl w.heap.size w).alloc (Nat.le_refl _) _) (p := ⟨0, 0, none⟩) hlt).trans hq)
  obtain ⟨r0, r1, r2, r3, r4, f0, f1, f2, f3, f4⟩ := Q.below hb1
  have hne : w.heap.size ≠ 0 := by omega
  clear Q hq
  go_wp2_with fail
  go_region
  all_goals go_wp2
  all_goals refine bodyPost_ret (v := .tuple #[.agg #[.bool false, .bool false, .bool false, .slice none 0 0, .int .i64 0], .iface 176 (.agg #[.iface 244 u])]) (by simp [results, Tryz.results96, go_sem, r0, r1, r2, r3, r4]) rfl ⟨rfl, ?_⟩
  all_goals exact (by (repeat with_reducible first | refine Below.setCell ?_ ?_ _ | exact bz0 _ _ | refine bz1 ?_ | refine bz2 ?_ _ | refine bz3 ?_ _ | refine bz4 ?_ hb1 | refine Below.alloc ?_ ?_ _ | refine Below.trans ?_ (Below.mono hb1 ?_)) <;> first | omega | (simp; done) | (simp; omega))
theorem num_inf (fm x : Int) (w : World) (hT : Tab w) (h0 : 0 ≤ x) (h1 : x < 18446744073709551616) (hc : cls fm x = 3) :
    Calls Tryz.prog 96 #[.int .i64 fm, .int .u64 x] w fun e w' => e = .returned (.tuple #[.agg #[.bool (sigB fm x), .bool true, .bool false, .slice none 0 0, .int .i64 0], .nilIface]) ∧ Below w.heap.size w w' := by
  have C := hid (fun w' h => impl_cls fm x w' h h0 h1)
  rw [hc] at C
  clear hc
  have CS := hid (fun w' h => impl_sig fm x w' h h0 h1)
  obtain ⟨sg, hsg⟩ : ∃ sg, sg = sigB fm x := ⟨_, rfl⟩
  rw [← hsg] at CS ⊢
  clear hsg
  have Q := Q5.new w (.bool false) (.bool false) (.bool false) (.slice none 0 0) (.int .i64 0) 78
  go_enter Tryz.func96, Tryz.ntmps96
  go_wp2_with fail
  have hT1 : Tab (w.alloc (.cells #[.bool false, .bool false, .bool false, .slice none 0 0, .int .i64 0] 78)) := hT.below ((Below.refl _ _).alloc (Nat.le_refl _) _)
  refine (C.out _ hT1).mono ?_
  rintro e w1 ⟨rfl, hb1⟩
  go_wp2_with fail
  refine (CS.out _ (hT1.below hb1)).mono ?_
  rintro e w2 ⟨rfl, hb2⟩
  obtain ⟨r0, r1, r2, r3, r4, f0, f1, f2, f3, f4⟩ := (Q.below hb1).below hb2
  clear Q
  go_wp2
  refine bodyPost_ret (v := .tuple #[.agg #[.bool sg, .bool true, .bool false, .slice none 0 0, .int .i64 0], .nilIface]) (by simp [results, Tryz.results96, go_sem, r0, r1, r2, r3, r4]) rfl ⟨rfl, ?_⟩
  exact (by (repeat with_reducible first | refine Below.setCell ?_ ?_ _ | exact bz0 _ _ | refine bz1 ?_ | refine bz2 ?_ _ | refine bz3 ?_ _ | refine bz4 ?_ hb2 | refine bz4 ?_ hb1 | refine Below.alloc ?_ ?_ _ | refine Below.trans ?_ (Below.mono hb2 ?_) | refine Below.trans ?_ (Below.mono hb1 ?_)) <;> first | omega | (simp; done) | (simp; omega))
theorem num_fin (fm x : Int) (w : World) (hT : Tab w) (h0 : 0 ≤ x) (h1 : x < 18446744073709551616) (hf : finB fm x = true) (G : Bool) (L : List Int) (E : Int) (hG : G = Nm.wn (if pS fm x then -pM fm x else pM fm x)) (hL : L = Nm.wl (if pS fm x then -pM fm x else pM fm x)) (hE : E = pE fm x) :
    Calls Tryz.prog 96 #[.int .i64 fm, .int .u64 x] w fun e w' => ∃ a' c', e = .returned (.tuple #[.agg #[.bool (pS fm x), .bool false, .bool G, .slice a' L.length c', .int .i64 E], .nilIface]) ∧ Own w' w.heap.size a' c' L ∧ Below w.heap.size w w' := by
  have hc : 0 ≤ cls fm x ∧ cls fm x ≤ 2 := by simpa [finB] using hf
  have C := hid (fun w' h => impl_cls fm x w' h h0 h1)
  have CP := hid (fun w' h => impl_parts fm x w' h h0 h1)
  have CG := hid (fun w' => signedM_z (pS fm x) (pM fm x) (pE fm x) w' (pM_bd fm x).1 (by have := (pM_bd fm x).2; omega))
  rw [← hG, ← hL] at CG
  rw [hf] at CP
  rw [← hE] at CP CG
  obtain ⟨sg, hsg⟩ : ∃ sg, sg = pS fm x := ⟨_, rfl⟩
  obtain ⟨m, hm⟩ : ∃ m, m = pM fm x := ⟨_, rfl⟩
  obtain ⟨c, hcc⟩ : ∃ c, c = cls fm x := ⟨_, rfl⟩
  rw [← hsg, ← hm] at CP CG
  rw [← hsg]
  rw [← hcc] at C hc
  clear hsg hm hcc hG hL hE hf
  have g3 : (c == 3) = false := by rw [beq_eq_false_iff_ne]; omega
  have g4 : (c == 4) = false := by rw [beq_eq_false_iff_ne]; omega
  have g5 : (c == 5) = false := by rw [beq_eq_false_iff_ne]; omega
  clear hc
  have Q := Q5.new w (.bool false) (.bool false) (.bool false) (.slice none 0 0) (.int .i64 0) 78
  go_enter Tryz.func96, Tryz.ntmps96
  go_wp2_with fail
  have hT1 : Tab (w.alloc (.cells #[.bool false, .bool false, .bool false, .slice none 0 0, .int .i64 0] 78)) := hT.below ((Below.refl _ _).alloc (Nat.le_refl _) _)
  refine (C.out _ hT1).mono ?_
  rintro e w1 ⟨rfl, hb1⟩
  go_wp2_with fail
  refine (CP.out _ (hT1.below hb1)).mono ?_
  rintro e w2 ⟨rfl, hb2⟩
  replace Q := ((Q.below hb1).below hb2).alloc (.cells #[.bool sg, .int .i64 m, .int .i64 E] 113)
  have bel2 : Below w.heap.size w w2 := (by repeat (first | exact bz0 _ _ | refine bz1 ?_ | refine bz2 ?_ _ | refine bz3 ?_ _ | refine bz4 ?_ hb2 | refine bz4 ?_ hb1 | refine bz5 ?_ _ | refine bz6 ?_ _ | refine bz7 ?_ hb2 | refine bz7 ?_ hb1))
  have R := R3.new w2 (.bool sg) (.int .i64 m) (.int .i64 E) 113
  have lw : w.heap.size < w2.heap.size := by have := hb1.size; have := hb2.size; simp at *; omega
  clear hb1 hb2 hT1
  have Rd := R3.dr R
  have rd0 := Rd.c0
  have rd1 := Rd.c1
  have rd2 := Rd.c2
  go_wp2_with fail
  go_region_held3 (fun w' => w'.cell? ⟨w2.heap.size, 0, none⟩ = some (.bool sg) ∧ w'.cell? ⟨w2.heap.size, 1, none⟩ = some (.int .i64 m) ∧ w'.cell? ⟨w2.heap.size, 2, none⟩ = some (.int .i64 E))
    (first | with_reducible assumption | with_reducible exact ⟨rd0, rd1, rd2⟩ | with_reducible exact keep5 k0 k1 k2 (by omega) _ _ _ _ _ _ rfl | fail)
    (first
      | (go_at_call 164; refine (CG.out _).mono ?_; rintro e q1 ⟨a1, k1', rfl, hp1, hq1⟩; have R1 := R3.below Rd hq1; have k0 := R1.c0; have k1 := R1.c1; have k2 := R1.c2; have f1 := And.intro k0 (And.intro k1 k2); obtain ⟨r0, r1, r2, r3, r4, g0, g1, g2, g3', g4'⟩ := Q.drew.below hq1))
  have hp2 : Own q1 (w2.heap.size + 1) a1 k1' L := by simpa using hp1
  go_wp2
  refine bodyPost_ret (v := .tuple #[.agg #[.bool sg, .bool false, .bool G, .slice a1 L.length k1', .int .i64 E], .nilIface]) (by simp [results, Tryz.results96, go_sem, r0, r1, r2, r3, r4]) rfl ⟨a1, k1', rfl, ?_, ?_⟩
  · refine Own.base (B := w2.heap.size + 1) ?_ (by omega)
    repeat (first | with_reducible exact hp2 | (with_reducible refine Own.setBelow ?_ ?_ _; rotate_left; (simp; try omega)))
  · exact (by (repeat with_reducible first | refine Below.setCell ?_ ?_ _ | exact bz0 _ _ | refine bz1 ?_ | refine bz2 ?_ _ | refine bz3 ?_ _ | refine bz4 ?_ hq1 | refine bz4 ?_ bel2 | refine Below.alloc ?_ ?_ _ | refine Below.trans ?_ (Below.mono hq1 ?_) | refine Below.trans ?_ (Below.mono bel2 ?_)) <;> first | omega | (simp; done) | (simp; omega))
/-- What the program's variables hold. -/
structure EE (u : Value) (w : World) : Prop where
  t : Tab w
  g : EA.ErrT w
  q : ErrQ w u
def EX (w : World) : Prop := ∃ u, EE u w
theorem EE.below {u : Value} {w w' : World} (h : EE u w) (hb : Below w.heap.size w w') : EE u w' := ⟨h.t.below hb, EA.five h.g hb, (hb.cell (p := ⟨0, 0, none⟩) (World.block_lt_of_cell? w _ h.q)).trans h.q⟩
theorem EX.below {w w' : World} (h : EX w) (hb : Below w.heap.size w w') : EX w' := by obtain ⟨u, h⟩ := h; exact ⟨u, h.below hb⟩
/-- How far from 0 a sum of T terms may be. -/
def far (fm T : Int) : Nat := Nm.sh T.toNat (if fm = 32 then 554 else 4196)
/-- Whether an accumulator is right. -/
def accB (fm : Int) (ng : Bool) (zs : List Int) (T : Int) (nn bd pl mi am : Bool) : Bool :=
  fmtB fm && mkB T nn bd pl mi am && okB ng zs && decide (cmpL zs (Nm.lim (far fm T)) ≤ 0) && (!am || decide (zs.length = 0))
theorem mkB_T {T : Int} {nn bd pl mi am : Bool} (h : mkB T nn bd pl mi am = true) : 0 ≤ T ∧ T ≤ 1000000 := by
  unfold mkB at h; simp only [Bool.and_eq_true, decide_eq_true_eq] at h; exact h.1.1.1
theorem T_bl {T : Int} (h1 : T ≤ 1000000) : bitLen T.toNat ≤ 20 := (Nm.bl_le_iff _ 20).2 (by omega)
theorem far_bl (fm : Int) {T : Int} (h1 : T ≤ 1000000) : bitLen (far fm T) ≤ 4216 := by
  have h := T_bl h1
  unfold far Nm.sh
  by_cases h0 : T.toNat = 0
  · rw [h0]; split <;> rw [if_neg (by decide), Nat.zero_mul] <;> decide
  · by_cases hf : fm = 32
    · rw [if_pos hf, if_neg (by decide), Nm.bl_mul h0]; have : (554 : Int).toNat = 554 := rfl; omega
    · rw [if_neg hf, if_neg (by decide), Nm.bl_mul h0]; have : (4196 : Int).toNat = 4196 := rfl; omega
theorem Q9.new2 (w : World) (o : Obj) (v0 v1 v2 v3 v4 v5 v6 v7 v8 : Value) (t : TypeId) : Q9 ((w.alloc o).alloc (.cells #[v0, v1, v2, v3, v4, v5, v6, v7, v8] t)) (w.heap.size + 1) v0 v1 v2 v3 v4 v5 v6 v7 v8 := by simpa using Q9.new (w.alloc o) v0 v1 v2 v3 v4 v5 v6 v7 v8 t
/-- A box of 6 cells that may be written. -/
structure Q6 (w : World) (b : Nat) (v0 v1 v2 v3 v4 v5 : Value) : Prop where
  c0 : w.cell? ⟨b, 0, none⟩ = some v0
  c1 : w.cell? ⟨b, 1, none⟩ = some v1
  c2 : w.cell? ⟨b, 2, none⟩ = some v2
  c3 : w.cell? ⟨b, 3, none⟩ = some v3
  c4 : w.cell? ⟨b, 4, none⟩ = some v4
  c5 : w.cell? ⟨b, 5, none⟩ = some v5
  f0 : w.frozen? ⟨b, 0, none⟩ = false
  f1 : w.frozen? ⟨b, 1, none⟩ = false
  f2 : w.frozen? ⟨b, 2, none⟩ = false
  f3 : w.frozen? ⟨b, 3, none⟩ = false
  f4 : w.frozen? ⟨b, 4, none⟩ = false
  f5 : w.frozen? ⟨b, 5, none⟩ = false
theorem Q6.lt {w : World} {b : Nat} {v0 v1 v2 v3 v4 v5 : Value} (h : Q6 w b v0 v1 v2 v3 v4 v5) : b < w.heap.size := World.block_lt_of_cell? w _ h.c0
theorem Q6.of_block {w w' : World} {b : Nat} {v0 v1 v2 v3 v4 v5 : Value} (h : Q6 w b v0 v1 v2 v3 v4 v5) (e : w'.heap[b]? = w.heap[b]?) : Q6 w' b v0 v1 v2 v3 v4 v5 :=
  ⟨(World.cell?_of_block (a := ⟨b, 0, none⟩) e).trans h.c0, (World.cell?_of_block (a := ⟨b, 1, none⟩) e).trans h.c1, (World.cell?_of_block (a := ⟨b, 2, none⟩) e).trans h.c2, (World.cell?_of_block (a := ⟨b, 3, none⟩) e).trans h.c3, (World.cell?_of_block (a := ⟨b, 4, none⟩) e).trans h.c4, (World.cell?_of_block (a := ⟨b, 5, none⟩) e).trans h.c5, (World.frozen?_of_block (a := ⟨b, 0, none⟩) e).trans h.f0, (World.frozen?_of_block (a := ⟨b, 1, none⟩) e).trans h.f1, (World.frozen?_of_block (a := ⟨b, 2, none⟩) e).trans h.f2, (World.frozen?_of_block (a := ⟨b, 3, none⟩) e).trans h.f3, (World.frozen?_of_block (a := ⟨b, 4, none⟩) e).trans h.f4, (World.frozen?_of_block (a := ⟨b, 5, none⟩) e).trans h.f5⟩
theorem Q6.below {w w' : World} {b : Nat} {v0 v1 v2 v3 v4 v5 : Value} (h : Q6 w b v0 v1 v2 v3 v4 v5) (hb : Below w.heap.size w w') : Q6 w' b v0 v1 v2 v3 v4 v5 := h.of_block (hb.block b h.lt)
theorem Q6.new (w : World) (v0 v1 v2 v3 v4 v5 : Value) (t : TypeId) : Q6 (w.alloc (.cells #[v0, v1, v2, v3, v4, v5] t)) w.heap.size v0 v1 v2 v3 v4 v5 := ⟨by simp, by simp, by simp, by simp, by simp, by simp, by simp, by simp, by simp, by simp, by simp, by simp⟩
theorem Q6.alloc {w : World} {b : Nat} {v0 v1 v2 v3 v4 v5 : Value} (h : Q6 w b v0 v1 v2 v3 v4 v5) (o : Obj) : Q6 (w.alloc o) b v0 v1 v2 v3 v4 v5 := h.below ((Below.refl _ _).alloc (Nat.le_refl _) _)
theorem Q6.drew {w : World} {b : Nat} {v0 v1 v2 v3 v4 v5 : Value} (h : Q6 w b v0 v1 v2 v3 v4 v5) : Q6 w.drew b v0 v1 v2 v3 v4 v5 := ⟨h.c0, h.c1, h.c2, h.c3, h.c4, h.c5, h.f0, h.f1, h.f2, h.f3, h.f4, h.f5⟩
theorem Q6.cs {w : World} {b : Nat} {v0 v1 v2 v3 v4 v5 : Value} (h : Q6 w b v0 v1 v2 v3 v4 v5) : w.cell? ⟨b, 0, none⟩ = some v0 ∧ w.cell? ⟨b, 1, none⟩ = some v1 ∧ w.cell? ⟨b, 2, none⟩ = some v2 ∧ w.cell? ⟨b, 3, none⟩ = some v3 ∧ w.cell? ⟨b, 4, none⟩ = some v4 ∧ w.cell? ⟨b, 5, none⟩ = some v5 := ⟨h.c0, h.c1, h.c2, h.c3, h.c4, h.c5⟩
theorem zero_any (neg inf G : Bool) (p : Option Addr) (n cap : Nat) (e : Int) (w : World) (hn : n ≤ 9223372036854775807) :
    Calls Tryz.prog 155 #[.agg #[.bool neg, .bool inf, .bool G, .slice p n cap, .int .i64 e]] w fun r w' => r = .returned (.bool (!inf && decide (n = 0))) ∧ Below w.heap.size w w' := by
  cases inf with
  | true =>
    go_enter Tryz.func155, Tryz.ntmps155
    go_wp2
    go_ret
    exact ⟨rfl, (by repeat (first | exact bz0 _ _ | refine bz1 ?_ | refine bz2 ?_ _ | refine bz3 ?_ _ | refine bz5 ?_ _ | refine bz6 ?_ _))⟩
  | false =>
    have hb0 : ((n : Int) == 0) = decide (n = 0) := by rw [Bool.eq_iff_iff, beq_iff_eq, decide_eq_true_eq]; omega
    obtain ⟨z, hz⟩ : ∃ z, z = decide (n = 0) := ⟨_, rfl⟩
    rw [← hz] at hb0 ⊢
    clear hz
    go_enter Tryz.func155, Tryz.ntmps155
    go_wp2
    go_ret
    exact ⟨ret_bool (by simp), (by repeat (first | exact bz0 _ _ | refine bz1 ?_ | refine bz2 ?_ _ | refine bz3 ?_ _ | refine bz5 ?_ _ | refine bz6 ?_ _))⟩
theorem acc_parts {fm : Int} {ng : Bool} {zs : List Int} {T : Int} {nn bd pl mi am : Bool} (h : accB fm ng zs T nn bd pl mi am = true) : fmtB fm = true ∧ mkB T nn bd pl mi am = true ∧ okB ng zs = true ∧ cmpL zs (Nm.lim (far fm T)) ≤ 0 := by
  unfold accB at h
  simp only [Bool.and_eq_true, decide_eq_true_eq] at h
  exact ⟨h.1.1.1.1, h.1.1.1.2, h.1.1.2, h.1.2⟩
theorem acc_val {fm : Int} {ng : Bool} {zs : List Int} {T : Int} {nn bd pl mi am : Bool} (hd : Nm.Dg zs) (h : accB fm ng zs T nn bd pl mi am = true) : (Nm.val zs).toNat ≤ far fm T := by
  obtain ⟨-, -, ho, hc⟩ := acc_parts h
  have h1 := (cmpL_val hd (Nm.lim_dg (far fm T)) (okB_nz ho).1 (Nm.lim_nz _)).2
  have h2 : ¬ Nm.val (Nm.lim (far fm T)) < Nm.val zs := fun h => by have := h1.2 h; omega
  rw [Nm.lim_val] at h2
  omega
theorem Box.of_block {w w' : World} {b : Nat} {v0 v1 : Value} (h : Box w b v0 v1) (e : w'.heap[b]? = w.heap[b]?) : Box w' b v0 v1 :=
  ⟨(World.cell?_of_block (a := ⟨b, 0, none⟩) e).trans h.1, (World.cell?_of_block (a := ⟨b, 1, none⟩) e).trans h.2⟩
/-- What is known while the answer's flags are laid: the two arguments, the answer's own box, the box o that is laid, its limbs elsewhere. -/
structure MS (w wx : World) (o : Nat) (a1 : Option Addr) (k1 : Nat) (L : List Int) : Prop where
  own : Own wx w.heap.size a1 k1 L
  apart : ∀ g, a1 = some ⟨g, 0, none⟩ → g ≠ o ∧ g ≠ w.heap.size + 1 + 1
  bel : Below w.heap.size w wx
  lo : w.heap.size + 1 + 1 < o
theorem MS.set {w wx : World} {o : Nat} {a1 : Option Addr} {k1 : Nat} {L : List Int} (h : MS w wx o a1 k1 L) (i : Nat) (u : Value) : MS w (wx.setCell ⟨o, i, none⟩ u) o a1 k1 L :=
  ⟨h.own.setOther (fun g e => (h.apart g e).1) u, h.apart, h.bel.setCell (by have := h.lo; simp; omega) u, h.lo⟩
theorem MS.drew {w wx : World} {o : Nat} {a1 : Option Addr} {k1 : Nat} {L : List Int} (h : MS w wx o a1 k1 L) : MS w wx.drew o a1 k1 L := ⟨h.own.drew, h.apart, Below.drew h.bel, h.lo⟩
/-- What the program's variables hold, the tables of math/bits among them. -/
structure E3 (u : Value) (w : World) : Prop where
  t : T3 w
  g : EA.ErrT w
  q : ErrQ w u
theorem E3.below {u : Value} {w w' : World} (h : E3 u w) (hb : Below w.heap.size w w') : E3 u w' := ⟨h.t.below hb, EA.five h.g hb, (hb.cell (p := ⟨0, 0, none⟩) (World.block_lt_of_cell? w _ h.q)).trans h.q⟩
def EX3 (w : World) : Prop := ∃ u, E3 u w
theorem EX3.below {w w' : World} (h : EX3 w) (hb : Below w.heap.size w w') : EX3 w' := by obtain ⟨u, h⟩ := h; exact ⟨u, h.below hb⟩
theorem Q9.set1 {w : World} {b : Nat} {v0 v1 v2 v3 v4 v5 v6 v7 v8 : Value} (h : Q9 w b v0 v1 v2 v3 v4 v5 v6 v7 v8) (u : Value) : Q9 (w.setCell ⟨b, 1, none⟩ u) b v0 u v2 v3 v4 v5 v6 v7 v8 := by
  obtain ⟨c0, c1, c2, c3, c4, c5, c6, c7, c8, f0, f1, f2, f3, f4, f5, f6, f7, f8⟩ := h
  exact ⟨by simp [go_sem, c0, c1], by simp [go_sem, c1, c1], by simp [go_sem, c2, c1], by simp [go_sem, c3, c1], by simp [go_sem, c4, c1], by simp [go_sem, c5, c1], by simp [go_sem, c6, c1], by simp [go_sem, c7, c1], by simp [go_sem, c8, c1], by simp [go_sem, f0], by simp [go_sem, f1], by simp [go_sem, f2], by simp [go_sem, f3], by simp [go_sem, f4], by simp [go_sem, f5], by simp [go_sem, f6], by simp [go_sem, f7], by simp [go_sem, f8]⟩
theorem infS32 (w : World) :
    Calls Tryz.prog 104 #[.int .i64 32] w fun e w' => e = .returned (.int .u64 2139095040) ∧ Below w.heap.size w w' := by
  go_enter Tryz.func104, Tryz.ntmps104
  go_wp2
  go_ret
  exact ⟨rfl, (by repeat (first | exact bz0 _ _ | refine bz1 ?_ | refine bz2 ?_ _ | refine bz3 ?_ _ | refine bz5 ?_ _ | refine bz6 ?_ _))⟩
theorem infS64 (w : World) :
    Calls Tryz.prog 104 #[.int .i64 64] w fun e w' => e = .returned (.int .u64 9218868437227405312) ∧ Below w.heap.size w w' := by
  go_enter Tryz.func104, Tryz.ntmps104
  go_wp2
  go_ret
  exact ⟨rfl, (by repeat (first | exact bz0 _ _ | refine bz1 ?_ | refine bz2 ?_ _ | refine bz3 ?_ _ | refine bz5 ?_ _ | refine bz6 ?_ _))⟩
theorem wl_len {V : Int} (h : bitLen V.natAbs ≤ 6400) : (Nm.wl V).length ≤ 200 := by unfold Nm.wl; exact lim_len (k := 200) (by omega)
end Go.Proofs.YtnliofakkkjpoaaGreatDoor
namespace Go.Proofs.YtnliofakkkjpoaaGreatDoor
set_option linter.unusedVariables false
set_option linter.unusedSimpArgs false
namespace Ld
open Go.RowKit Go.Deep Go.ChangeShapes Go.WideShapes Go.ChangeAt Go.Joins
theorem array9 {α : Type} {cs : Array α} (h : cs.size = 9) : ∃ c0 c1 c2 c3 c4 c5 c6 c7 c8, cs = #[c0, c1, c2, c3, c4, c5, c6, c7, c8] := by
  obtain ⟨l⟩ := cs
  match l, h with
  | [c0, c1, c2, c3, c4, c5, c6, c7, c8], _ => exact ⟨c0, c1, c2, c3, c4, c5, c6, c7, c8, rfl⟩
theorem cellsA : Tryz.prog.cellsOf 26 = 9 := by kernel_rfl
theorem cellsWA : Tryz.prog.cellsOf 24 = 2 := by kernel_rfl
theorem cellsBo : Tryz.prog.cellsOf 4 = 1 := by kernel_rfl
theorem cellsSl : Tryz.prog.cellsOf 22 = 1 := by kernel_rfl
theorem open_acc {H : Type} {enc : TypeId × Value → H} {W : World} {r : Reach} {b0 : Nat} {v : Value} {d : DataW H} {p : List MemPlace}
    (hv : Value.okWide Tryz.prog W r b0 26 v) (h : DataW.Trod enc Tryz.prog W 0 (fun _ => true) true 26 v d p) :
    ∃ (fm : Int) (ng : Bool) (a : Option Addr) (cap : Nat) (zs : List Int) (T : Int) (nn bd pl mi am : Bool), v = .agg #[.int .i64 fm, .bool ng, .slice a zs.length cap, .int .i64 T, .bool nn, .bool bd, .bool pl, .bool mi, .bool am] ∧ Sl .u32 W (.slice a zs.length cap) zs ∧ Nm.Dg zs ∧ (Lit.int .i64 fm).wf = true ∧ (Lit.int .i64 T).wf = true := by
  obtain ⟨cs, rfl, hsz⟩ := okWide_struct Tryz.underlying26 hv
  obtain ⟨c0, c1, c2, c3, c4, c5, c6, c7, c8, rfl⟩ := array9 (hsz.trans cellsA)
  obtain ⟨fuel, hf⟩ := h
  obtain ⟨xs, n, _, hx, hl, hlen, hg⟩ := DataW.trod_struct Tryz.underlying26 hf
  match xs, hlen with
  | [y0, y1, y2, y3, y4, y5, y6, y7], _ =>
    have h0 := hg 0 _ rfl
    have h1 := hg 1 _ rfl
    have h2 := hg 2 _ rfl
    have h3 := hg 3 _ rfl
    have h4 := hg 4 _ rfl
    have h5 := hg 5 _ rfl
    have h6 := hg 6 _ rfl
    have h7 := hg 7 _ rfl
    clear hg
    simp [Value.cells, cellsI, cellsWA, cellsBo] at h0 h1 h2 h3 h4 h5 h6 h7
    obtain ⟨fm, e0, -, wf0⟩ := DataW.trod_int Tryz.underlying2 h0
    obtain ⟨T, e2, -, wf2⟩ := DataW.trod_int Tryz.underlying2 h2
    obtain ⟨nn, e3, -⟩ := DataW.trod_bool Tryz.underlying4 h3
    obtain ⟨bd, e4, -⟩ := DataW.trod_bool Tryz.underlying4 h4
    obtain ⟨pl, e5, -⟩ := DataW.trod_bool Tryz.underlying4 h5
    obtain ⟨mi, e6, -⟩ := DataW.trod_bool Tryz.underlying4 h6
    obtain ⟨am, e7, -⟩ := DataW.trod_bool Tryz.underlying4 h7
    obtain ⟨u0, u1, m, hu, _, k0, k1⟩ := trod_struct2 Tryz.underlying24 h1
    simp [cellsBo, cellsSl] at k0 k1
    obtain ⟨ng, e1, -⟩ := DataW.trod_bool Tryz.underlying4 k0
    simp at e0 e1 e2 e3 e4 e5 e6 e7
    subst e0; subst e1; subst e2; subst e3; subst e4; subst e5; subst e6; subst e7
    obtain ⟨o, l, k, z, e, s, g⟩ : ∃ a len cap zs, c2 = .slice a len cap ∧ Sl .u32 W (.slice a len cap) zs ∧ Nm.Dg zs := by
      rcases open_ints Tryz.underlying22 Tryz.underlying147 (by kernel_rfl) k1 with ⟨hcs, _⟩ | ⟨x, l, c, zs, hcs, _, hl, hm, hz, _, hcell, hwz⟩
      · simp at hcs; exact ⟨_, _, _, [], hcs, Sl.nil _ _, Nm.Dg.nil⟩
      · simp at hcs; exact ⟨_, _, _, _, hcs, Sl.of_cells hl hm (by simpa using hz) hcell, fun z hz => by have := bounds_u32 (hwz z (List.mem_of_mem_take hz)); omega⟩
    subst e
    obtain ⟨rfl, -, -, -⟩ := s.cells
    exact ⟨fm, ng, o, k, z, T, nn, bd, pl, mi, am, rfl, s, g, wf0, wf2⟩
theorem gEt : Tryz.prog.globalNamed "errors.errorType" = some 2 := by kernel_rfl
theorem gEq : Tryz.prog.globalNamed "loop.example/g00672/impl.errQuiet" = some 0 := by kernel_rfl
theorem gEqType : (Tryz.prog.globals[0]?).map (·.type) = some 80 := by kernel_rfl
theorem rtT : (Tryz.prog.cutTypes.find? (·.1 == "internal/reflectlite.rtype")).map (·.2) = some 228 := by kernel_rfl
theorem sizeT : Tryz.prog.types.size = 277 := by kernel_rfl
theorem oneRow : ((List.range 277).filter fun t => Tryz.prog.rowNamed t [101, 114, 114, 111, 114]) = [80] := by kernel_rfl
theorem handle {W : World} {l : List (String × DataW Unit)} (h : handlesMet Tryz.prog l W) (hm : ("errors.errorType", Rows.laid_errors_errorType) ∈ l) : EA.ErrT W := by
  obtain ⟨name, u, ty, e1, e2, e3, e4, e5⟩ := h _ hm
  have en : name = [101, 114, 114, 111, 114] := (Option.some.inj e1).symm
  subst en
  obtain rfl := Option.some.inj (rtT.symm.trans e2)
  have hm : ty ∈ (List.range 277).filter fun t => Tryz.prog.rowNamed t [101, 114, 114, 111, 114] := List.mem_filter.2 ⟨List.mem_range.2 (by rw [← sizeT]; exact e3), e4⟩
  rw [oneRow] at hm
  obtain rfl := List.mem_singleton.1 hm
  have hh : typeHandle Tryz.prog 80 = .pointer (some ⟨5, 80, none⟩) := by kernel_rfl
  rw [hh] at e5
  simpa using World.var?_cell gEt e5 0
/-- The text of the error for a quiet NaN. -/
def qS : ByteArray := ⟨#[111, 110, 101, 32, 105, 115, 32, 97, 32, 113, 117, 105, 101, 116, 32, 78, 97, 78]⟩
noncomputable def low : Nat := (World.holding Tryz.prog default ⟨#[], #[], []⟩).heap.size
theorem tok_any {H : Type} {enc : TypeId × Value → H} {sp : Nat → Bool} {x : Value} (hx : IsIface x) (w : World) : DataW.trod enc Tryz.prog w 0 sp true 1 80 (#[x] : Array Value).toList = some (tok enc x, []) := by
  cases x <;> simp only [IsIface] at hx <;> (unfold DataW.trod; rw [Tryz.underlying80]; rfl)
theorem star : "*" ++ "errors.errorString" = "*errors.errorString" := by decide
theorem rowE (u : TypeId) (h : Tryz.prog.typeName? 3 u = some "*errors.errorString") : u = 244 :=
  typeName_ptr_named (nm := "errors.errorString") (by rw [star]; kernel_rfl) (by kernel_rfl) (by decide) u (by rw [star]; exact h)
theorem quiet {W : World} (h : laidMet Tryz.prog [("loop.example/g00672/impl.errQuiet", Rows.laid_loop_example_g00672_impl_errQuiet)] W) : ∃ u, ErrQ W u := by
  obtain ⟨ps, ⟨g', t', cs, fuel, p, q, hg', ht', hvar, hd, _, _⟩, _⟩ := h
  obtain rfl := Option.some.inj (gEq.symm.trans hg')
  obtain rfl := Option.some.inj (gEqType.symm.trans ht')
  cases fuel with
  | zero => simp [DataW.trod] at hd
  | succ n =>
    have hcell := World.var?_cell gEq hvar 0
    unfold DataW.trod at hd
    rw [Tryz.underlying80] at hd
    obtain ⟨l⟩ := cs
    match l, hd with
    | [.nilIface], hd => simp [Rows.laid_loop_example_g00672_impl_errQuiet] at hd
    | [.iface u v], hd =>
      simp only at hd
      cases hn : Tryz.prog.typeName? 3 u with
      | none => rw [hn] at hd; simp at hd
      | some name =>
        rw [hn] at hd
        simp only [Option.map_eq_some_iff, Prod.mk.injEq, Rows.laid_loop_example_g00672_impl_errQuiet, DataW.iface.injEq] at hd
        obtain ⟨y, _, ⟨e1, _⟩, _⟩ := hd
        subst e1
        obtain rfl := rowE u hn
        exact ⟨v, by simpa using hcell⟩
theorem all {W : World} (h : laidMetH Tryz.prog [("errors.errorType", Rows.laid_errors_errorType), ("loop.example/g00672/impl.formSizes", Rows.laid_loop_example_g00672_impl_formSizes), ("loop.example/g00672/impl.errQuiet", Rows.laid_loop_example_g00672_impl_errQuiet)] W) : EX W := by
  have h' : laidMet Tryz.prog [("loop.example/g00672/impl.formSizes", Rows.laid_loop_example_g00672_impl_formSizes), ("loop.example/g00672/impl.errQuiet", Rows.laid_loop_example_g00672_impl_errQuiet)] W ∧ handlesMet Tryz.prog [("errors.errorType", Rows.laid_errors_errorType)] W := h
  have h1 := h'.1.filter (fun x => x.1 == "loop.example/g00672/impl.formSizes")
  have h2 := h'.1.filter (fun x => x.1 == "loop.example/g00672/impl.errQuiet")
  obtain ⟨u, hu⟩ := quiet h2
  exact ⟨u, ⟨table h1, handle h'.2 (List.mem_singleton.2 rfl), hu⟩⟩
end Ld
open Go.RowKit Go.Deep
/-- A term: its value in 2 to the 2 Q; a NaN, invalid, infinity above and below 0; a zero below 0. -/
structure Tm where
  v : Int
  nan : Bool
  bad : Bool
  plus : Bool
  minus : Bool
  zm : Bool
/-- What an accumulator holds beside its format. -/
structure St where
  z : Int
  T : Int
  nn : Bool
  bd : Bool
  pl : Bool
  mi : Bool
  am : Bool
def St.add (s : St) (t : Tm) : St := ⟨s.z + t.v, s.T + 1, s.nn || t.nan, s.bd || t.bad, s.pl || t.plus, s.mi || t.minus, t.zm && (s.am || decide (s.T = 0))⟩
def Rt (fm : Int) (s : St) : Prop := accB fm (Nm.wn s.z) (Nm.wl s.z) s.T s.nn s.bd s.pl s.mi s.am = true
structure TmOk (fm : Int) (t : Tm) : Prop where
  v : t.v.natAbs ≤ far fm 1
  bn : t.bad = true → t.nan = true
  z : t.zm = true → t.v = 0 ∧ t.nan = false ∧ t.bad = false ∧ t.plus = false ∧ t.minus = false
def farE (fm : Int) : Nat := if fm = 32 then 554 else 4196
theorem far_eq (fm T : Int) : far fm T = T.toNat * 2 ^ farE fm := by
  unfold far Nm.sh farE
  by_cases h : fm = 32
  · have e : (554 : Int).toNat = 554 := rfl
    rw [if_pos h, if_pos h, if_neg (by decide), e]
  · have e : (4196 : Int).toNat = 4196 := rfl
    rw [if_neg h, if_neg h, if_neg (by decide), e]
theorem far_add (fm : Int) {T : Int} (h : 0 ≤ T) : far fm T + far fm 1 = far fm (T + 1) := by
  rw [far_eq, far_eq, far_eq, ← Nat.add_mul]
  congr 1; omega
theorem Rt.le {fm : Int} {s : St} (h : Rt fm s) : s.z.natAbs ≤ far fm s.T ∧ 0 ≤ s.T ∧ s.T ≤ 1000000 := by
  have h1 := acc_val (Nm.wl_dg _) h
  rw [Nm.val_wl] at h1
  have h2 := mkB_T (acc_parts h).2.1
  exact ⟨by simpa using h1, h2⟩
theorem Rt.mk {fm : Int} {s : St} (hf : fmtB fm = true) (hm : mkB s.T s.nn s.bd s.pl s.mi s.am = true) (hz : s.z.natAbs ≤ far fm s.T) (ha : s.am = true → s.z = 0) : Rt fm s := by
  have ht := mkB_T hm
  have hb := Nm.bl_mono hz
  have hb2 := far_bl fm ht.2
  have hl : (Nm.wl s.z).length ≤ 200 := wl_len (by omega)
  have hc : cmpL (Nm.wl s.z) (Nm.lim (far fm s.T)) ≤ 0 := by
    have h := (cmpL_val (Nm.wl_dg s.z) (Nm.lim_dg (far fm s.T)) (Nm.wl_nz s.z) (Nm.lim_nz _)).2
    have hr := cmpL_rng (Nm.wl s.z) (Nm.lim (far fm s.T))
    rw [Nm.lim_val, Nm.val_wl] at h
    have : ¬ 0 < cmpL (Nm.wl s.z) (Nm.lim (far fm s.T)) := fun h0 => by
      have := h.1 (by omega); omega
    omega
  have hz0 : (!s.am || decide ((Nm.wl s.z).length = 0)) = true := by
    cases e : s.am
    · rfl
    · rw [ha e]; have : Nm.wl 0 = [] := Nm.lim_zero
      rw [this]; rfl
  unfold Rt accB
  rw [hf, hm, okB_wl hl, decide_eq_true hc, hz0]; rfl
theorem Rt.zero {fm : Int} {s : St} (h : Rt fm s) : (s.am = true ∨ s.T = 0) → s.z = 0 ∧ s.nn = false ∧ s.bd = false ∧ s.pl = false ∧ s.mi = false := by
  intro hh
  have hl := h.le
  have hm := (acc_parts h).2.1
  unfold mkB at hm
  have hr := h
  unfold Rt accB at hr
  simp only [Bool.and_eq_true] at hr
  rcases hh with e | e
  · rw [e] at hm hr
    have hz : s.z = 0 := by
      have := hr.2
      simp only [Bool.not_true, Bool.false_or, decide_eq_true_eq] at this
      unfold Nm.wl at this
      rw [Nm.lim_length_zero] at this
      omega
    refine ⟨hz, ?_⟩
    revert hm
    cases s.nn <;> cases s.bd <;> cases s.pl <;> cases s.mi <;> simp
  · have hz : s.z = 0 := by
      have := hl.1
      rw [e] at this
      have e0 : far fm 0 = 0 := by rw [far_eq]; exact Nat.zero_mul _
      omega
    rw [e] at hm
    refine ⟨hz, ?_⟩
    revert hm
    cases s.nn <;> cases s.bd <;> cases s.pl <;> cases s.mi <;> simp
theorem Rt.add {fm : Int} {s : St} (h : Rt fm s) {t : Tm} (ht : TmOk fm t) (hT : s.T ≠ 1000000) : Rt fm (s.add t) := by
  obtain ⟨hl, h0, h1⟩ := h.le
  obtain ⟨hf, hm, -, -⟩ := acc_parts h
  have hv := ht.v
  refine Rt.mk hf ?_ ?_ ?_
  · have hz := h.zero
    have hbn := ht.bn
    have htz := ht.z
    show mkB (s.T + 1) (s.nn || t.nan) (s.bd || t.bad) (s.pl || t.plus) (s.mi || t.minus) (t.zm && (s.am || decide (s.T = 0))) = true
    unfold mkB at hm ⊢
    rw [decide_eq_true (show 0 ≤ s.T + 1 by omega), decide_eq_true (show s.T + 1 ≤ 1000000 by omega), decide_eq_false (show ¬ s.T + 1 = 0 by omega)]
    have hbd : s.bd = true → s.nn = true := by
      intro e; rw [e] at hm; revert hm; cases s.nn <;> simp
    by_cases hz' : t.zm = true ∧ (s.am = true ∨ s.T = 0)
    · obtain ⟨_, e1, e2, e3, e4⟩ := hz hz'.2
      obtain ⟨_, e5, e6, e7, e8⟩ := htz hz'.1
      rw [e1, e2, e3, e4, e5, e6, e7, e8]; simp
    · have : (t.zm && (s.am || decide (s.T = 0))) = false := by
        rw [Bool.eq_false_iff]; intro e; apply hz'
        simpa using e
      rw [this]
      revert hbd hbn
      cases s.nn <;> cases s.bd <;> cases t.nan <;> cases t.bad <;> simp
  · show (s.z + t.v).natAbs ≤ far fm (s.T + 1)
    rw [← far_add fm h0]; omega
  · intro e
    have e' : (t.zm && (s.am || decide (s.T = 0))) = true := e
    simp only [Bool.and_eq_true, Bool.or_eq_true, decide_eq_true_eq] at e'
    have h3 := (h.zero e'.2).1
    have h4 := (ht.z e'.1).1
    show s.z + t.v = 0
    omega
end Go.Proofs.YtnliofakkkjpoaaGreatDoor
