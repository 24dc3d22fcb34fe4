/-
  What is needed of FH, FP, NB, NO.
-/
import Derived.Test.YtmcflggionkhlaaGreatDoorE37
set_option maxHeartbeats 16000000
set_option maxRecDepth 1000000
namespace Go.Proofs.YtmcflggionkhlaaGreatDoor
set_option linter.unusedVariables false
set_option linter.unusedSimpArgs false
open Go.RowKit Go.Deep
namespace Fd
/-- Six numbers in a row. -/
def Row6 (S : Int) (w : World) (B : Nat) : Prop := ∀ j, j < 6 → ∃ d : Int, w.cell? ⟨B, j, none⟩ = some (.int .u64 d) ∧ 0 ≤ d ∧ d < S
theorem Row6.new {S v0 v1 v2 v3 v4 v5 : Int} {t : TypeId} (w : World) (h : (0 ≤ v0 ∧ v0 < S) ∧ (0 ≤ v1 ∧ v1 < S) ∧ (0 ≤ v2 ∧ v2 < S) ∧ (0 ≤ v3 ∧ v3 < S) ∧ (0 ≤ v4 ∧ v4 < S) ∧ (0 ≤ v5 ∧ v5 < S)) : Row6 S (w.alloc (.cells #[.int .u64 v0, .int .u64 v1, .int .u64 v2, .int .u64 v3, .int .u64 v4, .int .u64 v5] t)) w.heap.size := fun k hk => by
  have q := World.cell?_alloc_new w #[.int .u64 v0, .int .u64 v1, .int .u64 v2, .int .u64 v3, .int .u64 v4, .int .u64 v5] t k
  rw [q]
  obtain ⟨h0, h1, h2, h3, h4, h5⟩ := h
  rcases (show k = 0 ∨ k = 1 ∨ k = 2 ∨ k = 3 ∨ k = 4 ∨ k = 5 by omega) with rfl | rfl | rfl | rfl | rfl | rfl
  · exact ⟨v0, rfl, h0⟩
  · exact ⟨v1, rfl, h1⟩
  · exact ⟨v2, rfl, h2⟩
  · exact ⟨v3, rfl, h3⟩
  · exact ⟨v4, rfl, h4⟩
  · exact ⟨v5, rfl, h5⟩
theorem sg32 {x : Int} (h0 : 0 ≤ x) (h1 : x < 4294967296) (y : Int) (hy : y = negF 32 x) :
    (0 ≤ y ∧ y < 4294967296) ∧ negF 32 y = x ∧ y ≠ x ∧ cls 32 y = cls 32 x ∧ finB 32 y = finB 32 x ∧ unI 32 y = -unI 32 x ∧ (x < 2147483648 → absF 32 x = x) ∧ (¬ x < 2147483648 → absF 32 x ≠ x ∧ absF 32 x = y) := by
  rw [neg32 h1] at hy
  have hr : 0 ≤ y ∧ y < 4294967296 := by split at hy <;> omega
  have hm : y % 2147483648 = x % 2147483648 := by split at hy <;> omega
  have hc : cls 32 y = cls 32 x := by rw [cls32 (x := y) (by omega), cls32 h1, hm]
  have hf : finB 32 y = finB 32 x := by unfold finB; rw [hc]
  have ax := ab32 h0 h1
  have ay := ab32 hr.1 hr.2
  have hs : sigB 32 y = !sigB 32 x := by
    unfold sigB; rw [ax, ay]
    split at hy
    · rename_i h
      rw [if_pos h, if_neg (by omega)]
      have e1 : (y != y - 2147483648) = true := by simp; omega
      rw [e1]; simp
    · rename_i h
      rw [if_neg h, if_pos (by omega)]
      have e1 : (x != x - 2147483648) = true := by simp; omega
      rw [e1]; simp
  refine ⟨hr, ?_, ?_, hc, hf, ?_, ?_, ?_⟩
  · rw [neg32 (x := y) (by omega)]; split at hy <;> split <;> omega
  · split at hy <;> omega
  · unfold unI
    rw [hf]
    cases hff : finB 32 x
    · rfl
    · rw [if_pos rfl, if_pos rfl]
      have e1 : pM 32 y = pM 32 x := by unfold pM; rw [hf, hm]; simp
      have e2 : pE 32 y = pE 32 x := by unfold pE; rw [hf, hm]; simp
      have e3 : pS 32 y = !pS 32 x := by unfold pS; rw [hf, hff, if_pos rfl, if_pos rfl, hs]
      rw [e1, e2, e3]
      cases pS 32 x <;> simp
  · intro h; rw [ax, if_pos h]
  · intro h
    rw [if_neg h] at hy
    rw [ax, if_neg h]; omega
theorem sg64 {x : Int} (h0 : 0 ≤ x) (h1 : x < 18446744073709551616) (y : Int) (hy : y = negF 64 x) :
    (0 ≤ y ∧ y < 18446744073709551616) ∧ negF 64 y = x ∧ y ≠ x ∧ cls 64 y = cls 64 x ∧ finB 64 y = finB 64 x ∧ unI 64 y = -unI 64 x ∧ (x < 9223372036854775808 → absF 64 x = x) ∧ (¬ x < 9223372036854775808 → absF 64 x ≠ x ∧ absF 64 x = y) := by
  rw [neg64] at hy
  have hr : 0 ≤ y ∧ y < 18446744073709551616 := by split at hy <;> omega
  have hm : y % 9223372036854775808 = x % 9223372036854775808 := by split at hy <;> omega
  have hc : cls 64 y = cls 64 x := by rw [cls64 (x := y), cls64 (x := x), hm]
  have hf : finB 64 y = finB 64 x := by unfold finB; rw [hc]
  have ax := ab64 h0 h1
  have ay := ab64 hr.1 hr.2
  have hs : sigB 64 y = !sigB 64 x := by
    unfold sigB; rw [ax, ay]
    split at hy
    · rename_i h
      rw [if_pos h, if_neg (by omega)]
      have e1 : (y != y - 9223372036854775808) = true := by simp; omega
      rw [e1]; simp
    · rename_i h
      rw [if_neg h, if_pos (by omega)]
      have e1 : (x != x - 9223372036854775808) = true := by simp; omega
      rw [e1]; simp
  refine ⟨hr, ?_, ?_, hc, hf, ?_, ?_, ?_⟩
  · rw [neg64 (x := y)]; split at hy <;> split <;> omega
  · split at hy <;> omega
  · unfold unI
    rw [hf]
    cases hff : finB 64 x
    · rfl
    · rw [if_pos rfl, if_pos rfl]
      have e1 : pM 64 y = pM 64 x := by unfold pM; rw [hf, hm]; simp
      have e2 : pE 64 y = pE 64 x := by unfold pE; rw [hf, hm]; simp
      have e3 : pS 64 y = !pS 64 x := by unfold pS; rw [hf, hff, if_pos rfl, if_pos rfl, hs]
      rw [e1, e2, e3]
      cases pS 64 x <;> simp
  · intro h; rw [ax, if_pos h]
  · intro h
    rw [if_neg h] at hy
    rw [ax, if_neg h]; omega
end Fd
/-- A box of 6 cells that may be written. -/
structure Q6 (w : World) (b : Nat) (v0 v1 v2 v3 v4 v5 : Value) : Prop where
  c0 : w.cell? ⟨b, 0, none⟩ = some v0
  c1 : w.cell? ⟨b, 1, none⟩ = some v1
  c2 : w.cell? ⟨b, 2, none⟩ = some v2
  c3 : w.cell? ⟨b, 3, none⟩ = some v3
  c4 : w.cell? ⟨b, 4, none⟩ = some v4
  c5 : w.cell? ⟨b, 5, none⟩ = some v5
  f0 : w.frozen? ⟨b, 0, none⟩ = false
  f1 : w.frozen? ⟨b, 1, none⟩ = false
  f2 : w.frozen? ⟨b, 2, none⟩ = false
  f3 : w.frozen? ⟨b, 3, none⟩ = false
  f4 : w.frozen? ⟨b, 4, none⟩ = false
  f5 : w.frozen? ⟨b, 5, none⟩ = false
theorem Q6.lt {w : World} {b : Nat} {v0 v1 v2 v3 v4 v5 : Value} (h : Q6 w b v0 v1 v2 v3 v4 v5) : b < w.heap.size := World.block_lt_of_cell? w _ h.c0
theorem Q6.of_block {w w' : World} {b : Nat} {v0 v1 v2 v3 v4 v5 : Value} (h : Q6 w b v0 v1 v2 v3 v4 v5) (e : w'.heap[b]? = w.heap[b]?) : Q6 w' b v0 v1 v2 v3 v4 v5 :=
  ⟨(World.cell?_of_block (a := ⟨b, 0, none⟩) e).trans h.c0, (World.cell?_of_block (a := ⟨b, 1, none⟩) e).trans h.c1, (World.cell?_of_block (a := ⟨b, 2, none⟩) e).trans h.c2, (World.cell?_of_block (a := ⟨b, 3, none⟩) e).trans h.c3, (World.cell?_of_block (a := ⟨b, 4, none⟩) e).trans h.c4, (World.cell?_of_block (a := ⟨b, 5, none⟩) e).trans h.c5, (World.frozen?_of_block (a := ⟨b, 0, none⟩) e).trans h.f0, (World.frozen?_of_block (a := ⟨b, 1, none⟩) e).trans h.f1, (World.frozen?_of_block (a := ⟨b, 2, none⟩) e).trans h.f2, (World.frozen?_of_block (a := ⟨b, 3, none⟩) e).trans h.f3, (World.frozen?_of_block (a := ⟨b, 4, none⟩) e).trans h.f4, (World.frozen?_of_block (a := ⟨b, 5, none⟩) e).trans h.f5⟩
theorem Q6.below {w w' : World} {b : Nat} {v0 v1 v2 v3 v4 v5 : Value} (h : Q6 w b v0 v1 v2 v3 v4 v5) (hb : Below w.heap.size w w') : Q6 w' b v0 v1 v2 v3 v4 v5 := h.of_block (hb.block b h.lt)
theorem Q6.new (w : World) (v0 v1 v2 v3 v4 v5 : Value) (t : TypeId) : Q6 (w.alloc (.cells #[v0, v1, v2, v3, v4, v5] t)) w.heap.size v0 v1 v2 v3 v4 v5 := ⟨by simp, by simp, by simp, by simp, by simp, by simp, by simp, by simp, by simp, by simp, by simp, by simp⟩
theorem Q6.alloc {w : World} {b : Nat} {v0 v1 v2 v3 v4 v5 : Value} (h : Q6 w b v0 v1 v2 v3 v4 v5) (o : Obj) : Q6 (w.alloc o) b v0 v1 v2 v3 v4 v5 := h.below ((Below.refl _ _).alloc (Nat.le_refl _) _)
theorem Q6.drew {w : World} {b : Nat} {v0 v1 v2 v3 v4 v5 : Value} (h : Q6 w b v0 v1 v2 v3 v4 v5) : Q6 w.drew b v0 v1 v2 v3 v4 v5 := ⟨h.c0, h.c1, h.c2, h.c3, h.c4, h.c5, h.f0, h.f1, h.f2, h.f3, h.f4, h.f5⟩
theorem Q6.cs {w : World} {b : Nat} {v0 v1 v2 v3 v4 v5 : Value} (h : Q6 w b v0 v1 v2 v3 v4 v5) : w.cell? ⟨b, 0, none⟩ = some v0 ∧ w.cell? ⟨b, 1, none⟩ = some v1 ∧ w.cell? ⟨b, 2, none⟩ = some v2 ∧ w.cell? ⟨b, 3, none⟩ = some v3 ∧ w.cell? ⟨b, 4, none⟩ = some v4 ∧ w.cell? ⟨b, 5, none⟩ = some v5 := ⟨h.c0, h.c1, h.c2, h.c3, h.c4, h.c5⟩
theorem Q6.nw2 (w : World) (o : Obj) (v0 v1 v2 v3 v4 v5 : Value) (t : TypeId) : Q6 ((w.alloc o).alloc (.cells #[v0, v1, v2, v3, v4, v5] t)) (w.heap.size + 1) v0 v1 v2 v3 v4 v5 := by simpa using Q6.new (w.alloc o) v0 v1 v2 v3 v4 v5 t
theorem zero_any (neg inf G : Bool) (p : Option Addr) (n cap : Nat) (e : Int) (w : World) (hn : n ≤ 9223372036854775807) :
    Calls Tryz.prog 162 #[.agg #[.bool neg, .bool inf, .bool G, .slice p n cap, .int .i64 e]] w fun r w' => r = .returned (.bool (!inf && decide (n = 0))) ∧ Below w.heap.size w w' := by
  cases inf with
  | true =>
    go_enter Tryz.func162, Tryz.ntmps162
    go_wp2
    go_ret
    exact ⟨rfl, (by repeat (first | exact bz0 _ _ | refine bz1 ?_ | refine bz2 ?_ _ | refine bz3 ?_ _ | refine bz5 ?_ _ | refine bz6 ?_ _))⟩
  | false =>
    have hb0 : ((n : Int) == 0) = decide (n = 0) := by rw [Bool.eq_iff_iff, beq_iff_eq, decide_eq_true_eq]; omega
    obtain ⟨z, hz⟩ : ∃ z, z = decide (n = 0) := ⟨_, rfl⟩
    rw [← hz] at hb0 ⊢
    clear hz
    go_enter Tryz.func162, Tryz.ntmps162
    go_wp2
    go_ret
    exact ⟨ret_bool (by simp), (by repeat (first | exact bz0 _ _ | refine bz1 ?_ | refine bz2 ?_ _ | refine bz3 ?_ _ | refine bz5 ?_ _ | refine bz6 ?_ _))⟩
/-- What the program's variables hold, the tables of math/bits among them. -/
structure E3 (u : Value) (w : World) : Prop where
  t : T3 w
  g : EA.ErrT w
  q : ErrQ w u
theorem E3.below {u : Value} {w w' : World} (h : E3 u w) (hb : Below w.heap.size w w') : E3 u w' := ⟨h.t.below hb, EA.five h.g hb, (hb.cell (p := ⟨1, 0, none⟩) (World.block_lt_of_cell? w _ h.q)).trans h.q⟩
theorem E3.ee {u : Value} {w : World} (h : E3 u w) : EE u w := ⟨h.t.s.f, h.g, h.q⟩
def EX3 (w : World) : Prop := ∃ u, E3 u w
theorem EX3.below {w w' : World} (h : EX3 w) (hb : Below w.heap.size w w') : EX3 w' := by obtain ⟨u, h⟩ := h; exact ⟨u, h.below hb⟩
/-- What is told: nan, inf, sg: the format's; n, b: there is no number, it is invalid; i: it is infinity; z: it is 0; rb, rf: else that. -/
def tdB (nan inf sg : Int) (n i z neg : Bool) (rb : Int) : Int := if n then nan else if i then sgn sg inf neg else if z then sgn sg 0 neg else rb
def tdF (n b i z : Bool) (rf : Int) : Int := if b then 8 else if n || i || z then 0 else rf
theorem told_32 (mode : Int) (neg inf G : Bool) (L : List Int) (e : Int) (p : Option Addr) (cap : Nat) (u ev : Value) (n b : Bool) (hk : EK u ev n b) (w : World) (hT : T3 w) (hg : EA.ErrT w) (hs : Sl .u32 w (.slice p L.length cap) L) (hd : Nm.Dg L) (hl : L.length ≤ 200) (rb rf : Int) (hro : n = false → inf = false → L.length ≠ 0 → RdO 32 mode G L e = true ∧ rb = RdB 32 mode G L e ∧ rf = RdF 32 mode G L e) :
    Calls Tryz.prog 88 #[.int .i64 32, .int .i64 mode, .agg #[.bool neg, .bool inf, .bool G, .slice p L.length cap, .int .i64 e], ev] w fun r w' => r = .returned (.tuple #[.int .u64 (tdB 2143289344 2139095040 2147483648 n inf (decide (L.length = 0)) neg rb), .int .i64 (tdF n b inf (decide (L.length = 0)) rf), .bool true]) ∧ Below w.heap.size w w' := by
  have CI := hid (fun w' h => inv_any hk w' h)
  have CZ := hid (fun w' => zero_any neg inf G p L.length cap e w' (by omega))
  obtain ⟨z, hz0⟩ : ∃ z, z = decide (L.length = 0) := ⟨_, rfl⟩
  have hz1 : z = false → L.length ≠ 0 := by intro h; rw [h] at hz0; simpa using hz0.symm
  rw [← hz0] at CZ ⊢
  clear hz0
  have X := Q5.new w (.bool neg) (.bool inf) (.bool G) (.slice p L.length cap) (.int .i64 e) 99
  have hg1 : EA.ErrT (w.alloc (.cells #[.bool neg, .bool inf, .bool G, .slice p L.length cap, .int .i64 e] 99)) := EA.five hg (by repeat (first | exact bz0 _ _ | refine bz1 ?_ | refine bz2 ?_ _ | refine bz3 ?_ _ | refine bz5 ?_ _ | refine bz6 ?_ _))
  have hT1 := hT.al (.cells #[.bool neg, .bool inf, .bool G, .slice p L.length cap, .int .i64 e] 99)
  have hs1 := hs.alloc (.cells #[.bool neg, .bool inf, .bool G, .slice p L.length cap, .int .i64 e] 99)
  cases hk with
  | quiet =>
    clear hro CZ
    go_enter Tryz.func88, Tryz.ntmps88
    go_wp2_with fail
    refine (CI.out _ hg1).mono ?_
    rintro r w1 ⟨rfl, hb1⟩
    go_wp2_with fail
    refine (impl_nan32 _ (hT1.s.f.below hb1)).mono ?_
    rintro r w2 ⟨rfl, hb2⟩
    go_wp2
    go_ret3
    exact ⟨rfl, (by repeat (first | exact bz0 _ _ | refine bz1 ?_ | refine bz2 ?_ _ | refine bz3 ?_ _ | refine bz4 ?_ hb2 | refine bz4 ?_ hb1 | refine bz5 ?_ _ | refine bz6 ?_ _ | refine bz7 ?_ hb2 | refine bz7 ?_ hb1))⟩
  | bad s =>
    clear hro CZ
    go_enter Tryz.func88, Tryz.ntmps88
    go_wp2_with fail
    refine (CI.out _ hg1).mono ?_
    rintro r w1 ⟨rfl, hb1⟩
    go_wp2_with fail
    refine (impl_nan32 _ (hT1.s.f.below hb1)).mono ?_
    rintro r w2 ⟨rfl, hb2⟩
    go_wp2
    go_ret3
    exact ⟨rfl, (by repeat (first | exact bz0 _ _ | refine bz1 ?_ | refine bz2 ?_ _ | refine bz3 ?_ _ | refine bz4 ?_ hb2 | refine bz4 ?_ hb1 | refine bz5 ?_ _ | refine bz6 ?_ _ | refine bz7 ?_ hb2 | refine bz7 ?_ hb1))⟩
  | no =>
  cases inf with
  | true =>
    clear hro CZ
    go_enter Tryz.func88, Tryz.ntmps88
    go_wp2_with fail
    refine (CI.out _ hg1).mono ?_
    rintro r w1 ⟨rfl, hb1⟩
    obtain ⟨x0, x1, x2, x3, x4⟩ := (X.below hb1).cs
    go_wp2_with fail
    refine (impl_Inf32 neg _ (hT1.s.f.below hb1)).mono ?_
    rintro r w2 ⟨rfl, hb2⟩
    go_wp2
    go_ret3
    exact ⟨rfl, (by repeat (first | exact bz0 _ _ | refine bz1 ?_ | refine bz2 ?_ _ | refine bz3 ?_ _ | refine bz4 ?_ hb2 | refine bz4 ?_ hb1 | refine bz5 ?_ _ | refine bz6 ?_ _ | refine bz7 ?_ hb2 | refine bz7 ?_ hb1))⟩
  | false =>
  simp only [Bool.not_false, Bool.true_and] at CZ
  cases z with
  | true =>
    clear hro
    go_enter Tryz.func88, Tryz.ntmps88
    go_wp2_with fail
    refine (CI.out _ hg1).mono ?_
    rintro r w1 ⟨rfl, hb1⟩
    replace X := X.below hb1
    obtain ⟨x0, x1, x2, x3, x4⟩ := X.cs
    go_wp2_with fail
    refine (CZ.out _).mono ?_
    rintro r w2 ⟨rfl, hb2⟩
    clear x0 x1 x2 x3 x4
    obtain ⟨x0, x1, x2, x3, x4⟩ := (X.below hb2).cs
    go_wp2_with fail
    refine (impl_Zero32 neg _ ((hT1.s.f.below hb1).below hb2)).mono ?_
    rintro r w3 ⟨rfl, hb3⟩
    go_wp2
    go_ret3
    exact ⟨rfl, (by repeat (first | exact bz0 _ _ | refine bz1 ?_ | refine bz2 ?_ _ | refine bz3 ?_ _ | refine bz4 ?_ hb3 | refine bz4 ?_ hb2 | refine bz4 ?_ hb1 | refine bz5 ?_ _ | refine bz6 ?_ _ | refine bz7 ?_ hb3 | refine bz7 ?_ hb2 | refine bz7 ?_ hb1))⟩
  | false =>
    obtain ⟨ho, hrb, hrf⟩ := hro rfl rfl (hz1 rfl)
    have CR := hid (fun w' h h' => rounded_impl 32 mode G L e p cap w' h h' hd (by omega))
    rw [← hrb, ← hrf, ho] at CR
    clear hro hrb hrf ho hz1
    go_enter Tryz.func88, Tryz.ntmps88
    go_wp2_with fail
    refine (CI.out _ hg1).mono ?_
    rintro r w1 ⟨rfl, hb1⟩
    replace X := X.below hb1
    obtain ⟨x0, x1, x2, x3, x4⟩ := X.cs
    go_wp2_with fail
    refine (CZ.out _).mono ?_
    rintro r w2 ⟨rfl, hb2⟩
    clear x0 x1 x2 x3 x4
    obtain ⟨x0, x1, x2, x3, x4⟩ := (X.below hb2).cs
    go_wp2_with fail
    refine (CR.out _ ((hT1.below hb1).below hb2) ((hs1.below hb1).below hb2)).mono ?_
    rintro r w3 ⟨rfl, hb3⟩
    go_wp2
    go_ret3
    exact ⟨rfl, (by repeat (first | exact bz0 _ _ | refine bz1 ?_ | refine bz2 ?_ _ | refine bz3 ?_ _ | refine bz4 ?_ hb3 | refine bz4 ?_ hb2 | refine bz4 ?_ hb1 | refine bz5 ?_ _ | refine bz6 ?_ _ | refine bz7 ?_ hb3 | refine bz7 ?_ hb2 | refine bz7 ?_ hb1))⟩
theorem told_64 (mode : Int) (neg inf G : Bool) (L : List Int) (e : Int) (p : Option Addr) (cap : Nat) (u ev : Value) (n b : Bool) (hk : EK u ev n b) (w : World) (hT : T3 w) (hg : EA.ErrT w) (hs : Sl .u32 w (.slice p L.length cap) L) (hd : Nm.Dg L) (hl : L.length ≤ 200) (rb rf : Int) (hro : n = false → inf = false → L.length ≠ 0 → RdO 64 mode G L e = true ∧ rb = RdB 64 mode G L e ∧ rf = RdF 64 mode G L e) :
    Calls Tryz.prog 88 #[.int .i64 64, .int .i64 mode, .agg #[.bool neg, .bool inf, .bool G, .slice p L.length cap, .int .i64 e], ev] w fun r w' => r = .returned (.tuple #[.int .u64 (tdB 9221120237041090560 9218868437227405312 9223372036854775808 n inf (decide (L.length = 0)) neg rb), .int .i64 (tdF n b inf (decide (L.length = 0)) rf), .bool true]) ∧ Below w.heap.size w w' := by
  have CI := hid (fun w' h => inv_any hk w' h)
  have CZ := hid (fun w' => zero_any neg inf G p L.length cap e w' (by omega))
  obtain ⟨z, hz0⟩ : ∃ z, z = decide (L.length = 0) := ⟨_, rfl⟩
  have hz1 : z = false → L.length ≠ 0 := by intro h; rw [h] at hz0; simpa using hz0.symm
  rw [← hz0] at CZ ⊢
  clear hz0
  have X := Q5.new w (.bool neg) (.bool inf) (.bool G) (.slice p L.length cap) (.int .i64 e) 99
  have hg1 : EA.ErrT (w.alloc (.cells #[.bool neg, .bool inf, .bool G, .slice p L.length cap, .int .i64 e] 99)) := EA.five hg (by repeat (first | exact bz0 _ _ | refine bz1 ?_ | refine bz2 ?_ _ | refine bz3 ?_ _ | refine bz5 ?_ _ | refine bz6 ?_ _))
  have hT1 := hT.al (.cells #[.bool neg, .bool inf, .bool G, .slice p L.length cap, .int .i64 e] 99)
  have hs1 := hs.alloc (.cells #[.bool neg, .bool inf, .bool G, .slice p L.length cap, .int .i64 e] 99)
  cases hk with
  | quiet =>
    clear hro CZ
    go_enter Tryz.func88, Tryz.ntmps88
    go_wp2_with fail
    refine (CI.out _ hg1).mono ?_
    rintro r w1 ⟨rfl, hb1⟩
    go_wp2_with fail
    refine (impl_nan64 _ (hT1.s.f.below hb1)).mono ?_
    rintro r w2 ⟨rfl, hb2⟩
    go_wp2
    go_ret3
    exact ⟨rfl, (by repeat (first | exact bz0 _ _ | refine bz1 ?_ | refine bz2 ?_ _ | refine bz3 ?_ _ | refine bz4 ?_ hb2 | refine bz4 ?_ hb1 | refine bz5 ?_ _ | refine bz6 ?_ _ | refine bz7 ?_ hb2 | refine bz7 ?_ hb1))⟩
  | bad s =>
    clear hro CZ
    go_enter Tryz.func88, Tryz.ntmps88
    go_wp2_with fail
    refine (CI.out _ hg1).mono ?_
    rintro r w1 ⟨rfl, hb1⟩
    go_wp2_with fail
    refine (impl_nan64 _ (hT1.s.f.below hb1)).mono ?_
    rintro r w2 ⟨rfl, hb2⟩
    go_wp2
    go_ret3
    exact ⟨rfl, (by repeat (first | exact bz0 _ _ | refine bz1 ?_ | refine bz2 ?_ _ | refine bz3 ?_ _ | refine bz4 ?_ hb2 | refine bz4 ?_ hb1 | refine bz5 ?_ _ | refine bz6 ?_ _ | refine bz7 ?_ hb2 | refine bz7 ?_ hb1))⟩
  | no =>
  cases inf with
  | true =>
    clear hro CZ
    go_enter Tryz.func88, Tryz.ntmps88
    go_wp2_with fail
    refine (CI.out _ hg1).mono ?_
    rintro r w1 ⟨rfl, hb1⟩
    obtain ⟨x0, x1, x2, x3, x4⟩ := (X.below hb1).cs
    go_wp2_with fail
    refine (impl_Inf64 neg _ (hT1.s.f.below hb1)).mono ?_
    rintro r w2 ⟨rfl, hb2⟩
    go_wp2
    go_ret3
    exact ⟨rfl, (by repeat (first | exact bz0 _ _ | refine bz1 ?_ | refine bz2 ?_ _ | refine bz3 ?_ _ | refine bz4 ?_ hb2 | refine bz4 ?_ hb1 | refine bz5 ?_ _ | refine bz6 ?_ _ | refine bz7 ?_ hb2 | refine bz7 ?_ hb1))⟩
  | false =>
  simp only [Bool.not_false, Bool.true_and] at CZ
  cases z with
  | true =>
    clear hro
    go_enter Tryz.func88, Tryz.ntmps88
    go_wp2_with fail
    refine (CI.out _ hg1).mono ?_
    rintro r w1 ⟨rfl, hb1⟩
    replace X := X.below hb1
    obtain ⟨x0, x1, x2, x3, x4⟩ := X.cs
    go_wp2_with fail
    refine (CZ.out _).mono ?_
    rintro r w2 ⟨rfl, hb2⟩
    clear x0 x1 x2 x3 x4
    obtain ⟨x0, x1, x2, x3, x4⟩ := (X.below hb2).cs
    go_wp2_with fail
    refine (impl_Zero64 neg _ ((hT1.s.f.below hb1).below hb2)).mono ?_
    rintro r w3 ⟨rfl, hb3⟩
    go_wp2
    go_ret3
    exact ⟨rfl, (by repeat (first | exact bz0 _ _ | refine bz1 ?_ | refine bz2 ?_ _ | refine bz3 ?_ _ | refine bz4 ?_ hb3 | refine bz4 ?_ hb2 | refine bz4 ?_ hb1 | refine bz5 ?_ _ | refine bz6 ?_ _ | refine bz7 ?_ hb3 | refine bz7 ?_ hb2 | refine bz7 ?_ hb1))⟩
  | false =>
    obtain ⟨ho, hrb, hrf⟩ := hro rfl rfl (hz1 rfl)
    have CR := hid (fun w' h h' => rounded_impl 64 mode G L e p cap w' h h' hd (by omega))
    rw [← hrb, ← hrf, ho] at CR
    clear hro hrb hrf ho hz1
    go_enter Tryz.func88, Tryz.ntmps88
    go_wp2_with fail
    refine (CI.out _ hg1).mono ?_
    rintro r w1 ⟨rfl, hb1⟩
    replace X := X.below hb1
    obtain ⟨x0, x1, x2, x3, x4⟩ := X.cs
    go_wp2_with fail
    refine (CZ.out _).mono ?_
    rintro r w2 ⟨rfl, hb2⟩
    clear x0 x1 x2 x3 x4
    obtain ⟨x0, x1, x2, x3, x4⟩ := (X.below hb2).cs
    go_wp2_with fail
    refine (CR.out _ ((hT1.below hb1).below hb2) ((hs1.below hb1).below hb2)).mono ?_
    rintro r w3 ⟨rfl, hb3⟩
    go_wp2
    go_ret3
    exact ⟨rfl, (by repeat (first | exact bz0 _ _ | refine bz1 ?_ | refine bz2 ?_ _ | refine bz3 ?_ _ | refine bz4 ?_ hb3 | refine bz4 ?_ hb2 | refine bz4 ?_ hb1 | refine bz5 ?_ _ | refine bz6 ?_ _ | refine bz7 ?_ hb3 | refine bz7 ?_ hb2 | refine bz7 ?_ hb1))⟩
end Go.Proofs.YtmcflggionkhlaaGreatDoor
