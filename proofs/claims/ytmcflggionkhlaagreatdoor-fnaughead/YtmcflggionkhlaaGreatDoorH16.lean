/-
  What is needed of AccA, WideR, FloatJ, TCd, WideT.
-/
import Derived.Test.YtmcflggionkhlaaGreatDoorH07
import Derived.Test.YtmcflggionkhlaaGreatDoorH10
import Derived.Test.YtmcflggionkhlaaGreatDoorH11
import Derived.Test.YtmcflggionkhlaaGreatDoorH15
set_option maxHeartbeats 16000000
set_option maxRecDepth 1000000
namespace Go.Proofs.YtmcflggionkhlaaGreatDoor
set_option linter.unusedVariables false
set_option linter.unusedSimpArgs false
open Go.RowKit Go.Deep
/-- A box of nine cells that may be written. -/
structure Q9 (w : World) (b : Nat) (v0 v1 v2 v3 v4 v5 v6 v7 v8 : Value) : Prop where
  c0 : w.cell? ⟨b, 0, none⟩ = some v0
  c1 : w.cell? ⟨b, 1, none⟩ = some v1
  c2 : w.cell? ⟨b, 2, none⟩ = some v2
  c3 : w.cell? ⟨b, 3, none⟩ = some v3
  c4 : w.cell? ⟨b, 4, none⟩ = some v4
  c5 : w.cell? ⟨b, 5, none⟩ = some v5
  c6 : w.cell? ⟨b, 6, none⟩ = some v6
  c7 : w.cell? ⟨b, 7, none⟩ = some v7
  c8 : w.cell? ⟨b, 8, none⟩ = some v8
  f0 : w.frozen? ⟨b, 0, none⟩ = false
  f1 : w.frozen? ⟨b, 1, none⟩ = false
  f2 : w.frozen? ⟨b, 2, none⟩ = false
  f3 : w.frozen? ⟨b, 3, none⟩ = false
  f4 : w.frozen? ⟨b, 4, none⟩ = false
  f5 : w.frozen? ⟨b, 5, none⟩ = false
  f6 : w.frozen? ⟨b, 6, none⟩ = false
  f7 : w.frozen? ⟨b, 7, none⟩ = false
  f8 : w.frozen? ⟨b, 8, none⟩ = false
theorem Q9.lt {w : World} {b : Nat} {v0 v1 v2 v3 v4 v5 v6 v7 v8 : Value} (h : Q9 w b v0 v1 v2 v3 v4 v5 v6 v7 v8) : b < w.heap.size := World.block_lt_of_cell? w _ h.c0
theorem Q9.cs {w : World} {b : Nat} {v0 v1 v2 v3 v4 v5 v6 v7 v8 : Value} (h : Q9 w b v0 v1 v2 v3 v4 v5 v6 v7 v8) : w.cell? ⟨b, 0, none⟩ = some v0 ∧ w.cell? ⟨b, 1, none⟩ = some v1 ∧ w.cell? ⟨b, 2, none⟩ = some v2 ∧ w.cell? ⟨b, 3, none⟩ = some v3 ∧ w.cell? ⟨b, 4, none⟩ = some v4 ∧ w.cell? ⟨b, 5, none⟩ = some v5 ∧ w.cell? ⟨b, 6, none⟩ = some v6 ∧ w.cell? ⟨b, 7, none⟩ = some v7 ∧ w.cell? ⟨b, 8, none⟩ = some v8 := ⟨h.c0, h.c1, h.c2, h.c3, h.c4, h.c5, h.c6, h.c7, h.c8⟩
theorem Q9.of_block {w w' : World} {b : Nat} {v0 v1 v2 v3 v4 v5 v6 v7 v8 : Value} (h : Q9 w b v0 v1 v2 v3 v4 v5 v6 v7 v8) (e : w'.heap[b]? = w.heap[b]?) : Q9 w' b v0 v1 v2 v3 v4 v5 v6 v7 v8 :=
  ⟨(World.cell?_of_block (a := ⟨b, 0, none⟩) e).trans h.c0, (World.cell?_of_block (a := ⟨b, 1, none⟩) e).trans h.c1, (World.cell?_of_block (a := ⟨b, 2, none⟩) e).trans h.c2, (World.cell?_of_block (a := ⟨b, 3, none⟩) e).trans h.c3, (World.cell?_of_block (a := ⟨b, 4, none⟩) e).trans h.c4, (World.cell?_of_block (a := ⟨b, 5, none⟩) e).trans h.c5, (World.cell?_of_block (a := ⟨b, 6, none⟩) e).trans h.c6, (World.cell?_of_block (a := ⟨b, 7, none⟩) e).trans h.c7, (World.cell?_of_block (a := ⟨b, 8, none⟩) e).trans h.c8, (World.frozen?_of_block (a := ⟨b, 0, none⟩) e).trans h.f0, (World.frozen?_of_block (a := ⟨b, 1, none⟩) e).trans h.f1, (World.frozen?_of_block (a := ⟨b, 2, none⟩) e).trans h.f2, (World.frozen?_of_block (a := ⟨b, 3, none⟩) e).trans h.f3, (World.frozen?_of_block (a := ⟨b, 4, none⟩) e).trans h.f4, (World.frozen?_of_block (a := ⟨b, 5, none⟩) e).trans h.f5, (World.frozen?_of_block (a := ⟨b, 6, none⟩) e).trans h.f6, (World.frozen?_of_block (a := ⟨b, 7, none⟩) e).trans h.f7, (World.frozen?_of_block (a := ⟨b, 8, none⟩) e).trans h.f8⟩
theorem Q9.below {w w' : World} {b : Nat} {v0 v1 v2 v3 v4 v5 v6 v7 v8 : Value} (h : Q9 w b v0 v1 v2 v3 v4 v5 v6 v7 v8) (hb : Below w.heap.size w w') : Q9 w' b v0 v1 v2 v3 v4 v5 v6 v7 v8 := h.of_block (hb.block b h.lt)
theorem Q9.new (w : World) (v0 v1 v2 v3 v4 v5 v6 v7 v8 : Value) (t : TypeId) : Q9 (w.alloc (.cells #[v0, v1, v2, v3, v4, v5, v6, v7, v8] t)) w.heap.size v0 v1 v2 v3 v4 v5 v6 v7 v8 := ⟨by simp, by simp, by simp, by simp, by simp, by simp, by simp, by simp, by simp, by simp, by simp, by simp, by simp, by simp, by simp, by simp, by simp, by simp⟩
theorem Q9.alloc {w : World} {b : Nat} {v0 v1 v2 v3 v4 v5 v6 v7 v8 : Value} (h : Q9 w b v0 v1 v2 v3 v4 v5 v6 v7 v8) (o : Obj) : Q9 (w.alloc o) b v0 v1 v2 v3 v4 v5 v6 v7 v8 := h.below ((Below.refl _ _).alloc (Nat.le_refl _) _)
theorem Q9.drew {w : World} {b : Nat} {v0 v1 v2 v3 v4 v5 v6 v7 v8 : Value} (h : Q9 w b v0 v1 v2 v3 v4 v5 v6 v7 v8) : Q9 w.drew b v0 v1 v2 v3 v4 v5 v6 v7 v8 := ⟨h.c0, h.c1, h.c2, h.c3, h.c4, h.c5, h.c6, h.c7, h.c8, h.f0, h.f1, h.f2, h.f3, h.f4, h.f5, h.f6, h.f7, h.f8⟩
theorem Q9.grown {w w' : World} {b : Nat} {v0 v1 v2 v3 v4 v5 v6 v7 v8 : Value} {row : Option Nat} (h : Q9 w b v0 v1 v2 v3 v4 v5 v6 v7 v8) (hg : w.grownBy w' row) (hne : ∀ g, row = some g → b ≠ g) : Q9 w' b v0 v1 v2 v3 v4 v5 v6 v7 v8 :=
  h.of_block (hg.block b h.lt (fun e => hne b e.symm rfl))
theorem Q9.other {w : World} {b : Nat} {v0 v1 v2 v3 v4 v5 v6 v7 v8 : Value} (h : Q9 w b v0 v1 v2 v3 v4 v5 v6 v7 v8) {p : Addr} (hp : b ≠ p.block) (u : Value) : Q9 (w.setCell p u) b v0 v1 v2 v3 v4 v5 v6 v7 v8 := h.of_block (Below.heap_setCell w p u b hp)
theorem top_bit (n : Nat) (h : n < 4294967296) : n.testBit 31 = decide (2147483648 ≤ n) := by
  rw [Nat.testBit_eq_decide_div_mod_eq]
  have e : n / 2 ^ 31 % 2 = 1 ↔ 2147483648 ≤ n := by omega
  simp only [e]
theorem top_div (n : Nat) (h : n < 4294967296) : n / 2147483648 = if n.testBit 31 then 1 else 0 := by
  rw [top_bit n h]
  by_cases hc : 2147483648 ≤ n
  · simp [hc]; omega
  · simp [hc]; omega
theorem borrow_nat (X Y D : Nat) (hX : X < 4294967296) (hY : Y < 4294967296) (hD : D < 4294967296) :
    (((4294967295 ^^^ X) &&& Y) ||| ((4294967295 ^^^ (X ^^^ Y)) &&& D)) / 2147483648 = if (!decide (2147483648 ≤ X) && decide (2147483648 ≤ Y)) || (decide (2147483648 ≤ X) == decide (2147483648 ≤ Y) && decide (2147483648 ≤ D)) then 1 else 0 := by
  have h1 : (4294967295 ^^^ X) < 2 ^ 32 := Nat.xor_lt_two_pow (by decide) (by omega)
  have h2 : (X ^^^ Y) < 2 ^ 32 := Nat.xor_lt_two_pow (by omega) (by omega)
  have h3 : (4294967295 ^^^ (X ^^^ Y)) < 2 ^ 32 := Nat.xor_lt_two_pow (by decide) h2
  have h4 : ((4294967295 ^^^ X) &&& Y) < 2 ^ 32 := Nat.and_lt_two_pow _ (by omega)
  have h5 : ((4294967295 ^^^ (X ^^^ Y)) &&& D) < 2 ^ 32 := Nat.and_lt_two_pow _ (by omega)
  have h6 := Nat.or_lt_two_pow h4 h5
  rw [top_div _ (by omega), Nat.testBit_or, Nat.testBit_and, Nat.testBit_and, Nat.testBit_xor, Nat.testBit_xor, Nat.testBit_xor, top_bit X hX, top_bit Y hY, top_bit D hD, show Nat.testBit 4294967295 31 = true from by decide]
  cases decide (2147483648 ≤ X) <;> cases decide (2147483648 ≤ Y) <;> cases decide (2147483648 ≤ D) <;> rfl
theorem umax : IntKind.u32.max = 4294967295 := by decide
/-- What is borrowed. -/
def bor (x y c : Int) : Int := if x < y + c then 1 else 0
theorem borrow_any (x y c : Int) (hx : 0 ≤ x) (hx1 : x < 4294967296) (hy : 0 ≤ y) (hy1 : y < 4294967296) (hc : 0 ≤ c) (hc1 : c ≤ 1) :
    bits .or .u32 (bits .and .u32 (bits .xor .u32 IntKind.u32.max x) y) (bits .and .u32 (bits .xor .u32 IntKind.u32.max (bits .xor .u32 x y)) ((x - y - c) % 4294967296)) / 2147483648 = bor x y c := by
  unfold bor
  obtain ⟨X, rfl⟩ := Int.eq_ofNat_of_zero_le hx
  obtain ⟨Y, rfl⟩ := Int.eq_ofNat_of_zero_le hy
  obtain ⟨D, hD⟩ : ∃ D : Nat, ((X : Int) - Y - c) % 4294967296 = (D : Int) := Int.eq_ofNat_of_zero_le (by omega)
  rw [hD, umax]
  have hX : X < 4294967296 := by omega
  have hY : Y < 4294967296 := by omega
  have hD1 : D < 4294967296 := by omega
  have e1 : bits .xor .u32 (4294967295 : Int) (X : Int) = ((4294967295 ^^^ X : Nat) : Int) := by
    have := u32_xor_nat 4294967295 X (by decide) hX
    simpa using this
  have h1 : (4294967295 ^^^ X) < 2 ^ 32 := Nat.xor_lt_two_pow (by decide) (by omega)
  have h2 : (X ^^^ Y) < 2 ^ 32 := Nat.xor_lt_two_pow (by omega) (by omega)
  have e3 : bits .xor .u32 (4294967295 : Int) ((X ^^^ Y : Nat) : Int) = ((4294967295 ^^^ (X ^^^ Y) : Nat) : Int) := by
    have := u32_xor_nat 4294967295 (X ^^^ Y) (by decide) (by omega)
    simpa using this
  have h3 : (4294967295 ^^^ (X ^^^ Y)) < 2 ^ 32 := Nat.xor_lt_two_pow (by decide) h2
  have h4 : ((4294967295 ^^^ X) &&& Y) < 2 ^ 32 := Nat.and_lt_two_pow _ (by omega)
  have h5 : ((4294967295 ^^^ (X ^^^ Y)) &&& D) < 2 ^ 32 := Nat.and_lt_two_pow _ (by omega)
  rw [e1, u32_xor_nat X Y hX hY, e3, u32_and_nat _ Y (by omega) hY, u32_and_nat _ D (by omega) hD1, u32_or_nat _ _ (by omega) (by omega)]
  rw [show ((2147483648 : Int)) = ((2147483648 : Nat) : Int) from rfl, ← Int.natCast_ediv, borrow_nat X Y D hX hY hD1]
  by_cases b1 : 2147483648 ≤ X <;> by_cases b2 : 2147483648 ≤ Y <;> by_cases b3 : 2147483648 ≤ D <;> by_cases b4 : (X : Int) < Y + c <;> simp [b1, b2, b3, b4] <;> omega
theorem ret_two {a a' b b' : Int} (h : a = a') (k : b = b') : Ending.returned (.tuple #[.int .u32 a, .int .u32 b]) = .returned (.tuple #[.int .u32 a', .int .u32 b']) := by rw [h, k]
theorem sub32_any (x y c : Int) (w : World) (hx : 0 ≤ x) (hx1 : x < 4294967296) (hy : 0 ≤ y) (hy1 : y < 4294967296) (hc : 0 ≤ c) (hc1 : c ≤ 1) :
    Calls Tryz.prog 203 #[.int .u32 x, .int .u32 y, .int .u32 c] w fun e w' => e = .returned (.tuple #[.int .u32 ((x - y - c) % 4294967296), .int .u32 (bor x y c)]) ∧ w' = w := by
  have HB := hid (borrow_any x y c hx hx1 hy hy1 hc hc1)
  go_enter Tryz.func203, Tryz.ntmps203
  go_wp2
  go_ret2
  exact ⟨ret_two rfl HB.out, rfl⟩
theorem bor_is (x y c : Int) (hx : 0 ≤ x) (hx1 : x < 4294967296) (hy : 0 ≤ y) (hy1 : y < 4294967296) (hc : 0 ≤ c) (hc1 : c ≤ 1) : (x - y - c) % 4294967296 - 4294967296 * bor x y c = x - y - c ∧ 0 ≤ bor x y c ∧ bor x y c ≤ 1 := by
  unfold bor; split <;> omega
theorem subLimbs_any (a a' : Option Addr) (cap cap' : Nat) (xs ys : List Int) (w : World) (hx : Sl .u32 w (.slice a xs.length cap) xs) (hy : Sl .u32 w (.slice a' ys.length cap') ys) (dx : Nm.Dg xs) (dy : Nm.Dg ys) (hl : xs.length ≤ 500000) (hl' : ys.length ≤ xs.length) (hge : Nm.val ys ≤ Nm.val xs) :
    Calls Tryz.prog 150 #[.slice a xs.length cap, .slice a' ys.length cap'] w fun e w' => ∃ a1 c1 os, e = .returned (.slice a1 os.length c1) ∧ Own w' w.heap.size a1 c1 os ∧ Nm.Dg os ∧ Nm.val os = Nm.val xs - Nm.val ys ∧ os.length ≤ 1048576 ∧ Below w.heap.size w w' := by
  have hmk := run_make_row' (P := Tryz.prog) 29 89 (.int .u32 0) 4 Tryz.underlying29 info32 rfl .i64 .i64 xs.length (by omega) (by omega)
  obtain ⟨-, hx1, hx2, hx3⟩ := hx.cells
  have HX3 := hid hx3
  have HGE := hid hge
  clear hx3 hge
  go_enter Tryz.func150, Tryz.ntmps150
  go_wp2_with fail
  clear hmk
  go_loopw [6, 13] (fun cy i wr => ∃ k : Nat, ∃ os : List Int, ∃ c : Int, k ≤ xs.length ∧ i = .int .i64 k ∧ cy = .int .u32 c ∧ 0 ≤ c ∧ c ≤ 1 ∧ os.length = xs.length ∧ Rw wr w.heap.size os ∧ Nm.Dg os ∧ Nm.SubAt xs ys os k c ∧ Below w.heap.size w wr) (fun _ i _ => xs.length - (intOf i).toNat)
  case atStart => exact ⟨0, List.replicate xs.length 0, 0, Nat.zero_le _, rfl, rfl, by omega, by omega, by simp, Rw.made w xs.length, Nm.Dg.replicate _, Nm.SubAt.zero _ _ _, (by repeat (first | exact bz0 _ _ | refine bz1 ?_ | refine bz2 ?_ _ | refine bz3 ?_ _ | refine bz5 ?_ _ | refine bz6 ?_ _))⟩
  case round =>
    obtain ⟨k, os, c, hk, rfl, rfl, hc0, hc1, hol, hrw, hdo, hadd, hb⟩ := hrel
    have HOL := hid hol
    have hol1 : xs.length ≤ os.length := by omega
    have HADD := hid hadd
    have HDO := hid hdo
    clear hol hadd hdo
    have sy := hy.below hb
    by_cases hlt : k < xs.length
    · have hcell := hrw.cell (k := k) (by omega)
      have hfr := hrw.frozen k
      obtain ⟨o, ho⟩ : ∃ o, o = os.getD k 0 := ⟨_, rfl⟩
      rw [← ho] at hcell
      obtain ⟨b, off, rfl, hcx⟩ := HX3.out (by omega)
      have hca0 := hcx k hlt
      have hbl := World.block_lt_of_cell? w _ hca0
      have hca : wr.cell? ⟨b, off + k, none⟩ = some (.int .u32 (xs.getD k 0)) := (hb.cell (p := ⟨b, off + k, none⟩) hbl).trans hca0
      have c2 := fun w' (h : Sl .u32 w' (.slice a' ys.length cap') ys) => limbAt_any a' cap' ys k w' h (by omega) (by omega)
      have hst := fun d c' => Nm.SubAt.step (d := d) (c' := c') HADD.out (show k < os.length by omega)
      obtain ⟨ex0, ex1⟩ := dx.getD k
      obtain ⟨ey0, ey1⟩ := dy.getD k
      obtain ⟨x, hxk⟩ : ∃ x, x = xs.getD k 0 := ⟨_, rfl⟩
      obtain ⟨y, hyk⟩ : ∃ y, y = ys.getD k 0 := ⟨_, rfl⟩
      rw [← hxk] at hca ex0 ex1
      simp only [← hyk] at c2
      rw [← hyk] at ey0 ey1
      rw [← hxk, ← hyk] at hst
      have C2 := hid c2
      have HST := hid hst
      have HBO := hid (bor_is x y c ex0 ex1 ey0 ey1 hc0 hc1)
      clear c2 hst hxk hyk hca0 hcx ho
      have k0 : (0 : Int) ≤ (k : Int) := by omega
      have k1 : (k : Int) < (xs.length : Int) := by omega
      have hne : w.heap.size ≠ b := by simp at hbl; omega
      go_wp2_with fail
      go_region_held3 (fun w' => w'.cell? ⟨b, off + k, none⟩ = some (.int .u32 x)) (first | assumption | go_keep)
        (first
          | (go_at_call 146; refine (C2.out _ (by exact Sl.drew sy)).mono ?_; rintro e w' ⟨rfl, rfl⟩)
          | (go_at_call 203; refine (sub32_any x y c _ ex0 ex1 ey0 ey1 hc0 hc1).mono ?_; rintro e w' ⟨rfl, rfl⟩))
      go_wp2
      obtain ⟨b1, b2, b3⟩ := HBO.out
      go_roundw
      case rel => exact ⟨k + 1, os.set k ((x - y - c) % 4294967296), bor x y c, by omega, by go_num, rfl, b2, b3, by rw [List.length_set]; exact HOL.out, hrw.set (by omega) _, HDO.out.set _ (by omega), HST.out _ _ b1, (hb.setCell (Nat.le_refl _) _).drew⟩
      case measure => simp [intOf]; omega
    · obtain rfl : k = xs.length := by omega
      have hown := hrw.own (base := w.heap.size) (Nat.le_refl _) (by have := HOL.out; unfold maxLen; omega)
      have hs2 := HADD.out
      rw [← HOL.out] at hs2
      have hfull := hs2.full HOL.out.symm (by have := HOL.out; omega) dx dy HDO.out hc0 HGE.out
      have HF := hid (And.intro hown hfull)
      clear hown hfull hs2
      go_wp2
      go_ret
      exact ⟨some ⟨w.heap.size, 0, none⟩, os.length, os, by rw [HOL.out]; rfl, HF.out.1, HDO.out, HF.out.2, by have := HOL.out; omega, hb⟩
end Go.Proofs.YtmcflggionkhlaaGreatDoor
namespace Go.Proofs.YtmcflggionkhlaaGreatDoor
set_option linter.unusedVariables false
set_option linter.unusedSimpArgs false
open Go.RowKit
theorem clsY_rng (L I Q y : Int) : 0 ≤ clsY L I Q y ∧ clsY L I Q y ≤ 5 := by unfold clsY; repeat' split <;> omega
theorem cls_rng (fm x : Int) : -1 ≤ cls fm x ∧ cls fm x ≤ 5 := by
  unfold cls
  split
  · split
    · have := clsY_rng 8388608 2139095040 4194304 (x % 2147483648); omega
    · have := clsY_rng 4503599627370496 9218868437227405312 2251799813685248 (x % 9223372036854775808); omega
  · omega
/-- Finite; finite or infinity. -/
def finB (fm x : Int) : Bool := decide (0 ≤ cls fm x ∧ cls fm x ≤ 2)
def numB (fm x : Int) : Bool := decide (0 ≤ cls fm x ∧ cls fm x ≤ 3)

theorem impl_fin (fm x : Int) (w : World) (hT : Tab w) (h0 : 0 ≤ x) (h1 : x < 18446744073709551616) :
    Calls Tryz.prog 143 #[.int .i64 fm, .int .u64 x] w fun e w' => e = .returned (.bool (finB fm x)) ∧ Below w.heap.size w w' := by
  have ⟨r0, r1⟩ := cls_rng fm x
  by_cases hc : 0 ≤ cls fm x ∧ cls fm x ≤ 2
  · have HR : Hid (finB fm x = true) := hid (by unfold finB; simpa using hc)
    have h3 : cls fm x = 0 ∨ cls fm x = 1 ∨ cls fm x = 2 := by omega
    have H3 := hid h3
    clear h3 hc
    rcases H3.out with c | c | c
    all_goals
      go_enter Tryz.func143, Tryz.ntmps143
      go_wp2_with fail
      refine (impl_cls fm x _ hT h0 h1).mono ?_
      rintro e w1 ⟨rfl, hb1⟩
      go_wp2
      go_ret
      exact ⟨ret_bool HR.out.symm, (by repeat (first | exact bz0 _ _ | refine bz1 ?_ | refine bz2 ?_ _ | refine bz3 ?_ _ | refine bz4 ?_ hb1 | refine bz5 ?_ _ | refine bz6 ?_ _ | refine bz7 ?_ hb1))⟩
  · have HR : Hid (finB fm x = false) := hid (by unfold finB; simpa using hc)
    have n0 : (cls fm x == 0) = false := by rw [beq_eq_false_iff_ne]; omega
    have n1 : (cls fm x == 1) = false := by rw [beq_eq_false_iff_ne]; omega
    have n2 : (cls fm x == 2) = false := by rw [beq_eq_false_iff_ne]; omega
    clear hc
    go_enter Tryz.func143, Tryz.ntmps143
    go_wp2_with fail
    refine (impl_cls fm x _ hT h0 h1).mono ?_
    rintro e w1 ⟨rfl, hb1⟩
    go_wp2
    go_ret
    exact ⟨ret_bool HR.out.symm, (by repeat (first | exact bz0 _ _ | refine bz1 ?_ | refine bz2 ?_ _ | refine bz3 ?_ _ | refine bz4 ?_ hb1 | refine bz5 ?_ _ | refine bz6 ?_ _ | refine bz7 ?_ hb1))⟩

/-- How two floats compare. -/
def cmpF (fm a b : Int) : Int := if numB fm a && numB fm b then (if cls fm a == 0 && cls fm b == 0 then 0 else cmpI (ordI fm a) (ordI fm b)) else 2
end Go.Proofs.YtmcflggionkhlaaGreatDoor
namespace Go.Proofs.YtmcflggionkhlaaGreatDoor
set_option linter.unusedVariables false
set_option linter.unusedSimpArgs false
open Go.RowKit Go.Deep
namespace TCn
theorem four_cell {x y : Int} (w : World) {w' : World} {rb : Nat} {t : TypeId} (hg : (w.alloc (.cells #[.int .i64 x, .int .i64 y, .int .i64 (-9223372036854775808), .int .i64 9223372036854775807] t)).grownBy w' (some rb)) (hne : rb < w.heap.size) (k : Nat) (hk : k < 4) :
    ∃ d : Int, w'.cell? ⟨w.heap.size, k, none⟩ = some (.int .i64 d) := by
  have e := hg.block w.heap.size (by simp) (by simp; omega)
  have h : ∀ j, w'.cell? ⟨w.heap.size, j, none⟩ = (#[.int .i64 x, .int .i64 y, .int .i64 (-9223372036854775808), .int .i64 9223372036854775807] : Array Value)[j]? := fun j => by
    rw [World.cell?_of_block (a := ⟨w.heap.size, j, none⟩) e]
    exact World.cell?_alloc_new w _ _ j
  rw [h k]
  rcases (show k = 0 ∨ k = 1 ∨ k = 2 ∨ k = 3 by omega) with rfl | rfl | rfl | rfl
  · exact ⟨x, rfl⟩
  · exact ⟨y, rfl⟩
  · exact ⟨_, rfl⟩
  · exact ⟨_, rfl⟩
end TCn
/-- What is answered where the arguments may not be right: x, or nothing. -/
def opL (ok : Bool) (x : Int) : List Int := if ok then Nm.outL x else []
def opN (ok : Bool) (x : Int) : Bool := ok && Nm.outN x
def opO (ok : Bool) (x : Int) : Bool := ok && Nm.fits x
theorem op_no (x : Int) : opL false x = [] ∧ opN false x = false ∧ opO false x = false := ⟨rfl, rfl, rfl⟩
theorem op_yes (x : Int) : opL true x = Nm.outL x ∧ opN true x = Nm.outN x ∧ opO true x = Nm.fits x := ⟨rfl, rfl, rfl⟩
end Go.Proofs.YtmcflggionkhlaaGreatDoor
