/-
  What is needed of WideR, DrawA.
-/
import Derived.Laws.Closers25b
import Derived.Test.YtkfjmcdniohljaaGreatDoorF06
import Derived.Test.YtkfjmcdniohljaaGreatDoorF07
set_option maxHeartbeats 16000000
set_option maxRecDepth 1000000
namespace Go.Proofs.YtkfjmcdniohljaaGreatDoor
set_option linter.unusedVariables false
set_option linter.unusedSimpArgs false
open Go.RowKit Go.Deep
theorem top_bit (n : Nat) (h : n < 4294967296) : n.testBit 31 = decide (2147483648 ≤ n) := by
 rw [Nat.testBit_eq_decide_div_mod_eq]
 have e : n / 2 ^ 31 % 2 = 1 ↔ 2147483648 ≤ n := by omega
 simp only [e]
theorem top_div (n : Nat) (h : n < 4294967296) : n / 2147483648 = if n.testBit 31 then 1 else 0 := by
 rw [top_bit n h]
 by_cases hc : 2147483648 ≤ n
 ·simp [hc]; omega
 ·simp [hc]; omega
theorem borrow_nat (X Y D : Nat) (hX : X < 4294967296) (hY : Y < 4294967296) (hD : D < 4294967296) :
  (((4294967295 ^^^ X) &&& Y) ||| ((4294967295 ^^^ (X ^^^ Y)) &&& D)) / 2147483648 = if (!decide (2147483648 ≤ X) && decide (2147483648 ≤ Y)) || (decide (2147483648 ≤ X) == decide (2147483648 ≤ Y) && decide (2147483648 ≤ D)) then 1 else 0 := by
 have h1 : (4294967295 ^^^ X) < 2 ^ 32 := Nat.xor_lt_two_pow (by decide) (by omega)
 have h2 : (X ^^^ Y) < 2 ^ 32 := Nat.xor_lt_two_pow (by omega) (by omega)
 have h3 : (4294967295 ^^^ (X ^^^ Y)) < 2 ^ 32 := Nat.xor_lt_two_pow (by decide) h2
 have h4 : ((4294967295 ^^^ X) &&& Y) < 2 ^ 32 := Nat.and_lt_two_pow _ (by omega)
 have h5 : ((4294967295 ^^^ (X ^^^ Y)) &&& D) < 2 ^ 32 := Nat.and_lt_two_pow _ (by omega)
 have h6 := Nat.or_lt_two_pow h4 h5
 rw [top_div _ (by omega), Nat.testBit_or, Nat.testBit_and, Nat.testBit_and, Nat.testBit_xor, Nat.testBit_xor, Nat.testBit_xor, top_bit X hX, top_bit Y hY, top_bit D hD, show Nat.testBit 4294967295 31 = true from by decide]
 cases decide (2147483648 ≤ X) <;> cases decide (2147483648 ≤ Y) <;> cases decide (2147483648 ≤ D) <;> rfl
theorem umax : IntKind.u32.max = 4294967295 := by decide
def bor (x y c : Int) : Int := if x < y + c then 1 else 0
theorem borrow_any (x y c : Int) (hx : 0 ≤ x) (hx1 : x < 4294967296) (hy : 0 ≤ y) (hy1 : y < 4294967296) (hc : 0 ≤ c) (hc1 : c ≤ 1) :
  bits .or .u32 (bits .and .u32 (bits .xor .u32 IntKind.u32.max x) y) (bits .and .u32 (bits .xor .u32 IntKind.u32.max (bits .xor .u32 x y)) ((x - y - c) % 4294967296)) / 2147483648 = bor x y c := by
 unfold bor
 obtain ⟨X, rfl⟩ := Int.eq_ofNat_of_zero_le hx
 obtain ⟨Y, rfl⟩ := Int.eq_ofNat_of_zero_le hy
 obtain ⟨D, hD⟩ : ∃ D : Nat, ((X : Int) - Y - c) % 4294967296 = (D : Int) := Int.eq_ofNat_of_zero_le (by omega)
 rw [hD, umax]
 have hX : X < 4294967296 := by omega
 have hY : Y < 4294967296 := by omega
 have hD1 : D < 4294967296 := by omega
 have e1 : bits .xor .u32 (4294967295 : Int) (X : Int) = ((4294967295 ^^^ X : Nat) : Int) := by
  have := u32_xor_nat 4294967295 X (by decide) hX
  simpa using this
 have h1 : (4294967295 ^^^ X) < 2 ^ 32 := Nat.xor_lt_two_pow (by decide) (by omega)
 have h2 : (X ^^^ Y) < 2 ^ 32 := Nat.xor_lt_two_pow (by omega) (by omega)
 have e3 : bits .xor .u32 (4294967295 : Int) ((X ^^^ Y : Nat) : Int) = ((4294967295 ^^^ (X ^^^ Y) : Nat) : Int) := by
  have := u32_xor_nat 4294967295 (X ^^^ Y) (by decide) (by omega)
  simpa using this
 have h3 : (4294967295 ^^^ (X ^^^ Y)) < 2 ^ 32 := Nat.xor_lt_two_pow (by decide) h2
 have h4 : ((4294967295 ^^^ X) &&& Y) < 2 ^ 32 := Nat.and_lt_two_pow _ (by omega)
 have h5 : ((4294967295 ^^^ (X ^^^ Y)) &&& D) < 2 ^ 32 := Nat.and_lt_two_pow _ (by omega)
 rw [e1, u32_xor_nat X Y hX hY, e3, u32_and_nat _ Y (by omega) hY, u32_and_nat _ D (by omega) hD1, u32_or_nat _ _ (by omega) (by omega)]
 rw [show ((2147483648 : Int)) = ((2147483648 : Nat) : Int) from rfl, ← Int.natCast_ediv, borrow_nat X Y D hX hY hD1]
 by_cases b1 : 2147483648 ≤ X <;> by_cases b2 : 2147483648 ≤ Y <;> by_cases b3 : 2147483648 ≤ D <;> by_cases b4 : (X : Int) < Y + c <;> simp [b1, b2, b3, b4] <;> omega
theorem ret_two {a a' b b' : Int} (h : a = a') (k : b = b') : Ending.returned (.tuple #[.int .u32 a, .int .u32 b]) = .returned (.tuple #[.int .u32 a', .int .u32 b']) := by rw [h, k]
theorem sub32_any (x y c : Int) (w : World) (hx : 0 ≤ x) (hx1 : x < 4294967296) (hy : 0 ≤ y) (hy1 : y < 4294967296) (hc : 0 ≤ c) (hc1 : c ≤ 1) :
  Calls Tryz.prog 218 #[.int .u32 x, .int .u32 y, .int .u32 c] w fun e w' => e = .returned (.tuple #[.int .u32 ((x - y - c) % 4294967296), .int .u32 (bor x y c)]) ∧ w' = w := by
 have HB := hid (borrow_any x y c hx hx1 hy hy1 hc hc1)
 go_enter Tryz.func218, Tryz.ntmps218
 go_wp2
 go_ret2
 exact ⟨ret_two rfl HB.out, rfl⟩
theorem bor_is (x y c : Int) (hx : 0 ≤ x) (hx1 : x < 4294967296) (hy : 0 ≤ y) (hy1 : y < 4294967296) (hc : 0 ≤ c) (hc1 : c ≤ 1) : (x - y - c) % 4294967296 - 4294967296 * bor x y c = x - y - c ∧ 0 ≤ bor x y c ∧ bor x y c ≤ 1 := by
 unfold bor; split <;> omega
theorem subLimbs_any (a a' : Option Addr) (cap cap' : Nat) (xs ys : List Int) (w : World) (hx : Sl .u32 w (.slice a xs.length cap) xs) (hy : Sl .u32 w (.slice a' ys.length cap') ys) (dx : Nm.Dg xs) (dy : Nm.Dg ys) (hl : xs.length ≤ 500000) (hl' : ys.length ≤ xs.length) (hge : Nm.val ys ≤ Nm.val xs) :
  Calls Tryz.prog 162 #[.slice a xs.length cap, .slice a' ys.length cap'] w fun e w' => ∃ a1 c1 os, e = .returned (.slice a1 os.length c1) ∧ Own w' w.heap.size a1 c1 os ∧ Nm.Dg os ∧ Nm.val os = Nm.val xs - Nm.val ys ∧ os.length ≤ 1048576 ∧ Below w.heap.size w w' := by
 have hmk := run_make_row' (P := Tryz.prog) 30 128 (.int .u32 0) 4 Tryz.underlying30 info32 rfl .i64 .i64 xs.length (by omega) (by omega)
 obtain ⟨-, hx1, hx2, hx3⟩ := hx.cells
 have HX3 := hid hx3
 have HGE := hid hge
 clear hx3 hge
 go_enter Tryz.func162, Tryz.ntmps162
 go_wp2_with fail
 clear hmk
 go_loopw [6, 13] (fun cy i wr => ∃ k : Nat, ∃ os : List Int, ∃ c : Int, k ≤ xs.length ∧ i = .int .i64 k ∧ cy = .int .u32 c ∧ 0 ≤ c ∧ c ≤ 1 ∧ os.length = xs.length ∧ Rw wr w.heap.size os ∧ Nm.Dg os ∧ Nm.SubAt xs ys os k c ∧ Below w.heap.size w wr) (fun _ i _ => xs.length - (intOf i).toNat)
 case atStart => exact ⟨0, List.replicate xs.length 0, 0, Nat.zero_le _, rfl, rfl, by omega, by omega, by simp, Rw.made w xs.length, Nm.Dg.replicate _, Nm.SubAt.zero _ _ _, (by repeat (first | exact bz0 _ _ | refine bz1 ?_ | refine bz2 ?_ _ | refine bz3 ?_ _ | refine bz5 ?_ _ | refine bz6 ?_ _))⟩
 case round =>
  obtain ⟨k, os, c, hk, rfl, rfl, hc0, hc1, hol, hrw, hdo, hadd, hb⟩ := hrel
  have HOL := hid hol
  have hol1 : xs.length ≤ os.length := by omega
  have HADD := hid hadd
  have HDO := hid hdo
  clear hol hadd hdo
  have sy := hy.below hb
  by_cases hlt : k < xs.length
  ·have hcell := hrw.cell (k := k) (by omega)
   have hfr := hrw.frozen k
   obtain ⟨o, ho⟩ : ∃ o, o = os.getD k 0 := ⟨_, rfl⟩
   rw [← ho] at hcell
   obtain ⟨b, off, rfl, hcx⟩ := HX3.out (by omega)
   have hca0 := hcx k hlt
   have hbl := World.block_lt_of_cell? w _ hca0
   have hca : wr.cell? ⟨b, off + k, none⟩ = some (.int .u32 (xs.getD k 0)) := (hb.cell (p := ⟨b, off + k, none⟩) hbl).trans hca0
   have c2 := fun w' (h : Sl .u32 w' (.slice a' ys.length cap') ys) => limbAt_any a' cap' ys k w' h (by omega) (by omega)
   have hst := fun d c' => Nm.SubAt.step (d := d) (c' := c') HADD.out (show k < os.length by omega)
   obtain ⟨ex0, ex1⟩ := dx.getD k
   obtain ⟨ey0, ey1⟩ := dy.getD k
   obtain ⟨x, hxk⟩ : ∃ x, x = xs.getD k 0 := ⟨_, rfl⟩
   obtain ⟨y, hyk⟩ : ∃ y, y = ys.getD k 0 := ⟨_, rfl⟩
   rw [← hxk] at hca ex0 ex1
   simp only [← hyk] at c2
   rw [← hyk] at ey0 ey1
   rw [← hxk, ← hyk] at hst
   have C2 := hid c2
   have HST := hid hst
   have HBO := hid (bor_is x y c ex0 ex1 ey0 ey1 hc0 hc1)
   clear c2 hst hxk hyk hca0 hcx ho
   have k0 : (0 : Int) ≤ (k : Int) := by omega
   have k1 : (k : Int) < (xs.length : Int) := by omega
   have hne : w.heap.size ≠ b := by simp at hbl; omega
   go_wp2_with fail
   go_region_held3 (fun w' => w'.cell? ⟨b, off + k, none⟩ = some (.int .u32 x)) (first | assumption | go_keep)
    (first
     | (go_at_call 194; refine (C2.out _ (by exact Sl.drew sy)).mono ?_; rintro e w' ⟨rfl, rfl⟩)
     | (go_at_call 218; refine (sub32_any x y c _ ex0 ex1 ey0 ey1 hc0 hc1).mono ?_; rintro e w' ⟨rfl, rfl⟩))
   go_wp2
   obtain ⟨b1, b2, b3⟩ := HBO.out
   go_roundw
   case rel => exact ⟨k + 1, os.set k ((x - y - c) % 4294967296), bor x y c, by omega, by go_num, rfl, b2, b3, by rw [List.length_set]; exact HOL.out, hrw.set (by omega) _, HDO.out.set _ (by omega), HST.out _ _ b1, (hb.setCell (Nat.le_refl _) _).drew⟩
   case measure => simp [intOf]; omega
  ·obtain rfl : k = xs.length := by omega
   have hown := hrw.own (base := w.heap.size) (Nat.le_refl _) (by have := HOL.out; unfold maxLen; omega)
   have hs2 := HADD.out
   rw [← HOL.out] at hs2
   have hfull := hs2.full HOL.out.symm (by have := HOL.out; omega) dx dy HDO.out hc0 HGE.out
   have HF := hid (And.intro hown hfull)
   clear hown hfull hs2
   go_wp2
   go_ret
   exact ⟨some ⟨w.heap.size, 0, none⟩, os.length, os, by rw [HOL.out]; rfl, HF.out.1, HDO.out, HF.out.2, by have := HOL.out; omega, hb⟩
structure RD (w : World) (rb : Nat) (ca : Option Addr) (cc : Nat) (cs : List Int) : Prop where
 p : ∃ p : Nat, p ≤ cs.length ∧ R2 w rb (.slice ca cs.length cc) (.int .i64 p)
 s : Sl .u8 w (.slice ca cs.length cc) cs
 ne : 0 < cs.length → ∀ b off, ca = some ⟨b, off, none⟩ → b < rb
 by_ : ∀ i, 0 ≤ cs.getD i 0 ∧ cs.getD i 0 ≤ 255
 len : cs.length ≤ 1048576
theorem Sl.any {k : IntKind} {w w' : World} {v : Value} {zs : List Int} (h : Sl k w v zs) (h0 : ¬ 0 < zs.length) : Sl k w' v zs := by
 obtain ⟨a, cap, rfl, h1, h2, h3⟩ := h
 exact ⟨a, cap, rfl, h1, h2, .inl (List.eq_nil_of_length_eq_zero (by omega))⟩
theorem Sl.grownNe {k : IntKind} {w w' : World} {ca : Option Addr} {n cc g : Nat} {zs : List Int} (h : Sl k w (.slice ca n cc) zs) (hg : w.grownBy w' (some g)) (hne : 0 < zs.length → ∀ b off, ca = some ⟨b, off, none⟩ → b ≠ g) : Sl k w' (.slice ca n cc) zs := by
 by_cases h0 : 0 < zs.length
 ·refine h.grown hg (fun g' hg' => ?_)
  cases hg'
  right
  intro b off n cap he
  cases he
  exact hne h0 b off rfl
 ·exact h.any h0
theorem grown_trans {w w1 w2 : World} {row : Option Nat} (h : w.grownBy w1 row) (k : w1.grownBy w2 row) : w.grownBy w2 row :=
 ⟨k.os.trans h.os, k.tape.trans h.tape, k.output.trans h.output, Nat.le_trans h.size k.size, fun i hi hne => (k.block i (Nat.lt_of_lt_of_le hi h.size) hne).trans (h.block i hi hne)⟩
theorem grown_refl (w : World) (row : Option Nat) : w.grownBy w row := ⟨rfl, rfl, rfl, Nat.le_refl _, fun _ _ _ => rfl⟩
theorem grown_below {w w' : World} (h : Below w.heap.size w w') (row : Option Nat) : w.grownBy w' row := ⟨h.os, h.tape, h.output, h.size, fun i hi _ => h.block i hi⟩
theorem grown_alloc {w w' : World} {row : Option Nat} (h : w.grownBy w' row) (o : Obj) : w.grownBy (w'.alloc o) row :=
 grown_trans h (grown_below ((Below.refl _ _).alloc (Nat.le_refl _) _) row)
theorem RD.lt {w : World} {rb : Nat} {ca : Option Addr} {cc : Nat} {cs : List Int} (h : RD w rb ca cc cs) : rb < w.heap.size := by
 obtain ⟨p, _, r⟩ := h.p; exact World.block_lt_of_cell? w _ r.c0
theorem RD.below {w w' : World} {rb : Nat} {ca : Option Addr} {cc : Nat} {cs : List Int} (h : RD w rb ca cc cs) (hb : Below w.heap.size w w') : RD w' rb ca cc cs := by
 obtain ⟨⟨p, hp, r⟩, s, ne, hby, hl⟩ := h
 exact ⟨⟨p, hp, r.below hb⟩, s.below hb, ne, hby, hl⟩
theorem RD.alloc {w : World} {rb : Nat} {ca : Option Addr} {cc : Nat} {cs : List Int} (h : RD w rb ca cc cs) (o : Obj) : RD (w.alloc o) rb ca cc cs := h.below ((Below.refl _ _).alloc (Nat.le_refl _) _)
theorem RD.drew {w : World} {rb : Nat} {ca : Option Addr} {cc : Nat} {cs : List Int} (h : RD w rb ca cc cs) : RD w.drew rb ca cc cs := by
 obtain ⟨⟨p, hp, r⟩, s, ne, hby, hl⟩ := h
 exact ⟨⟨p, hp, r.drew⟩, s.drew, ne, hby, hl⟩
theorem RD.grown {w w' : World} {rb g : Nat} {ca : Option Addr} {cc : Nat} {cs : List Int} (h : RD w rb ca cc cs) (hg : w.grownBy w' (some g)) (h1 : rb < g) : RD w' rb ca cc cs := by
 obtain ⟨⟨p, hp, r⟩, s, ne, hby, hl⟩ := h
 exact ⟨⟨p, hp, r.grown hg (by omega)⟩, s.grownNe hg (fun h0 b off he => by have := ne h0 b off he; omega), ne, hby, hl⟩
theorem RD.set {w : World} {rb : Nat} {ca : Option Addr} {cc : Nat} {cs : List Int} (h : RD w rb ca cc cs) (q : Nat) (hq : q ≤ cs.length) : RD (w.setCell ⟨rb, 1, none⟩ (.int .i64 q)) rb ca cc cs ∧ w.grownBy (w.setCell ⟨rb, 1, none⟩ (.int .i64 q)) (some rb) := by
 obtain ⟨⟨p, hp, r⟩, s, ne, hby, hl⟩ := h
 have hg : w.grownBy (w.setCell ⟨rb, 1, none⟩ (.int .i64 q)) (some rb) :=
  ⟨by simp [World.setCell], by simp [World.setCell], by simp [World.setCell], by simp [World.setCell], fun i hi hne => Below.heap_setCell w ⟨rb, 1, none⟩ _ i (by simpa using hne)⟩
 refine ⟨⟨⟨q, hq, ?_⟩, s.grownNe hg (fun h0 b off he => by have := ne h0 b off he; omega), ne, hby, hl⟩, hg⟩
 obtain ⟨c0, c1, f0, f1⟩ := r
 exact ⟨by simp [go_sem, c0, c1], by simp [go_sem, c0, c1], by simp [go_sem, f0, f1], by simp [go_sem, f0, f1]⟩
theorem next_any (rb : Nat) (ca : Option Addr) (cc : Nat) (cs : List Int) (w : World) (hr : RD w rb ca cc cs) :
  Calls Tryz.prog 191 #[.pointer (some ⟨rb, 0, none⟩)] w fun e w' => ∃ v : Int, e = .returned (.int .i64 v) ∧ 0 ≤ v ∧ v ≤ 255 ∧ RD w' rb ca cc cs ∧ w.grownBy w' (some rb) := by
 obtain ⟨p, hp, r⟩ := hr.p
 obtain ⟨c0, c1, f0, f1⟩ := r
 have hl := hr.len
 by_cases hlt : p < cs.length
 ·have hset := hr.set (p + 1) (by omega)
  rw [show ((p + 1 : Nat) : Int) = (p : Int) + 1 from rfl] at hset
  have hby := hr.by_ p
  obtain ⟨-, hx1, hx2, hx3⟩ := hr.s.cells
  obtain ⟨b, off, rfl, hcx⟩ := hx3 (by omega)
  have hca := hcx p hlt
  have hne := hr.ne (by omega) b off rfl
  obtain ⟨x, hxk⟩ : ∃ x, x = cs.getD p 0 := ⟨_, rfl⟩
  rw [← hxk] at hca hby
  obtain ⟨b0, b1⟩ := hby
  have HSET := hid hset
  have HR := hid hr
  have hne' : rb ≠ b := by omega
  clear hset hx3 hcx hxk hr
  have k0 : (0 : Int) ≤ (p : Int) := by omega
  have k1 : (p : Int) < (cs.length : Int) := by omega
  go_enter Tryz.func191, Tryz.ntmps191
  go_wp2_with fail
  go_region
  all_goals go_wp2_with fail
  all_goals go_region
  all_goals go_wp2_with fail
  all_goals go_ret
  all_goals exact ⟨x, rfl, b0, b1, HSET.out.1.below (by exact (by repeat (first | exact bz0 _ _ | refine bz1 ?_ | refine bz2 ?_ _ | refine bz3 ?_ _ | refine bz5 ?_ _ | refine bz6 ?_ _))), grown_trans HSET.out.2 (grown_below (by exact (by repeat (first | exact bz0 _ _ | refine bz1 ?_ | refine bz2 ?_ _ | refine bz3 ?_ _ | refine bz5 ?_ _ | refine bz6 ?_ _))) _)⟩
 ·go_enter Tryz.func191, Tryz.ntmps191
  go_wp2_with fail
  go_region
  all_goals go_wp2
  all_goals go_ret
  all_goals exact ⟨0, rfl, by omega, by omega, hr.below (by exact (by repeat (first | exact bz0 _ _ | refine bz1 ?_ | refine bz2 ?_ _ | refine bz3 ?_ _ | refine bz5 ?_ _ | refine bz6 ?_ _))), grown_below (by repeat (first | exact bz0 _ _ | refine bz1 ?_ | refine bz2 ?_ _ | refine bz3 ?_ _ | refine bz5 ?_ _ | refine bz6 ?_ _)) _⟩
theorem below_any (rb : Nat) (ca : Option Addr) (cc : Nat) (cs : List Int) (n : Int) (w : World) (hr : RD w rb ca cc cs) (h1 : 1 ≤ n) (h2 : n ≤ 1000000) :
  Calls Tryz.prog 99 #[.pointer (some ⟨rb, 0, none⟩), .int .i64 n] w fun e w' => ∃ v : Int, e = .returned (.int .i64 v) ∧ 0 ≤ v ∧ v < n ∧ RD w' rb ca cc cs ∧ w.grownBy w' (some rb) := by
 by_cases c1 : n ≤ 1
 ·go_enter Tryz.func99, Tryz.ntmps99
  go_wp2
  go_ret
  exact ⟨0, rfl, by omega, by omega, hr, grown_refl _ _⟩
 ·by_cases c2 : n ≤ 256
  ·go_enter Tryz.func99, Tryz.ntmps99
   go_wp2_with fail
   refine (next_any rb ca cc cs _ hr).mono ?_
   rintro e w1 ⟨v, rfl, v0, v1, hr1, hg1⟩
   go_wp2
   go_ret
   exact ⟨v % n, rfl, Int.emod_nonneg v (by omega), Int.emod_lt_of_pos v (by omega), hr1, hg1⟩
  ·go_enter Tryz.func99, Tryz.ntmps99
   go_wp2_with fail
   refine (next_any rb ca cc cs _ hr).mono ?_
   rintro e w1 ⟨v, rfl, v0, v1, hr1, hg1⟩
   go_wp2_with fail
   refine (next_any rb ca cc cs _ hr1).mono ?_
   rintro e w2 ⟨u, rfl, u0, u1, hr2, hg2⟩
   go_wp2
   go_ret
   exact ⟨(v * 256 + u) % n, rfl, Int.emod_nonneg _ (by omega), Int.emod_lt_of_pos _ (by omega), hr2, grown_trans hg1 hg2⟩
theorem once_any (rb : Nat) (ca : Option Addr) (cc : Nat) (cs : List Int) (n : Int) (w : World) (hr : RD w rb ca cc cs) (h1 : 1 ≤ n) (h2 : n ≤ 1000000) :
  Calls Tryz.prog 97 #[.pointer (some ⟨rb, 0, none⟩), .int .i64 n] w fun e w' => ∃ v : Bool, e = .returned (.bool v) ∧ RD w' rb ca cc cs ∧ w.grownBy w' (some rb) := by
 go_enter Tryz.func97, Tryz.ntmps97
 go_wp2_with fail
 refine (below_any rb ca cc cs n _ hr h1 h2).mono ?_
 rintro e w1 ⟨v, rfl, v0, v1, hr1, hg1⟩
 go_wp2
 go_ret
 exact ⟨_, rfl, hr1, hg1⟩
theorem word_any (rb : Nat) (ca : Option Addr) (cc : Nat) (cs : List Int) (w : World) (hr : RD w rb ca cc cs) :
  Calls Tryz.prog 222 #[.pointer (some ⟨rb, 0, none⟩)] w fun e w' => ∃ v : Int, e = .returned (.int .u64 v) ∧ 0 ≤ v ∧ v < 18446744073709551616 ∧ RD w' rb ca cc cs ∧ w.grownBy w' (some rb) := by
 have HR := hid hr
 clear hr
 go_enter Tryz.func222, Tryz.ntmps222
 go_wp2_with fail
 go_loopw [3, 4] (fun xv iv wr => ∃ i : Nat, ∃ x : Int, i ≤ 8 ∧ iv = .int .i64 i ∧ xv = .int .u64 x ∧ 0 ≤ x ∧ x < 18446744073709551616 ∧ RD wr rb ca cc cs ∧ w.grownBy wr (some rb)) (fun _ iv _ => 8 - (intOf iv).toNat)
 case atStart => exact ⟨0, 0, by omega, rfl, rfl, by omega, by omega, HR.out, grown_refl _ _⟩
 case round =>
  obtain ⟨i, x, hi, rfl, rfl, x0, x1, hr1, hg1⟩ := hrel
  by_cases hlt : i < 8
  ·go_wp2_with fail
   refine (next_any rb ca cc cs _ hr1).mono ?_
   rintro e w1 ⟨v, rfl, v0, v1, hr2, hg2⟩
   go_wp2_with fail
   have lo := bits_lo_u64 .or (IntKind.u64.wrap (x * 256)) v
   have hi' := bits_hi_u64 .or (IntKind.u64.wrap (x * 256)) v
   go_roundw
   case rel => exact ⟨i + 1, _, by omega, by go_num, rfl, lo, by omega, hr2, grown_trans hg1 hg2⟩
   case measure => simp [intOf]; omega
  ·obtain rfl : i = 8 := by omega
   go_wp2
   go_ret
   exact ⟨x, rfl, x0, x1, hr1, hg1⟩
theorem open_any (ca : Option Addr) (cc : Nat) (cs : List Int) (w : World) (hs : Sl .u8 w (.slice ca cs.length cc) cs) (hby : ∀ i, 0 ≤ cs.getD i 0 ∧ cs.getD i 0 ≤ 255) (hl : cs.length ≤ 1048576)  :
  Calls Tryz.prog 94 #[.slice ca cs.length cc] w fun e w' => e = .returned (.pointer (some ⟨w.heap.size, 0, none⟩)) ∧ RD w' w.heap.size ca cc cs ∧ Below w.heap.size w w' := by
 go_enter Tryz.func94, Tryz.ntmps94
 go_wp2
 go_ret
 refine ⟨rfl, ⟨⟨0, Nat.zero_le _, R2.new w _ _ _⟩, hs.alloc _, fun h0 b off he => ?_, hby, hl⟩, (by repeat (first | exact bz0 _ _ | refine bz1 ?_ | refine bz2 ?_ _ | refine bz3 ?_ _ | refine bz5 ?_ _ | refine bz6 ?_ _))⟩
 obtain ⟨_, _, _, h3⟩ := hs.cells
 obtain ⟨b', off', e, hc⟩ := h3 h0
 rw [he] at e
 cases e
 have := World.block_lt_of_cell? w _ (hc 0 h0)
 simpa using this
end Go.Proofs.YtkfjmcdniohljaaGreatDoor
