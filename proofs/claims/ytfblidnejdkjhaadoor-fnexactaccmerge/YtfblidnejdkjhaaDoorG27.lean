/-
  Several texts in one: WideR, WideU, AccL, AccM, AccN, AccO, LAccMerge, AccP.
-/
import Derived.Test.YtfblidnejdkjhaaDoorG04
import Derived.Deep.RegionHeld3
import Derived.Test.YtfblidnejdkjhaaDoorG07
import Derived.Test.YtfblidnejdkjhaaDoorG22
import Derived.Test.YtfblidnejdkjhaaDoorG24
/-
  The library's bits.Sub32; differences of limbs, by the program.
-/
namespace Go.Proofs.YtfblidnejdkjhaaDoor
set_option linter.unusedVariables false
set_option linter.unusedSimpArgs false
open Go.RowKit Go.Deep
theorem top_bit (n : Nat) (h : n < 4294967296) : n.testBit 31 = decide (2147483648 ≤ n) := by
  rw [Nat.testBit_eq_decide_div_mod_eq]
  have e : n / 2 ^ 31 % 2 = 1 ↔ 2147483648 ≤ n := by omega
  simp only [e]
theorem top_div (n : Nat) (h : n < 4294967296) : n / 2147483648 = if n.testBit 31 then 1 else 0 := by
  rw [top_bit n h]
  by_cases hc : 2147483648 ≤ n
  · simp [hc]; omega
  · simp [hc]; omega
theorem borrow_nat (X Y D : Nat) (hX : X < 4294967296) (hY : Y < 4294967296) (hD : D < 4294967296) :
    (((4294967295 ^^^ X) &&& Y) ||| ((4294967295 ^^^ (X ^^^ Y)) &&& D)) / 2147483648 = if (!decide (2147483648 ≤ X) && decide (2147483648 ≤ Y)) || (decide (2147483648 ≤ X) == decide (2147483648 ≤ Y) && decide (2147483648 ≤ D)) then 1 else 0 := by
  have h1 : (4294967295 ^^^ X) < 2 ^ 32 := Nat.xor_lt_two_pow (by decide) (by omega)
  have h2 : (X ^^^ Y) < 2 ^ 32 := Nat.xor_lt_two_pow (by omega) (by omega)
  have h3 : (4294967295 ^^^ (X ^^^ Y)) < 2 ^ 32 := Nat.xor_lt_two_pow (by decide) h2
  have h4 : ((4294967295 ^^^ X) &&& Y) < 2 ^ 32 := Nat.and_lt_two_pow _ (by omega)
  have h5 : ((4294967295 ^^^ (X ^^^ Y)) &&& D) < 2 ^ 32 := Nat.and_lt_two_pow _ (by omega)
  have h6 := Nat.or_lt_two_pow h4 h5
  rw [top_div _ (by omega), Nat.testBit_or, Nat.testBit_and, Nat.testBit_and, Nat.testBit_xor, Nat.testBit_xor, Nat.testBit_xor, top_bit X hX, top_bit Y hY, top_bit D hD, show Nat.testBit 4294967295 31 = true from by decide]
  cases decide (2147483648 ≤ X) <;> cases decide (2147483648 ≤ Y) <;> cases decide (2147483648 ≤ D) <;> rfl
theorem umax : IntKind.u32.max = 4294967295 := by decide
/-- What is borrowed. -/
def bor (x y c : Int) : Int := if x < y + c then 1 else 0
theorem borrow_any (x y c : Int) (hx : 0 ≤ x) (hx1 : x < 4294967296) (hy : 0 ≤ y) (hy1 : y < 4294967296) (hc : 0 ≤ c) (hc1 : c ≤ 1) :
    bits .or .u32 (bits .and .u32 (bits .xor .u32 IntKind.u32.max x) y) (bits .and .u32 (bits .xor .u32 IntKind.u32.max (bits .xor .u32 x y)) ((x - y - c) % 4294967296)) / 2147483648 = bor x y c := by
  unfold bor
  obtain ⟨X, rfl⟩ := Int.eq_ofNat_of_zero_le hx
  obtain ⟨Y, rfl⟩ := Int.eq_ofNat_of_zero_le hy
  obtain ⟨D, hD⟩ : ∃ D : Nat, ((X : Int) - Y - c) % 4294967296 = (D : Int) := Int.eq_ofNat_of_zero_le (by omega)
  rw [hD, umax]
  have hX : X < 4294967296 := by omega
  have hY : Y < 4294967296 := by omega
  have hD1 : D < 4294967296 := by omega
  have e1 : bits .xor .u32 (4294967295 : Int) (X : Int) = ((4294967295 ^^^ X : Nat) : Int) := by
    have := u32_xor_nat 4294967295 X (by decide) hX
    simpa using this
  have h1 : (4294967295 ^^^ X) < 2 ^ 32 := Nat.xor_lt_two_pow (by decide) (by omega)
  have h2 : (X ^^^ Y) < 2 ^ 32 := Nat.xor_lt_two_pow (by omega) (by omega)
  have e3 : bits .xor .u32 (4294967295 : Int) ((X ^^^ Y : Nat) : Int) = ((4294967295 ^^^ (X ^^^ Y) : Nat) : Int) := by
    have := u32_xor_nat 4294967295 (X ^^^ Y) (by decide) (by omega)
    simpa using this
  have h3 : (4294967295 ^^^ (X ^^^ Y)) < 2 ^ 32 := Nat.xor_lt_two_pow (by decide) h2
  have h4 : ((4294967295 ^^^ X) &&& Y) < 2 ^ 32 := Nat.and_lt_two_pow _ (by omega)
  have h5 : ((4294967295 ^^^ (X ^^^ Y)) &&& D) < 2 ^ 32 := Nat.and_lt_two_pow _ (by omega)
  rw [e1, u32_xor_nat X Y hX hY, e3, u32_and_nat _ Y (by omega) hY, u32_and_nat _ D (by omega) hD1, u32_or_nat _ _ (by omega) (by omega)]
  rw [show ((2147483648 : Int)) = ((2147483648 : Nat) : Int) from rfl, ← Int.natCast_ediv, borrow_nat X Y D hX hY hD1]
  by_cases b1 : 2147483648 ≤ X <;> by_cases b2 : 2147483648 ≤ Y <;> by_cases b3 : 2147483648 ≤ D <;> by_cases b4 : (X : Int) < Y + c <;> simp [b1, b2, b3, b4] <;> omega
theorem ret_two {a a' b b' : Int} (h : a = a') (k : b = b') : Ending.returned (.tuple #[.int .u32 a, .int .u32 b]) = .returned (.tuple #[.int .u32 a', .int .u32 b']) := by rw [h, k]
set_option maxHeartbeats 1000000 in
theorem sub32_any (x y c : Int) (w : World) (hx : 0 ≤ x) (hx1 : x < 4294967296) (hy : 0 ≤ y) (hy1 : y < 4294967296) (hc : 0 ≤ c) (hc1 : c ≤ 1) :
    Calls Tryd.prog 109 #[.int .u32 x, .int .u32 y, .int .u32 c] w fun e w' => e = .returned (.tuple #[.int .u32 ((x - y - c) % 4294967296), .int .u32 (bor x y c)]) ∧ w' = w := by
  have HB := hid (borrow_any x y c hx hx1 hy hy1 hc hc1)
  go_enter Tryd.func109, Tryd.ntmps109
  go_wp2
  go_ret2
  exact ⟨ret_two rfl HB.out, rfl⟩
theorem bor_is (x y c : Int) (hx : 0 ≤ x) (hx1 : x < 4294967296) (hy : 0 ≤ y) (hy1 : y < 4294967296) (hc : 0 ≤ c) (hc1 : c ≤ 1) : (x - y - c) % 4294967296 - 4294967296 * bor x y c = x - y - c ∧ 0 ≤ bor x y c ∧ bor x y c ≤ 1 := by
  unfold bor; split <;> omega
set_option maxRecDepth 10000 in
set_option maxHeartbeats 800000 in
theorem subLimbs_any (a a' : Option Addr) (cap cap' : Nat) (xs ys : List Int) (w : World) (hx : Sl .u32 w (.slice a xs.length cap) xs) (hy : Sl .u32 w (.slice a' ys.length cap') ys) (dx : Nm.Dg xs) (dy : Nm.Dg ys) (hl : xs.length ≤ 500000) (hl' : ys.length ≤ xs.length) (hge : Nm.val ys ≤ Nm.val xs) :
    Calls Tryd.prog 87 #[.slice a xs.length cap, .slice a' ys.length cap'] w fun e w' => ∃ a1 c1 os, e = .returned (.slice a1 os.length c1) ∧ Own w' w.heap.size a1 c1 os ∧ Nm.Dg os ∧ Nm.val os = Nm.val xs - Nm.val ys ∧ os.length ≤ 1048576 ∧ Below w.heap.size w w' := by
  have hmk := run_make_row' (P := Tryd.prog) 22 79 (.int .u32 0) 4 Tryd.underlying22 info32 rfl .i64 .i64 xs.length (by omega) (by omega)
  obtain ⟨-, hx1, hx2, hx3⟩ := hx.cells
  have HX3 := hid hx3
  have HGE := hid hge
  clear hx3 hge
  go_enter Tryd.func87, Tryd.ntmps87
  go_wp2_with fail
  clear hmk
  go_loopw [6, 13] (fun cy i wr => ∃ k : Nat, ∃ os : List Int, ∃ c : Int, k ≤ xs.length ∧ i = .int .i64 k ∧ cy = .int .u32 c ∧ 0 ≤ c ∧ c ≤ 1 ∧ os.length = xs.length ∧ Rw wr w.heap.size os ∧ Nm.Dg os ∧ Nm.SubAt xs ys os k c ∧ Below w.heap.size w wr) (fun _ i _ => xs.length - (intOf i).toNat)
  case atStart => exact ⟨0, List.replicate xs.length 0, 0, Nat.zero_le _, rfl, rfl, by omega, by omega, by simp, Rw.made w xs.length, Nm.Dg.replicate _, Nm.SubAt.zero _ _ _, (by repeat (first | exact Below.refl _ _ | refine Below.drew ?_ | refine bel_dn ?_ _ | refine bel_al ?_ _ | refine Below.setCell ?_ (by first | omega | (simp; done) | (simp; omega)) _ | refine Below.alloc ?_ (by first | omega | (simp; done) | (simp; omega)) _))⟩
  case round =>
    obtain ⟨k, os, c, hk, rfl, rfl, hc0, hc1, hol, hrw, hdo, hadd, hb⟩ := hrel
    have HOL := hid hol
    have hol1 : xs.length ≤ os.length := by omega
    have HADD := hid hadd
    have HDO := hid hdo
    clear hol hadd hdo
    have sy := hy.below hb
    by_cases hlt : k < xs.length
    · have hcell := hrw.cell (k := k) (by omega)
      have hfr := hrw.frozen k
      obtain ⟨o, ho⟩ : ∃ o, o = os.getD k 0 := ⟨_, rfl⟩
      rw [← ho] at hcell
      obtain ⟨b, off, rfl, hcx⟩ := HX3.out (by omega)
      have hca0 := hcx k hlt
      have hbl := World.block_lt_of_cell? w _ hca0
      have hca : wr.cell? ⟨b, off + k, none⟩ = some (.int .u32 (xs.getD k 0)) := (hb.cell (p := ⟨b, off + k, none⟩) hbl).trans hca0
      have c2 := fun w' (h : Sl .u32 w' (.slice a' ys.length cap') ys) => limbAt_any a' cap' ys k w' h (by omega) (by omega)
      have hst := fun d c' => Nm.SubAt.step (d := d) (c' := c') HADD.out (show k < os.length by omega)
      obtain ⟨ex0, ex1⟩ := dx.getD k
      obtain ⟨ey0, ey1⟩ := dy.getD k
      obtain ⟨x, hxk⟩ : ∃ x, x = xs.getD k 0 := ⟨_, rfl⟩
      obtain ⟨y, hyk⟩ : ∃ y, y = ys.getD k 0 := ⟨_, rfl⟩
      rw [← hxk] at hca ex0 ex1
      simp only [← hyk] at c2
      rw [← hyk] at ey0 ey1
      rw [← hxk, ← hyk] at hst
      have C2 := hid c2
      have HST := hid hst
      have HBO := hid (bor_is x y c ex0 ex1 ey0 ey1 hc0 hc1)
      clear c2 hst hxk hyk hca0 hcx ho
      have k0 : (0 : Int) ≤ (k : Int) := by omega
      have k1 : (k : Int) < (xs.length : Int) := by omega
      have hne : w.heap.size ≠ b := by simp at hbl; omega
      go_wp2_with fail
      go_region_held3 (fun w' => w'.cell? ⟨b, off + k, none⟩ = some (.int .u32 x)) (first | assumption | go_keep)
        (first
          | (go_at_call 105; refine (C2.out _ (by exact Sl.drew sy)).mono ?_; rintro e w' ⟨rfl, rfl⟩)
          | (go_at_call 109; refine (sub32_any x y c _ ex0 ex1 ey0 ey1 hc0 hc1).mono ?_; rintro e w' ⟨rfl, rfl⟩))
      go_wp2
      obtain ⟨b1, b2, b3⟩ := HBO.out
      go_roundw
      case rel => exact ⟨k + 1, os.set k ((x - y - c) % 4294967296), bor x y c, by omega, by go_num, rfl, b2, b3, by rw [List.length_set]; exact HOL.out, hrw.set (by omega) _, HDO.out.set _ (by omega), HST.out _ _ b1, (hb.setCell (Nat.le_refl _) _).drew⟩
      case measure => simp [intOf]; omega
    · obtain rfl : k = xs.length := by omega
      have hown := hrw.own (base := w.heap.size) (Nat.le_refl _) (by have := HOL.out; unfold maxLen; omega)
      have hs2 := HADD.out
      rw [← HOL.out] at hs2
      have hfull := hs2.full HOL.out.symm (by have := HOL.out; omega) dx dy HDO.out hc0 HGE.out
      have HF := hid (And.intro hown hfull)
      clear hown hfull hs2
      go_wp2
      go_ret
      exact ⟨some ⟨w.heap.size, 0, none⟩, os.length, os, by rw [HOL.out]; rfl, HF.out.1, HDO.out, HF.out.2, by have := HOL.out; omega, hb⟩
end Go.Proofs.YtfblidnejdkjhaaDoor
/-
  Sums of wides, by the program.
-/
namespace Go.Proofs.YtfblidnejdkjhaaDoor
set_option linter.unusedVariables false
set_option linter.unusedSimpArgs false
open Go.RowKit Go.Deep
/-- Two boxes are exchanged. -/
theorem swapped {w : World} {b b' z : Nat} {u0 u1 v0 v1 r0 r1 : Value} (hx : R2 w b u0 u1) (hy : R2 w b' v0 v1) (hz : R2 w z r0 r1) (n1 : b ≠ b') (n2 : z ≠ b) (n3 : z ≠ b') :
    Box ((((w.setCell ⟨b, 0, none⟩ v0).setCell ⟨b, 1, none⟩ v1).setCell ⟨b', 0, none⟩ u0).setCell ⟨b', 1, none⟩ u1) b v0 v1 ∧
    Box ((((w.setCell ⟨b, 0, none⟩ v0).setCell ⟨b, 1, none⟩ v1).setCell ⟨b', 0, none⟩ u0).setCell ⟨b', 1, none⟩ u1) b' u0 u1 ∧
    R2 ((((w.setCell ⟨b, 0, none⟩ v0).setCell ⟨b, 1, none⟩ v1).setCell ⟨b', 0, none⟩ u0).setCell ⟨b', 1, none⟩ u1) z r0 r1 := by
  have h1 := ((R2.set hx v0 v1).other (p := ⟨b', 0, none⟩) n1 u0).other (p := ⟨b', 1, none⟩) n1 u1
  have h2 := R2.set ((hy.other (p := ⟨b, 0, none⟩) (Ne.symm n1) v0).other (p := ⟨b, 1, none⟩) (Ne.symm n1) v1) u0 u1
  have h3 := (((hz.other (p := ⟨b, 0, none⟩) n2 v0).other (p := ⟨b, 1, none⟩) n2 v1).other (p := ⟨b', 0, none⟩) n3 u0).other (p := ⟨b', 1, none⟩) n3 u1
  exact ⟨⟨h1.c0, h1.c1⟩, ⟨h2.c0, h2.c1⟩, h3⟩
set_option maxHeartbeats 1000000 in
theorem wadd_impl_no0 (na nb : Bool) (a b : Option Addr) (cap cap' : Nat) (xs ys : List Int) (w : World) (hx : Sl .u32 w (.slice a xs.length cap) xs) (hy : Sl .u32 w (.slice b ys.length cap') ys) (dx : Nm.Dg xs) (dy : Nm.Dg ys) (hl : xs.length ≤ 1048576) (hl' : ys.length ≤ 1048576) (x : Int) (h1 : okB na xs = false) :
    Calls Tryd.prog 66 #[.agg #[.bool na, .slice a xs.length cap], .agg #[.bool nb, .slice b ys.length cap']] w fun e w' => ∃ a' c', e = .returned (.tuple #[.agg #[.bool (opN (okB na xs && okB nb ys) x), .slice a' (opL (okB na xs && okB nb ys) x).length c'], .bool (opO (okB na xs && okB nb ys) x)]) ∧ Own w' w.heap.size a' c' (opL (okB na xs && okB nb ys) x) ∧ Below w.heap.size w w' := by
  have HK : Hid ((okB na xs && okB nb ys) = false) := hid (by rw [h1]; rfl)
  go_enter Tryd.func66, Tryd.ntmps66
  have Bx := ((Box.new w (.bool na) (.slice a xs.length cap) 29).alloc (.cells #[.bool nb, .slice b ys.length cap'] 29)).alloc (.cells #[.bool false, .slice none 0 0] 29)
  have By := (Box.new2 w (.cells #[.bool na, .slice a xs.length cap] 29) (.bool nb) (.slice b ys.length cap') 29).alloc (.cells #[.bool false, .slice none 0 0] 29)
  have Fx := ((R2.new w (.bool na) (.slice a xs.length cap) 29).alloc (.cells #[.bool nb, .slice b ys.length cap'] 29)).alloc (.cells #[.bool false, .slice none 0 0] 29)
  have Fy := (R2.new2 w (.cells #[.bool na, .slice a xs.length cap] 29) (.bool nb) (.slice b ys.length cap') 29).alloc (.cells #[.bool false, .slice none 0 0] 29)
  have Rz : R2 (((w.alloc (.cells #[.bool na, .slice a xs.length cap] 29)).alloc (.cells #[.bool nb, .slice b ys.length cap'] 29)).alloc (.cells #[.bool false, .slice none 0 0] 29)) (w.heap.size + 1 + 1) (.bool false) (.slice none 0 0) := by simpa using R2.new2 (w.alloc (.cells #[.bool na, .slice a xs.length cap] 29)) (.cells #[.bool nb, .slice b ys.length cap'] 29) (.bool false) (.slice none 0 0) 29
  have sx := ((hx.alloc (.cells #[.bool na, .slice a xs.length cap] 29)).alloc (.cells #[.bool nb, .slice b ys.length cap'] 29)).alloc (.cells #[.bool false, .slice none 0 0] 29)
  have sy := ((hy.alloc (.cells #[.bool na, .slice a xs.length cap] 29)).alloc (.cells #[.bool nb, .slice b ys.length cap'] 29)).alloc (.cells #[.bool false, .slice none 0 0] 29)
  have hbW : Below w.heap.size w (((w.alloc (.cells #[.bool na, .slice a xs.length cap] 29)).alloc (.cells #[.bool nb, .slice b ys.length cap'] 29)).alloc (.cells #[.bool false, .slice none 0 0] 29)) := (by repeat (first | exact Below.refl _ _ | refine Below.drew ?_ | refine bel_dn ?_ _ | refine bel_al ?_ _ | refine Below.setCell ?_ (by first | omega | (simp; done) | (simp; omega)) _ | refine Below.alloc ?_ (by first | omega | (simp; done) | (simp; omega)) _))
  go_wp2_with fail
  refine (ok_impl na a cap xs _ sx (by omega)).mono ?_
  rintro e W ⟨rfl, hb1⟩
  replace Bx := Bx.below hb1
  replace By := By.below hb1
  replace Fx := Fx.below hb1
  replace Fy := Fy.below hb1
  replace Rz := Rz.below hb1
  replace sx := sx.below hb1
  replace sy := sy.below hb1
  replace hbW := bel_go hbW hb1
  obtain ⟨z0, z1, zf0, zf1⟩ := Rz
  go_wp2
  refine bodyPost_ret (v := .tuple #[.agg #[.bool false, .slice none 0 0], .bool false]) (by simp [results, Tryd.results66, go_sem, z0, z1]) rfl ⟨none, 0, ?_, ?_, ?_⟩
  · rw [HK.out, (op_no x).1, (op_no x).2.1, (op_no x).2.2]; rfl
  · rw [HK.out, (op_no x).1]; exact Own.nil _ _
  · exact (hbW.setCell (by simp; omega) _).setCell (by simp; omega) _
set_option maxHeartbeats 1000000 in
theorem wadd_impl_no1 (na nb : Bool) (a b : Option Addr) (cap cap' : Nat) (xs ys : List Int) (w : World) (hx : Sl .u32 w (.slice a xs.length cap) xs) (hy : Sl .u32 w (.slice b ys.length cap') ys) (dx : Nm.Dg xs) (dy : Nm.Dg ys) (hl : xs.length ≤ 1048576) (hl' : ys.length ≤ 1048576) (x : Int) (h1 : okB na xs = true) (h2 : okB nb ys = false) :
    Calls Tryd.prog 66 #[.agg #[.bool na, .slice a xs.length cap], .agg #[.bool nb, .slice b ys.length cap']] w fun e w' => ∃ a' c', e = .returned (.tuple #[.agg #[.bool (opN (okB na xs && okB nb ys) x), .slice a' (opL (okB na xs && okB nb ys) x).length c'], .bool (opO (okB na xs && okB nb ys) x)]) ∧ Own w' w.heap.size a' c' (opL (okB na xs && okB nb ys) x) ∧ Below w.heap.size w w' := by
  have HK : Hid ((okB na xs && okB nb ys) = false) := hid (by rw [h1, h2]; rfl)
  go_enter Tryd.func66, Tryd.ntmps66
  have Bx := ((Box.new w (.bool na) (.slice a xs.length cap) 29).alloc (.cells #[.bool nb, .slice b ys.length cap'] 29)).alloc (.cells #[.bool false, .slice none 0 0] 29)
  have By := (Box.new2 w (.cells #[.bool na, .slice a xs.length cap] 29) (.bool nb) (.slice b ys.length cap') 29).alloc (.cells #[.bool false, .slice none 0 0] 29)
  have Fx := ((R2.new w (.bool na) (.slice a xs.length cap) 29).alloc (.cells #[.bool nb, .slice b ys.length cap'] 29)).alloc (.cells #[.bool false, .slice none 0 0] 29)
  have Fy := (R2.new2 w (.cells #[.bool na, .slice a xs.length cap] 29) (.bool nb) (.slice b ys.length cap') 29).alloc (.cells #[.bool false, .slice none 0 0] 29)
  have Rz : R2 (((w.alloc (.cells #[.bool na, .slice a xs.length cap] 29)).alloc (.cells #[.bool nb, .slice b ys.length cap'] 29)).alloc (.cells #[.bool false, .slice none 0 0] 29)) (w.heap.size + 1 + 1) (.bool false) (.slice none 0 0) := by simpa using R2.new2 (w.alloc (.cells #[.bool na, .slice a xs.length cap] 29)) (.cells #[.bool nb, .slice b ys.length cap'] 29) (.bool false) (.slice none 0 0) 29
  have sx := ((hx.alloc (.cells #[.bool na, .slice a xs.length cap] 29)).alloc (.cells #[.bool nb, .slice b ys.length cap'] 29)).alloc (.cells #[.bool false, .slice none 0 0] 29)
  have sy := ((hy.alloc (.cells #[.bool na, .slice a xs.length cap] 29)).alloc (.cells #[.bool nb, .slice b ys.length cap'] 29)).alloc (.cells #[.bool false, .slice none 0 0] 29)
  have hbW : Below w.heap.size w (((w.alloc (.cells #[.bool na, .slice a xs.length cap] 29)).alloc (.cells #[.bool nb, .slice b ys.length cap'] 29)).alloc (.cells #[.bool false, .slice none 0 0] 29)) := (by repeat (first | exact Below.refl _ _ | refine Below.drew ?_ | refine bel_dn ?_ _ | refine bel_al ?_ _ | refine Below.setCell ?_ (by first | omega | (simp; done) | (simp; omega)) _ | refine Below.alloc ?_ (by first | omega | (simp; done) | (simp; omega)) _))
  go_wp2_with fail
  refine (ok_impl na a cap xs _ sx (by omega)).mono ?_
  rintro e W ⟨rfl, hb1⟩
  replace Bx := Bx.below hb1
  replace By := By.below hb1
  replace Fx := Fx.below hb1
  replace Fy := Fy.below hb1
  replace Rz := Rz.below hb1
  replace sx := sx.below hb1
  replace sy := sy.below hb1
  replace hbW := bel_go hbW hb1
  obtain ⟨y0, y1⟩ := By
  go_wp2_with fail
  refine (ok_impl nb b cap' ys _ sy (by omega)).mono ?_
  rintro e W2 ⟨rfl, hb2⟩
  replace Rz := Rz.below hb2
  replace hbW := bel_go hbW hb2
  obtain ⟨z0, z1, zf0, zf1⟩ := Rz
  go_wp2
  refine bodyPost_ret (v := .tuple #[.agg #[.bool false, .slice none 0 0], .bool false]) (by simp [results, Tryd.results66, go_sem, z0, z1]) rfl ⟨none, 0, ?_, ?_, ?_⟩
  · rw [HK.out, (op_no x).1, (op_no x).2.1, (op_no x).2.2]; rfl
  · rw [HK.out, (op_no x).1]; exact Own.nil _ _
  · exact (hbW.setCell (by simp; omega) _).setCell (by simp; omega) _
set_option maxHeartbeats 1000000 in
theorem wadd_same (na nb : Bool) (a b : Option Addr) (cap cap' : Nat) (xs ys : List Int) (w : World) (hx : Sl .u32 w (.slice a xs.length cap) xs) (hy : Sl .u32 w (.slice b ys.length cap') ys) (dx : Nm.Dg xs) (dy : Nm.Dg ys) (hl : xs.length ≤ 1048576) (hl' : ys.length ≤ 1048576) (x : Int) (hxv : x = Nm.wv na xs + Nm.wv nb ys) (h1 : okB na xs = true) (h2 : okB nb ys = true) (hc : (na == nb) = true) :
    Calls Tryd.prog 66 #[.agg #[.bool na, .slice a xs.length cap], .agg #[.bool nb, .slice b ys.length cap']] w fun e w' => ∃ a' c', e = .returned (.tuple #[.agg #[.bool (opN (okB na xs && okB nb ys) x), .slice a' (opL (okB na xs && okB nb ys) x).length c'], .bool (opO (okB na xs && okB nb ys) x)]) ∧ Own w' w.heap.size a' c' (opL (okB na xs && okB nb ys) x) ∧ Below w.heap.size w w' := by
  have HX : Hid (∀ os, Nm.val os = Nm.val xs + Nm.val ys → x = Nm.wv na os) := hid (fun os h => by
    have hc' : na = nb := by simpa using hc
    rw [hxv, ← hc']; exact Nm.wv_same h)
  clear hxv
  have HK : Hid ((okB na xs && okB nb ys) = true) := hid (by rw [h1, h2]; rfl)
  obtain ⟨nx, lx⟩ := okB_nz h1
  obtain ⟨ny, ly⟩ := okB_nz h2
  go_enter Tryd.func66, Tryd.ntmps66
  have Bx := ((Box.new w (.bool na) (.slice a xs.length cap) 29).alloc (.cells #[.bool nb, .slice b ys.length cap'] 29)).alloc (.cells #[.bool false, .slice none 0 0] 29)
  have By := (Box.new2 w (.cells #[.bool na, .slice a xs.length cap] 29) (.bool nb) (.slice b ys.length cap') 29).alloc (.cells #[.bool false, .slice none 0 0] 29)
  have Fx := ((R2.new w (.bool na) (.slice a xs.length cap) 29).alloc (.cells #[.bool nb, .slice b ys.length cap'] 29)).alloc (.cells #[.bool false, .slice none 0 0] 29)
  have Fy := (R2.new2 w (.cells #[.bool na, .slice a xs.length cap] 29) (.bool nb) (.slice b ys.length cap') 29).alloc (.cells #[.bool false, .slice none 0 0] 29)
  have Rz : R2 (((w.alloc (.cells #[.bool na, .slice a xs.length cap] 29)).alloc (.cells #[.bool nb, .slice b ys.length cap'] 29)).alloc (.cells #[.bool false, .slice none 0 0] 29)) (w.heap.size + 1 + 1) (.bool false) (.slice none 0 0) := by simpa using R2.new2 (w.alloc (.cells #[.bool na, .slice a xs.length cap] 29)) (.cells #[.bool nb, .slice b ys.length cap'] 29) (.bool false) (.slice none 0 0) 29
  have sx := ((hx.alloc (.cells #[.bool na, .slice a xs.length cap] 29)).alloc (.cells #[.bool nb, .slice b ys.length cap'] 29)).alloc (.cells #[.bool false, .slice none 0 0] 29)
  have sy := ((hy.alloc (.cells #[.bool na, .slice a xs.length cap] 29)).alloc (.cells #[.bool nb, .slice b ys.length cap'] 29)).alloc (.cells #[.bool false, .slice none 0 0] 29)
  have hbW : Below w.heap.size w (((w.alloc (.cells #[.bool na, .slice a xs.length cap] 29)).alloc (.cells #[.bool nb, .slice b ys.length cap'] 29)).alloc (.cells #[.bool false, .slice none 0 0] 29)) := (by repeat (first | exact Below.refl _ _ | refine Below.drew ?_ | refine bel_dn ?_ _ | refine bel_al ?_ _ | refine Below.setCell ?_ (by first | omega | (simp; done) | (simp; omega)) _ | refine Below.alloc ?_ (by first | omega | (simp; done) | (simp; omega)) _))
  go_wp2_with fail
  refine (ok_impl na a cap xs _ sx (by omega)).mono ?_
  rintro e W1 ⟨rfl, hb1⟩
  replace Bx := Bx.below hb1
  replace By := By.below hb1
  replace Fx := Fx.below hb1
  replace Fy := Fy.below hb1
  replace Rz := Rz.below hb1
  replace sx := sx.below hb1
  replace sy := sy.below hb1
  replace hbW := bel_go hbW hb1
  obtain ⟨y0, y1⟩ := By
  go_wp2_with fail
  refine (ok_impl nb b cap' ys _ sy (by omega)).mono ?_
  rintro e W ⟨rfl, hb2⟩
  have By : Box W1 (w.heap.size + 1) (.bool nb) (.slice b ys.length cap') := ⟨y0, y1⟩
  replace Bx := Bx.below hb2
  replace By := By.below hb2
  replace Fx := Fx.below hb2
  replace Fy := Fy.below hb2
  replace Rz := Rz.below hb2
  replace sx := sx.below hb2
  replace sy := sy.below hb2
  replace hbW := bel_go hbW hb2
  have lW : w.heap.size + 1 + 1 < W.heap.size := World.block_lt_of_cell? W _ Rz.c0
  clear y0 y1 hb1 hb2
  have x0 := Bx.1
  have y0 := By.1
  go_wp2_with fail
  go_region_held3 (fun w' => w'.cell? ⟨w.heap.size, 0, none⟩ = some (.bool na) ∧ w'.cell? ⟨w.heap.size, 1, none⟩ = some (.slice a xs.length cap) ∧ w'.cell? ⟨w.heap.size + 1, 1, none⟩ = some (.slice b ys.length cap')) (first | assumption | (refine keep3_set k3.1 k3.2.1 k3.2.2 ?_ ?_ _ _ <;> omega) | exact ⟨Bx.1, Bx.2, By.2⟩)
    (first
      | (go_at_call 86; refine (addLimbs_any a b cap cap' xs ys _ (by exact sx.drew) (by exact sy.drew) dx dy (by omega) (by omega) ).mono ?_; rintro e w2 ⟨a2, c2, os, rfl, ho2, dos, hv, hlo, hb2⟩; have k2 := keep3 (w := W.drew) Bx.1 Bx.2 By.2 hb2; have Rz2 := Rz.drew.below hb2)
      | (go_at_call 70; refine (fitted_v na a2 c2 os W.heap.size _ (by exact ho2) dos hlo x (HX.out os hv)).mono ?_; rintro e w3 ⟨a3, c3, rfl, ho3, hb3⟩; have k3 := keep3 k2.1 k2.2.1 k2.2.2 hb3; have Rz3 := Rz2.below hb3; obtain ⟨z0, z1, zf0, zf1⟩ := Rz3))
  have l2 : W.heap.size ≤ w2.heap.size := hb2.size
  have l3 : w2.heap.size ≤ w3.heap.size := hb3.size
  go_wp2
  obtain ⟨e1, e2, e3⟩ := op_yes x
  refine bodyPost_ret (v := .tuple #[.agg #[.bool (Nm.outN x), .slice a3 (Nm.outL x).length c3], .bool (Nm.fits x)]) (by simp [results, Tryd.results66, go_sem, z0, z1]) rfl ⟨a3, c3, ?_, ?_, ?_⟩
  · rw [HK.out, e1, e2, e3]
  · rw [HK.out, e1]
    exact Own.base ((ho3.setBelow (by simp; omega) _).setBelow (by simp; omega) _) (by omega)
  · exact ((bel_go (bel_go (Below.drew hbW) hb2) hb3).setCell (by simp; omega) _).setCell (by simp; omega) _
set_option maxHeartbeats 1000000 in
theorem wadd_high (na nb : Bool) (a b : Option Addr) (cap cap' : Nat) (xs ys : List Int) (w : World) (hx : Sl .u32 w (.slice a xs.length cap) xs) (hy : Sl .u32 w (.slice b ys.length cap') ys) (dx : Nm.Dg xs) (dy : Nm.Dg ys) (hl : xs.length ≤ 1048576) (hl' : ys.length ≤ 1048576) (x : Int) (hxv : x = Nm.wv na xs + Nm.wv nb ys) (h1 : okB na xs = true) (h2 : okB nb ys = true) (hc : (na == nb) = false) (hm : ¬ cmpL xs ys < 0) :
    Calls Tryd.prog 66 #[.agg #[.bool na, .slice a xs.length cap], .agg #[.bool nb, .slice b ys.length cap']] w fun e w' => ∃ a' c', e = .returned (.tuple #[.agg #[.bool (opN (okB na xs && okB nb ys) x), .slice a' (opL (okB na xs && okB nb ys) x).length c'], .bool (opO (okB na xs && okB nb ys) x)]) ∧ Own w' w.heap.size a' c' (opL (okB na xs && okB nb ys) x) ∧ Below w.heap.size w w' := by
  have HX : Hid (∀ os, Nm.val os = Nm.val xs - Nm.val ys → x = Nm.wv na os) := hid (fun os h => by rw [hxv]; exact Nm.wv_less hc h)
  have nx0 := (okB_nz h1).1
  have ny0 := (okB_nz h2).1
  have hge : Nm.val ys ≤ Nm.val xs := by have := (cmpL_val dx dy nx0 ny0).1; omega
  have hln : ys.length ≤ xs.length := Nm.len_le_of_val dx dy ny0 hge
  have HGE := hid (And.intro hge hln)
  clear hxv hge hln nx0 ny0
  have HK : Hid ((okB na xs && okB nb ys) = true) := hid (by rw [h1, h2]; rfl)
  obtain ⟨nx, lx⟩ := okB_nz h1
  obtain ⟨ny, ly⟩ := okB_nz h2
  go_enter Tryd.func66, Tryd.ntmps66
  have Bx := ((Box.new w (.bool na) (.slice a xs.length cap) 29).alloc (.cells #[.bool nb, .slice b ys.length cap'] 29)).alloc (.cells #[.bool false, .slice none 0 0] 29)
  have By := (Box.new2 w (.cells #[.bool na, .slice a xs.length cap] 29) (.bool nb) (.slice b ys.length cap') 29).alloc (.cells #[.bool false, .slice none 0 0] 29)
  have Fx := ((R2.new w (.bool na) (.slice a xs.length cap) 29).alloc (.cells #[.bool nb, .slice b ys.length cap'] 29)).alloc (.cells #[.bool false, .slice none 0 0] 29)
  have Fy := (R2.new2 w (.cells #[.bool na, .slice a xs.length cap] 29) (.bool nb) (.slice b ys.length cap') 29).alloc (.cells #[.bool false, .slice none 0 0] 29)
  have Rz : R2 (((w.alloc (.cells #[.bool na, .slice a xs.length cap] 29)).alloc (.cells #[.bool nb, .slice b ys.length cap'] 29)).alloc (.cells #[.bool false, .slice none 0 0] 29)) (w.heap.size + 1 + 1) (.bool false) (.slice none 0 0) := by simpa using R2.new2 (w.alloc (.cells #[.bool na, .slice a xs.length cap] 29)) (.cells #[.bool nb, .slice b ys.length cap'] 29) (.bool false) (.slice none 0 0) 29
  have sx := ((hx.alloc (.cells #[.bool na, .slice a xs.length cap] 29)).alloc (.cells #[.bool nb, .slice b ys.length cap'] 29)).alloc (.cells #[.bool false, .slice none 0 0] 29)
  have sy := ((hy.alloc (.cells #[.bool na, .slice a xs.length cap] 29)).alloc (.cells #[.bool nb, .slice b ys.length cap'] 29)).alloc (.cells #[.bool false, .slice none 0 0] 29)
  have hbW : Below w.heap.size w (((w.alloc (.cells #[.bool na, .slice a xs.length cap] 29)).alloc (.cells #[.bool nb, .slice b ys.length cap'] 29)).alloc (.cells #[.bool false, .slice none 0 0] 29)) := (by repeat (first | exact Below.refl _ _ | refine Below.drew ?_ | refine bel_dn ?_ _ | refine bel_al ?_ _ | refine Below.setCell ?_ (by first | omega | (simp; done) | (simp; omega)) _ | refine Below.alloc ?_ (by first | omega | (simp; done) | (simp; omega)) _))
  go_wp2_with fail
  refine (ok_impl na a cap xs _ sx (by omega)).mono ?_
  rintro e W1 ⟨rfl, hb1⟩
  replace Bx := Bx.below hb1
  replace By := By.below hb1
  replace Fx := Fx.below hb1
  replace Fy := Fy.below hb1
  replace Rz := Rz.below hb1
  replace sx := sx.below hb1
  replace sy := sy.below hb1
  replace hbW := bel_go hbW hb1
  obtain ⟨y0, y1⟩ := By
  go_wp2_with fail
  refine (ok_impl nb b cap' ys _ sy (by omega)).mono ?_
  rintro e W ⟨rfl, hb2⟩
  have By : Box W1 (w.heap.size + 1) (.bool nb) (.slice b ys.length cap') := ⟨y0, y1⟩
  replace Bx := Bx.below hb2
  replace By := By.below hb2
  replace Fx := Fx.below hb2
  replace Fy := Fy.below hb2
  replace Rz := Rz.below hb2
  replace sx := sx.below hb2
  replace sy := sy.below hb2
  replace hbW := bel_go hbW hb2
  have lW : w.heap.size + 1 + 1 < W.heap.size := World.block_lt_of_cell? W _ Rz.c0
  clear y0 y1 hb1 hb2
  obtain ⟨x0, x1⟩ := Bx
  obtain ⟨y0, y1⟩ := By
  go_wp2_with fail
  refine (cmpLimbs_any a b cap cap' xs ys _ sx sy (by omega) (by omega)).mono ?_
  rintro e W3 ⟨rfl, hb3⟩
  have Bx : Box W (w.heap.size) (.bool na) (.slice a xs.length cap) := ⟨x0, x1⟩
  have By : Box W (w.heap.size + 1) (.bool nb) (.slice b ys.length cap') := ⟨y0, y1⟩
  have l0 : W.heap.size ≤ W3.heap.size := hb3.size
  replace Bx := Bx.below hb3
  replace By := By.below hb3
  replace Fx := Fx.below hb3
  replace Fy := Fy.below hb3
  replace Rz := Rz.below hb3
  replace sx := sx.below hb3
  replace sy := sy.below hb3
  replace hbW := bel_go hbW hb3
  clear x0 x1 y0 y1 hb3
  have lW : w.heap.size + 1 + 1 < W3.heap.size := World.block_lt_of_cell? W3 _ Rz.c0
  go_wp2_with fail
  go_region_held3 (fun w' => w'.cell? ⟨w.heap.size, 0, none⟩ = some (.bool na) ∧ w'.cell? ⟨w.heap.size, 1, none⟩ = some (.slice a xs.length cap) ∧ w'.cell? ⟨w.heap.size + 1, 1, none⟩ = some (.slice b ys.length cap')) (first | assumption | (refine keep3_set k3.1 k3.2.1 k3.2.2 ?_ ?_ _ _ <;> omega) | exact ⟨Bx.1, Bx.2, By.2⟩)
    (first
      | (go_at_call 87; refine (subLimbs_any a b cap cap' xs ys _ (by exact sx.drew) (by exact sy.drew) dx dy (by omega) HGE.out.2 HGE.out.1).mono ?_; rintro e w2 ⟨a2, c2, os, rfl, ho2, dos, hv, hlo, hb2⟩; have k2 := keep3 (w := W3.drew) Bx.1 Bx.2 By.2 hb2; have Rz2 := Rz.drew.below hb2)
      | (go_at_call 70; refine (fitted_v na a2 c2 os W3.heap.size _ (by exact ho2) dos hlo x (HX.out os hv)).mono ?_; rintro e w3 ⟨a3, c3, rfl, ho3, hb3⟩; have k3 := keep3 k2.1 k2.2.1 k2.2.2 hb3; have Rz3 := Rz2.below hb3; obtain ⟨z0, z1, zf0, zf1⟩ := Rz3))
  have l2 : W3.heap.size ≤ w2.heap.size := hb2.size
  have l3 : w2.heap.size ≤ w3.heap.size := hb3.size
  go_wp2
  obtain ⟨e1, e2, e3⟩ := op_yes x
  refine bodyPost_ret (v := .tuple #[.agg #[.bool (Nm.outN x), .slice a3 (Nm.outL x).length c3], .bool (Nm.fits x)]) (by simp [results, Tryd.results66, go_sem, z0, z1]) rfl ⟨a3, c3, ?_, ?_, ?_⟩
  · rw [HK.out, e1, e2, e3]
  · rw [HK.out, e1]
    exact Own.base ((ho3.setBelow (by simp; omega) _).setBelow (by simp; omega) _) (by omega)
  · exact ((bel_go (bel_go (Below.drew hbW) hb2) hb3).setCell (by simp; omega) _).setCell (by simp; omega) _
set_option maxHeartbeats 1000000 in
theorem wadd_low (na nb : Bool) (a b : Option Addr) (cap cap' : Nat) (xs ys : List Int) (w : World) (hx : Sl .u32 w (.slice a xs.length cap) xs) (hy : Sl .u32 w (.slice b ys.length cap') ys) (dx : Nm.Dg xs) (dy : Nm.Dg ys) (hl : xs.length ≤ 1048576) (hl' : ys.length ≤ 1048576) (x : Int) (hxv : x = Nm.wv na xs + Nm.wv nb ys) (h1 : okB na xs = true) (h2 : okB nb ys = true) (hc : (na == nb) = false) (hm : cmpL xs ys < 0) :
    Calls Tryd.prog 66 #[.agg #[.bool na, .slice a xs.length cap], .agg #[.bool nb, .slice b ys.length cap']] w fun e w' => ∃ a' c', e = .returned (.tuple #[.agg #[.bool (opN (okB na xs && okB nb ys) x), .slice a' (opL (okB na xs && okB nb ys) x).length c'], .bool (opO (okB na xs && okB nb ys) x)]) ∧ Own w' w.heap.size a' c' (opL (okB na xs && okB nb ys) x) ∧ Below w.heap.size w w' := by
  have HX : Hid (∀ os, Nm.val os = Nm.val ys - Nm.val xs → x = Nm.wv nb os) := hid (fun os h => by rw [hxv]; exact Nm.wv_less' hc h)
  have nx0 := (okB_nz h1).1
  have ny0 := (okB_nz h2).1
  have hge : Nm.val xs ≤ Nm.val ys := by have := (cmpL_val dx dy nx0 ny0).1; omega
  have hln : xs.length ≤ ys.length := Nm.len_le_of_val dy dx nx0 hge
  have HGE := hid (And.intro hge hln)
  clear hxv hge hln nx0 ny0
  have HK : Hid ((okB na xs && okB nb ys) = true) := hid (by rw [h1, h2]; rfl)
  obtain ⟨nx, lx⟩ := okB_nz h1
  obtain ⟨ny, ly⟩ := okB_nz h2
  go_enter Tryd.func66, Tryd.ntmps66
  have Bx := ((Box.new w (.bool na) (.slice a xs.length cap) 29).alloc (.cells #[.bool nb, .slice b ys.length cap'] 29)).alloc (.cells #[.bool false, .slice none 0 0] 29)
  have By := (Box.new2 w (.cells #[.bool na, .slice a xs.length cap] 29) (.bool nb) (.slice b ys.length cap') 29).alloc (.cells #[.bool false, .slice none 0 0] 29)
  have Fx := ((R2.new w (.bool na) (.slice a xs.length cap) 29).alloc (.cells #[.bool nb, .slice b ys.length cap'] 29)).alloc (.cells #[.bool false, .slice none 0 0] 29)
  have Fy := (R2.new2 w (.cells #[.bool na, .slice a xs.length cap] 29) (.bool nb) (.slice b ys.length cap') 29).alloc (.cells #[.bool false, .slice none 0 0] 29)
  have Rz : R2 (((w.alloc (.cells #[.bool na, .slice a xs.length cap] 29)).alloc (.cells #[.bool nb, .slice b ys.length cap'] 29)).alloc (.cells #[.bool false, .slice none 0 0] 29)) (w.heap.size + 1 + 1) (.bool false) (.slice none 0 0) := by simpa using R2.new2 (w.alloc (.cells #[.bool na, .slice a xs.length cap] 29)) (.cells #[.bool nb, .slice b ys.length cap'] 29) (.bool false) (.slice none 0 0) 29
  have sx := ((hx.alloc (.cells #[.bool na, .slice a xs.length cap] 29)).alloc (.cells #[.bool nb, .slice b ys.length cap'] 29)).alloc (.cells #[.bool false, .slice none 0 0] 29)
  have sy := ((hy.alloc (.cells #[.bool na, .slice a xs.length cap] 29)).alloc (.cells #[.bool nb, .slice b ys.length cap'] 29)).alloc (.cells #[.bool false, .slice none 0 0] 29)
  have hbW : Below w.heap.size w (((w.alloc (.cells #[.bool na, .slice a xs.length cap] 29)).alloc (.cells #[.bool nb, .slice b ys.length cap'] 29)).alloc (.cells #[.bool false, .slice none 0 0] 29)) := (by repeat (first | exact Below.refl _ _ | refine Below.drew ?_ | refine bel_dn ?_ _ | refine bel_al ?_ _ | refine Below.setCell ?_ (by first | omega | (simp; done) | (simp; omega)) _ | refine Below.alloc ?_ (by first | omega | (simp; done) | (simp; omega)) _))
  go_wp2_with fail
  refine (ok_impl na a cap xs _ sx (by omega)).mono ?_
  rintro e W1 ⟨rfl, hb1⟩
  replace Bx := Bx.below hb1
  replace By := By.below hb1
  replace Fx := Fx.below hb1
  replace Fy := Fy.below hb1
  replace Rz := Rz.below hb1
  replace sx := sx.below hb1
  replace sy := sy.below hb1
  replace hbW := bel_go hbW hb1
  obtain ⟨y0, y1⟩ := By
  go_wp2_with fail
  refine (ok_impl nb b cap' ys _ sy (by omega)).mono ?_
  rintro e W ⟨rfl, hb2⟩
  have By : Box W1 (w.heap.size + 1) (.bool nb) (.slice b ys.length cap') := ⟨y0, y1⟩
  replace Bx := Bx.below hb2
  replace By := By.below hb2
  replace Fx := Fx.below hb2
  replace Fy := Fy.below hb2
  replace Rz := Rz.below hb2
  replace sx := sx.below hb2
  replace sy := sy.below hb2
  replace hbW := bel_go hbW hb2
  have lW : w.heap.size + 1 + 1 < W.heap.size := World.block_lt_of_cell? W _ Rz.c0
  clear y0 y1 hb1 hb2
  obtain ⟨x0, x1⟩ := Bx
  obtain ⟨y0, y1⟩ := By
  go_wp2_with fail
  refine (cmpLimbs_any a b cap cap' xs ys _ sx sy (by omega) (by omega)).mono ?_
  rintro e W3 ⟨rfl, hb3⟩
  have Bx : Box W (w.heap.size) (.bool na) (.slice a xs.length cap) := ⟨x0, x1⟩
  have By : Box W (w.heap.size + 1) (.bool nb) (.slice b ys.length cap') := ⟨y0, y1⟩
  have l0 : W.heap.size ≤ W3.heap.size := hb3.size
  replace Bx := Bx.below hb3
  replace By := By.below hb3
  replace Fx := Fx.below hb3
  replace Fy := Fy.below hb3
  replace Rz := Rz.below hb3
  replace sx := sx.below hb3
  replace sy := sy.below hb3
  replace hbW := bel_go hbW hb3
  clear x0 x1 y0 y1 hb3
  have lW3 : w.heap.size + 1 + 1 < W3.heap.size := World.block_lt_of_cell? W3 _ Rz.c0
  obtain ⟨x0, x1, xf0, xf1⟩ := Fx
  obtain ⟨y0, y1, yf0, yf1⟩ := Fy
  have hfin := swapped (w := W3) ⟨x0, x1, xf0, xf1⟩ ⟨y0, y1, yf0, yf1⟩ Rz (by omega) (by omega) (by omega)
  have hbs : Below w.heap.size w ((((W3.setCell ⟨w.heap.size, 0, none⟩ (.bool nb)).setCell ⟨w.heap.size, 1, none⟩ (.slice b ys.length cap')).setCell ⟨w.heap.size + 1, 0, none⟩ (.bool na)).setCell ⟨w.heap.size + 1, 1, none⟩ (.slice a xs.length cap)) := (((hbW.setCell (by simp) _).setCell (by simp) _).setCell (by simp) _).setCell (by simp) _
  have hss := And.intro (hx.below hbs) (hy.below hbs)
  go_wp2_with fail
  generalize (((W3.setCell ⟨w.heap.size, 0, none⟩ (.bool nb)).setCell ⟨w.heap.size, 1, none⟩ (.slice b ys.length cap')).setCell ⟨w.heap.size + 1, 0, none⟩ (.bool na)).setCell ⟨w.heap.size + 1, 1, none⟩ (.slice a xs.length cap) = W4 at hfin hbs hss ⊢
  clear x0 x1 xf0 xf1 y0 y1 yf0 yf1 Bx By sx sy hbW Rz
  obtain ⟨By, Bx, Rz⟩ := hfin
  obtain ⟨sx, sy⟩ := hss
  have hbW := hbs
  have lW : w.heap.size + 1 + 1 < W4.heap.size := World.block_lt_of_cell? W4 _ Rz.c0
  go_region_held3 (fun w' => w'.cell? ⟨w.heap.size, 0, none⟩ = some (.bool nb) ∧ w'.cell? ⟨w.heap.size, 1, none⟩ = some (.slice b ys.length cap') ∧ w'.cell? ⟨w.heap.size + 1, 1, none⟩ = some (.slice a xs.length cap)) (first | assumption | (refine keep3_set k3.1 k3.2.1 k3.2.2 ?_ ?_ _ _ <;> omega) | exact ⟨By.1, By.2, Bx.2⟩)
    (first
      | (go_at_call 87; refine (subLimbs_any b a cap' cap ys xs _ (by exact sy.drew) (by exact sx.drew) dy dx (by omega) HGE.out.2 HGE.out.1).mono ?_; rintro e w2 ⟨a2, c2, os, rfl, ho2, dos, hv, hlo, hb2⟩; have k2 := keep3 (w := W4.drew) By.1 By.2 Bx.2 hb2; have Rz2 := Rz.drew.below hb2)
      | (go_at_call 70; refine (fitted_v nb a2 c2 os W4.heap.size _ (by exact ho2) dos hlo x (HX.out os hv)).mono ?_; rintro e w3 ⟨a3, c3, rfl, ho3, hb3⟩; have k3 := keep3 k2.1 k2.2.1 k2.2.2 hb3; have Rz3 := Rz2.below hb3; obtain ⟨z0, z1, zf0, zf1⟩ := Rz3))
  have l2 : W4.heap.size ≤ w2.heap.size := hb2.size
  have l3 : w2.heap.size ≤ w3.heap.size := hb3.size
  go_wp2
  obtain ⟨e1, e2, e3⟩ := op_yes x
  refine bodyPost_ret (v := .tuple #[.agg #[.bool (Nm.outN x), .slice a3 (Nm.outL x).length c3], .bool (Nm.fits x)]) (by simp [results, Tryd.results66, go_sem, z0, z1]) rfl ⟨a3, c3, ?_, ?_, ?_⟩
  · rw [HK.out, e1, e2, e3]
  · rw [HK.out, e1]
    exact Own.base ((ho3.setBelow (by simp; omega) _).setBelow (by simp; omega) _) (by omega)
  · exact ((bel_go (bel_go (Below.drew hbW) hb2) hb3).setCell (by simp; omega) _).setCell (by simp; omega) _
theorem wadd_impl (na nb : Bool) (a b : Option Addr) (cap cap' : Nat) (xs ys : List Int) (w : World) (hx : Sl .u32 w (.slice a xs.length cap) xs) (hy : Sl .u32 w (.slice b ys.length cap') ys) (dx : Nm.Dg xs) (dy : Nm.Dg ys) (hl : xs.length ≤ 1048576) (hl' : ys.length ≤ 1048576) (x : Int) (hxv : x = Nm.wv na xs + Nm.wv nb ys) :
    Calls Tryd.prog 66 #[.agg #[.bool na, .slice a xs.length cap], .agg #[.bool nb, .slice b ys.length cap']] w fun e w' => ∃ a' c', e = .returned (.tuple #[.agg #[.bool (opN (okB na xs && okB nb ys) x), .slice a' (opL (okB na xs && okB nb ys) x).length c'], .bool (opO (okB na xs && okB nb ys) x)]) ∧ Own w' w.heap.size a' c' (opL (okB na xs && okB nb ys) x) ∧ Below w.heap.size w w' := by
  cases h1 : okB na xs
  · have := wadd_impl_no0 na nb a b cap cap' xs ys w hx hy dx dy hl hl' x h1
    rwa [h1] at this
  · cases h2 : okB nb ys
    · have := wadd_impl_no1 na nb a b cap cap' xs ys w hx hy dx dy hl hl' x h1 h2
      rwa [h1, h2] at this
    · cases hc : (na == nb)
      · by_cases hm : cmpL xs ys < 0
        · have := wadd_low na nb a b cap cap' xs ys w hx hy dx dy hl hl' x hxv h1 h2 hc hm
          rwa [h1, h2] at this
        · have := wadd_high na nb a b cap cap' xs ys w hx hy dx dy hl hl' x hxv h1 h2 hc hm
          rwa [h1, h2] at this
      · have := wadd_same na nb a b cap cap' xs ys w hx hy dx dy hl hl' x hxv h1 h2 hc
        rwa [h1, h2] at this
end Go.Proofs.YtfblidnejdkjhaaDoor
/-
  Marks joined, tallies joined, a tally as an accumulator: by the program.
-/
namespace Go.Proofs.YtfblidnejdkjhaaDoor
set_option linter.unusedVariables false
set_option linter.unusedSimpArgs false
open Go.RowKit Go.Deep
/-- Whether all of the terms of both are zeros below 0. -/
def amW (T : Int) (am : Bool) (T' : Int) (am' : Bool) : Bool := am && (am' || decide (T' = 0)) || decide (T = 0) && am'
theorem mk_am {T : Int} {nn bd pl mi am : Bool} (h : mkB T nn bd pl mi am = true) : (am = true → nn = false ∧ bd = false ∧ pl = false ∧ mi = false) ∧ (bd = true → nn = true) ∧ (T = 0 → nn = false ∧ bd = false ∧ pl = false ∧ mi = false ∧ am = false) := by
  unfold mkB at h
  by_cases h0 : T = 0
  · rw [decide_eq_true h0] at h
    revert h
    cases nn <;> cases bd <;> cases pl <;> cases mi <;> cases am <;> simp
  · rw [decide_eq_false h0] at h
    revert h
    cases nn <;> cases bd <;> cases pl <;> cases mi <;> cases am <;> simp [h0]
set_option maxHeartbeats 8000000 in
set_option maxRecDepth 100000 in
theorem mwith (T : Int) (nn bd pl mi am : Bool) (T' : Int) (nn' bd' pl' mi' am' : Bool) (w : World) (hk : mkB T nn bd pl mi am = true) (h0' : 0 ≤ T') (h1' : T' ≤ 1000000) (V : Value) (hV : V = .agg #[.int .i64 (T + T'), .bool (nn || nn'), .bool (bd || bd'), .bool (pl || pl'), .bool (mi || mi'), .bool (amW T am T' am')]) :
    Calls Tryd.prog 67 #[.agg #[.int .i64 T, .bool nn, .bool bd, .bool pl, .bool mi, .bool am], .agg #[.int .i64 T', .bool nn', .bool bd', .bool pl', .bool mi', .bool am']] w fun e w' => e = .returned V ∧ Below w.heap.size w w' := by
  have HV := hid hV
  clear hV
  obtain ⟨ham, hbn, hT0⟩ := mk_am hk
  obtain ⟨h0, h1⟩ := mkB_T hk
  clear hk
  by_cases ht : T = 0
  · subst ht
    obtain ⟨rfl, rfl, rfl, rfl, rfl⟩ := hT0 rfl
    clear ham hbn hT0
    go_enter Tryd.func67, Tryd.ntmps67
    go_wp2
    refine bodyPost_ret (v := V) (by rw [HV.out]; simp [results, Tryd.results67, go_sem, amW]) rfl ⟨rfl, ?_⟩
    exact (by repeat (first | (with_reducible refine Below.setCell ?_ ?_ _; rotate_left; focus (first | omega | (simp; done) | (simp; omega))) | (with_reducible exact Below.refl _ _) | (with_reducible refine Below.drew ?_) | (with_reducible refine bel_dn ?_ _) | (with_reducible refine bel_al ?_ _) | (with_reducible refine Below.alloc ?_ ?_ _; rotate_left; focus (first | omega | (simp; done) | (simp; omega)))))
  clear hT0
  have hb : (T == 0) = false := by simpa using ht
  cases am with
  | true =>
    obtain ⟨rfl, rfl, rfl, rfl⟩ := ham rfl
    clear ham hbn
    cases am' with
    | true =>
      go_enter Tryd.func67, Tryd.ntmps67
      go_wp2
      refine bodyPost_ret (v := V) (by rw [HV.out]; simp [results, Tryd.results67, go_sem, amW, ht]) rfl ⟨rfl, ?_⟩
      exact (by repeat (first | (with_reducible refine Below.setCell ?_ ?_ _; rotate_left; focus (first | omega | (simp; done) | (simp; omega))) | (with_reducible exact Below.refl _ _) | (with_reducible refine Below.drew ?_) | (with_reducible refine bel_dn ?_ _) | (with_reducible refine bel_al ?_ _) | (with_reducible refine Below.alloc ?_ ?_ _; rotate_left; focus (first | omega | (simp; done) | (simp; omega)))))
    | false =>
      by_cases ht' : T' = 0
      · subst ht'
        go_enter Tryd.func67, Tryd.ntmps67
        go_wp2
        refine bodyPost_ret (v := V) (by rw [HV.out]; simp [results, Tryd.results67, go_sem, amW, ht]) rfl ⟨rfl, ?_⟩
        exact (by repeat (first | (with_reducible refine Below.setCell ?_ ?_ _; rotate_left; focus (first | omega | (simp; done) | (simp; omega))) | (with_reducible exact Below.refl _ _) | (with_reducible refine Below.drew ?_) | (with_reducible refine bel_dn ?_ _) | (with_reducible refine bel_al ?_ _) | (with_reducible refine Below.alloc ?_ ?_ _; rotate_left; focus (first | omega | (simp; done) | (simp; omega)))))
      · have hb' : (T' == 0) = false := by simpa using ht'
        go_enter Tryd.func67, Tryd.ntmps67
        go_wp2
        refine bodyPost_ret (v := V) (by rw [HV.out]; simp [results, Tryd.results67, go_sem, amW, ht', ht]) rfl ⟨rfl, ?_⟩
        exact (by repeat (first | (with_reducible refine Below.setCell ?_ ?_ _; rotate_left; focus (first | omega | (simp; done) | (simp; omega))) | (with_reducible exact Below.refl _ _) | (with_reducible refine Below.drew ?_) | (with_reducible refine bel_dn ?_ _) | (with_reducible refine bel_al ?_ _) | (with_reducible refine Below.alloc ?_ ?_ _; rotate_left; focus (first | omega | (simp; done) | (simp; omega)))))
  | false =>
    clear ham
    cases nn with
    | true =>
      clear hbn
      cases bd <;> cases pl <;> cases mi <;>
      · go_enter Tryd.func67, Tryd.ntmps67
        go_wp2
        refine bodyPost_ret (v := V) (by rw [HV.out]; simp [results, Tryd.results67, go_sem, amW, ht]) rfl ⟨rfl, ?_⟩
        exact (by repeat (first | (with_reducible refine Below.setCell ?_ ?_ _; rotate_left; focus (first | omega | (simp; done) | (simp; omega))) | (with_reducible exact Below.refl _ _) | (with_reducible refine Below.drew ?_) | (with_reducible refine bel_dn ?_ _) | (with_reducible refine bel_al ?_ _) | (with_reducible refine Below.alloc ?_ ?_ _; rotate_left; focus (first | omega | (simp; done) | (simp; omega)))))
    | false =>
      have hbd : bd = false := by cases bd; rfl; exact absurd (hbn rfl) (by decide)
      subst hbd
      clear hbn
      cases pl <;> cases mi <;>
      · go_enter Tryd.func67, Tryd.ntmps67
        go_wp2
        refine bodyPost_ret (v := V) (by rw [HV.out]; simp [results, Tryd.results67, go_sem, amW, ht]) rfl ⟨rfl, ?_⟩
        exact (by repeat (first | (with_reducible refine Below.setCell ?_ ?_ _; rotate_left; focus (first | omega | (simp; done) | (simp; omega))) | (with_reducible exact Below.refl _ _) | (with_reducible refine Below.drew ?_) | (with_reducible refine bel_dn ?_ _) | (with_reducible refine bel_al ?_ _) | (with_reducible refine Below.alloc ?_ ?_ _; rotate_left; focus (first | omega | (simp; done) | (simp; omega)))))
set_option maxHeartbeats 4000000 in
set_option maxRecDepth 100000 in
theorem tacc (fm : Int) (ng : Bool) (T : Int) (nn bd pl mi am : Bool) (v : Value) (w : World) (hv : ∃ a n c, v = .slice a n c) :
    Calls Tryd.prog 39 #[.agg #[.int .i64 T, .bool nn, .bool bd, .bool pl, .bool mi, .bool am, .int .i64 fm, .bool ng, v]] w fun e w' => e = .returned (.agg #[.int .i64 fm, .bool ng, v, .int .i64 T, .bool nn, .bool bd, .bool pl, .bool mi, .bool am]) ∧ Below w.heap.size w w' := by
  obtain ⟨a, n, c, rfl⟩ := hv
  go_enter Tryd.func39, Tryd.ntmps39
  go_wp2
  refine bodyPost_ret (v := .agg #[.int .i64 fm, .bool ng, .slice a n c, .int .i64 T, .bool nn, .bool bd, .bool pl, .bool mi, .bool am]) (by simp [results, Tryd.results39, go_sem]) rfl ⟨rfl, ?_⟩
  exact (by repeat (first | (with_reducible refine Below.setCell ?_ ?_ _; rotate_left; focus (first | omega | (simp; done) | (simp; omega))) | (with_reducible exact Below.refl _ _) | (with_reducible refine Below.drew ?_) | (with_reducible refine bel_dn ?_ _) | (with_reducible refine bel_al ?_ _) | (with_reducible refine Below.alloc ?_ ?_ _; rotate_left; focus (first | omega | (simp; done) | (simp; omega)))))
end Go.Proofs.YtfblidnejdkjhaaDoor
/-
  Tallies joined, by the program; what is known of sums of right accumulators.
-/
namespace Go.Proofs.YtfblidnejdkjhaaDoor
set_option linter.unusedVariables false
set_option linter.unusedSimpArgs false
open Go.RowKit Go.Deep
theorem acc_parts {fm : Int} {ng : Bool} {zs : List Int} {T : Int} {nn bd pl mi am : Bool} (h : accB fm ng zs T nn bd pl mi am = true) : fmtB fm = true ∧ mkB T nn bd pl mi am = true ∧ okB ng zs = true ∧ cmpL zs (Nm.lim (far fm T)) ≤ 0 := by
  unfold accB at h
  simp only [Bool.and_eq_true, decide_eq_true_eq] at h
  exact ⟨h.1.1.1.1, h.1.1.1.2, h.1.1.2, h.1.2⟩
theorem acc_val {fm : Int} {ng : Bool} {zs : List Int} {T : Int} {nn bd pl mi am : Bool} (hd : Nm.Dg zs) (h : accB fm ng zs T nn bd pl mi am = true) : (Nm.val zs).toNat ≤ far fm T := by
  obtain ⟨-, -, ho, hc⟩ := acc_parts h
  have h1 := (cmpL_val hd (Nm.lim_dg (far fm T)) (okB_nz ho).1 (Nm.lim_nz _)).2
  have h2 : ¬ Nm.val (Nm.lim (far fm T)) < Nm.val zs := fun h => by have := h1.2 h; omega
  rw [Nm.lim_val] at h2
  omega
theorem fits_bl {x : Int} (h : bitLen x.natAbs ≤ 6400) : Nm.fits x = true := by
  unfold Nm.fits Nm.wl; exact decide_eq_true (lim_len (k := 200) (by omega))
theorem wv_abs (ng : Bool) {zs : List Int} (hd : Nm.Dg zs) : (Nm.wv ng zs).natAbs = (Nm.val zs).toNat := Nm.natAbs_wv ng hd
theorem sum_bk {u v k : Nat} (hu : bitLen u ≤ k) (hv : bitLen v ≤ k) : bitLen (u + v) ≤ k + 1 := by
  have h1 := (Nm.bl_le_iff u k).1 hu
  have h2 := (Nm.bl_le_iff v k).1 hv
  refine (Nm.bl_le_iff (u + v) (k + 1)).2 ?_
  rw [Nat.pow_succ]; omega
theorem sum_bl {u v : Nat} (hu : bitLen u ≤ 4216) (hv : bitLen v ≤ 4216) : bitLen (u + v) ≤ 4217 := sum_bk hu hv
theorem merge_fits {fm : Int} {ng ngq : Bool} {zs ys : List Int} {T Tq : Int} {nn bd pl mi am nnq bdq plq miq amq : Bool} (dz : Nm.Dg zs) (dy : Nm.Dg ys) (h : accB fm ng zs T nn bd pl mi am = true) (h' : accB fm ngq ys Tq nnq bdq plq miq amq = true) : Nm.fits (Nm.wv ng zs + Nm.wv ngq ys) = true := by
  refine fits_bl ?_
  have h1 := acc_val dz h
  have h2 := acc_val dy h'
  have e1 := wv_abs ng dz
  have e2 := wv_abs ngq dy
  have t1 := (mkB_T (acc_parts h).2.1).2
  have t2 := (mkB_T (acc_parts h').2.1).2
  have b := sum_bl (far_bl fm t1) (far_bl fm t2)
  have hm := Nm.bl_mono (show (Nm.wv ng zs + Nm.wv ngq ys).natAbs ≤ far fm T + far fm Tq by omega)
  omega
theorem add_ok {na nb : Bool} {xs ys : List Int} (a b : Option Addr) (cap cap' : Nat) (w : World) (hx : Sl .u32 w (.slice a xs.length cap) xs) (hy : Sl .u32 w (.slice b ys.length cap') ys) (dx : Nm.Dg xs) (dy : Nm.Dg ys) (ho : okB na xs = true) (ho' : okB nb ys = true) (x : Int) (hxv : x = Nm.wv na xs + Nm.wv nb ys) (hf : Nm.fits x = true) :
    Calls Tryd.prog 66 #[.agg #[.bool na, .slice a xs.length cap], .agg #[.bool nb, .slice b ys.length cap']] w fun e w' => ∃ a' c', e = .returned (.tuple #[.agg #[.bool (Nm.wn x), .slice a' (Nm.wl x).length c'], .bool true]) ∧ Own w' w.heap.size a' c' (Nm.wl x) ∧ Below w.heap.size w w' := by
  have h1 := (okB_nz ho).2
  have h2 := (okB_nz ho').2
  have h := wadd_impl na nb a b cap cap' xs ys w hx hy dx dy (by omega) (by omega) x hxv
  have e4 := out_fits hf
  rw [ho, ho', Bool.and_self, (op_yes _).1, (op_yes _).2.1, (op_yes _).2.2, hf, e4.1, e4.2] at h
  exact h
theorem Q9.new3 (w : World) (o o' : Obj) (v0 v1 v2 v3 v4 v5 v6 v7 v8 : Value) (t : TypeId) : Q9 (((w.alloc o).alloc o').alloc (.cells #[v0, v1, v2, v3, v4, v5, v6, v7, v8] t)) (w.heap.size + 1 + 1) v0 v1 v2 v3 v4 v5 v6 v7 v8 := by simpa using Q9.new ((w.alloc o).alloc o') v0 v1 v2 v3 v4 v5 v6 v7 v8 t
theorem Q9.nw2 (w : World) (o : Obj) (v0 v1 v2 v3 v4 v5 v6 v7 v8 : Value) (t : TypeId) : Q9 ((w.alloc o).alloc (.cells #[v0, v1, v2, v3, v4, v5, v6, v7, v8] t)) (w.heap.size + 1) v0 v1 v2 v3 v4 v5 v6 v7 v8 := by simpa using Q9.new (w.alloc o) v0 v1 v2 v3 v4 v5 v6 v7 v8 t
theorem heap9 (w : World) (B b : Nat) (h : b ≠ B) (u0 u1 u2 u3 u4 u5 u6 u7 u8 : Value) :
    (((((((((w.setCell ⟨B, 0, none⟩ u0).setCell ⟨B, 1, none⟩ u1).setCell ⟨B, 2, none⟩ u2).setCell ⟨B, 3, none⟩ u3).setCell ⟨B, 4, none⟩ u4).setCell ⟨B, 5, none⟩ u5).setCell ⟨B, 6, none⟩ u6).setCell ⟨B, 7, none⟩ u7).setCell ⟨B, 8, none⟩ u8).heap[b]? = w.heap[b]? := by
  rw [Below.heap_setCell _ _ _ _ h, Below.heap_setCell _ _ _ _ h, Below.heap_setCell _ _ _ _ h, Below.heap_setCell _ _ _ _ h, Below.heap_setCell _ _ _ _ h, Below.heap_setCell _ _ _ _ h, Below.heap_setCell _ _ _ _ h, Below.heap_setCell _ _ _ _ h, Below.heap_setCell _ _ _ _ h]
theorem Box.of_block {w w' : World} {b : Nat} {v0 v1 : Value} (h : Box w b v0 v1) (e : w'.heap[b]? = w.heap[b]?) : Box w' b v0 v1 :=
  ⟨(World.cell?_of_block (a := ⟨b, 0, none⟩) e).trans h.1, (World.cell?_of_block (a := ⟨b, 1, none⟩) e).trans h.2⟩
/-- Nine stores into one block leave what lies in two boxes of nine and in one of two. -/
theorem keep9 {w : World} {B b b' b'' : Nat} {v0 v1 v2 v3 v4 v5 v6 v7 v8 y0 y1 y2 y3 y4 y5 y6 y7 y8 z0 z1 : Value} (h : Q9 w b v0 v1 v2 v3 v4 v5 v6 v7 v8) (h' : Q9 w b' y0 y1 y2 y3 y4 y5 y6 y7 y8) (h'' : Box w b'' z0 z1) (n : b ≠ B) (n' : b' ≠ B) (n'' : b'' ≠ B) (u0 u1 u2 u3 u4 u5 u6 u7 u8 : Value) (W : World)
    (hW : W = (((((((((w.setCell ⟨B, 0, none⟩ u0).setCell ⟨B, 1, none⟩ u1).setCell ⟨B, 2, none⟩ u2).setCell ⟨B, 3, none⟩ u3).setCell ⟨B, 4, none⟩ u4).setCell ⟨B, 5, none⟩ u5).setCell ⟨B, 6, none⟩ u6).setCell ⟨B, 7, none⟩ u7).setCell ⟨B, 8, none⟩ u8)) :
    (W.cell? ⟨b, 0, none⟩ = some v0 ∧ W.cell? ⟨b, 1, none⟩ = some v1 ∧ W.cell? ⟨b, 2, none⟩ = some v2 ∧ W.cell? ⟨b, 3, none⟩ = some v3 ∧ W.cell? ⟨b, 4, none⟩ = some v4 ∧ W.cell? ⟨b, 5, none⟩ = some v5 ∧ W.cell? ⟨b, 6, none⟩ = some v6 ∧ W.cell? ⟨b, 7, none⟩ = some v7 ∧ W.cell? ⟨b, 8, none⟩ = some v8) ∧ (W.cell? ⟨b', 0, none⟩ = some y0 ∧ W.cell? ⟨b', 1, none⟩ = some y1 ∧ W.cell? ⟨b', 2, none⟩ = some y2 ∧ W.cell? ⟨b', 3, none⟩ = some y3 ∧ W.cell? ⟨b', 4, none⟩ = some y4 ∧ W.cell? ⟨b', 5, none⟩ = some y5 ∧ W.cell? ⟨b', 6, none⟩ = some y6 ∧ W.cell? ⟨b', 7, none⟩ = some y7 ∧ W.cell? ⟨b', 8, none⟩ = some y8) ∧ W.cell? ⟨b'', 0, none⟩ = some z0 ∧ W.cell? ⟨b'', 1, none⟩ = some z1 := by
  subst hW
  exact ⟨(h.of_block (heap9 w B b n u0 u1 u2 u3 u4 u5 u6 u7 u8)).cs, (h'.of_block (heap9 w B b' n' u0 u1 u2 u3 u4 u5 u6 u7 u8)).cs, h''.of_block (heap9 w B b'' n'' u0 u1 u2 u3 u4 u5 u6 u7 u8)⟩
set_option maxHeartbeats 8000000 in
set_option maxRecDepth 100000 in
theorem twith (fm : Int) (ng : Bool) (T : Int) (nn bd pl mi am : Bool) (fmq : Int) (ngq : Bool) (Tq : Int) (nnq bdq plq miq amq : Bool) (p pq : Option Addr) (cap capq : Nat) (zs ys : List Int) (w : World) (hs : Sl .u32 w (.slice p zs.length cap) zs) (hy : Sl .u32 w (.slice pq ys.length capq) ys) (dz : Nm.Dg zs) (dy : Nm.Dg ys) (hk : mkB T nn bd pl mi am = true) (h0' : 0 ≤ Tq) (h1' : Tq ≤ 1000000) (ho : okB ng zs = true) (ho' : okB ngq ys = true) (x : Int) (hx : x = Nm.wv ng zs + Nm.wv ngq ys) (hf : Nm.fits x = true) :
    Calls Tryd.prog 38 #[.agg #[.int .i64 T, .bool nn, .bool bd, .bool pl, .bool mi, .bool am, .int .i64 fm, .bool ng, .slice p zs.length cap], .agg #[.int .i64 Tq, .bool nnq, .bool bdq, .bool plq, .bool miq, .bool amq, .int .i64 fmq, .bool ngq, .slice pq ys.length capq]] w fun e w' => ∃ a' c', e = .returned (.agg #[.int .i64 (T + Tq), .bool (nn || nnq), .bool (bd || bdq), .bool (pl || plq), .bool (mi || miq), .bool (amW T am Tq amq), .int .i64 fm, .bool (Nm.wn x), .slice a' (Nm.wl x).length c']) ∧ Own w' w.heap.size a' c' (Nm.wl x) ∧ Below w.heap.size w w' := by
  have CA := hid (fun w' h h' => add_ok (na := ng) (nb := ngq) p pq cap capq w' h h' dz dy ho ho' x hx hf)
  have CM := hid (fun w' => mwith T nn bd pl mi am Tq nnq bdq plq miq amq w' hk h0' h1' _ rfl)
  obtain ⟨T2, hT2⟩ : ∃ T2, T2 = T + Tq := ⟨_, rfl⟩
  obtain ⟨n2, hn2⟩ : ∃ n2, n2 = (nn || nnq) := ⟨_, rfl⟩
  obtain ⟨b2, hb2⟩ : ∃ b2, b2 = (bd || bdq) := ⟨_, rfl⟩
  obtain ⟨p2, hp2⟩ : ∃ p2, p2 = (pl || plq) := ⟨_, rfl⟩
  obtain ⟨m2, hm2⟩ : ∃ m2, m2 = (mi || miq) := ⟨_, rfl⟩
  obtain ⟨a2, ha2⟩ : ∃ a2, a2 = amW T am Tq amq := ⟨_, rfl⟩
  obtain ⟨G, hG⟩ : ∃ G, G = Nm.wn x := ⟨_, rfl⟩
  obtain ⟨L, hL⟩ : ∃ L, L = Nm.wl x := ⟨_, rfl⟩
  rw [← hT2, ← hn2, ← hb2, ← hp2, ← hm2, ← ha2] at CM
  rw [← hG, ← hL] at CA
  rw [← hT2, ← hn2, ← hb2, ← hp2, ← hm2, ← ha2, ← hG, ← hL]
  clear hT2 hn2 hb2 hp2 hm2 ha2 hG hL hk ho ho' hx hf dz dy
  go_enter Tryd.func38, Tryd.ntmps38
  go_wp2_with fail
  refine (CA.out _ (((hs.alloc _).alloc _).alloc _) (((hy.alloc _).alloc _).alloc _)).mono ?_
  rintro e w1 ⟨a1, k1, rfl, ho1, hb1⟩
  have qt := (((Q9.new w (.int .i64 T) (.bool nn) (.bool bd) (.bool pl) (.bool mi) (.bool am) (.int .i64 fm) (.bool ng) (.slice p zs.length cap) 60).alloc _).alloc _).below hb1
  have qo := ((Q9.nw2 w (.cells #[.int .i64 T, .bool nn, .bool bd, .bool pl, .bool mi, .bool am, .int .i64 fm, .bool ng, .slice p zs.length cap] 60) (.int .i64 Tq) (.bool nnq) (.bool bdq) (.bool plq) (.bool miq) (.bool amq) (.int .i64 fmq) (.bool ngq) (.slice pq ys.length capq) 60).alloc _).below hb1
  have qr := (Q9.new3 w (.cells #[.int .i64 T, .bool nn, .bool bd, .bool pl, .bool mi, .bool am, .int .i64 fm, .bool ng, .slice p zs.length cap] 60) (.cells #[.int .i64 Tq, .bool nnq, .bool bdq, .bool plq, .bool miq, .bool amq, .int .i64 fmq, .bool ngq, .slice pq ys.length capq] 60) (.int .i64 0) (.bool false) (.bool false) (.bool false) (.bool false) (.bool false) (.int .i64 0) (.bool false) (.slice none 0 0) 60).below hb1
  have bel1 : Below w.heap.size w w1 := (by repeat (first | exact Below.refl _ _ | refine Below.drew ?_ | refine bel_dn ?_ _ | refine bel_al ?_ _ | refine bel_go ?_ hb1 | refine Below.setCell ?_ (by first | omega | (simp; done) | (simp; omega)) _ | refine Below.alloc ?_ (by first | omega | (simp; done) | (simp; omega)) _ | refine Below.trans ?_ (Below.mono hb1 (by first | omega | (simp; done) | (simp; omega)))))
  have lr := qr.lt
  have ho1 : Own w1 (w.heap.size + 1 + 1 + 1) a1 k1 L := by simpa using ho1
  clear hb1 CA
  replace qt := qt.alloc (.cells #[.bool G, .slice a1 L.length k1] 29)
  replace qo := qo.alloc (.cells #[.bool G, .slice a1 L.length k1] 29)
  replace qr := qr.alloc (.cells #[.bool G, .slice a1 L.length k1] 29)
  have bx := Box.new w1 (.bool G) (.slice a1 L.length k1) 29
  have bel2 := bel_al bel1 (.cells #[.bool G, .slice a1 L.length k1] 29)
  have ho2 := ho1.alloc (.cells #[.bool G, .slice a1 L.length k1] 29)
  clear ho1
  have ctd := qt.drew.cs
  have cod := qo.drew.cs
  have bxd : Box (w1.alloc (.cells #[.bool G, .slice a1 L.length k1] 29)).drew w1.heap.size (.bool G) (.slice a1 L.length k1) := bx
  have bxd' := bxd
  obtain ⟨bxd0, bxd1⟩ := bxd'
  go_wp2_with fail
  go_region_held3 (fun w' => (w'.cell? ⟨w.heap.size, 0, none⟩ = some (.int .i64 T) ∧ w'.cell? ⟨w.heap.size, 1, none⟩ = some (.bool nn) ∧ w'.cell? ⟨w.heap.size, 2, none⟩ = some (.bool bd) ∧ w'.cell? ⟨w.heap.size, 3, none⟩ = some (.bool pl) ∧ w'.cell? ⟨w.heap.size, 4, none⟩ = some (.bool mi) ∧ w'.cell? ⟨w.heap.size, 5, none⟩ = some (.bool am) ∧ w'.cell? ⟨w.heap.size, 6, none⟩ = some (.int .i64 fm) ∧ w'.cell? ⟨w.heap.size, 7, none⟩ = some (.bool ng) ∧ w'.cell? ⟨w.heap.size, 8, none⟩ = some (.slice p zs.length cap)) ∧ (w'.cell? ⟨w.heap.size + 1, 0, none⟩ = some (.int .i64 Tq) ∧ w'.cell? ⟨w.heap.size + 1, 1, none⟩ = some (.bool nnq) ∧ w'.cell? ⟨w.heap.size + 1, 2, none⟩ = some (.bool bdq) ∧ w'.cell? ⟨w.heap.size + 1, 3, none⟩ = some (.bool plq) ∧ w'.cell? ⟨w.heap.size + 1, 4, none⟩ = some (.bool miq) ∧ w'.cell? ⟨w.heap.size + 1, 5, none⟩ = some (.bool amq) ∧ w'.cell? ⟨w.heap.size + 1, 6, none⟩ = some (.int .i64 fmq) ∧ w'.cell? ⟨w.heap.size + 1, 7, none⟩ = some (.bool ngq) ∧ w'.cell? ⟨w.heap.size + 1, 8, none⟩ = some (.slice pq ys.length capq)) ∧ w'.cell? ⟨w1.heap.size, 0, none⟩ = some (.bool G) ∧ w'.cell? ⟨w1.heap.size, 1, none⟩ = some (.slice a1 L.length k1))
    (first | with_reducible assumption | with_reducible exact ⟨ctd, cod, bxd0, bxd1⟩ | with_reducible exact keep9 tq oq bq (by omega) (by omega) (by omega) _ _ _ _ _ _ _ _ _ _ rfl | fail)
    (first
      | (go_at_call 67; refine (CM.out _).mono ?_; rintro e q1 ⟨rfl, hq1⟩; have tq := qt.drew.below hq1; have oq := qo.drew.below hq1; have bq := Box.below bxd hq1; have f1 := And.intro tq.cs (And.intro oq.cs (And.intro bq.1 bq.2)); obtain ⟨r0, r1, r2, r3, r4, r5, r6, r7, r8, g0, g1, g2, g3, g4, g5, g6, g7, g8⟩ := qr.drew.below hq1))
  go_wp2
  refine bodyPost_ret (v := .agg #[.int .i64 T2, .bool n2, .bool b2, .bool p2, .bool m2, .bool a2, .int .i64 fm, .bool G, .slice a1 L.length k1]) (by simp [results, Tryd.results38, go_sem, r0, r1, r2, r3, r4, r5, r6, r7, r8]) rfl ⟨a1, k1, rfl, ?_, ?_⟩
  · have ho3 := ho2.drew.below hq1
    refine Own.base (B := w.heap.size + 1 + 1 + 1) ?_ (by omega)
    repeat (first | with_reducible exact ho3 | (with_reducible refine Own.setBelow ?_ ?_ _; rotate_left; (simp; try omega)))
  · exact (by repeat (first | (with_reducible refine Below.setCell ?_ ?_ _; rotate_left; focus (first | omega | (simp; done) | (simp; omega))) | (with_reducible exact Below.refl _ _) | (with_reducible refine Below.drew ?_) | (with_reducible refine bel_dn ?_ _) | (with_reducible refine bel_al ?_ _) | (with_reducible refine bel_go ?_ hq1) | (with_reducible refine bel_go ?_ bel1) | (with_reducible refine Below.alloc ?_ ?_ _; rotate_left; focus (first | omega | (simp; done) | (simp; omega))) | (with_reducible refine Below.trans ?_ (Below.mono hq1 ?_); rotate_left; focus (first | omega | (simp; done) | (simp; omega))) | (with_reducible refine Below.trans ?_ (Below.mono bel1 ?_); rotate_left; focus (first | omega | (simp; done) | (simp; omega)))))
end Go.Proofs.YtfblidnejdkjhaaDoor
/-
  Accumulators merged: by the program and by the specification.
-/
namespace Go.Proofs.YtfblidnejdkjhaaDoor
set_option linter.unusedVariables false
set_option linter.unusedSimpArgs false
open Go.RowKit Go.Deep
/-- Why two accumulators are not merged. -/
def mgNo (fm : Int) (x y : Bool) (fmq T Tq c : Int) : Prop := (x = false ∧ c = 1) ∨ (x = true ∧ y = false ∧ c = 1) ∨ (x = true ∧ y = true ∧ fm ≠ fmq ∧ c = 2) ∨ (x = true ∧ y = true ∧ fm = fmq ∧ T + Tq > 1000000 ∧ c = 3)
set_option maxHeartbeats 8000000 in
set_option maxRecDepth 100000 in
theorem merge_spec_no (fm : Int) (ng : Bool) (T : Int) (nn bd pl mi am : Bool) (fmq : Int) (ngq : Bool) (Tq : Int) (nnq bdq plq miq amq : Bool) (p pq : Option Addr) (cap capq : Nat) (zs ys : List Int) (w : World) (hs : Sl .u32 w (.slice p zs.length cap) zs) (hy : Sl .u32 w (.slice pq ys.length capq) ys) (hl : zs.length ≤ 1048576) (hl' : ys.length ≤ 1048576) (c : Int) (hc : mgNo fm (accB fm ng zs T nn bd pl mi am) (accB fmq ngq ys Tq nnq bdq plq miq amq) fmq T Tq c) :
    Calls Tryd.prog 13 #[.agg #[.int .i64 fm, .bool ng, .slice p zs.length cap, .int .i64 T, .bool nn, .bool bd, .bool pl, .bool mi, .bool am], .agg #[.int .i64 fmq, .bool ngq, .slice pq ys.length capq, .int .i64 Tq, .bool nnq, .bool bdq, .bool plq, .bool miq, .bool amq]] w fun e w' => e = .returned (.tuple #[A0, .int .i64 c]) ∧ Below w.heap.size w w' := by
  have C1 := hid (accok_spec fm ng T nn bd pl mi am p cap zs (((w.alloc (.cells #[.int .i64 fm, .bool ng, .slice p zs.length cap, .int .i64 T, .bool nn, .bool bd, .bool pl, .bool mi, .bool am] 31)).alloc (.cells #[.int .i64 fmq, .bool ngq, .slice pq ys.length capq, .int .i64 Tq, .bool nnq, .bool bdq, .bool plq, .bool miq, .bool amq] 31)).alloc (.cells #[.int .i64 0, .bool false, .slice none 0 0, .int .i64 0, .bool false, .bool false, .bool false, .bool false, .bool false] 31)) (((hs.alloc _).alloc _).alloc _) hl)
  have Q1 := (((Q9.new w (.int .i64 fm) (.bool ng) (.slice p zs.length cap) (.int .i64 T) (.bool nn) (.bool bd) (.bool pl) (.bool mi) (.bool am) 31).alloc (.cells #[.int .i64 fmq, .bool ngq, .slice pq ys.length capq, .int .i64 Tq, .bool nnq, .bool bdq, .bool plq, .bool miq, .bool amq] 31)).alloc (.cells #[.int .i64 0, .bool false, .slice none 0 0, .int .i64 0, .bool false, .bool false, .bool false, .bool false, .bool false] 31))
  have Q2 := ((Q9.nw2 w (.cells #[.int .i64 fm, .bool ng, .slice p zs.length cap, .int .i64 T, .bool nn, .bool bd, .bool pl, .bool mi, .bool am] 31) (.int .i64 fmq) (.bool ngq) (.slice pq ys.length capq) (.int .i64 Tq) (.bool nnq) (.bool bdq) (.bool plq) (.bool miq) (.bool amq) 31).alloc (.cells #[.int .i64 0, .bool false, .slice none 0 0, .int .i64 0, .bool false, .bool false, .bool false, .bool false, .bool false] 31))
  have Q3 := Q9.new3 w (.cells #[.int .i64 fm, .bool ng, .slice p zs.length cap, .int .i64 T, .bool nn, .bool bd, .bool pl, .bool mi, .bool am] 31) (.cells #[.int .i64 fmq, .bool ngq, .slice pq ys.length capq, .int .i64 Tq, .bool nnq, .bool bdq, .bool plq, .bool miq, .bool amq] 31) (.int .i64 0) (.bool false) (.slice none 0 0) (.int .i64 0) (.bool false) (.bool false) (.bool false) (.bool false) (.bool false) 31
  rcases hc with ⟨h1, rfl⟩ | ⟨h1, h2, rfl⟩ | ⟨h1, h2, h3, rfl⟩ | ⟨h1, h2, h3, h4, rfl⟩
  · rw [h1] at C1
    clear h1
    go_enter Tryd.func13, Tryd.ntmps13
    go_wp2_with fail
    refine C1.out.mono ?_
    rintro e w1 ⟨rfl, hb1⟩
    obtain ⟨r0, r1, r2, r3, r4, r5, r6, r7, r8, f0, f1, f2, f3, f4, f5, f6, f7, f8⟩ := Q3.below hb1
    clear Q1 Q2 Q3
    go_wp2
    refine bodyPost_ret (v := .tuple #[A0, .int .i64 1]) (by simp [results, Tryd.results13, go_sem, r0, r1, r2, r3, r4, r5, r6, r7, r8, A0]) rfl ⟨rfl, ?_⟩
    exact (by repeat (first | (with_reducible refine Below.setCell ?_ ?_ _; rotate_left; focus (first | omega | (simp; done) | (simp; omega))) | (with_reducible exact Below.refl _ _) | (with_reducible refine Below.drew ?_) | (with_reducible refine bel_dn ?_ _) | (with_reducible refine bel_al ?_ _) | (with_reducible refine bel_go ?_ hb1) | (with_reducible refine Below.alloc ?_ ?_ _; rotate_left; focus (first | omega | (simp; done) | (simp; omega))) | (with_reducible refine Below.trans ?_ (Below.mono hb1 ?_); rotate_left; focus (first | omega | (simp; done) | (simp; omega)))))
  all_goals
    rw [h1] at C1
    have C2 := hid (fun w' (hB : Below (((w.alloc (.cells #[.int .i64 fm, .bool ng, .slice p zs.length cap, .int .i64 T, .bool nn, .bool bd, .bool pl, .bool mi, .bool am] 31)).alloc (.cells #[.int .i64 fmq, .bool ngq, .slice pq ys.length capq, .int .i64 Tq, .bool nnq, .bool bdq, .bool plq, .bool miq, .bool amq] 31)).alloc (.cells #[.int .i64 0, .bool false, .slice none 0 0, .int .i64 0, .bool false, .bool false, .bool false, .bool false, .bool false] 31)).heap.size (((w.alloc (.cells #[.int .i64 fm, .bool ng, .slice p zs.length cap, .int .i64 T, .bool nn, .bool bd, .bool pl, .bool mi, .bool am] 31)).alloc (.cells #[.int .i64 fmq, .bool ngq, .slice pq ys.length capq, .int .i64 Tq, .bool nnq, .bool bdq, .bool plq, .bool miq, .bool amq] 31)).alloc (.cells #[.int .i64 0, .bool false, .slice none 0 0, .int .i64 0, .bool false, .bool false, .bool false, .bool false, .bool false] 31)) w') => accok_spec fmq ngq Tq nnq bdq plq miq amq pq capq ys w'  ((((hy.alloc _).alloc _).alloc _).below hB) hl')
    rw [h2] at C2
  · clear h1 h2
    go_enter Tryd.func13, Tryd.ntmps13
    go_wp2_with fail
    refine C1.out.mono ?_
    rintro e w1 ⟨rfl, hb1⟩
    replace Q2 := Q2.below hb1
    replace Q3 := Q3.below hb1
    clear Q1
    obtain ⟨c0, c1, c2, c3, c4, c5, c6, c7, c8⟩ := Q2.cs
    go_wp2_with fail
    refine (C2.out _ hb1).mono ?_
    rintro e w2 ⟨rfl, hb2⟩
    clear c0 c1 c2 c3 c4 c5 c6 c7 c8 Q2
    obtain ⟨r0, r1, r2, r3, r4, r5, r6, r7, r8, f0, f1, f2, f3, f4, f5, f6, f7, f8⟩ := Q3.below hb2
    clear Q3
    go_wp2
    refine bodyPost_ret (v := .tuple #[A0, .int .i64 1]) (by simp [results, Tryd.results13, go_sem, r0, r1, r2, r3, r4, r5, r6, r7, r8, A0]) rfl ⟨rfl, ?_⟩
    exact (by repeat (first | (with_reducible refine Below.setCell ?_ ?_ _; rotate_left; focus (first | omega | (simp; done) | (simp; omega))) | (with_reducible exact Below.refl _ _) | (with_reducible refine Below.drew ?_) | (with_reducible refine bel_dn ?_ _) | (with_reducible refine bel_al ?_ _) | (with_reducible refine bel_go ?_ hb2) | (with_reducible refine bel_go ?_ hb1) | (with_reducible refine Below.alloc ?_ ?_ _; rotate_left; focus (first | omega | (simp; done) | (simp; omega))) | (with_reducible refine Below.trans ?_ (Below.mono hb2 ?_); rotate_left; focus (first | omega | (simp; done) | (simp; omega))) | (with_reducible refine Below.trans ?_ (Below.mono hb1 ?_); rotate_left; focus (first | omega | (simp; done) | (simp; omega)))))
  · clear h1 h2
    have hne : (fm != fmq) = true := by simpa using h3
    go_enter Tryd.func13, Tryd.ntmps13
    go_wp2_with fail
    refine C1.out.mono ?_
    rintro e w1 ⟨rfl, hb1⟩
    replace Q1 := Q1.below hb1
    replace Q2 := Q2.below hb1
    replace Q3 := Q3.below hb1
    obtain ⟨c0, c1, c2, c3, c4, c5, c6, c7, c8⟩ := Q2.cs
    go_wp2_with fail
    refine (C2.out _ hb1).mono ?_
    rintro e w2 ⟨rfl, hb2⟩
    clear c0 c1 c2 c3 c4 c5 c6 c7 c8
    have k1 := (Q1.below hb2).c0
    have k2 := (Q2.below hb2).c0
    obtain ⟨r0, r1, r2, r3, r4, r5, r6, r7, r8, f0, f1, f2, f3, f4, f5, f6, f7, f8⟩ := Q3.below hb2
    clear Q1 Q2 Q3
    go_wp2
    refine bodyPost_ret (v := .tuple #[A0, .int .i64 2]) (by simp [results, Tryd.results13, go_sem, r0, r1, r2, r3, r4, r5, r6, r7, r8, A0]) rfl ⟨rfl, ?_⟩
    exact (by repeat (first | (with_reducible refine Below.setCell ?_ ?_ _; rotate_left; focus (first | omega | (simp; done) | (simp; omega))) | (with_reducible exact Below.refl _ _) | (with_reducible refine Below.drew ?_) | (with_reducible refine bel_dn ?_ _) | (with_reducible refine bel_al ?_ _) | (with_reducible refine bel_go ?_ hb2) | (with_reducible refine bel_go ?_ hb1) | (with_reducible refine Below.alloc ?_ ?_ _; rotate_left; focus (first | omega | (simp; done) | (simp; omega))) | (with_reducible refine Below.trans ?_ (Below.mono hb2 ?_); rotate_left; focus (first | omega | (simp; done) | (simp; omega))) | (with_reducible refine Below.trans ?_ (Below.mono hb1 ?_); rotate_left; focus (first | omega | (simp; done) | (simp; omega)))))
  · have t1 := mkB_T (acc_parts h1).2.1
    have t2 := mkB_T (acc_parts h2).2.1
    obtain ⟨t10, t11⟩ := t1
    obtain ⟨t20, t21⟩ := t2
    clear h1 h2
    have hne : (fm != fmq) = false := by simpa using h3
    clear h3
    go_enter Tryd.func13, Tryd.ntmps13
    go_wp2_with fail
    refine C1.out.mono ?_
    rintro e w1 ⟨rfl, hb1⟩
    replace Q1 := Q1.below hb1
    replace Q2 := Q2.below hb1
    replace Q3 := Q3.below hb1
    obtain ⟨c0, c1, c2, c3, c4, c5, c6, c7, c8⟩ := Q2.cs
    go_wp2_with fail
    refine (C2.out _ hb1).mono ?_
    rintro e w2 ⟨rfl, hb2⟩
    clear c0 c1 c2 c3 c4 c5 c6 c7 c8
    have k1 := (Q1.below hb2).c0
    have k2 := (Q2.below hb2).c0
    have m1 := (Q1.below hb2).c3
    have m2 := (Q2.below hb2).c3
    obtain ⟨r0, r1, r2, r3, r4, r5, r6, r7, r8, f0, f1, f2, f3, f4, f5, f6, f7, f8⟩ := Q3.below hb2
    clear Q1 Q2 Q3
    go_wp2
    refine bodyPost_ret (v := .tuple #[A0, .int .i64 3]) (by simp [results, Tryd.results13, go_sem, r0, r1, r2, r3, r4, r5, r6, r7, r8, A0]) rfl ⟨rfl, ?_⟩
    exact (by repeat (first | (with_reducible refine Below.setCell ?_ ?_ _; rotate_left; focus (first | omega | (simp; done) | (simp; omega))) | (with_reducible exact Below.refl _ _) | (with_reducible refine Below.drew ?_) | (with_reducible refine bel_dn ?_ _) | (with_reducible refine bel_al ?_ _) | (with_reducible refine bel_go ?_ hb2) | (with_reducible refine bel_go ?_ hb1) | (with_reducible refine Below.alloc ?_ ?_ _; rotate_left; focus (first | omega | (simp; done) | (simp; omega))) | (with_reducible refine Below.trans ?_ (Below.mono hb2 ?_); rotate_left; focus (first | omega | (simp; done) | (simp; omega))) | (with_reducible refine Below.trans ?_ (Below.mono hb1 ?_); rotate_left; focus (first | omega | (simp; done) | (simp; omega)))))
set_option maxHeartbeats 8000000 in
set_option maxRecDepth 100000 in
theorem merge_impl_no (fm : Int) (ng : Bool) (T : Int) (nn bd pl mi am : Bool) (fmq : Int) (ngq : Bool) (Tq : Int) (nnq bdq plq miq amq : Bool) (p pq : Option Addr) (cap capq : Nat) (zs ys : List Int) (w : World) (hT : Tab w) (hs : Sl .u32 w (.slice p zs.length cap) zs) (hy : Sl .u32 w (.slice pq ys.length capq) ys) (hl : zs.length ≤ 1048576) (hl' : ys.length ≤ 1048576) (c : Int) (hc : mgNo fm (accB fm ng zs T nn bd pl mi am) (accB fmq ngq ys Tq nnq bdq plq miq amq) fmq T Tq c) :
    Calls Tryd.prog 14 #[.agg #[.int .i64 fm, .bool ng, .slice p zs.length cap, .int .i64 T, .bool nn, .bool bd, .bool pl, .bool mi, .bool am], .agg #[.int .i64 fmq, .bool ngq, .slice pq ys.length capq, .int .i64 Tq, .bool nnq, .bool bdq, .bool plq, .bool miq, .bool amq]] w fun e w' => e = .returned (.tuple #[A0, .int .i64 c]) ∧ Below w.heap.size w w' := by
  have C1 := hid (accok_impl fm ng T nn bd pl mi am p cap zs (((w.alloc (.cells #[.int .i64 fm, .bool ng, .slice p zs.length cap, .int .i64 T, .bool nn, .bool bd, .bool pl, .bool mi, .bool am] 31)).alloc (.cells #[.int .i64 fmq, .bool ngq, .slice pq ys.length capq, .int .i64 Tq, .bool nnq, .bool bdq, .bool plq, .bool miq, .bool amq] 31)).alloc (.cells #[.int .i64 0, .bool false, .slice none 0 0, .int .i64 0, .bool false, .bool false, .bool false, .bool false, .bool false] 31)) ((tab_al (tab_al (tab_al hT _) _) _)) (((hs.alloc _).alloc _).alloc _) hl)
  have Q1 := (((Q9.new w (.int .i64 fm) (.bool ng) (.slice p zs.length cap) (.int .i64 T) (.bool nn) (.bool bd) (.bool pl) (.bool mi) (.bool am) 31).alloc (.cells #[.int .i64 fmq, .bool ngq, .slice pq ys.length capq, .int .i64 Tq, .bool nnq, .bool bdq, .bool plq, .bool miq, .bool amq] 31)).alloc (.cells #[.int .i64 0, .bool false, .slice none 0 0, .int .i64 0, .bool false, .bool false, .bool false, .bool false, .bool false] 31))
  have Q2 := ((Q9.nw2 w (.cells #[.int .i64 fm, .bool ng, .slice p zs.length cap, .int .i64 T, .bool nn, .bool bd, .bool pl, .bool mi, .bool am] 31) (.int .i64 fmq) (.bool ngq) (.slice pq ys.length capq) (.int .i64 Tq) (.bool nnq) (.bool bdq) (.bool plq) (.bool miq) (.bool amq) 31).alloc (.cells #[.int .i64 0, .bool false, .slice none 0 0, .int .i64 0, .bool false, .bool false, .bool false, .bool false, .bool false] 31))
  have Q3 := Q9.new3 w (.cells #[.int .i64 fm, .bool ng, .slice p zs.length cap, .int .i64 T, .bool nn, .bool bd, .bool pl, .bool mi, .bool am] 31) (.cells #[.int .i64 fmq, .bool ngq, .slice pq ys.length capq, .int .i64 Tq, .bool nnq, .bool bdq, .bool plq, .bool miq, .bool amq] 31) (.int .i64 0) (.bool false) (.slice none 0 0) (.int .i64 0) (.bool false) (.bool false) (.bool false) (.bool false) (.bool false) 31
  rcases hc with ⟨h1, rfl⟩ | ⟨h1, h2, rfl⟩ | ⟨h1, h2, h3, rfl⟩ | ⟨h1, h2, h3, h4, rfl⟩
  · rw [h1] at C1
    clear h1
    go_enter Tryd.func14, Tryd.ntmps14
    go_wp2_with fail
    refine C1.out.mono ?_
    rintro e w1 ⟨rfl, hb1⟩
    obtain ⟨r0, r1, r2, r3, r4, r5, r6, r7, r8, f0, f1, f2, f3, f4, f5, f6, f7, f8⟩ := Q3.below hb1
    clear Q1 Q2 Q3
    go_wp2
    refine bodyPost_ret (v := .tuple #[A0, .int .i64 1]) (by simp [results, Tryd.results14, go_sem, r0, r1, r2, r3, r4, r5, r6, r7, r8, A0]) rfl ⟨rfl, ?_⟩
    exact (by repeat (first | (with_reducible refine Below.setCell ?_ ?_ _; rotate_left; focus (first | omega | (simp; done) | (simp; omega))) | (with_reducible exact Below.refl _ _) | (with_reducible refine Below.drew ?_) | (with_reducible refine bel_dn ?_ _) | (with_reducible refine bel_al ?_ _) | (with_reducible refine bel_go ?_ hb1) | (with_reducible refine Below.alloc ?_ ?_ _; rotate_left; focus (first | omega | (simp; done) | (simp; omega))) | (with_reducible refine Below.trans ?_ (Below.mono hb1 ?_); rotate_left; focus (first | omega | (simp; done) | (simp; omega)))))
  all_goals
    rw [h1] at C1
    have C2 := hid (fun w' (hB : Below (((w.alloc (.cells #[.int .i64 fm, .bool ng, .slice p zs.length cap, .int .i64 T, .bool nn, .bool bd, .bool pl, .bool mi, .bool am] 31)).alloc (.cells #[.int .i64 fmq, .bool ngq, .slice pq ys.length capq, .int .i64 Tq, .bool nnq, .bool bdq, .bool plq, .bool miq, .bool amq] 31)).alloc (.cells #[.int .i64 0, .bool false, .slice none 0 0, .int .i64 0, .bool false, .bool false, .bool false, .bool false, .bool false] 31)).heap.size (((w.alloc (.cells #[.int .i64 fm, .bool ng, .slice p zs.length cap, .int .i64 T, .bool nn, .bool bd, .bool pl, .bool mi, .bool am] 31)).alloc (.cells #[.int .i64 fmq, .bool ngq, .slice pq ys.length capq, .int .i64 Tq, .bool nnq, .bool bdq, .bool plq, .bool miq, .bool amq] 31)).alloc (.cells #[.int .i64 0, .bool false, .slice none 0 0, .int .i64 0, .bool false, .bool false, .bool false, .bool false, .bool false] 31)) w') => accok_impl fmq ngq Tq nnq bdq plq miq amq pq capq ys w' ((tab_al (tab_al (tab_al hT _) _) _).below hB) ((((hy.alloc _).alloc _).alloc _).below hB) hl')
    rw [h2] at C2
  · clear h1 h2
    go_enter Tryd.func14, Tryd.ntmps14
    go_wp2_with fail
    refine C1.out.mono ?_
    rintro e w1 ⟨rfl, hb1⟩
    replace Q2 := Q2.below hb1
    replace Q3 := Q3.below hb1
    clear Q1
    obtain ⟨c0, c1, c2, c3, c4, c5, c6, c7, c8⟩ := Q2.cs
    go_wp2_with fail
    refine (C2.out _ hb1).mono ?_
    rintro e w2 ⟨rfl, hb2⟩
    clear c0 c1 c2 c3 c4 c5 c6 c7 c8 Q2
    obtain ⟨r0, r1, r2, r3, r4, r5, r6, r7, r8, f0, f1, f2, f3, f4, f5, f6, f7, f8⟩ := Q3.below hb2
    clear Q3
    go_wp2
    refine bodyPost_ret (v := .tuple #[A0, .int .i64 1]) (by simp [results, Tryd.results14, go_sem, r0, r1, r2, r3, r4, r5, r6, r7, r8, A0]) rfl ⟨rfl, ?_⟩
    exact (by repeat (first | (with_reducible refine Below.setCell ?_ ?_ _; rotate_left; focus (first | omega | (simp; done) | (simp; omega))) | (with_reducible exact Below.refl _ _) | (with_reducible refine Below.drew ?_) | (with_reducible refine bel_dn ?_ _) | (with_reducible refine bel_al ?_ _) | (with_reducible refine bel_go ?_ hb2) | (with_reducible refine bel_go ?_ hb1) | (with_reducible refine Below.alloc ?_ ?_ _; rotate_left; focus (first | omega | (simp; done) | (simp; omega))) | (with_reducible refine Below.trans ?_ (Below.mono hb2 ?_); rotate_left; focus (first | omega | (simp; done) | (simp; omega))) | (with_reducible refine Below.trans ?_ (Below.mono hb1 ?_); rotate_left; focus (first | omega | (simp; done) | (simp; omega)))))
  · clear h1 h2
    have hne : (fm != fmq) = true := by simpa using h3
    go_enter Tryd.func14, Tryd.ntmps14
    go_wp2_with fail
    refine C1.out.mono ?_
    rintro e w1 ⟨rfl, hb1⟩
    replace Q1 := Q1.below hb1
    replace Q2 := Q2.below hb1
    replace Q3 := Q3.below hb1
    obtain ⟨c0, c1, c2, c3, c4, c5, c6, c7, c8⟩ := Q2.cs
    go_wp2_with fail
    refine (C2.out _ hb1).mono ?_
    rintro e w2 ⟨rfl, hb2⟩
    clear c0 c1 c2 c3 c4 c5 c6 c7 c8
    have k1 := (Q1.below hb2).c0
    have k2 := (Q2.below hb2).c0
    obtain ⟨r0, r1, r2, r3, r4, r5, r6, r7, r8, f0, f1, f2, f3, f4, f5, f6, f7, f8⟩ := Q3.below hb2
    clear Q1 Q2 Q3
    go_wp2
    refine bodyPost_ret (v := .tuple #[A0, .int .i64 2]) (by simp [results, Tryd.results14, go_sem, r0, r1, r2, r3, r4, r5, r6, r7, r8, A0]) rfl ⟨rfl, ?_⟩
    exact (by repeat (first | (with_reducible refine Below.setCell ?_ ?_ _; rotate_left; focus (first | omega | (simp; done) | (simp; omega))) | (with_reducible exact Below.refl _ _) | (with_reducible refine Below.drew ?_) | (with_reducible refine bel_dn ?_ _) | (with_reducible refine bel_al ?_ _) | (with_reducible refine bel_go ?_ hb2) | (with_reducible refine bel_go ?_ hb1) | (with_reducible refine Below.alloc ?_ ?_ _; rotate_left; focus (first | omega | (simp; done) | (simp; omega))) | (with_reducible refine Below.trans ?_ (Below.mono hb2 ?_); rotate_left; focus (first | omega | (simp; done) | (simp; omega))) | (with_reducible refine Below.trans ?_ (Below.mono hb1 ?_); rotate_left; focus (first | omega | (simp; done) | (simp; omega)))))
  · have t1 := mkB_T (acc_parts h1).2.1
    have t2 := mkB_T (acc_parts h2).2.1
    obtain ⟨t10, t11⟩ := t1
    obtain ⟨t20, t21⟩ := t2
    clear h1 h2
    have hne : (fm != fmq) = false := by simpa using h3
    clear h3
    go_enter Tryd.func14, Tryd.ntmps14
    go_wp2_with fail
    refine C1.out.mono ?_
    rintro e w1 ⟨rfl, hb1⟩
    replace Q1 := Q1.below hb1
    replace Q2 := Q2.below hb1
    replace Q3 := Q3.below hb1
    obtain ⟨c0, c1, c2, c3, c4, c5, c6, c7, c8⟩ := Q2.cs
    go_wp2_with fail
    refine (C2.out _ hb1).mono ?_
    rintro e w2 ⟨rfl, hb2⟩
    clear c0 c1 c2 c3 c4 c5 c6 c7 c8
    have k1 := (Q1.below hb2).c0
    have k2 := (Q2.below hb2).c0
    have m1 := (Q1.below hb2).c3
    have m2 := (Q2.below hb2).c3
    obtain ⟨r0, r1, r2, r3, r4, r5, r6, r7, r8, f0, f1, f2, f3, f4, f5, f6, f7, f8⟩ := Q3.below hb2
    clear Q1 Q2 Q3
    go_wp2
    refine bodyPost_ret (v := .tuple #[A0, .int .i64 3]) (by simp [results, Tryd.results14, go_sem, r0, r1, r2, r3, r4, r5, r6, r7, r8, A0]) rfl ⟨rfl, ?_⟩
    exact (by repeat (first | (with_reducible refine Below.setCell ?_ ?_ _; rotate_left; focus (first | omega | (simp; done) | (simp; omega))) | (with_reducible exact Below.refl _ _) | (with_reducible refine Below.drew ?_) | (with_reducible refine bel_dn ?_ _) | (with_reducible refine bel_al ?_ _) | (with_reducible refine bel_go ?_ hb2) | (with_reducible refine bel_go ?_ hb1) | (with_reducible refine Below.alloc ?_ ?_ _; rotate_left; focus (first | omega | (simp; done) | (simp; omega))) | (with_reducible refine Below.trans ?_ (Below.mono hb2 ?_); rotate_left; focus (first | omega | (simp; done) | (simp; omega))) | (with_reducible refine Below.trans ?_ (Below.mono hb1 ?_); rotate_left; focus (first | omega | (simp; done) | (simp; omega)))))
theorem keep9b {w : World} {B b b' : Nat} {v0 v1 v2 v3 v4 v5 v6 v7 v8 y0 y1 y2 y3 y4 y5 y6 y7 y8 : Value} (h : Q9 w b v0 v1 v2 v3 v4 v5 v6 v7 v8) (h' : Q9 w b' y0 y1 y2 y3 y4 y5 y6 y7 y8) (n : b ≠ B) (n' : b' ≠ B) (u0 u1 u2 u3 u4 u5 u6 u7 u8 : Value) (W : World)
    (hW : W = (((((((((w.setCell ⟨B, 0, none⟩ u0).setCell ⟨B, 1, none⟩ u1).setCell ⟨B, 2, none⟩ u2).setCell ⟨B, 3, none⟩ u3).setCell ⟨B, 4, none⟩ u4).setCell ⟨B, 5, none⟩ u5).setCell ⟨B, 6, none⟩ u6).setCell ⟨B, 7, none⟩ u7).setCell ⟨B, 8, none⟩ u8)) :
    (W.cell? ⟨b, 0, none⟩ = some v0 ∧ W.cell? ⟨b, 1, none⟩ = some v1 ∧ W.cell? ⟨b, 2, none⟩ = some v2 ∧ W.cell? ⟨b, 3, none⟩ = some v3 ∧ W.cell? ⟨b, 4, none⟩ = some v4 ∧ W.cell? ⟨b, 5, none⟩ = some v5 ∧ W.cell? ⟨b, 6, none⟩ = some v6 ∧ W.cell? ⟨b, 7, none⟩ = some v7 ∧ W.cell? ⟨b, 8, none⟩ = some v8) ∧ (W.cell? ⟨b', 0, none⟩ = some y0 ∧ W.cell? ⟨b', 1, none⟩ = some y1 ∧ W.cell? ⟨b', 2, none⟩ = some y2 ∧ W.cell? ⟨b', 3, none⟩ = some y3 ∧ W.cell? ⟨b', 4, none⟩ = some y4 ∧ W.cell? ⟨b', 5, none⟩ = some y5 ∧ W.cell? ⟨b', 6, none⟩ = some y6 ∧ W.cell? ⟨b', 7, none⟩ = some y7 ∧ W.cell? ⟨b', 8, none⟩ = some y8) := by
  subst hW
  exact ⟨(h.of_block (heap9 w B b n u0 u1 u2 u3 u4 u5 u6 u7 u8)).cs, (h'.of_block (heap9 w B b' n' u0 u1 u2 u3 u4 u5 u6 u7 u8)).cs⟩
set_option maxHeartbeats 8000000 in
set_option maxRecDepth 100000 in
theorem merge_impl_yes (fm : Int) (ng : Bool) (T : Int) (nn bd pl mi am : Bool) (fmq : Int) (ngq : Bool) (Tq : Int) (nnq bdq plq miq amq : Bool) (p pq : Option Addr) (cap capq : Nat) (zs ys : List Int) (w : World) (hT : Tab w) (hs : Sl .u32 w (.slice p zs.length cap) zs) (hy : Sl .u32 w (.slice pq ys.length capq) ys) (dz : Nm.Dg zs) (dy : Nm.Dg ys) (h1 : accB fm ng zs T nn bd pl mi am = true) (h2 : accB fmq ngq ys Tq nnq bdq plq miq amq = true) (h3 : fm = fmq) (h4 : T + Tq ≤ 1000000) (x : Int) (hx : x = Nm.wv ng zs + Nm.wv ngq ys) :
    Calls Tryd.prog 14 #[.agg #[.int .i64 fm, .bool ng, .slice p zs.length cap, .int .i64 T, .bool nn, .bool bd, .bool pl, .bool mi, .bool am], .agg #[.int .i64 fmq, .bool ngq, .slice pq ys.length capq, .int .i64 Tq, .bool nnq, .bool bdq, .bool plq, .bool miq, .bool amq]] w fun e w' => ∃ a' c', e = .returned (.tuple #[.agg #[.int .i64 fm, .bool (Nm.wn x), .slice a' (Nm.wl x).length c', .int .i64 (T + Tq), .bool (nn || nnq), .bool (bd || bdq), .bool (pl || plq), .bool (mi || miq), .bool (amW T am Tq amq)], .int .i64 0]) ∧ Own w' w.heap.size a' c' (Nm.wl x) ∧ Below w.heap.size w w' := by
  obtain ⟨-, hk1, ho1, -⟩ := acc_parts h1
  obtain ⟨-, hk2, ho2, -⟩ := acc_parts h2
  have hl := (okB_nz ho1).2
  have hl' := (okB_nz ho2).2
  obtain ⟨t10, t11⟩ := mkB_T hk1
  obtain ⟨t20, t21⟩ := mkB_T hk2
  have C1 := hid (fun w' h h' => accok_impl fm ng T nn bd pl mi am p cap zs w' h h' (by omega))
  have C2 := hid (fun w' h h' => accok_impl fmq ngq Tq nnq bdq plq miq amq pq capq ys w' h h' (by omega))
  have hf : Nm.fits x = true := by rw [hx]; exact merge_fits dz dy h1 (by rw [h3]; exact h2)
  have CW := hid (fun w' h h' => twith fm ng T nn bd pl mi am fmq ngq Tq nnq bdq plq miq amq p pq cap capq zs ys w' h h' dz dy hk1 t20 t21 ho1 ho2 x hx hf)
  have CT := hid (fun w' => tally_any fm ng T nn bd pl mi am p zs.length cap w')
  have CU := hid (fun w' => tally_any fmq ngq Tq nnq bdq plq miq amq pq ys.length capq w')
  rw [h1] at C1
  rw [h2] at C2
  obtain ⟨T2, hT2⟩ : ∃ T2, T2 = T + Tq := ⟨_, rfl⟩
  obtain ⟨n2, hn2⟩ : ∃ n2, n2 = (nn || nnq) := ⟨_, rfl⟩
  obtain ⟨b2, hb2'⟩ : ∃ b2, b2 = (bd || bdq) := ⟨_, rfl⟩
  obtain ⟨p2, hp2⟩ : ∃ p2, p2 = (pl || plq) := ⟨_, rfl⟩
  obtain ⟨m2, hm2⟩ : ∃ m2, m2 = (mi || miq) := ⟨_, rfl⟩
  obtain ⟨a2, ha2⟩ : ∃ a2, a2 = amW T am Tq amq := ⟨_, rfl⟩
  obtain ⟨G, hG⟩ : ∃ G, G = Nm.wn x := ⟨_, rfl⟩
  obtain ⟨L, hL⟩ : ∃ L, L = Nm.wl x := ⟨_, rfl⟩
  rw [← hT2, ← hn2, ← hb2', ← hp2, ← hm2, ← ha2, ← hG, ← hL] at CW
  rw [← hT2, ← hn2, ← hb2', ← hp2, ← hm2, ← ha2, ← hG, ← hL]
  have CA := hid (fun a c w' => tacc fm G T2 n2 b2 p2 m2 a2 (.slice a L.length c) w' ⟨_, _, _, rfl⟩)
  clear hT2 hn2 hb2' hp2 hm2 ha2 hG hL hk1 hk2 ho1 ho2 hx hf dz dy h1 h2 hl hl'
  have hne : (fm != fmq) = false := by simpa using h3
  clear h3
  have Q1 := (((Q9.new w (.int .i64 fm) (.bool ng) (.slice p zs.length cap) (.int .i64 T) (.bool nn) (.bool bd) (.bool pl) (.bool mi) (.bool am) 31).alloc (.cells #[.int .i64 fmq, .bool ngq, .slice pq ys.length capq, .int .i64 Tq, .bool nnq, .bool bdq, .bool plq, .bool miq, .bool amq] 31)).alloc (.cells #[.int .i64 0, .bool false, .slice none 0 0, .int .i64 0, .bool false, .bool false, .bool false, .bool false, .bool false] 31))
  have Q2 := ((Q9.nw2 w (.cells #[.int .i64 fm, .bool ng, .slice p zs.length cap, .int .i64 T, .bool nn, .bool bd, .bool pl, .bool mi, .bool am] 31) (.int .i64 fmq) (.bool ngq) (.slice pq ys.length capq) (.int .i64 Tq) (.bool nnq) (.bool bdq) (.bool plq) (.bool miq) (.bool amq) 31).alloc (.cells #[.int .i64 0, .bool false, .slice none 0 0, .int .i64 0, .bool false, .bool false, .bool false, .bool false, .bool false] 31))
  have Q3 := Q9.new3 w (.cells #[.int .i64 fm, .bool ng, .slice p zs.length cap, .int .i64 T, .bool nn, .bool bd, .bool pl, .bool mi, .bool am] 31) (.cells #[.int .i64 fmq, .bool ngq, .slice pq ys.length capq, .int .i64 Tq, .bool nnq, .bool bdq, .bool plq, .bool miq, .bool amq] 31) (.int .i64 0) (.bool false) (.slice none 0 0) (.int .i64 0) (.bool false) (.bool false) (.bool false) (.bool false) (.bool false) 31
  have bel0 : Below w.heap.size w (((w.alloc (.cells #[.int .i64 fm, .bool ng, .slice p zs.length cap, .int .i64 T, .bool nn, .bool bd, .bool pl, .bool mi, .bool am] 31)).alloc (.cells #[.int .i64 fmq, .bool ngq, .slice pq ys.length capq, .int .i64 Tq, .bool nnq, .bool bdq, .bool plq, .bool miq, .bool amq] 31)).alloc (.cells #[.int .i64 0, .bool false, .slice none 0 0, .int .i64 0, .bool false, .bool false, .bool false, .bool false, .bool false] 31)) := (by repeat (first | exact Below.refl _ _ | refine Below.drew ?_ | refine bel_dn ?_ _ | refine bel_al ?_ _ | refine Below.setCell ?_ (by first | omega | (simp; done) | (simp; omega)) _ | refine Below.alloc ?_ (by first | omega | (simp; done) | (simp; omega)) _))
  go_enter Tryd.func14, Tryd.ntmps14
  go_wp2_with fail
  refine (C1.out _ (hT.below bel0) (hs.below bel0)).mono ?_
  rintro e w1 ⟨rfl, hb1⟩
  replace Q1 := Q1.below hb1
  replace Q2 := Q2.below hb1
  replace Q3 := Q3.below hb1
  have bel1 := bel_go bel0 hb1
  clear bel0 hb1 C1
  obtain ⟨c0, c1, c2, c3, c4, c5, c6, c7, c8⟩ := Q2.cs
  go_wp2_with fail
  refine (C2.out _ (hT.below bel1) (hy.below bel1)).mono ?_
  rintro e w2 ⟨rfl, hb2⟩
  clear c0 c1 c2 c3 c4 c5 c6 c7 c8
  replace Q1 := Q1.below hb2
  replace Q2 := Q2.below hb2
  replace Q3 := Q3.below hb2
  have bel2 := bel_go bel1 hb2
  clear bel1 hb2 C2
  have k1 := Q1.c0
  have k2 := Q2.c0
  have m1 := Q1.c3
  have m2' := Q2.c3
  go_wp2_with fail
  clear k1 k2 m1 m2'
  have lr := Q3.lt
  have s2 := hs.below bel2
  have y2 := hy.below bel2
  have ctd := Q1.drew.cs
  have cod := Q2.drew.cs
  go_region_held3 (fun w' => (w'.cell? ⟨w.heap.size, 0, none⟩ = some (.int .i64 fm) ∧ w'.cell? ⟨w.heap.size, 1, none⟩ = some (.bool ng) ∧ w'.cell? ⟨w.heap.size, 2, none⟩ = some (.slice p zs.length cap) ∧ w'.cell? ⟨w.heap.size, 3, none⟩ = some (.int .i64 T) ∧ w'.cell? ⟨w.heap.size, 4, none⟩ = some (.bool nn) ∧ w'.cell? ⟨w.heap.size, 5, none⟩ = some (.bool bd) ∧ w'.cell? ⟨w.heap.size, 6, none⟩ = some (.bool pl) ∧ w'.cell? ⟨w.heap.size, 7, none⟩ = some (.bool mi) ∧ w'.cell? ⟨w.heap.size, 8, none⟩ = some (.bool am)) ∧ (w'.cell? ⟨w.heap.size + 1, 0, none⟩ = some (.int .i64 fmq) ∧ w'.cell? ⟨w.heap.size + 1, 1, none⟩ = some (.bool ngq) ∧ w'.cell? ⟨w.heap.size + 1, 2, none⟩ = some (.slice pq ys.length capq) ∧ w'.cell? ⟨w.heap.size + 1, 3, none⟩ = some (.int .i64 Tq) ∧ w'.cell? ⟨w.heap.size + 1, 4, none⟩ = some (.bool nnq) ∧ w'.cell? ⟨w.heap.size + 1, 5, none⟩ = some (.bool bdq) ∧ w'.cell? ⟨w.heap.size + 1, 6, none⟩ = some (.bool plq) ∧ w'.cell? ⟨w.heap.size + 1, 7, none⟩ = some (.bool miq) ∧ w'.cell? ⟨w.heap.size + 1, 8, none⟩ = some (.bool amq)))
    (first | with_reducible assumption | with_reducible exact ⟨ctd, cod⟩ | with_reducible exact keep9b Q1d Q2d (by omega) (by omega) _ _ _ _ _ _ _ _ _ _ rfl | fail)
    (first
      | (go_at_call_of 34 zs; refine (CT.out _).mono ?_; rintro e q1 ⟨rfl, hq1⟩; have Q1a := Q1.drew.below hq1; have Q2a := Q2.drew.below hq1; have Q3a := Q3.drew.below hq1; have f1 := And.intro Q1a.cs Q2a.cs; have sa := s2.drew.below hq1; have ya := y2.drew.below hq1)
      | (go_at_call_of 34 ys; refine (CU.out _).mono ?_; rintro e q2 ⟨rfl, hq2⟩; have Q1b := Q1a.below hq2; have Q2b := Q2a.below hq2; have Q3b := Q3a.below hq2; have f2 := And.intro Q1b.cs Q2b.cs; have sb := sa.below hq2; have yb := ya.below hq2)
      | (go_at_call 38; refine (CW.out _ sb yb).mono ?_; rintro e q3 ⟨a3, k3, rfl, hp3, hq3⟩; have Q1c := Q1b.below hq3; have Q2c := Q2b.below hq3; have Q3c := Q3b.below hq3; have f3 := And.intro Q1c.cs Q2c.cs)
      | (go_at_call 39; refine (CA.out a3 k3 _).mono ?_; rintro e q4 ⟨rfl, hq4⟩; have Q1d := Q1c.below hq4; have Q2d := Q2c.below hq4; have Q3d := Q3c.below hq4; have f4 := And.intro Q1d.cs Q2d.cs; have hp4 := hp3.below hq4; obtain ⟨r0, r1, r2, r3, r4, r5, r6, r7, r8, g0, g1, g2, g3, g4, g5, g6, g7, g8⟩ := Q3d))
  have z1 := hq1.size
  have z2 := hq2.size
  have z3 : w2.heap.size ≤ w2.drew.heap.size := Nat.le_refl _
  have bel3 : Below w.heap.size w q2 := bel_go (bel_go (Below.drew bel2) hq1) hq2
  go_wp2
  refine bodyPost_ret (v := .tuple #[.agg #[.int .i64 fm, .bool G, .slice a3 L.length k3, .int .i64 T2, .bool n2, .bool b2, .bool p2, .bool m2, .bool a2], .int .i64 0]) (by simp [results, Tryd.results14, go_sem, r0, r1, r2, r3, r4, r5, r6, r7, r8]) rfl ⟨a3, k3, rfl, ?_, ?_⟩
  · refine Own.base (B := q2.heap.size) ?_ (by have := bel3.size; omega)
    repeat (first | with_reducible exact hp4 | (with_reducible refine Own.setBelow ?_ ?_ _; rotate_left; (simp; try omega)))
  · exact (by repeat (first | (with_reducible refine Below.setCell ?_ ?_ _; rotate_left; focus (first | omega | (simp; done) | (simp; omega))) | (with_reducible exact Below.refl _ _) | (with_reducible refine Below.drew ?_) | (with_reducible refine bel_dn ?_ _) | (with_reducible refine bel_al ?_ _) | (with_reducible refine bel_go ?_ hq4) | (with_reducible refine bel_go ?_ hq3) | (with_reducible refine bel_go ?_ bel3) | (with_reducible refine Below.alloc ?_ ?_ _; rotate_left; focus (first | omega | (simp; done) | (simp; omega))) | (with_reducible refine Below.trans ?_ (Below.mono hq4 ?_); rotate_left; focus (first | omega | (simp; done) | (simp; omega))) | (with_reducible refine Below.trans ?_ (Below.mono hq3 ?_); rotate_left; focus (first | omega | (simp; done) | (simp; omega))) | (with_reducible refine Below.trans ?_ (Below.mono bel3 ?_); rotate_left; focus (first | omega | (simp; done) | (simp; omega)))))
end Go.Proofs.YtfblidnejdkjhaaDoor
/-
  Accumulators merged: by the specification.
-/
namespace Go.Proofs.YtfblidnejdkjhaaDoor
set_option linter.unusedVariables false
set_option linter.unusedSimpArgs false
open Go.RowKit Go.Deep
theorem amW_eq {T Tq : Int} {nn bd pl mi am nnq bdq plq miq amq : Bool} (h : mkB T nn bd pl mi am = true) (h' : mkB Tq nnq bdq plq miq amq = true) :
    ((am || decide (T = 0)) && (amq || decide (Tq = 0)) && decide (T + Tq > 0)) = amW T am Tq amq := by
  obtain ⟨t0, -⟩ := mkB_T h
  obtain ⟨q0, -⟩ := mkB_T h'
  have e1 := (mk_am h).2.2
  have e2 := (mk_am h').2.2
  unfold amW
  by_cases a1 : T = 0
  · obtain rfl := (e1 a1).2.2.2.2
    by_cases a2 : Tq = 0
    · obtain rfl := (e2 a2).2.2.2.2
      rw [decide_eq_true a1, decide_eq_true a2, decide_eq_false (by omega)]; rfl
    · rw [decide_eq_true a1, decide_eq_false a2, decide_eq_true (by omega)]; cases amq <;> rfl
  · by_cases a2 : Tq = 0
    · obtain rfl := (e2 a2).2.2.2.2
      rw [decide_eq_false a1, decide_eq_true a2, decide_eq_true (by omega)]; cases am <;> rfl
    · rw [decide_eq_false a1, decide_eq_false a2, decide_eq_true (by omega)]; cases am <;> cases amq <;> rfl
theorem Q9.set4 {w : World} {b : Nat} {v0 v1 v2 v3 v4 v5 v6 v7 v8 : Value} (h : Q9 w b v0 v1 v2 v3 v4 v5 v6 v7 v8) (u : Value) : Q9 (w.setCell ⟨b, 4, none⟩ u) b v0 v1 v2 v3 u v5 v6 v7 v8 := by
  obtain ⟨c0, c1, c2, c3, c4, c5, c6, c7, c8, f0, f1, f2, f3, f4, f5, f6, f7, f8⟩ := h
  exact ⟨by simp [go_sem, c0, c4], by simp [go_sem, c1, c4], by simp [go_sem, c2, c4], by simp [go_sem, c3, c4], by simp [go_sem, c4, c4], by simp [go_sem, c5, c4], by simp [go_sem, c6, c4], by simp [go_sem, c7, c4], by simp [go_sem, c8, c4], by simp [go_sem, f0], by simp [go_sem, f1], by simp [go_sem, f2], by simp [go_sem, f3], by simp [go_sem, f4], by simp [go_sem, f5], by simp [go_sem, f6], by simp [go_sem, f7], by simp [go_sem, f8]⟩
theorem Q9.set5 {w : World} {b : Nat} {v0 v1 v2 v3 v4 v5 v6 v7 v8 : Value} (h : Q9 w b v0 v1 v2 v3 v4 v5 v6 v7 v8) (u : Value) : Q9 (w.setCell ⟨b, 5, none⟩ u) b v0 v1 v2 v3 v4 u v6 v7 v8 := by
  obtain ⟨c0, c1, c2, c3, c4, c5, c6, c7, c8, f0, f1, f2, f3, f4, f5, f6, f7, f8⟩ := h
  exact ⟨by simp [go_sem, c0, c5], by simp [go_sem, c1, c5], by simp [go_sem, c2, c5], by simp [go_sem, c3, c5], by simp [go_sem, c4, c5], by simp [go_sem, c5, c5], by simp [go_sem, c6, c5], by simp [go_sem, c7, c5], by simp [go_sem, c8, c5], by simp [go_sem, f0], by simp [go_sem, f1], by simp [go_sem, f2], by simp [go_sem, f3], by simp [go_sem, f4], by simp [go_sem, f5], by simp [go_sem, f6], by simp [go_sem, f7], by simp [go_sem, f8]⟩
theorem Q9.set6 {w : World} {b : Nat} {v0 v1 v2 v3 v4 v5 v6 v7 v8 : Value} (h : Q9 w b v0 v1 v2 v3 v4 v5 v6 v7 v8) (u : Value) : Q9 (w.setCell ⟨b, 6, none⟩ u) b v0 v1 v2 v3 v4 v5 u v7 v8 := by
  obtain ⟨c0, c1, c2, c3, c4, c5, c6, c7, c8, f0, f1, f2, f3, f4, f5, f6, f7, f8⟩ := h
  exact ⟨by simp [go_sem, c0, c6], by simp [go_sem, c1, c6], by simp [go_sem, c2, c6], by simp [go_sem, c3, c6], by simp [go_sem, c4, c6], by simp [go_sem, c5, c6], by simp [go_sem, c6, c6], by simp [go_sem, c7, c6], by simp [go_sem, c8, c6], by simp [go_sem, f0], by simp [go_sem, f1], by simp [go_sem, f2], by simp [go_sem, f3], by simp [go_sem, f4], by simp [go_sem, f5], by simp [go_sem, f6], by simp [go_sem, f7], by simp [go_sem, f8]⟩
theorem Q9.set7 {w : World} {b : Nat} {v0 v1 v2 v3 v4 v5 v6 v7 v8 : Value} (h : Q9 w b v0 v1 v2 v3 v4 v5 v6 v7 v8) (u : Value) : Q9 (w.setCell ⟨b, 7, none⟩ u) b v0 v1 v2 v3 v4 v5 v6 u v8 := by
  obtain ⟨c0, c1, c2, c3, c4, c5, c6, c7, c8, f0, f1, f2, f3, f4, f5, f6, f7, f8⟩ := h
  exact ⟨by simp [go_sem, c0, c7], by simp [go_sem, c1, c7], by simp [go_sem, c2, c7], by simp [go_sem, c3, c7], by simp [go_sem, c4, c7], by simp [go_sem, c5, c7], by simp [go_sem, c6, c7], by simp [go_sem, c7, c7], by simp [go_sem, c8, c7], by simp [go_sem, f0], by simp [go_sem, f1], by simp [go_sem, f2], by simp [go_sem, f3], by simp [go_sem, f4], by simp [go_sem, f5], by simp [go_sem, f6], by simp [go_sem, f7], by simp [go_sem, f8]⟩
theorem Q9.set8 {w : World} {b : Nat} {v0 v1 v2 v3 v4 v5 v6 v7 v8 : Value} (h : Q9 w b v0 v1 v2 v3 v4 v5 v6 v7 v8) (u : Value) : Q9 (w.setCell ⟨b, 8, none⟩ u) b v0 v1 v2 v3 v4 v5 v6 v7 u := by
  obtain ⟨c0, c1, c2, c3, c4, c5, c6, c7, c8, f0, f1, f2, f3, f4, f5, f6, f7, f8⟩ := h
  exact ⟨by simp [go_sem, c0, c8], by simp [go_sem, c1, c8], by simp [go_sem, c2, c8], by simp [go_sem, c3, c8], by simp [go_sem, c4, c8], by simp [go_sem, c5, c8], by simp [go_sem, c6, c8], by simp [go_sem, c7, c8], by simp [go_sem, c8, c8], by simp [go_sem, f0], by simp [go_sem, f1], by simp [go_sem, f2], by simp [go_sem, f3], by simp [go_sem, f4], by simp [go_sem, f5], by simp [go_sem, f6], by simp [go_sem, f7], by simp [go_sem, f8]⟩
theorem Q9.set9 {w : World} {b : Nat} {v0 v1 v2 v3 v4 v5 v6 v7 v8 : Value} (h : Q9 w b v0 v1 v2 v3 v4 v5 v6 v7 v8) (u0 u1 u2 u3 u4 u5 u6 u7 u8 : Value) : Q9 (((((((((w.setCell ⟨b, 0, none⟩ u0).setCell ⟨b, 1, none⟩ u1).setCell ⟨b, 2, none⟩ u2).setCell ⟨b, 3, none⟩ u3).setCell ⟨b, 4, none⟩ u4).setCell ⟨b, 5, none⟩ u5).setCell ⟨b, 6, none⟩ u6).setCell ⟨b, 7, none⟩ u7).setCell ⟨b, 8, none⟩ u8) b u0 u1 u2 u3 u4 u5 u6 u7 u8 := by
  obtain ⟨c0, c1, c2, c3, c4, c5, c6, c7, c8, f0, f1, f2, f3, f4, f5, f6, f7, f8⟩ := h
  exact ⟨by simp [go_sem, c0, c1, c2, c3, c4, c5, c6, c7, c8], by simp [go_sem, c0, c1, c2, c3, c4, c5, c6, c7, c8], by simp [go_sem, c0, c1, c2, c3, c4, c5, c6, c7, c8], by simp [go_sem, c0, c1, c2, c3, c4, c5, c6, c7, c8], by simp [go_sem, c0, c1, c2, c3, c4, c5, c6, c7, c8], by simp [go_sem, c0, c1, c2, c3, c4, c5, c6, c7, c8], by simp [go_sem, c0, c1, c2, c3, c4, c5, c6, c7, c8], by simp [go_sem, c0, c1, c2, c3, c4, c5, c6, c7, c8], by simp [go_sem, c0, c1, c2, c3, c4, c5, c6, c7, c8], by simp [go_sem, f0], by simp [go_sem, f1], by simp [go_sem, f2], by simp [go_sem, f3], by simp [go_sem, f4], by simp [go_sem, f5], by simp [go_sem, f6], by simp [go_sem, f7], by simp [go_sem, f8]⟩
/-- What is known while the answer's flags are laid: the two arguments, the answer's own box, the box o that is laid, its limbs elsewhere. -/
structure MS (w wx : World) (o : Nat) (a1 : Option Addr) (k1 : Nat) (L : List Int) : Prop where
  own : Own wx w.heap.size a1 k1 L
  apart : ∀ g, a1 = some ⟨g, 0, none⟩ → g ≠ o ∧ g ≠ w.heap.size + 1 + 1
  bel : Below w.heap.size w wx
  lo : w.heap.size + 1 + 1 < o
theorem MS.set {w wx : World} {o : Nat} {a1 : Option Addr} {k1 : Nat} {L : List Int} (h : MS w wx o a1 k1 L) (i : Nat) (u : Value) : MS w (wx.setCell ⟨o, i, none⟩ u) o a1 k1 L :=
  ⟨h.own.setOther (fun g e => (h.apart g e).1) u, h.apart, h.bel.setCell (by have := h.lo; simp; omega) u, h.lo⟩
theorem MS.drew {w wx : World} {o : Nat} {a1 : Option Addr} {k1 : Nat} {L : List Int} (h : MS w wx o a1 k1 L) : MS w wx.drew o a1 k1 L := ⟨h.own.drew, h.apart, Below.drew h.bel, h.lo⟩
set_option maxHeartbeats 8000000 in
set_option maxRecDepth 100000 in
theorem merge_spec_yes (fm : Int) (ng : Bool) (T : Int) (nn bd pl mi am : Bool) (fmq : Int) (ngq : Bool) (Tq : Int) (nnq bdq plq miq amq : Bool) (p pq : Option Addr) (cap capq : Nat) (zs ys : List Int) (w : World) (hs : Sl .u32 w (.slice p zs.length cap) zs) (hy : Sl .u32 w (.slice pq ys.length capq) ys) (dz : Nm.Dg zs) (dy : Nm.Dg ys) (h1 : accB fm ng zs T nn bd pl mi am = true) (h2 : accB fmq ngq ys Tq nnq bdq plq miq amq = true) (h3 : fm = fmq) (h4 : T + Tq ≤ 1000000) (x : Int) (hx : x = Nm.wv ng zs + Nm.wv ngq ys) :
    Calls Tryd.prog 13 #[.agg #[.int .i64 fm, .bool ng, .slice p zs.length cap, .int .i64 T, .bool nn, .bool bd, .bool pl, .bool mi, .bool am], .agg #[.int .i64 fmq, .bool ngq, .slice pq ys.length capq, .int .i64 Tq, .bool nnq, .bool bdq, .bool plq, .bool miq, .bool amq]] w fun e w' => ∃ a' c', e = .returned (.tuple #[.agg #[.int .i64 fm, .bool (Nm.wn x), .slice a' (Nm.wl x).length c', .int .i64 (T + Tq), .bool (nn || nnq), .bool (bd || bdq), .bool (pl || plq), .bool (mi || miq), .bool (amW T am Tq amq)], .int .i64 0]) ∧ Own w' w.heap.size a' c' (Nm.wl x) ∧ Below w.heap.size w w' := by
  obtain ⟨-, hk1, ho1, -⟩ := acc_parts h1
  obtain ⟨-, hk2, ho2, -⟩ := acc_parts h2
  obtain ⟨nz, hl⟩ := okB_nz ho1
  obtain ⟨ny, hl'⟩ := okB_nz ho2
  obtain ⟨t10, t11⟩ := mkB_T hk1
  obtain ⟨t20, t21⟩ := mkB_T hk2
  have C1 := hid (fun w' h => accok_spec fm ng T nn bd pl mi am p cap zs w' h (by omega))
  have C2 := hid (fun w' h => accok_spec fmq ngq Tq nnq bdq plq miq amq pq capq ys w' h (by omega))
  have CA := hid (fun w' h h' => l1add_any ng ngq p pq cap capq zs ys w' h h' dz dy nz ny (by omega) (by omega) x hx)
  have HAM := hid (amW_eq hk1 hk2)
  rw [h1] at C1
  rw [h2] at C2
  obtain ⟨T2, hT2⟩ : ∃ T2, T2 = T + Tq := ⟨_, rfl⟩
  obtain ⟨a2, ha2⟩ : ∃ a2, a2 = amW T am Tq amq := ⟨_, rfl⟩
  obtain ⟨n2, hn2⟩ : ∃ n2, n2 = (nn || nnq) := ⟨_, rfl⟩
  obtain ⟨b2, hb2'⟩ : ∃ b2, b2 = (bd || bdq) := ⟨_, rfl⟩
  obtain ⟨p2, hp2⟩ : ∃ p2, p2 = (pl || plq) := ⟨_, rfl⟩
  obtain ⟨m2, hm2⟩ : ∃ m2, m2 = (mi || miq) := ⟨_, rfl⟩
  obtain ⟨G, hG⟩ : ∃ G, G = Nm.wn x := ⟨_, rfl⟩
  obtain ⟨L, hL⟩ : ∃ L, L = Nm.wl x := ⟨_, rfl⟩
  rw [← hG, ← hL] at CA
  rw [← hT2, ← ha2] at HAM
  rw [← hT2, ← hn2, ← hb2', ← hp2, ← hm2, ← ha2, ← hG, ← hL]
  have HT2 := hid hT2
  have HN4 := hid hn2
  have HN5 := hid hb2'
  have HN6 := hid hp2
  have HN7 := hid hm2
  clear hn2 hb2' hp2 hm2
  clear hT2 ha2 hG hL hk1 hk2 ho1 ho2 hx dz dy h1 h2 hl hl' nz ny
  have hne : (fm != fmq) = false := by simpa using h3
  clear h3
  have Q1 := (((Q9.new w (.int .i64 fm) (.bool ng) (.slice p zs.length cap) (.int .i64 T) (.bool nn) (.bool bd) (.bool pl) (.bool mi) (.bool am) 31).alloc (.cells #[.int .i64 fmq, .bool ngq, .slice pq ys.length capq, .int .i64 Tq, .bool nnq, .bool bdq, .bool plq, .bool miq, .bool amq] 31)).alloc (.cells #[.int .i64 0, .bool false, .slice none 0 0, .int .i64 0, .bool false, .bool false, .bool false, .bool false, .bool false] 31))
  have Q2 := ((Q9.nw2 w (.cells #[.int .i64 fm, .bool ng, .slice p zs.length cap, .int .i64 T, .bool nn, .bool bd, .bool pl, .bool mi, .bool am] 31) (.int .i64 fmq) (.bool ngq) (.slice pq ys.length capq) (.int .i64 Tq) (.bool nnq) (.bool bdq) (.bool plq) (.bool miq) (.bool amq) 31).alloc (.cells #[.int .i64 0, .bool false, .slice none 0 0, .int .i64 0, .bool false, .bool false, .bool false, .bool false, .bool false] 31))
  have Q3 := Q9.new3 w (.cells #[.int .i64 fm, .bool ng, .slice p zs.length cap, .int .i64 T, .bool nn, .bool bd, .bool pl, .bool mi, .bool am] 31) (.cells #[.int .i64 fmq, .bool ngq, .slice pq ys.length capq, .int .i64 Tq, .bool nnq, .bool bdq, .bool plq, .bool miq, .bool amq] 31) (.int .i64 0) (.bool false) (.slice none 0 0) (.int .i64 0) (.bool false) (.bool false) (.bool false) (.bool false) (.bool false) 31
  have bel0 : Below w.heap.size w (((w.alloc (.cells #[.int .i64 fm, .bool ng, .slice p zs.length cap, .int .i64 T, .bool nn, .bool bd, .bool pl, .bool mi, .bool am] 31)).alloc (.cells #[.int .i64 fmq, .bool ngq, .slice pq ys.length capq, .int .i64 Tq, .bool nnq, .bool bdq, .bool plq, .bool miq, .bool amq] 31)).alloc (.cells #[.int .i64 0, .bool false, .slice none 0 0, .int .i64 0, .bool false, .bool false, .bool false, .bool false, .bool false] 31)) := (by repeat (first | exact Below.refl _ _ | refine Below.drew ?_ | refine bel_dn ?_ _ | refine bel_al ?_ _ | refine Below.setCell ?_ (by first | omega | (simp; done) | (simp; omega)) _ | refine Below.alloc ?_ (by first | omega | (simp; done) | (simp; omega)) _))
  go_enter Tryd.func13, Tryd.ntmps13
  go_wp2_with fail
  refine (C1.out _ (hs.below bel0)).mono ?_
  rintro e w1 ⟨rfl, hb1⟩
  replace Q1 := Q1.below hb1
  replace Q2 := Q2.below hb1
  replace Q3 := Q3.below hb1
  have bel1 := bel_go bel0 hb1
  clear bel0 hb1 C1
  obtain ⟨c0, c1, c2, c3, c4, c5, c6, c7, c8⟩ := Q2.cs
  go_wp2_with fail
  refine (C2.out _ (hy.below bel1)).mono ?_
  rintro e W ⟨rfl, hb2⟩
  clear c0 c1 c2 c3 c4 c5 c6 c7 c8
  replace Q1 := Q1.below hb2
  replace Q2 := Q2.below hb2
  replace Q3 := Q3.below hb2
  have bel2 := bel_go bel1 hb2
  clear bel1 hb2 C2
  have k1 := Q1.c0
  have k2 := Q2.c0
  have m1 := Q1.c3
  have m2' := Q2.c3
  go_upto_region 7 with fail
  clear k1 k2 m1 m2'
  have lr := Q3.lt
  have s2 := hs.below bel2
  have y2 := hy.below bel2
  go_cut [6] (fun v6 wx => ∃ (o : Nat) (a1 : Option Addr) (k1 : Nat), v6 = .pointer (some ⟨o, 0, none⟩) ∧ Q9 wx o (.int .i64 fm) (.bool G) (.slice a1 L.length k1) (.int .i64 T2) (.bool false) (.bool false) (.bool false) (.bool false) (.bool false) ∧ Q9 wx w.heap.size (.int .i64 fm) (.bool ng) (.slice p zs.length cap) (.int .i64 T) (.bool nn) (.bool bd) (.bool pl) (.bool mi) (.bool am) ∧ Q9 wx (w.heap.size + 1) (.int .i64 fmq) (.bool ngq) (.slice pq ys.length capq) (.int .i64 Tq) (.bool nnq) (.bool bdq) (.bool plq) (.bool miq) (.bool amq) ∧ Q9 wx (w.heap.size + 1 + 1) (.int .i64 0) (.bool false) (.slice none 0 0) (.int .i64 0) (.bool false) (.bool false) (.bool false) (.bool false) (.bool false) ∧ MS w wx o a1 k1 L)
  case first =>
    have ctd := Q1.drew.cs
    have cod := Q2.drew.cs
    have alQ1 := ((Q1.alloc (.cells #[.int .i64 0, .bool false, .slice none 0 0, .int .i64 0, .bool false, .bool false, .bool false, .bool false, .bool false] 31)).drew).cs
    have alQ2 := ((Q2.alloc (.cells #[.int .i64 0, .bool false, .slice none 0 0, .int .i64 0, .bool false, .bool false, .bool false, .bool false, .bool false] 31)).drew).cs
    have lW : w.heap.size + 1 + 1 < W.heap.size := lr
    go_region_held3 (fun w' => (w'.cell? ⟨w.heap.size, 0, none⟩ = some (.int .i64 fm) ∧ w'.cell? ⟨w.heap.size, 1, none⟩ = some (.bool ng) ∧ w'.cell? ⟨w.heap.size, 2, none⟩ = some (.slice p zs.length cap) ∧ w'.cell? ⟨w.heap.size, 3, none⟩ = some (.int .i64 T) ∧ w'.cell? ⟨w.heap.size, 4, none⟩ = some (.bool nn) ∧ w'.cell? ⟨w.heap.size, 5, none⟩ = some (.bool bd) ∧ w'.cell? ⟨w.heap.size, 6, none⟩ = some (.bool pl) ∧ w'.cell? ⟨w.heap.size, 7, none⟩ = some (.bool mi) ∧ w'.cell? ⟨w.heap.size, 8, none⟩ = some (.bool am)) ∧ (w'.cell? ⟨w.heap.size + 1, 0, none⟩ = some (.int .i64 fmq) ∧ w'.cell? ⟨w.heap.size + 1, 1, none⟩ = some (.bool ngq) ∧ w'.cell? ⟨w.heap.size + 1, 2, none⟩ = some (.slice pq ys.length capq) ∧ w'.cell? ⟨w.heap.size + 1, 3, none⟩ = some (.int .i64 Tq) ∧ w'.cell? ⟨w.heap.size + 1, 4, none⟩ = some (.bool nnq) ∧ w'.cell? ⟨w.heap.size + 1, 5, none⟩ = some (.bool bdq) ∧ w'.cell? ⟨w.heap.size + 1, 6, none⟩ = some (.bool plq) ∧ w'.cell? ⟨w.heap.size + 1, 7, none⟩ = some (.bool miq) ∧ w'.cell? ⟨w.heap.size + 1, 8, none⟩ = some (.bool amq)))
      (first | with_reducible assumption | with_reducible exact ⟨ctd, cod⟩ | with_reducible exact ⟨alQ1, alQ2⟩ | with_reducible exact ⟨(Q1a.alloc _).cs, (Q2a.alloc _).cs⟩ | with_reducible exact keep9b Q1a Q2a (by omega) (by omega) _ _ _ _ _ _ _ _ _ _ rfl | (with_reducible exact keep9b (Q1a.alloc _) (Q2a.alloc _) (by simp; omega) (by simp; omega) _ _ _ _ _ _ _ _ _ _ rfl) | fail)
      (first
        | (go_at_call 37; refine (CA.out _ (by first | with_reducible exact s2.drew | with_reducible exact (s2.alloc _).drew) (by first | with_reducible exact y2.drew | with_reducible exact (y2.alloc _).drew)).mono ?_; rintro e q1 ⟨a1, k1, rfl, hp1, hq1⟩; (first | (have Q1a := Q1.drew.below hq1; have Q2a := Q2.drew.below hq1; have Q3a := Q3.drew.below hq1) | (have Q1a := (Q1.alloc _).drew.below hq1; have Q2a := (Q2.alloc _).drew.below hq1; have Q3a := (Q3.alloc _).drew.below hq1; have ob := (Q9.new W (.int .i64 0) (.bool false) (.slice none 0 0) (.int .i64 0) (.bool false) (.bool false) (.bool false) (.bool false) (.bool false) 31).drew.below hq1; have ob' := ob; obtain ⟨o0, o1, o2, o3, o4, o5, o6, o7, o8, g0, g1, g2, g3, g4, g5, g6, g7, g8⟩ := ob')); have f1 := And.intro Q1a.cs Q2a.cs))
    all_goals (go_wp2_with fail; go_meet)
    · have lq := hq1.size
      have l0 : W.heap.size ≤ q1.heap.size := lq
      have hbk := hp1.block
      rw [HT2.out, show IntKind.i64.wrap (T + Tq) = T + Tq by rw [IntKind.wrap_i64]; omega]
      refine ⟨q1.heap.size, a1, k1, rfl, Q9.new q1 _ _ _ _ _ _ _ _ _ _, Q1a.alloc _, Q2a.alloc _, Q3a.alloc _, ⟨Own.base (hp1.alloc _) bel2.size, ?_, bel_al (bel_go (Below.drew bel2) hq1) _, by omega⟩⟩
      intro g hg
      rcases hbk with ⟨e, _⟩ | ⟨g', e, h5, h6⟩
      · rw [e] at hg; cases hg
      · rw [e] at hg; cases hg
        have h5 : W.heap.size ≤ g := h5
        omega
    · have lq := hq1.size
      have l0 : W.heap.size + 1 ≤ q1.heap.size := by simpa using lq
      have hbk := hp1.block
      rw [HT2.out, show IntKind.i64.wrap (T + Tq) = T + Tq by rw [IntKind.wrap_i64]; omega]
      refine ⟨W.heap.size, a1, k1, rfl, Q9.set9 ob _ _ _ _ _ _ _ _ _, Q1a.of_block (heap9 q1 W.heap.size _ (by omega) _ _ _ _ _ _ _ _ _), Q2a.of_block (heap9 q1 W.heap.size _ (by omega) _ _ _ _ _ _ _ _ _), Q3a.of_block (heap9 q1 W.heap.size _ (by omega) _ _ _ _ _ _ _ _ _), ⟨?_, ?_, ?_, lW⟩⟩
      · have hp5 : Own q1 (W.heap.size + 1) a1 k1 L := by simpa using hp1
        refine Own.base (B := W.heap.size + 1) ?_ (by have := bel2.size; omega)
        repeat (first | with_reducible exact hp5 | (with_reducible refine Own.setBelow ?_ ?_ _; rotate_left; simp))
      · intro g hg
        rcases hbk with ⟨e, _⟩ | ⟨g', e, h5, h6⟩
        · rw [e] at hg; cases hg
        · rw [e] at hg; cases hg
          have h5 : W.heap.size + 1 ≤ g := by simpa using h5
          omega
      · have bq : Below w.heap.size w q1 := bel_go (Below.drew (bel_al bel2 _)) hq1
        have lb2 := bel2.size
        refine Below.setCell (Below.setCell (Below.setCell (Below.setCell (Below.setCell (Below.setCell (Below.setCell (Below.setCell (Below.setCell bq ?_ _) ?_ _) ?_ _) ?_ _) ?_ _) ?_ _) ?_ _) ?_ _) ?_ _ <;> exact lb2
  case rest =>
  clear Q1 Q2 Q3
  rename World => wx7
  obtain ⟨o, a1, k1, rfl, O, Q1, Q2, Q3, M⟩ := hcut
  clear s2 y2 bel2 lr CA
  go_upto_region 8 with fail
  go_cut [] (fun wx => Q9 wx o (.int .i64 fm) (.bool G) (.slice a1 L.length k1) (.int .i64 T2) (.bool n2) (.bool false) (.bool false) (.bool false) (.bool false) ∧ Q9 wx w.heap.size (.int .i64 fm) (.bool ng) (.slice p zs.length cap) (.int .i64 T) (.bool nn) (.bool bd) (.bool pl) (.bool mi) (.bool am) ∧ Q9 wx (w.heap.size + 1) (.int .i64 fmq) (.bool ngq) (.slice pq ys.length capq) (.int .i64 Tq) (.bool nnq) (.bool bdq) (.bool plq) (.bool miq) (.bool amq) ∧ Q9 wx (w.heap.size + 1 + 1) (.int .i64 0) (.bool false) (.slice none 0 0) (.int .i64 0) (.bool false) (.bool false) (.bool false) (.bool false) (.bool false) ∧ MS w wx o a1 k1 L)
  case first =>
    have e1 := Q1.c4
    have e2 := Q2.c4
    have e3 := O.c4
    have e4 := O.f4
    have hlo := M.lo
    cases nn with
    | true =>
      go_wp2_with fail
      go_meet
      have hh := HN4.out
      simp at hh
      subst hh
      exact ⟨O.set4 _, Q1.other (by simp; omega) _, Q2.other (by simp; omega) _, Q3.other (by simp; omega) _, M.set 4 _⟩
    | false =>
      go_wp2_with fail
      go_meet
      have hh := HN4.out
      simp at hh
      subst hh
      exact ⟨O.set4 _, Q1.other (by simp; omega) _, Q2.other (by simp; omega) _, Q3.other (by simp; omega) _, M.set 4 _⟩
  case rest =>
  clear O Q1 Q2 Q3 M
  rename World => wx8
  obtain ⟨O, Q1, Q2, Q3, M⟩ := hcut
  go_upto_region 9 with fail
  go_cut [] (fun wx => Q9 wx o (.int .i64 fm) (.bool G) (.slice a1 L.length k1) (.int .i64 T2) (.bool n2) (.bool b2) (.bool false) (.bool false) (.bool false) ∧ Q9 wx w.heap.size (.int .i64 fm) (.bool ng) (.slice p zs.length cap) (.int .i64 T) (.bool nn) (.bool bd) (.bool pl) (.bool mi) (.bool am) ∧ Q9 wx (w.heap.size + 1) (.int .i64 fmq) (.bool ngq) (.slice pq ys.length capq) (.int .i64 Tq) (.bool nnq) (.bool bdq) (.bool plq) (.bool miq) (.bool amq) ∧ Q9 wx (w.heap.size + 1 + 1) (.int .i64 0) (.bool false) (.slice none 0 0) (.int .i64 0) (.bool false) (.bool false) (.bool false) (.bool false) (.bool false) ∧ MS w wx o a1 k1 L)
  case first =>
    have e1 := Q1.c5
    have e2 := Q2.c5
    have e3 := O.c5
    have e4 := O.f5
    have hlo := M.lo
    cases bd with
    | true =>
      go_wp2_with fail
      go_meet
      have hh := HN5.out
      simp at hh
      subst hh
      exact ⟨O.set5 _, Q1.other (by simp; omega) _, Q2.other (by simp; omega) _, Q3.other (by simp; omega) _, M.set 5 _⟩
    | false =>
      go_wp2_with fail
      go_meet
      have hh := HN5.out
      simp at hh
      subst hh
      exact ⟨O.set5 _, Q1.other (by simp; omega) _, Q2.other (by simp; omega) _, Q3.other (by simp; omega) _, M.set 5 _⟩
  case rest =>
  clear O Q1 Q2 Q3 M
  rename World => wx9
  obtain ⟨O, Q1, Q2, Q3, M⟩ := hcut
  go_upto_region 10 with fail
  go_cut [] (fun wx => Q9 wx o (.int .i64 fm) (.bool G) (.slice a1 L.length k1) (.int .i64 T2) (.bool n2) (.bool b2) (.bool p2) (.bool false) (.bool false) ∧ Q9 wx w.heap.size (.int .i64 fm) (.bool ng) (.slice p zs.length cap) (.int .i64 T) (.bool nn) (.bool bd) (.bool pl) (.bool mi) (.bool am) ∧ Q9 wx (w.heap.size + 1) (.int .i64 fmq) (.bool ngq) (.slice pq ys.length capq) (.int .i64 Tq) (.bool nnq) (.bool bdq) (.bool plq) (.bool miq) (.bool amq) ∧ Q9 wx (w.heap.size + 1 + 1) (.int .i64 0) (.bool false) (.slice none 0 0) (.int .i64 0) (.bool false) (.bool false) (.bool false) (.bool false) (.bool false) ∧ MS w wx o a1 k1 L)
  case first =>
    have e1 := Q1.c6
    have e2 := Q2.c6
    have e3 := O.c6
    have e4 := O.f6
    have hlo := M.lo
    cases pl with
    | true =>
      go_wp2_with fail
      go_meet
      have hh := HN6.out
      simp at hh
      subst hh
      exact ⟨O.set6 _, Q1.other (by simp; omega) _, Q2.other (by simp; omega) _, Q3.other (by simp; omega) _, M.set 6 _⟩
    | false =>
      go_wp2_with fail
      go_meet
      have hh := HN6.out
      simp at hh
      subst hh
      exact ⟨O.set6 _, Q1.other (by simp; omega) _, Q2.other (by simp; omega) _, Q3.other (by simp; omega) _, M.set 6 _⟩
  case rest =>
  clear O Q1 Q2 Q3 M
  rename World => wx10
  obtain ⟨O, Q1, Q2, Q3, M⟩ := hcut
  go_upto_region 11 with fail
  go_cut [] (fun wx => Q9 wx o (.int .i64 fm) (.bool G) (.slice a1 L.length k1) (.int .i64 T2) (.bool n2) (.bool b2) (.bool p2) (.bool m2) (.bool false) ∧ Q9 wx w.heap.size (.int .i64 fm) (.bool ng) (.slice p zs.length cap) (.int .i64 T) (.bool nn) (.bool bd) (.bool pl) (.bool mi) (.bool am) ∧ Q9 wx (w.heap.size + 1) (.int .i64 fmq) (.bool ngq) (.slice pq ys.length capq) (.int .i64 Tq) (.bool nnq) (.bool bdq) (.bool plq) (.bool miq) (.bool amq) ∧ Q9 wx (w.heap.size + 1 + 1) (.int .i64 0) (.bool false) (.slice none 0 0) (.int .i64 0) (.bool false) (.bool false) (.bool false) (.bool false) (.bool false) ∧ MS w wx o a1 k1 L)
  case first =>
    have e1 := Q1.c7
    have e2 := Q2.c7
    have e3 := O.c7
    have e4 := O.f7
    have hlo := M.lo
    cases mi with
    | true =>
      go_wp2_with fail
      go_meet
      have hh := HN7.out
      simp at hh
      subst hh
      exact ⟨O.set7 _, Q1.other (by simp; omega) _, Q2.other (by simp; omega) _, Q3.other (by simp; omega) _, M.set 7 _⟩
    | false =>
      go_wp2_with fail
      go_meet
      have hh := HN7.out
      simp at hh
      subst hh
      exact ⟨O.set7 _, Q1.other (by simp; omega) _, Q2.other (by simp; omega) _, Q3.other (by simp; omega) _, M.set 7 _⟩
  case rest =>
  clear O Q1 Q2 Q3 M
  rename World => wx11
  obtain ⟨O, Q1, Q2, Q3, M⟩ := hcut
  have hd1 : (T == 0) = decide (T = 0) := by rw [Bool.eq_iff_iff, beq_iff_eq, decide_eq_true_eq]
  have hd2 : (Tq == 0) = decide (Tq = 0) := by rw [Bool.eq_iff_iff, beq_iff_eq, decide_eq_true_eq]
  obtain ⟨d1, e1'⟩ : ∃ d1, d1 = decide (T = 0) := ⟨_, rfl⟩
  obtain ⟨d2, e2'⟩ : ∃ d2, d2 = decide (Tq = 0) := ⟨_, rfl⟩
  rw [← e1'] at hd1 HAM
  rw [← e2'] at hd2 HAM
  clear e1' e2' HT2
  go_upto_region 12 with fail
  go_cut [] (fun wx => Q9 wx o (.int .i64 fm) (.bool G) (.slice a1 L.length k1) (.int .i64 T2) (.bool n2) (.bool b2) (.bool p2) (.bool m2) (.bool a2) ∧ Q9 wx (w.heap.size + 1 + 1) (.int .i64 0) (.bool false) (.slice none 0 0) (.int .i64 0) (.bool false) (.bool false) (.bool false) (.bool false) (.bool false) ∧ MS w wx o a1 k1 L)
  case first =>
    have e1 := Q1.c3
    have e2 := Q2.c3
    have e3 := Q1.c8
    have e4 := Q2.c8
    have e5 := O.c3
    have e6 := O.c8
    have e7 := O.f8
    have hlo := M.lo
    cases am with
    | true =>
      cases amq with
      | true => go_wp2_with fail; go_meet; (have hh := HAM.out; simp at hh; subst hh; exact ⟨O.set8 _, Q3.other (by simp; omega) _, M.set 8 _⟩)
      | false => cases d2 <;> (go_wp2_with fail; go_meet; (have hh := HAM.out; simp at hh; subst hh; exact ⟨O.set8 _, Q3.other (by simp; omega) _, M.set 8 _⟩))
    | false =>
      cases d1 with
      | true =>
        cases amq with
        | true => go_wp2_with fail; go_meet; (have hh := HAM.out; simp at hh; subst hh; exact ⟨O.set8 _, Q3.other (by simp; omega) _, M.set 8 _⟩)
        | false => cases d2 <;> (go_wp2_with fail; go_meet; (have hh := HAM.out; simp at hh; subst hh; exact ⟨O.set8 _, Q3.other (by simp; omega) _, M.set 8 _⟩))
      | false => go_wp2_with fail; go_meet; (have hh := HAM.out; simp at hh; subst hh; exact ⟨O.set8 _, Q3.other (by simp; omega) _, M.set 8 _⟩)
  case rest =>
  clear O Q1 Q2 Q3 M hd1 hd2 HAM
  rename World => wx12
  obtain ⟨O, Q3, M⟩ := hcut
  obtain ⟨o0, o1, o2, o3, o4, o5, o6, o7, o8⟩ := O.cs
  obtain ⟨r0, r1, r2, r3, r4, r5, r6, r7, r8, f0, f1, f2, f3, f4, f5, f6, f7, f8⟩ := Q3
  clear O
  go_wp2
  refine bodyPost_ret (v := .tuple #[.agg #[.int .i64 fm, .bool G, .slice a1 L.length k1, .int .i64 T2, .bool n2, .bool b2, .bool p2, .bool m2, .bool a2], .int .i64 0]) (by simp [results, Tryd.results13, go_sem, r0, r1, r2, r3, r4, r5, r6, r7, r8]) rfl ⟨a1, k1, rfl, ?_, ?_⟩
  · have hap := M.apart
    have own := M.own
    repeat (first | with_reducible exact own | (with_reducible refine Own.setOther ?_ ?_ _; rotate_left; (intro g hg; exact (hap g hg).2)))
  · have bel := M.bel
    exact (by repeat (first | (with_reducible refine Below.setCell ?_ ?_ _; rotate_left; focus (first | omega | (simp; done) | (simp; omega))) | (with_reducible exact Below.refl _ _) | (with_reducible refine Below.drew ?_) | (with_reducible refine bel_dn ?_ _) | (with_reducible refine bel_al ?_ _) | (with_reducible refine bel_go ?_ bel) | (with_reducible refine Below.alloc ?_ ?_ _; rotate_left; focus (first | omega | (simp; done) | (simp; omega))) | (with_reducible refine Below.trans ?_ (Below.mono bel ?_); rotate_left; focus (first | omega | (simp; done) | (simp; omega)))))
end Go.Proofs.YtfblidnejdkjhaaDoor
/-
  The walk of laws.FnExactAccMerge, out of contracts.
-/
namespace Go.Proofs.YtfblidnejdkjhaaDoor
set_option linter.unusedVariables false
set_option linter.unusedSimpArgs false
open Go.RowKit Go.Deep
namespace LAccMerge
theorem two9 {w w' : World} {b b' : Nat} {v0 v1 v2 v3 v4 v5 v6 v7 v8 y0 y1 y2 y3 y4 y5 y6 y7 y8 : Value} (h : Q9 w b v0 v1 v2 v3 v4 v5 v6 v7 v8) (h' : Q9 w b' y0 y1 y2 y3 y4 y5 y6 y7 y8) (hb : Below w.heap.size w w') :
    (w'.cell? ⟨b, 0, none⟩ = some v0 ∧ w'.cell? ⟨b, 1, none⟩ = some v1 ∧ w'.cell? ⟨b, 2, none⟩ = some v2 ∧ w'.cell? ⟨b, 3, none⟩ = some v3 ∧ w'.cell? ⟨b, 4, none⟩ = some v4 ∧ w'.cell? ⟨b, 5, none⟩ = some v5 ∧ w'.cell? ⟨b, 6, none⟩ = some v6 ∧ w'.cell? ⟨b, 7, none⟩ = some v7 ∧ w'.cell? ⟨b, 8, none⟩ = some v8) ∧ (w'.cell? ⟨b', 0, none⟩ = some y0 ∧ w'.cell? ⟨b', 1, none⟩ = some y1 ∧ w'.cell? ⟨b', 2, none⟩ = some y2 ∧ w'.cell? ⟨b', 3, none⟩ = some y3 ∧ w'.cell? ⟨b', 4, none⟩ = some y4 ∧ w'.cell? ⟨b', 5, none⟩ = some y5 ∧ w'.cell? ⟨b', 6, none⟩ = some y6 ∧ w'.cell? ⟨b', 7, none⟩ = some y7 ∧ w'.cell? ⟨b', 8, none⟩ = some y8) := ⟨(h.below hb).cs, (h'.below hb).cs⟩
attribute [local go_sem ↓] Go.wp_at_zero Go.wp_at_succ
set_option maxRecDepth 100000 in
set_option maxHeartbeats 16000000 in
theorem law (fm : Int) (ng : Bool) (T : Int) (nn bd pl mi am : Bool) (fmq : Int) (ngq : Bool) (Tq : Int) (nnq bdq plq miq amq : Bool) (a b : Option Addr) (cap cap' : Nat) (zs ys : List Int) (w : World) (hT : Tab w) (hx : Sl .u32 w (.slice a zs.length cap) zs) (hy : Sl .u32 w (.slice b ys.length cap') ys) (fmr : Int) (ngr : Bool) (Tr : Int) (nnr bdr plr mir amr : Bool) (L : List Int) (O : Int) (hl200 : L.length ≤ 200) (hdg : Nm.Dg L) (hnx : zs.length ≤ 1048576) (hny : ys.length ≤ 1048576) (hsum : zs.length + ys.length ≤ 1048576)
    (hsp : ∀ (w : World) (a b : Option Addr) (cap cap' : Nat), Sl .u32 w (.slice a zs.length cap) zs → Sl .u32 w (.slice b ys.length cap') ys → Calls Tryd.prog 13 #[.agg #[.int .i64 fm, .bool ng, .slice a zs.length cap, .int .i64 T, .bool nn, .bool bd, .bool pl, .bool mi, .bool am], .agg #[.int .i64 fmq, .bool ngq, .slice b ys.length cap', .int .i64 Tq, .bool nnq, .bool bdq, .bool plq, .bool miq, .bool amq]] w fun e w' => ∃ a' c', e = .returned (.tuple #[.agg #[.int .i64 fmr, .bool ngr, .slice a' L.length c', .int .i64 Tr, .bool nnr, .bool bdr, .bool plr, .bool mir, .bool amr], .int .i64 O]) ∧ Own w' w.heap.size a' c' L ∧ Below w.heap.size w w')
    (him : ∀ (w : World) (a b : Option Addr) (cap cap' : Nat), Tab w → Sl .u32 w (.slice a zs.length cap) zs → Sl .u32 w (.slice b ys.length cap') ys → Calls Tryd.prog 14 #[.agg #[.int .i64 fm, .bool ng, .slice a zs.length cap, .int .i64 T, .bool nn, .bool bd, .bool pl, .bool mi, .bool am], .agg #[.int .i64 fmq, .bool ngq, .slice b ys.length cap', .int .i64 Tq, .bool nnq, .bool bdq, .bool plq, .bool miq, .bool amq]] w fun e w' => ∃ a' c', e = .returned (.tuple #[.agg #[.int .i64 fmr, .bool ngr, .slice a' L.length c', .int .i64 Tr, .bool nnr, .bool bdr, .bool plr, .bool mir, .bool amr], .int .i64 O]) ∧ Own w' w.heap.size a' c' L ∧ Below w.heap.size w w') :
    Calls Tryd.prog 4 #[.agg #[.int .i64 fm, .bool ng, .slice a zs.length cap, .int .i64 T, .bool nn, .bool bd, .bool pl, .bool mi, .bool am], .agg #[.int .i64 fmq, .bool ngq, .slice b ys.length cap', .int .i64 Tq, .bool nnq, .bool bdq, .bool plq, .bool miq, .bool amq]] w fun e w' => e = .returned (.bool true) ∧ Below w.heap.size w w' := by
  have hr1 : szR 1048576 zs.length = 1048576 - zs.length := by unfold szR; rw [if_neg (by omega)]
  have hr2 : szR (1048576 - zs.length) ys.length = 1048576 - zs.length - ys.length := by unfold szR; rw [if_neg (by omega)]
  have hoo : (O != O) = false := by simp
  have HSP := hid hsp
  have HIM := hid him
  have HDG := hid hdg
  have HR := hid (heldR_iot L.length : heldR 1 (iot 1 L.length) = 1 + L.length)
  have HS1 := hid hr1
  have HS2 := hid hr2
  clear hsp him hdg hr1 hr2
  go_enter Tryd.func4, Tryd.ntmps4
  have P := (Q9.new w (.int .i64 fm) (.bool ng) (.slice a zs.length cap) (.int .i64 T) (.bool nn) (.bool bd) (.bool pl) (.bool mi) (.bool am) 26).alloc (.cells #[.int .i64 fmq, .bool ngq, .slice b ys.length cap', .int .i64 Tq, .bool nnq, .bool bdq, .bool plq, .bool miq, .bool amq] 26)
  have Q : Q9 ((w.alloc (.cells #[.int .i64 fm, .bool ng, .slice a zs.length cap, .int .i64 T, .bool nn, .bool bd, .bool pl, .bool mi, .bool am] 26)).alloc (.cells #[.int .i64 fmq, .bool ngq, .slice b ys.length cap', .int .i64 Tq, .bool nnq, .bool bdq, .bool plq, .bool miq, .bool amq] 26)) (w.heap.size + 1) (.int .i64 fmq) (.bool ngq) (.slice b ys.length cap') (.int .i64 Tq) (.bool nnq) (.bool bdq) (.bool plq) (.bool miq) (.bool amq) := by simpa using Q9.new (w.alloc (.cells #[.int .i64 fm, .bool ng, .slice a zs.length cap, .int .i64 T, .bool nn, .bool bd, .bool pl, .bool mi, .bool am] 26)) (.int .i64 fmq) (.bool ngq) (.slice b ys.length cap') (.int .i64 Tq) (.bool nnq) (.bool bdq) (.bool plq) (.bool miq) (.bool amq) 26
  have sx := (hx.alloc (.cells #[.int .i64 fm, .bool ng, .slice a zs.length cap, .int .i64 T, .bool nn, .bool bd, .bool pl, .bool mi, .bool am] 26)).alloc (.cells #[.int .i64 fmq, .bool ngq, .slice b ys.length cap', .int .i64 Tq, .bool nnq, .bool bdq, .bool plq, .bool miq, .bool amq] 26)
  have sy := (hy.alloc (.cells #[.int .i64 fm, .bool ng, .slice a zs.length cap, .int .i64 T, .bool nn, .bool bd, .bool pl, .bool mi, .bool am] 26)).alloc (.cells #[.int .i64 fmq, .bool ngq, .slice b ys.length cap', .int .i64 Tq, .bool nnq, .bool bdq, .bool plq, .bool miq, .bool amq] 26)
  have bel0 : Below w.heap.size w ((w.alloc (.cells #[.int .i64 fm, .bool ng, .slice a zs.length cap, .int .i64 T, .bool nn, .bool bd, .bool pl, .bool mi, .bool am] 26)).alloc (.cells #[.int .i64 fmq, .bool ngq, .slice b ys.length cap', .int .i64 Tq, .bool nnq, .bool bdq, .bool plq, .bool miq, .bool amq] 26)) := (by repeat (first | exact Below.refl _ _ | refine Below.drew ?_ | refine bel_dn ?_ _ | refine bel_al ?_ _ | refine Below.setCell ?_ (by first | omega | (simp; done) | (simp; omega)) _ | refine Below.alloc ?_ (by first | omega | (simp; done) | (simp; omega)) _))
  go_wp2_with fail
  have cs1 := fun W => szA_any fm ng T nn bd pl mi am a zs.length cap 1048576 W (by omega) (by decide) (by decide)
  simp only [HS1.out] at cs1
  refine (cs1 _).mono ?_
  clear cs1
  rintro e w1 ⟨rfl, hb1⟩
  replace P := (P.below hb1)
  replace Q := (Q.below hb1)
  replace sx := (sx.below hb1)
  replace sy := (sy.below hb1)
  have bel_hb1 := bel_go bel0 hb1
  have sz_hb1 := hb1.size
  clear bel0
  obtain ⟨c0, c1, c2, c3, c4, c5, c6, c7, c8⟩ := Q.cs
  go_wp2_with fail
  have cs2 := fun W => szA_any fmq ngq Tq nnq bdq plq miq amq b ys.length cap' (1048576 - zs.length) W (by omega) (by omega) (by omega)
  simp only [HS2.out] at cs2
  refine (cs2 _).mono ?_
  clear cs2
  rintro e w2 ⟨rfl, hb2⟩
  clear c0 c1 c2 c3 c4 c5 c6 c7 c8
  replace P := (P.below hb2)
  replace Q := (Q.below hb2)
  replace sx := (sx.below hb2)
  replace sy := (sy.below hb2)
  have bel_hb2 := bel_go bel_hb1 hb2
  have sz_hb2 := hb2.size
  clear bel_hb1
  go_upto_region 8 with fail
  have lP := P.lt
  have lQ := Q.lt
  go_cut [6, 7] (fun v6 v7 wx => ∃ p : Nat, ∃ a' c', v6 = .pointer (some ⟨p, 0, none⟩) ∧ v7 = .int .i64 O ∧ w2.heap.size ≤ p ∧ Q9 wx p (.int .i64 fmr) (.bool ngr) (.slice a' L.length c') (.int .i64 Tr) (.bool nnr) (.bool bdr) (.bool plr) (.bool mir) (.bool amr) ∧ Own wx w2.heap.size a' c' L ∧ (∀ g, a' = some ⟨g, 0, none⟩ → g ≠ p) ∧ Below w2.heap.size w2 wx)
  case first =>
    have ctd := P.drew.cs
    have cod := Q.drew.cs
    have alP := (P.alloc (.cells #[.int .i64 0, .bool false, .slice none 0 0, .int .i64 0, .bool false, .bool false, .bool false, .bool false, .bool false] 31)).drew.cs
    have alQ := (Q.alloc (.cells #[.int .i64 0, .bool false, .slice none 0 0, .int .i64 0, .bool false, .bool false, .bool false, .bool false, .bool false] 31)).drew.cs
    go_region_held3 (fun w' => (w'.cell? ⟨w.heap.size, 0, none⟩ = some (.int .i64 fm) ∧ w'.cell? ⟨w.heap.size, 1, none⟩ = some (.bool ng) ∧ w'.cell? ⟨w.heap.size, 2, none⟩ = some (.slice a zs.length cap) ∧ w'.cell? ⟨w.heap.size, 3, none⟩ = some (.int .i64 T) ∧ w'.cell? ⟨w.heap.size, 4, none⟩ = some (.bool nn) ∧ w'.cell? ⟨w.heap.size, 5, none⟩ = some (.bool bd) ∧ w'.cell? ⟨w.heap.size, 6, none⟩ = some (.bool pl) ∧ w'.cell? ⟨w.heap.size, 7, none⟩ = some (.bool mi) ∧ w'.cell? ⟨w.heap.size, 8, none⟩ = some (.bool am)) ∧ (w'.cell? ⟨w.heap.size + 1, 0, none⟩ = some (.int .i64 fmq) ∧ w'.cell? ⟨w.heap.size + 1, 1, none⟩ = some (.bool ngq) ∧ w'.cell? ⟨w.heap.size + 1, 2, none⟩ = some (.slice b ys.length cap') ∧ w'.cell? ⟨w.heap.size + 1, 3, none⟩ = some (.int .i64 Tq) ∧ w'.cell? ⟨w.heap.size + 1, 4, none⟩ = some (.bool nnq) ∧ w'.cell? ⟨w.heap.size + 1, 5, none⟩ = some (.bool bdq) ∧ w'.cell? ⟨w.heap.size + 1, 6, none⟩ = some (.bool plq) ∧ w'.cell? ⟨w.heap.size + 1, 7, none⟩ = some (.bool miq) ∧ w'.cell? ⟨w.heap.size + 1, 8, none⟩ = some (.bool amq)))
      (first
        | with_reducible assumption
        | with_reducible exact ⟨ctd, cod⟩
        | with_reducible exact ⟨alP, alQ⟩
        | with_reducible exact ⟨(P3.alloc _).cs, (Q3.alloc _).cs⟩
        | with_reducible exact ⟨(P2.alloc _).cs, (Q2.alloc _).cs⟩
        | with_reducible exact ⟨(P1.alloc _).cs, (Q1.alloc _).cs⟩
        | with_reducible exact keep9b P3 Q3 (by omega) (by omega) _ _ _ _ _ _ _ _ _ _ rfl
        | with_reducible exact keep9b (P3.alloc _) (Q3.alloc _) (by omega) (by omega) _ _ _ _ _ _ _ _ _ _ rfl
        | fail)
      (first
        | (go_at_call_of 10 zs; refine (toA_any fm ng T nn bd pl mi am (.slice a zs.length cap) zs _ (by first | with_reducible exact sx.drew | with_reducible exact (sx.alloc _).drew) hnx).mono ?_; rintro e q1 ⟨d1, f1, rfl, hp1, hq1⟩; (first | (with_reducible have P1 := P.drew.below hq1; have Q1 := Q.drew.below hq1; have sy1 := sy.drew.below hq1; have hB1 : Below w2.heap.size w2 q1 := bel_go (Below.drew (Below.refl _ _)) hq1) | (have P1 := (P.alloc _).drew.below hq1; have Q1 := (Q.alloc _).drew.below hq1; have sy1 := (sy.alloc _).drew.below hq1; have hB1 : Below w2.heap.size w2 q1 := bel_go (Below.drew (bel_al (Below.refl _ _) _)) hq1; have rb1 : Q9 q1 w2.heap.size (.int .i64 0) (.bool false) (.slice none 0 0) (.int .i64 0) (.bool false) (.bool false) (.bool false) (.bool false) (.bool false) := Q9.below (Q9.new w2 (.int .i64 0) (.bool false) (.slice none 0 0) (.int .i64 0) (.bool false) (.bool false) (.bool false) (.bool false) (.bool false) 31).drew hq1)); have z1 := hB1.size; have u1 := And.intro P1.cs Q1.cs)
        | (go_at_call_of 10 ys; refine (toA_any fmq ngq Tq nnq bdq plq miq amq (.slice b ys.length cap') ys _ (by first | with_reducible exact sy1 | with_reducible exact sy1.alloc _) hny).mono ?_; rintro e q2 ⟨d2, f2, rfl, hp2, hq2⟩; (first | (with_reducible have P2 := P1.below hq2; have Q2 := Q1.below hq2; have hB12 : Below q1.heap.size q1 q2 := hq2; (first | (have rb2 := Q9.below rb1 hq2) | skip)) | (have P2 := (P1.alloc _).below hq2; have Q2 := (Q1.alloc _).below hq2; have hB12 : Below q1.heap.size q1 q2 := bel_go (bel_al (Below.refl _ _) _) hq2; have rb2 : Q9 q2 q1.heap.size (.int .i64 0) (.bool false) (.slice none 0 0) (.int .i64 0) (.bool false) (.bool false) (.bool false) (.bool false) (.bool false) := Q9.below (Q9.new q1 (.int .i64 0) (.bool false) (.slice none 0 0) (.int .i64 0) (.bool false) (.bool false) (.bool false) (.bool false) (.bool false) 31) hq2)); have hB2 : Below w2.heap.size w2 q2 := bel_go hB1 hB12; have z2 := hB12.size; have u2 := And.intro P2.cs Q2.cs)
        | (go_at_call 13; refine (HSP.out _ d1 d2 f1 f2 (by first | with_reducible exact (hp1.below hB12).sl | with_reducible exact Sl.alloc (hp1.below hB12).sl _) (by first | with_reducible exact hp2.sl | with_reducible exact Sl.alloc hp2.sl _)).mono ?_; rintro e q3 ⟨d3, f3, rfl, hp3, hq3⟩; (first | (with_reducible have P3 := P2.below hq3; have Q3 := Q2.below hq3; have hB23 : Below q2.heap.size q2 q3 := hq3; (first | (have rb3 := Q9.below rb2 hq3; have rb3' := rb3; obtain ⟨o0, o1, o2, o3, o4, o5, o6, o7, o8, g0, g1, g2, g3, g4, g5, g6, g7, g8⟩ := rb3') | skip)) | (have P3 := (P2.alloc _).below hq3; have Q3 := (Q2.alloc _).below hq3; have hB23 : Below q2.heap.size q2 q3 := bel_go (bel_al (Below.refl _ _) _) hq3; have rb3 : Q9 q3 q2.heap.size (.int .i64 0) (.bool false) (.slice none 0 0) (.int .i64 0) (.bool false) (.bool false) (.bool false) (.bool false) (.bool false) := Q9.below (Q9.new q2 (.int .i64 0) (.bool false) (.slice none 0 0) (.int .i64 0) (.bool false) (.bool false) (.bool false) (.bool false) (.bool false) 31) hq3; have rb3' := rb3; obtain ⟨o0, o1, o2, o3, o4, o5, o6, o7, o8, g0, g1, g2, g3, g4, g5, g6, g7, g8⟩ := rb3')); have hB3 : Below w2.heap.size w2 q3 := bel_go hB2 hB23; have z3 := hB23.size; have u3 := And.intro P3.cs Q3.cs))
    all_goals (go_wp2_with fail; go_meet)
    · have hbk := hp3.block
      refine ⟨q3.heap.size, d3, f3, rfl, rfl, by omega, Q9.new q3 _ _ _ _ _ _ _ _ _ _, Own.base (hp3.alloc _) (by omega), ?_, bel_al hB3 _⟩
      intro g hg
      rcases hbk with ⟨e, _⟩ | ⟨g', e, h5, h6⟩
      · rw [e] at hg; cases hg
      · rw [e] at hg; cases hg; omega
    · have hb3 : Own q3 (q2.heap.size + 1) d3 f3 L := (by simpa using hp3)
      have hbk := hb3.block
      refine ⟨q2.heap.size, d3, f3, rfl, rfl, by omega, Q9.set9 rb3 _ _ _ _ _ _ _ _ _, ?_, ?_, ?_⟩
      · refine Own.base (B := q2.heap.size + 1) ?_ (by omega)
        repeat (first | with_reducible exact hb3 | (with_reducible refine Own.setBelow ?_ ?_ _; rotate_left; (simp; try omega)))
      · intro g hg
        rcases hbk with ⟨e, _⟩ | ⟨g', e, h5, h6⟩
        · rw [e] at hg; cases hg
        · rw [e] at hg; cases hg; omega
      · refine Below.setCell (Below.setCell (Below.setCell (Below.setCell (Below.setCell (Below.setCell (Below.setCell (Below.setCell (Below.setCell hB3 ?_ _) ?_ _) ?_ _) ?_ _) ?_ _) ?_ _) ?_ _) ?_ _) ?_ _ <;> (simp; try omega)
    · have hlt := rb2.lt
      have hbk := hp3.block
      refine ⟨q1.heap.size, d3, f3, rfl, rfl, by omega, Q9.set9 rb3 _ _ _ _ _ _ _ _ _, ?_, ?_, ?_⟩
      · refine Own.base (B := q2.heap.size) ?_ (by omega)
        repeat (first | with_reducible exact hp3 | (with_reducible refine Own.setBelow ?_ ?_ _; rotate_left; (simp; try omega)))
      · intro g hg
        rcases hbk with ⟨e, _⟩ | ⟨g', e, h5, h6⟩
        · rw [e] at hg; cases hg
        · rw [e] at hg; cases hg; omega
      · refine Below.setCell (Below.setCell (Below.setCell (Below.setCell (Below.setCell (Below.setCell (Below.setCell (Below.setCell (Below.setCell hB3 ?_ _) ?_ _) ?_ _) ?_ _) ?_ _) ?_ _) ?_ _) ?_ _) ?_ _ <;> (simp; try omega)
    · have hlt := rb1.lt
      have hbk := hp3.block
      refine ⟨w2.heap.size, d3, f3, rfl, rfl, by omega, Q9.set9 rb3 _ _ _ _ _ _ _ _ _, ?_, ?_, ?_⟩
      · refine Own.base (B := q2.heap.size) ?_ (by omega)
        repeat (first | with_reducible exact hp3 | (with_reducible refine Own.setBelow ?_ ?_ _; rotate_left; (simp; try omega)))
      · intro g hg
        rcases hbk with ⟨e, _⟩ | ⟨g', e, h5, h6⟩
        · rw [e] at hg; cases hg
        · rw [e] at hg; cases hg; omega
      · refine Below.setCell (Below.setCell (Below.setCell (Below.setCell (Below.setCell (Below.setCell (Below.setCell (Below.setCell (Below.setCell hB3 ?_ _) ?_ _) ?_ _) ?_ _) ?_ _) ?_ _) ?_ _) ?_ _) ?_ _ <;> (simp; try omega)
  case rest =>
  rename World => w3
  obtain ⟨ps, a3, k3, rfl, rfl, hps, S, ho3, hap3, hb3⟩ := hcut
  have ho3b := ho3.block
  have lS := S.lt
  replace P := (P.below hb3)
  replace Q := (Q.below hb3)
  replace sx := (sx.below hb3)
  replace sy := (sy.below hb3)
  have bel_hb3 := bel_go bel_hb2 hb3
  have sz_hb3 := hb3.size
  clear bel_hb2
  obtain ⟨c0, c1, c2, c3, c4, c5, c6, c7, c8⟩ := P.cs
  go_wp2_with fail
  refine (toA_any fm ng T nn bd pl mi am _ zs _ sx hnx).mono ?_
  rintro e w4 ⟨a4, k4, rfl, ho4, hb4⟩
  have ho4b := fun g hg => ho4.at zs.length k4 g hg
  clear c0 c1 c2 c3 c4 c5 c6 c7 c8
  replace P := (P.below hb4).alloc (.cells #[.int .i64 fm, .bool ng, .slice a4 zs.length k4, .int .i64 T, .bool nn, .bool bd, .bool pl, .bool mi, .bool am] 31)
  replace Q := (Q.below hb4).alloc (.cells #[.int .i64 fm, .bool ng, .slice a4 zs.length k4, .int .i64 T, .bool nn, .bool bd, .bool pl, .bool mi, .bool am] 31)
  replace S := (S.below hb4).alloc (.cells #[.int .i64 fm, .bool ng, .slice a4 zs.length k4, .int .i64 T, .bool nn, .bool bd, .bool pl, .bool mi, .bool am] 31)
  replace sx := (sx.below hb4).alloc (.cells #[.int .i64 fm, .bool ng, .slice a4 zs.length k4, .int .i64 T, .bool nn, .bool bd, .bool pl, .bool mi, .bool am] 31)
  replace sy := (sy.below hb4).alloc (.cells #[.int .i64 fm, .bool ng, .slice a4 zs.length k4, .int .i64 T, .bool nn, .bool bd, .bool pl, .bool mi, .bool am] 31)
  replace ho3 := (ho3.below hb4).alloc (.cells #[.int .i64 fm, .bool ng, .slice a4 zs.length k4, .int .i64 T, .bool nn, .bool bd, .bool pl, .bool mi, .bool am] 31)
  have bel_hb4 := bel_al (bel_go bel_hb3 hb4) (.cells #[.int .i64 fm, .bool ng, .slice a4 zs.length k4, .int .i64 T, .bool nn, .bool bd, .bool pl, .bool mi, .bool am] 31)
  have sz_hb4 := hb4.size
  clear bel_hb3
  have X := Q9.new w4 (.int .i64 fm) (.bool ng) (.slice a4 zs.length k4) (.int .i64 T) (.bool nn) (.bool bd) (.bool pl) (.bool mi) (.bool am) 31
  replace ho4 := ho4.alloc (.cells #[.int .i64 fm, .bool ng, .slice a4 zs.length k4, .int .i64 T, .bool nn, .bool bd, .bool pl, .bool mi, .bool am] 31)
  obtain ⟨c0, c1, c2, c3, c4, c5, c6, c7, c8⟩ := Q.cs
  go_wp2_with fail
  refine (toA_any fmq ngq Tq nnq bdq plq miq amq _ ys _ sy hny).mono ?_
  rintro e w5 ⟨a5, k5, rfl, ho5, hb5⟩
  have ho5b := fun g hg => ho5.at ys.length k5 g hg
  clear c0 c1 c2 c3 c4 c5 c6 c7 c8
  replace P := (P.below hb5).alloc (.cells #[.int .i64 fmq, .bool ngq, .slice a5 ys.length k5, .int .i64 Tq, .bool nnq, .bool bdq, .bool plq, .bool miq, .bool amq] 31)
  replace Q := (Q.below hb5).alloc (.cells #[.int .i64 fmq, .bool ngq, .slice a5 ys.length k5, .int .i64 Tq, .bool nnq, .bool bdq, .bool plq, .bool miq, .bool amq] 31)
  replace S := (S.below hb5).alloc (.cells #[.int .i64 fmq, .bool ngq, .slice a5 ys.length k5, .int .i64 Tq, .bool nnq, .bool bdq, .bool plq, .bool miq, .bool amq] 31)
  replace X := (X.below hb5).alloc (.cells #[.int .i64 fmq, .bool ngq, .slice a5 ys.length k5, .int .i64 Tq, .bool nnq, .bool bdq, .bool plq, .bool miq, .bool amq] 31)
  replace sx := (sx.below hb5).alloc (.cells #[.int .i64 fmq, .bool ngq, .slice a5 ys.length k5, .int .i64 Tq, .bool nnq, .bool bdq, .bool plq, .bool miq, .bool amq] 31)
  replace sy := (sy.below hb5).alloc (.cells #[.int .i64 fmq, .bool ngq, .slice a5 ys.length k5, .int .i64 Tq, .bool nnq, .bool bdq, .bool plq, .bool miq, .bool amq] 31)
  replace ho3 := (ho3.below hb5).alloc (.cells #[.int .i64 fmq, .bool ngq, .slice a5 ys.length k5, .int .i64 Tq, .bool nnq, .bool bdq, .bool plq, .bool miq, .bool amq] 31)
  replace ho4 := (ho4.below hb5).alloc (.cells #[.int .i64 fmq, .bool ngq, .slice a5 ys.length k5, .int .i64 Tq, .bool nnq, .bool bdq, .bool plq, .bool miq, .bool amq] 31)
  have bel_hb5 := bel_al (bel_go bel_hb4 hb5) (.cells #[.int .i64 fmq, .bool ngq, .slice a5 ys.length k5, .int .i64 Tq, .bool nnq, .bool bdq, .bool plq, .bool miq, .bool amq] 31)
  have sz_hb5 := hb5.size
  clear bel_hb4
  have Y := Q9.new w5 (.int .i64 fmq) (.bool ngq) (.slice a5 ys.length k5) (.int .i64 Tq) (.bool nnq) (.bool bdq) (.bool plq) (.bool miq) (.bool amq) 31
  replace ho5 := ho5.alloc (.cells #[.int .i64 fmq, .bool ngq, .slice a5 ys.length k5, .int .i64 Tq, .bool nnq, .bool bdq, .bool plq, .bool miq, .bool amq] 31)
  obtain ⟨c0, c1, c2, c3, c4, c5, c6, c7, c8⟩ := X.cs
  obtain ⟨d0, d1, d2, d3, d4, d5, d6, d7, d8⟩ := Y.cs
  go_wp2_with fail
  refine (HIM.out _ a4 a5 k4 k5 (hT.below bel_hb5) ho4.sl ho5.sl).mono ?_
  rintro e w6 ⟨a6, k6, rfl, ho6, hb6⟩
  have ho6b := fun g hg => ho6.at L.length k6 g hg
  have ho6c := ho6.block
  clear c0 c1 c2 c3 c4 c5 c6 c7 c8 d0 d1 d2 d3 d4 d5 d6 d7 d8
  replace P := (P.below hb6).alloc (.cells #[.int .i64 fmr, .bool ngr, .slice a6 L.length k6, .int .i64 Tr, .bool nnr, .bool bdr, .bool plr, .bool mir, .bool amr] 31)
  replace Q := (Q.below hb6).alloc (.cells #[.int .i64 fmr, .bool ngr, .slice a6 L.length k6, .int .i64 Tr, .bool nnr, .bool bdr, .bool plr, .bool mir, .bool amr] 31)
  replace S := (S.below hb6).alloc (.cells #[.int .i64 fmr, .bool ngr, .slice a6 L.length k6, .int .i64 Tr, .bool nnr, .bool bdr, .bool plr, .bool mir, .bool amr] 31)
  replace X := (X.below hb6).alloc (.cells #[.int .i64 fmr, .bool ngr, .slice a6 L.length k6, .int .i64 Tr, .bool nnr, .bool bdr, .bool plr, .bool mir, .bool amr] 31)
  replace Y := (Y.below hb6).alloc (.cells #[.int .i64 fmr, .bool ngr, .slice a6 L.length k6, .int .i64 Tr, .bool nnr, .bool bdr, .bool plr, .bool mir, .bool amr] 31)
  replace sx := (sx.below hb6).alloc (.cells #[.int .i64 fmr, .bool ngr, .slice a6 L.length k6, .int .i64 Tr, .bool nnr, .bool bdr, .bool plr, .bool mir, .bool amr] 31)
  replace sy := (sy.below hb6).alloc (.cells #[.int .i64 fmr, .bool ngr, .slice a6 L.length k6, .int .i64 Tr, .bool nnr, .bool bdr, .bool plr, .bool mir, .bool amr] 31)
  replace ho3 := (ho3.below hb6).alloc (.cells #[.int .i64 fmr, .bool ngr, .slice a6 L.length k6, .int .i64 Tr, .bool nnr, .bool bdr, .bool plr, .bool mir, .bool amr] 31)
  replace ho4 := (ho4.below hb6).alloc (.cells #[.int .i64 fmr, .bool ngr, .slice a6 L.length k6, .int .i64 Tr, .bool nnr, .bool bdr, .bool plr, .bool mir, .bool amr] 31)
  replace ho5 := (ho5.below hb6).alloc (.cells #[.int .i64 fmr, .bool ngr, .slice a6 L.length k6, .int .i64 Tr, .bool nnr, .bool bdr, .bool plr, .bool mir, .bool amr] 31)
  have bel_hb6 := bel_al (bel_go bel_hb5 hb6) (.cells #[.int .i64 fmr, .bool ngr, .slice a6 L.length k6, .int .i64 Tr, .bool nnr, .bool bdr, .bool plr, .bool mir, .bool amr] 31)
  have sz_hb6 := hb6.size
  clear bel_hb5
  have G := Q9.new w6 (.int .i64 fmr) (.bool ngr) (.slice a6 L.length k6) (.int .i64 Tr) (.bool nnr) (.bool bdr) (.bool plr) (.bool mir) (.bool amr) 31
  replace ho6 := ho6.alloc (.cells #[.int .i64 fmr, .bool ngr, .slice a6 L.length k6, .int .i64 Tr, .bool nnr, .bool bdr, .bool plr, .bool mir, .bool amr] 31)
  obtain ⟨c0, c1, c2, c3, c4, c5, c6, c7, c8⟩ := G.cs
  obtain ⟨d0, d1, d2, d3, d4, d5, d6, d7, d8⟩ := S.cs
  go_wp2_with fail
  refine (eqA_same fmr ngr Tr nnr bdr plr mir amr a6 a3 k6 k3 L _ ho6.sl ho3.sl (by omega)).mono ?_
  rintro e w7 ⟨rfl, hb7⟩
  clear c0 c1 c2 c3 c4 c5 c6 c7 c8 d0 d1 d2 d3 d4 d5 d6 d7 d8
  replace P := (P.below hb7)
  replace Q := (Q.below hb7)
  replace S := (S.below hb7)
  replace X := (X.below hb7)
  replace Y := (Y.below hb7)
  replace G := (G.below hb7)
  replace sx := (sx.below hb7)
  replace sy := (sy.below hb7)
  replace ho3 := (ho3.below hb7)
  replace ho4 := (ho4.below hb7)
  replace ho5 := (ho5.below hb7)
  replace ho6 := (ho6.below hb7)
  have bel_hb7 := bel_go bel_hb6 hb7
  have sz_hb7 := hb7.size
  clear bel_hb6
  have cx := P.drew.cs
  have cy := X.drew.cs
  go_wp2_with fail
  go_region_held3 (fun w' => (w'.cell? ⟨w.heap.size, 0, none⟩ = some (.int .i64 fm) ∧ w'.cell? ⟨w.heap.size, 1, none⟩ = some (.bool ng) ∧ w'.cell? ⟨w.heap.size, 2, none⟩ = some (.slice a zs.length cap) ∧ w'.cell? ⟨w.heap.size, 3, none⟩ = some (.int .i64 T) ∧ w'.cell? ⟨w.heap.size, 4, none⟩ = some (.bool nn) ∧ w'.cell? ⟨w.heap.size, 5, none⟩ = some (.bool bd) ∧ w'.cell? ⟨w.heap.size, 6, none⟩ = some (.bool pl) ∧ w'.cell? ⟨w.heap.size, 7, none⟩ = some (.bool mi) ∧ w'.cell? ⟨w.heap.size, 8, none⟩ = some (.bool am)) ∧ (w'.cell? ⟨w4.heap.size, 0, none⟩ = some (.int .i64 fm) ∧ w'.cell? ⟨w4.heap.size, 1, none⟩ = some (.bool ng) ∧ w'.cell? ⟨w4.heap.size, 2, none⟩ = some (.slice a4 zs.length k4) ∧ w'.cell? ⟨w4.heap.size, 3, none⟩ = some (.int .i64 T) ∧ w'.cell? ⟨w4.heap.size, 4, none⟩ = some (.bool nn) ∧ w'.cell? ⟨w4.heap.size, 5, none⟩ = some (.bool bd) ∧ w'.cell? ⟨w4.heap.size, 6, none⟩ = some (.bool pl) ∧ w'.cell? ⟨w4.heap.size, 7, none⟩ = some (.bool mi) ∧ w'.cell? ⟨w4.heap.size, 8, none⟩ = some (.bool am))) (first | with_reducible assumption | with_reducible exact ⟨cx, cy⟩)
    (first
      | (go_at_call 10; refine (toA_any fm ng T nn bd pl mi am (.slice a zs.length cap) zs _ sx.drew hnx).mono ?_; rintro e w8 ⟨e1, e2, rfl, he1, hb8⟩; have four := And.intro (P.drew.below hb8).cs (X.drew.below hb8).cs; have hoz := ho4.drew.below hb8)
      | (go_at_call 12; refine (eqA_same fm ng T nn bd pl mi am a4 e1 k4 e2 zs _ hoz.sl he1.sl (by omega)).mono ?_; rintro e w9 ⟨rfl, hb9⟩; have f8 := And.intro ((P.drew.below hb8).below hb9).cs ((X.drew.below hb8).below hb9).cs))
  have hbew9 : Below w7.heap.size w7 w9 := bel_go (bel_go (Below.drew (Below.refl _ _)) hb8) hb9
  clear f8 four he1 hoz cx cy
  replace P := (P.below hbew9)
  replace Q := (Q.below hbew9)
  replace S := (S.below hbew9)
  replace X := (X.below hbew9)
  replace Y := (Y.below hbew9)
  replace G := (G.below hbew9)
  replace sx := (sx.below hbew9)
  replace sy := (sy.below hbew9)
  replace ho3 := (ho3.below hbew9)
  replace ho4 := (ho4.below hbew9)
  replace ho5 := (ho5.below hbew9)
  replace ho6 := (ho6.below hbew9)
  have bel_hbew9 := bel_go bel_hb7 hbew9
  have sz_hbew9 := hbew9.size
  clear bel_hb7
  have cx := Q.drew.cs
  have cy := Y.drew.cs
  go_wp2_with fail
  go_region_held3 (fun w' => (w'.cell? ⟨w.heap.size + 1, 0, none⟩ = some (.int .i64 fmq) ∧ w'.cell? ⟨w.heap.size + 1, 1, none⟩ = some (.bool ngq) ∧ w'.cell? ⟨w.heap.size + 1, 2, none⟩ = some (.slice b ys.length cap') ∧ w'.cell? ⟨w.heap.size + 1, 3, none⟩ = some (.int .i64 Tq) ∧ w'.cell? ⟨w.heap.size + 1, 4, none⟩ = some (.bool nnq) ∧ w'.cell? ⟨w.heap.size + 1, 5, none⟩ = some (.bool bdq) ∧ w'.cell? ⟨w.heap.size + 1, 6, none⟩ = some (.bool plq) ∧ w'.cell? ⟨w.heap.size + 1, 7, none⟩ = some (.bool miq) ∧ w'.cell? ⟨w.heap.size + 1, 8, none⟩ = some (.bool amq)) ∧ (w'.cell? ⟨w5.heap.size, 0, none⟩ = some (.int .i64 fmq) ∧ w'.cell? ⟨w5.heap.size, 1, none⟩ = some (.bool ngq) ∧ w'.cell? ⟨w5.heap.size, 2, none⟩ = some (.slice a5 ys.length k5) ∧ w'.cell? ⟨w5.heap.size, 3, none⟩ = some (.int .i64 Tq) ∧ w'.cell? ⟨w5.heap.size, 4, none⟩ = some (.bool nnq) ∧ w'.cell? ⟨w5.heap.size, 5, none⟩ = some (.bool bdq) ∧ w'.cell? ⟨w5.heap.size, 6, none⟩ = some (.bool plq) ∧ w'.cell? ⟨w5.heap.size, 7, none⟩ = some (.bool miq) ∧ w'.cell? ⟨w5.heap.size, 8, none⟩ = some (.bool amq))) (first | with_reducible assumption | with_reducible exact ⟨cx, cy⟩)
    (first
      | (go_at_call 10; refine (toA_any fmq ngq Tq nnq bdq plq miq amq (.slice b ys.length cap') ys _ sy.drew hny).mono ?_; rintro e w10 ⟨e1, e2, rfl, he1, hb10⟩; have four := And.intro (Q.drew.below hb10).cs (Y.drew.below hb10).cs; have hoz := ho5.drew.below hb10)
      | (go_at_call 12; refine (eqA_same fmq ngq Tq nnq bdq plq miq amq a5 e1 k5 e2 ys _ hoz.sl he1.sl (by omega)).mono ?_; rintro e w11 ⟨rfl, hb11⟩; have f8 := And.intro ((Q.drew.below hb10).below hb11).cs ((Y.drew.below hb10).below hb11).cs))
  have hbew11 : Below w9.heap.size w9 w11 := bel_go (bel_go (Below.drew (Below.refl _ _)) hb10) hb11
  clear f8 four he1 hoz cx cy
  replace P := (P.below hbew11)
  replace Q := (Q.below hbew11)
  replace S := (S.below hbew11)
  replace X := (X.below hbew11)
  replace Y := (Y.below hbew11)
  replace G := (G.below hbew11)
  replace sx := (sx.below hbew11)
  replace sy := (sy.below hbew11)
  replace ho3 := (ho3.below hbew11)
  replace ho4 := (ho4.below hbew11)
  replace ho5 := (ho5.below hbew11)
  replace ho6 := (ho6.below hbew11)
  have bel_hbew11 := bel_go bel_hbew9 hbew11
  have sz_hbew11 := hbew11.size
  clear bel_hbew9
  have z3a : w2.heap.size ≤ w3.heap.size := sz_hb3
  have z4a : w3.heap.size ≤ w4.heap.size := sz_hb4
  have z5a : w4.heap.size < w5.heap.size := by have := sz_hb5; simp at this; omega
  have z6a : w5.heap.size < w6.heap.size := by have := sz_hb6; simp at this; omega
  have lG := G.lt
  have lP := P.lt
  have la4 : ∀ g, (Value.slice a4 zs.length k4).ownBlock = some g → w3.heap.size ≤ g ∧ g < w4.heap.size := ho4b
  have la5 : ∀ g, (Value.slice a5 ys.length k5).ownBlock = some g → w4.heap.size < g ∧ g < w5.heap.size := fun g hg => by have := ho5b g hg; simp at this; omega
  have la6 : ∀ g, (Value.slice a6 L.length k6).ownBlock = some g → w5.heap.size < g ∧ g < w6.heap.size := fun g hg => by have := ho6b g hg; simp at this; omega
  have lb3 : ∀ g, a3 = some ⟨g, 0, none⟩ → g < w3.heap.size := fun g hg => by
    rcases ho3b with ⟨e, _⟩ | ⟨g', e, _, h3⟩
    · rw [e] at hg; cases hg
    · rw [e] at hg; cases hg; exact h3
  have lb5 : ∀ g, a5 = some ⟨g, 0, none⟩ → w4.heap.size < g ∧ g < w5.heap.size := fun g hg => la5 g (by rw [hg]; rfl)
  have lb6 : ∀ g, a6 = some ⟨g, 0, none⟩ → w5.heap.size < g ∧ g < w6.heap.size := fun g hg => la6 g (by rw [hg]; rfl)
  have lw2 : w.heap.size + 1 < w2.heap.size := lQ
  clear ho4b ho5b ho6b ho3b ho6c sz_hb3 sz_hb4 sz_hb5 sz_hb6 sz_hb7 sz_hbew9 sz_hbew11 sz_hb1 sz_hb2
  obtain ⟨c0, c1, c2, c3, c4, c5, c6, c7, c8⟩ := X.cs
  go_wp2_with fail
  refine (markA_any fm ng T nn bd pl mi am a4 k4 zs 1 _ _ ho4 hnx (by decide) (by decide)).mono ?_
  rintro e w12 ⟨rfl, hm4, hg12⟩
  clear hm4 ho4 sx sy
  clear c0 c1 c2 c3 c4 c5 c6 c7 c8
  replace P := P.grown hg12 (fun g hg => by have := la4 g hg; omega)
  replace Q := Q.grown hg12 (fun g hg => by have := la4 g hg; omega)
  replace S := S.grown hg12 (fun g hg => by have := la4 g hg; omega)
  replace X := X.grown hg12 (fun g hg => by have := la4 g hg; omega)
  replace Y := Y.grown hg12 (fun g hg => by have := la4 g hg; omega)
  replace G := G.grown hg12 (fun g hg => by have := la4 g hg; omega)
  replace ho3 := ho3.kept hg12 (fun g hg hr => by have h2 := la4 g hr; have h3 := lb3 g hg; omega)
  replace ho5 := ho5.kept hg12 (fun g hg hr => by have h2 := la4 g hr; have h3 := lb5 g hg; omega)
  replace ho6 := ho6.kept hg12 (fun g hg hr => by have h2 := la4 g hr; have h3 := lb6 g hg; omega)
  have bel12 : Below w.heap.size w w12 := bel_mark bel_hbew11 hg12 (fun g hg => by have := la4 g hg; omega)
  clear bel_hbew11
  obtain ⟨c0, c1, c2, c3, c4, c5, c6, c7, c8⟩ := Y.cs
  go_wp2_with fail
  refine (markA_any fmq ngq Tq nnq bdq plq miq amq a5 k5 ys (1 + zs.length) _ _ ho5 hny (by omega) (by omega)).mono ?_
  rintro e w13 ⟨rfl, hm5, hg13⟩
  clear hm5 ho5
  clear c0 c1 c2 c3 c4 c5 c6 c7 c8
  replace P := P.grown hg13 (fun g hg => by have := la5 g hg; omega)
  replace Q := Q.grown hg13 (fun g hg => by have := la5 g hg; omega)
  replace S := S.grown hg13 (fun g hg => by have := la5 g hg; omega)
  replace X := X.grown hg13 (fun g hg => by have := la5 g hg; omega)
  replace Y := Y.grown hg13 (fun g hg => by have := la5 g hg; omega)
  replace G := G.grown hg13 (fun g hg => by have := la5 g hg; omega)
  replace ho3 := ho3.kept hg13 (fun g hg hr => by have h2 := la5 g hr; have h3 := lb3 g hg; omega)
  replace ho6 := ho6.kept hg13 (fun g hg hr => by have h2 := la5 g hr; have h3 := lb6 g hg; omega)
  have bel13 : Below w.heap.size w w13 := bel_mark bel12 hg13 (fun g hg => by have := la5 g hg; omega)
  clear bel12 X Y
  have hk0 : ¬ ((1 : Int) + zs.length + ys.length < 0) := by omega
  obtain ⟨c0, c1, c2, c3, c4, c5, c6, c7, c8⟩ := G.cs
  obtain ⟨d0, d1, d2, d3, d4, d5, d6, d7, d8⟩ := S.cs
  go_wp2_with fail
  refine (eqA_same fmr ngr Tr nnr bdr plr mir amr a6 a3 k6 k3 L _ ho6.sl ho3.sl (by omega)).mono ?_
  rintro e w14 ⟨rfl, hb14⟩
  clear c0 c1 c2 c3 c4 c5 c6 c7 c8 d0 d1 d2 d3 d4 d5 d6 d7 d8
  replace P := (P.below hb14)
  replace Q := (Q.below hb14)
  replace S := (S.below hb14)
  replace G := (G.below hb14)
  replace ho3 := (ho3.below hb14)
  replace ho6 := (ho6.below hb14)
  have bel_hb14 := bel_go bel13 hb14
  have sz_hb14 := hb14.size
  clear bel13
  obtain ⟨c0, c1, c2, c3, c4, c5, c6, c7, c8⟩ := G.cs
  go_wp2_with fail
  refine (markA_any fmr ngr Tr nnr bdr plr mir amr a6 k6 L 1 _ _ ho6 (by omega) (by decide) (by decide)).mono ?_
  rintro e w15 ⟨rfl, hm6, hg15⟩
  clear ho6
  clear c0 c1 c2 c3 c4 c5 c6 c7 c8
  replace P := P.grown hg15 (fun g hg => by have := la6 g hg; omega)
  replace Q := Q.grown hg15 (fun g hg => by have := la6 g hg; omega)
  replace S := S.grown hg15 (fun g hg => by have := la6 g hg; omega)
  replace G := G.grown hg15 (fun g hg => by have := la6 g hg; omega)
  replace ho3 := ho3.kept hg15 (fun g hg hr => by have h2 := la6 g hr; have h3 := lb3 g hg; omega)
  have bel15 : Below w.heap.size w w15 := bel_mark bel_hb14 hg15 (fun g hg => by have := la6 g hg; omega)
  clear bel_hb14
  have sx := hx.below bel15
  have sy := hy.below bel15
  have HEI := hid (iot_length 1 L.length)
  have hdI := iot_dg L.length (by omega)
  obtain ⟨c0, c1, c2, c3, c4, c5, c6, c7, c8⟩ := G.cs
  go_wp2_with fail
  have cc := heldA_any fmr ngr Tr nnr bdr plr mir amr a6 k6 (iot 1 L.length) 1 w15 hm6.sl hdI (by rw [HEI.out]; omega) (by decide) (by decide)
  rw [HEI.out, HR.out] at cc
  refine cc.mono ?_
  clear cc
  rintro e w16 ⟨rfl, hb16⟩
  clear c0 c1 c2 c3 c4 c5 c6 c7 c8
  replace P := (P.below hb16)
  replace Q := (Q.below hb16)
  replace S := (S.below hb16)
  replace G := (G.below hb16)
  replace ho3 := (ho3.below hb16)
  replace hm6 := (hm6.below hb16)
  replace sx := (sx.below hb16)
  replace sy := (sy.below hb16)
  have bel_hb16 := bel_go bel15 hb16
  have sz_hb16 := hb16.size
  clear bel15
  have hne : ((1 : Int) + L.length != 1 + L.length) = false := by simp
  have hq0 : ¬ ((1 : Int) + L.length < 0) := by omega
  clear lP lQ
  go_upto_region 31 with fail
  have lP := P.lt
  have lQ := Q.lt
  go_cut [15, 16] (fun v6 v7 wx => ∃ p : Nat, ∃ a' c', v6 = .pointer (some ⟨p, 0, none⟩) ∧ v7 = .int .i64 O ∧ w16.heap.size ≤ p ∧ Q9 wx p (.int .i64 fmr) (.bool ngr) (.slice a' L.length c') (.int .i64 Tr) (.bool nnr) (.bool bdr) (.bool plr) (.bool mir) (.bool amr) ∧ Own wx w16.heap.size a' c' L ∧ (∀ g, a' = some ⟨g, 0, none⟩ → g ≠ p) ∧ Below w16.heap.size w16 wx)
  case first =>
    have ctd := P.drew.cs
    have cod := Q.drew.cs
    have alP := (P.alloc (.cells #[.int .i64 0, .bool false, .slice none 0 0, .int .i64 0, .bool false, .bool false, .bool false, .bool false, .bool false] 31)).drew.cs
    have alQ := (Q.alloc (.cells #[.int .i64 0, .bool false, .slice none 0 0, .int .i64 0, .bool false, .bool false, .bool false, .bool false, .bool false] 31)).drew.cs
    go_region_held3 (fun w' => (w'.cell? ⟨w.heap.size, 0, none⟩ = some (.int .i64 fm) ∧ w'.cell? ⟨w.heap.size, 1, none⟩ = some (.bool ng) ∧ w'.cell? ⟨w.heap.size, 2, none⟩ = some (.slice a zs.length cap) ∧ w'.cell? ⟨w.heap.size, 3, none⟩ = some (.int .i64 T) ∧ w'.cell? ⟨w.heap.size, 4, none⟩ = some (.bool nn) ∧ w'.cell? ⟨w.heap.size, 5, none⟩ = some (.bool bd) ∧ w'.cell? ⟨w.heap.size, 6, none⟩ = some (.bool pl) ∧ w'.cell? ⟨w.heap.size, 7, none⟩ = some (.bool mi) ∧ w'.cell? ⟨w.heap.size, 8, none⟩ = some (.bool am)) ∧ (w'.cell? ⟨w.heap.size + 1, 0, none⟩ = some (.int .i64 fmq) ∧ w'.cell? ⟨w.heap.size + 1, 1, none⟩ = some (.bool ngq) ∧ w'.cell? ⟨w.heap.size + 1, 2, none⟩ = some (.slice b ys.length cap') ∧ w'.cell? ⟨w.heap.size + 1, 3, none⟩ = some (.int .i64 Tq) ∧ w'.cell? ⟨w.heap.size + 1, 4, none⟩ = some (.bool nnq) ∧ w'.cell? ⟨w.heap.size + 1, 5, none⟩ = some (.bool bdq) ∧ w'.cell? ⟨w.heap.size + 1, 6, none⟩ = some (.bool plq) ∧ w'.cell? ⟨w.heap.size + 1, 7, none⟩ = some (.bool miq) ∧ w'.cell? ⟨w.heap.size + 1, 8, none⟩ = some (.bool amq)))
      (first
        | with_reducible assumption
        | with_reducible exact ⟨ctd, cod⟩
        | with_reducible exact ⟨alP, alQ⟩
        | with_reducible exact ⟨(P3.alloc _).cs, (Q3.alloc _).cs⟩
        | with_reducible exact ⟨(P2.alloc _).cs, (Q2.alloc _).cs⟩
        | with_reducible exact ⟨(P1.alloc _).cs, (Q1.alloc _).cs⟩
        | with_reducible exact keep9b P3 Q3 (by omega) (by omega) _ _ _ _ _ _ _ _ _ _ rfl
        | with_reducible exact keep9b (P3.alloc _) (Q3.alloc _) (by omega) (by omega) _ _ _ _ _ _ _ _ _ _ rfl
        | fail)
      (first
        | (go_at_call_of 10 zs; refine (toA_any fm ng T nn bd pl mi am (.slice a zs.length cap) zs _ (by first | with_reducible exact sx.drew | with_reducible exact (sx.alloc _).drew) hnx).mono ?_; rintro e q1 ⟨d1, f1, rfl, hp1, hq1⟩; (first | (with_reducible have P1 := P.drew.below hq1; have Q1 := Q.drew.below hq1; have sy1 := sy.drew.below hq1; have hB1 : Below w16.heap.size w16 q1 := bel_go (Below.drew (Below.refl _ _)) hq1) | (have P1 := (P.alloc _).drew.below hq1; have Q1 := (Q.alloc _).drew.below hq1; have sy1 := (sy.alloc _).drew.below hq1; have hB1 : Below w16.heap.size w16 q1 := bel_go (Below.drew (bel_al (Below.refl _ _) _)) hq1; have rb1 : Q9 q1 w16.heap.size (.int .i64 0) (.bool false) (.slice none 0 0) (.int .i64 0) (.bool false) (.bool false) (.bool false) (.bool false) (.bool false) := Q9.below (Q9.new w16 (.int .i64 0) (.bool false) (.slice none 0 0) (.int .i64 0) (.bool false) (.bool false) (.bool false) (.bool false) (.bool false) 31).drew hq1)); have z1 := hB1.size; have u1 := And.intro P1.cs Q1.cs)
        | (go_at_call_of 10 ys; refine (toA_any fmq ngq Tq nnq bdq plq miq amq (.slice b ys.length cap') ys _ (by first | with_reducible exact sy1 | with_reducible exact sy1.alloc _) hny).mono ?_; rintro e q2 ⟨d2, f2, rfl, hp2, hq2⟩; (first | (with_reducible have P2 := P1.below hq2; have Q2 := Q1.below hq2; have hB12 : Below q1.heap.size q1 q2 := hq2; (first | (have rb2 := Q9.below rb1 hq2) | skip)) | (have P2 := (P1.alloc _).below hq2; have Q2 := (Q1.alloc _).below hq2; have hB12 : Below q1.heap.size q1 q2 := bel_go (bel_al (Below.refl _ _) _) hq2; have rb2 : Q9 q2 q1.heap.size (.int .i64 0) (.bool false) (.slice none 0 0) (.int .i64 0) (.bool false) (.bool false) (.bool false) (.bool false) (.bool false) := Q9.below (Q9.new q1 (.int .i64 0) (.bool false) (.slice none 0 0) (.int .i64 0) (.bool false) (.bool false) (.bool false) (.bool false) (.bool false) 31) hq2)); have hB2 : Below w16.heap.size w16 q2 := bel_go hB1 hB12; have z2 := hB12.size; have u2 := And.intro P2.cs Q2.cs)
        | (go_at_call 14; refine (HIM.out _ d1 d2 f1 f2 (hT.below (bel_go bel_hb16 (by first | with_reducible exact hB2 | with_reducible exact bel_al hB2 _))) (by first | with_reducible exact (hp1.below hB12).sl | with_reducible exact Sl.alloc (hp1.below hB12).sl _) (by first | with_reducible exact hp2.sl | with_reducible exact Sl.alloc hp2.sl _)).mono ?_; rintro e q3 ⟨d3, f3, rfl, hp3, hq3⟩; (first | (with_reducible have P3 := P2.below hq3; have Q3 := Q2.below hq3; have hB23 : Below q2.heap.size q2 q3 := hq3; (first | (have rb3 := Q9.below rb2 hq3; have rb3' := rb3; obtain ⟨o0, o1, o2, o3, o4, o5, o6, o7, o8, g0, g1, g2, g3, g4, g5, g6, g7, g8⟩ := rb3') | skip)) | (have P3 := (P2.alloc _).below hq3; have Q3 := (Q2.alloc _).below hq3; have hB23 : Below q2.heap.size q2 q3 := bel_go (bel_al (Below.refl _ _) _) hq3; have rb3 : Q9 q3 q2.heap.size (.int .i64 0) (.bool false) (.slice none 0 0) (.int .i64 0) (.bool false) (.bool false) (.bool false) (.bool false) (.bool false) := Q9.below (Q9.new q2 (.int .i64 0) (.bool false) (.slice none 0 0) (.int .i64 0) (.bool false) (.bool false) (.bool false) (.bool false) (.bool false) 31) hq3; have rb3' := rb3; obtain ⟨o0, o1, o2, o3, o4, o5, o6, o7, o8, g0, g1, g2, g3, g4, g5, g6, g7, g8⟩ := rb3')); have hB3 : Below w16.heap.size w16 q3 := bel_go hB2 hB23; have z3 := hB23.size; have u3 := And.intro P3.cs Q3.cs))
    all_goals (go_wp2_with fail; go_meet)
    · have hbk := hp3.block
      refine ⟨q3.heap.size, d3, f3, rfl, rfl, by omega, Q9.new q3 _ _ _ _ _ _ _ _ _ _, Own.base (hp3.alloc _) (by omega), ?_, bel_al hB3 _⟩
      intro g hg
      rcases hbk with ⟨e, _⟩ | ⟨g', e, h5, h6⟩
      · rw [e] at hg; cases hg
      · rw [e] at hg; cases hg; omega
    · have hb3 : Own q3 (q2.heap.size + 1) d3 f3 L := (by simpa using hp3)
      have hbk := hb3.block
      refine ⟨q2.heap.size, d3, f3, rfl, rfl, by omega, Q9.set9 rb3 _ _ _ _ _ _ _ _ _, ?_, ?_, ?_⟩
      · refine Own.base (B := q2.heap.size + 1) ?_ (by omega)
        repeat (first | with_reducible exact hb3 | (with_reducible refine Own.setBelow ?_ ?_ _; rotate_left; (simp; try omega)))
      · intro g hg
        rcases hbk with ⟨e, _⟩ | ⟨g', e, h5, h6⟩
        · rw [e] at hg; cases hg
        · rw [e] at hg; cases hg; omega
      · refine Below.setCell (Below.setCell (Below.setCell (Below.setCell (Below.setCell (Below.setCell (Below.setCell (Below.setCell (Below.setCell hB3 ?_ _) ?_ _) ?_ _) ?_ _) ?_ _) ?_ _) ?_ _) ?_ _) ?_ _ <;> (simp; try omega)
    · have hlt := rb2.lt
      have hbk := hp3.block
      refine ⟨q1.heap.size, d3, f3, rfl, rfl, by omega, Q9.set9 rb3 _ _ _ _ _ _ _ _ _, ?_, ?_, ?_⟩
      · refine Own.base (B := q2.heap.size) ?_ (by omega)
        repeat (first | with_reducible exact hp3 | (with_reducible refine Own.setBelow ?_ ?_ _; rotate_left; (simp; try omega)))
      · intro g hg
        rcases hbk with ⟨e, _⟩ | ⟨g', e, h5, h6⟩
        · rw [e] at hg; cases hg
        · rw [e] at hg; cases hg; omega
      · refine Below.setCell (Below.setCell (Below.setCell (Below.setCell (Below.setCell (Below.setCell (Below.setCell (Below.setCell (Below.setCell hB3 ?_ _) ?_ _) ?_ _) ?_ _) ?_ _) ?_ _) ?_ _) ?_ _) ?_ _ <;> (simp; try omega)
    · have hlt := rb1.lt
      have hbk := hp3.block
      refine ⟨w16.heap.size, d3, f3, rfl, rfl, by omega, Q9.set9 rb3 _ _ _ _ _ _ _ _ _, ?_, ?_, ?_⟩
      · refine Own.base (B := q2.heap.size) ?_ (by omega)
        repeat (first | with_reducible exact hp3 | (with_reducible refine Own.setBelow ?_ ?_ _; rotate_left; (simp; try omega)))
      · intro g hg
        rcases hbk with ⟨e, _⟩ | ⟨g', e, h5, h6⟩
        · rw [e] at hg; cases hg
        · rw [e] at hg; cases hg; omega
      · refine Below.setCell (Below.setCell (Below.setCell (Below.setCell (Below.setCell (Below.setCell (Below.setCell (Below.setCell (Below.setCell hB3 ?_ _) ?_ _) ?_ _) ?_ _) ?_ _) ?_ _) ?_ _) ?_ _) ?_ _ <;> (simp; try omega)
  case rest =>
  rename World => w17
  obtain ⟨ph, a7, k7, rfl, rfl, hph, H, ho7, hap7, hb17⟩ := hcut
  have lH := H.lt
  clear hap7
  clear P Q sx sy
  replace S := (S.below hb17)
  replace G := (G.below hb17)
  replace ho3 := (ho3.below hb17)
  replace hm6 := (hm6.below hb17)
  have bel_hb17 := bel_go bel_hb16 hb17
  have sz_hb17 := hb17.size
  clear bel_hb16
  obtain ⟨c0, c1, c2, c3, c4, c5, c6, c7, c8⟩ := H.cs
  obtain ⟨d0, d1, d2, d3, d4, d5, d6, d7, d8⟩ := S.cs
  go_wp2_with fail
  refine (eqA_same fmr ngr Tr nnr bdr plr mir amr a7 a3 k7 k3 L _ ho7.sl ho3.sl (by omega)).mono ?_
  rintro e w18 ⟨rfl, hb18⟩
  clear c0 c1 c2 c3 c4 c5 c6 c7 c8 d0 d1 d2 d3 d4 d5 d6 d7 d8
  replace S := (S.below hb18)
  replace G := (G.below hb18)
  replace H := (H.below hb18)
  replace ho3 := (ho3.below hb18)
  replace hm6 := (hm6.below hb18)
  replace ho7 := (ho7.below hb18)
  have bel_hb18 := bel_go bel_hb17 hb18
  have sz_hb18 := hb18.size
  clear bel_hb17
  obtain ⟨c0, c1, c2, c3, c4, c5, c6, c7, c8⟩ := G.cs
  go_wp2_with fail
  have cf := heldA_any fmr ngr Tr nnr bdr plr mir amr a6 k6 (iot 1 L.length) 1 w18 hm6.sl hdI (by rw [HEI.out]; omega) (by decide) (by decide)
  rw [HEI.out, HR.out] at cf
  refine cf.mono ?_
  clear cf
  rintro e w19 ⟨rfl, hb19⟩
  go_wp2
  go_ret
  exact ⟨rfl, bel_go bel_hb18 hb19⟩
/-- Accumulators that are too long for the law: it says nothing of them. -/
theorem long (fm : Int) (ng : Bool) (T : Int) (nn bd pl mi am : Bool) (fmq : Int) (ngq : Bool) (Tq : Int) (nnq bdq plq miq amq : Bool) (a b : Option Addr) (cap cap' : Nat) (zs ys : List Int) (w : World) (hx : Sl .u32 w (.slice a zs.length cap) zs) (hy : Sl .u32 w (.slice b ys.length cap') ys) (hsum : ¬ zs.length + ys.length ≤ 1048576) :
    Calls Tryd.prog 4 #[.agg #[.int .i64 fm, .bool ng, .slice a zs.length cap, .int .i64 T, .bool nn, .bool bd, .bool pl, .bool mi, .bool am], .agg #[.int .i64 fmq, .bool ngq, .slice b ys.length cap', .int .i64 Tq, .bool nnq, .bool bdq, .bool plq, .bool miq, .bool amq]] w fun e w' => e = .returned (.bool true) ∧ Below w.heap.size w w' := by
  have hlx : zs.length ≤ 9223372036854775807 := by obtain ⟨_, h1, h2, _⟩ := hx.cells; unfold maxLen at h2; omega
  have hly : ys.length ≤ 9223372036854775807 := by obtain ⟨_, h1, h2, _⟩ := hy.cells; unfold maxLen at h2; omega
  by_cases hn : zs.length ≤ 1048576
  · have hr1 : szR 1048576 zs.length = 1048576 - zs.length := by unfold szR; rw [if_neg (by omega)]
    have hr2 : szR (1048576 - zs.length) ys.length < 0 := by unfold szR; rw [if_pos (by omega)]; decide
    have HS1 := hid hr1
    clear hr1
    go_enter Tryd.func4, Tryd.ntmps4
    have Q : Q9 ((w.alloc (.cells #[.int .i64 fm, .bool ng, .slice a zs.length cap, .int .i64 T, .bool nn, .bool bd, .bool pl, .bool mi, .bool am] 26)).alloc (.cells #[.int .i64 fmq, .bool ngq, .slice b ys.length cap', .int .i64 Tq, .bool nnq, .bool bdq, .bool plq, .bool miq, .bool amq] 26)) (w.heap.size + 1) (.int .i64 fmq) (.bool ngq) (.slice b ys.length cap') (.int .i64 Tq) (.bool nnq) (.bool bdq) (.bool plq) (.bool miq) (.bool amq) := by simpa using Q9.new (w.alloc (.cells #[.int .i64 fm, .bool ng, .slice a zs.length cap, .int .i64 T, .bool nn, .bool bd, .bool pl, .bool mi, .bool am] 26)) (.int .i64 fmq) (.bool ngq) (.slice b ys.length cap') (.int .i64 Tq) (.bool nnq) (.bool bdq) (.bool plq) (.bool miq) (.bool amq) 26
    go_wp2_with fail
    have cs1 := fun W => szA_any fm ng T nn bd pl mi am a zs.length cap 1048576 W hlx (by decide) (by decide)
    simp only [HS1.out] at cs1
    refine (cs1 _).mono ?_
    clear cs1
    rintro e w1 ⟨rfl, hb1⟩
    obtain ⟨c0, c1, c2, c3, c4, c5, c6, c7, c8⟩ := (Q.below hb1).cs
    go_wp2_with fail
    refine (szA_any fmq ngq Tq nnq bdq plq miq amq b ys.length cap' (1048576 - zs.length) _ hly (by omega) (by omega)).mono ?_
    rintro e w2 ⟨rfl, hb2⟩
    go_wp2
    go_ret
    exact ⟨rfl, (by repeat (first | exact Below.refl _ _ | refine Below.drew ?_ | refine bel_dn ?_ _ | refine bel_al ?_ _ | refine bel_go ?_ hb2 | refine bel_go ?_ hb1 | refine Below.setCell ?_ (by first | omega | (simp; done) | (simp; omega)) _ | refine Below.alloc ?_ (by first | omega | (simp; done) | (simp; omega)) _ | refine Below.trans ?_ (Below.mono hb2 (by first | omega | (simp; done) | (simp; omega))) | refine Below.trans ?_ (Below.mono hb1 (by first | omega | (simp; done) | (simp; omega)))))⟩
  · have hr' : szR 1048576 zs.length < 0 := by unfold szR; rw [if_pos (by omega)]; decide
    go_enter Tryd.func4, Tryd.ntmps4
    go_wp2_with fail
    refine (szA_any fm ng T nn bd pl mi am a zs.length cap 1048576 _ hlx (by decide) (by decide)).mono ?_
    rintro e w1 ⟨rfl, hb1⟩
    go_wp2
    go_ret
    exact ⟨rfl, (by repeat (first | exact Below.refl _ _ | refine Below.drew ?_ | refine bel_dn ?_ _ | refine bel_al ?_ _ | refine bel_go ?_ hb1 | refine Below.setCell ?_ (by first | omega | (simp; done) | (simp; omega)) _ | refine Below.alloc ?_ (by first | omega | (simp; done) | (simp; omega)) _ | refine Below.trans ?_ (Below.mono hb1 (by first | omega | (simp; done) | (simp; omega)))))⟩
end LAccMerge
end Go.Proofs.YtfblidnejdkjhaaDoor
/-
  The law on accumulators merged.
-/
namespace Go.Proofs.YtfblidnejdkjhaaDoor
set_option linter.unusedVariables false
set_option linter.unusedSimpArgs false
open Go.RowKit Go.Deep
theorem fits_200 {x : Int} (h : Nm.fits x = true) : (Nm.wl x).length ≤ 200 := by simpa [Nm.fits] using h
theorem law_AccMerge (fm : Int) (ng : Bool) (T : Int) (nn bd pl mi am : Bool) (fmq : Int) (ngq : Bool) (Tq : Int) (nnq bdq plq miq amq : Bool) (a b : Option Addr) (cap cap' : Nat) (zs ys : List Int) (w : World) (hT : Tab w) (hx : Sl .u32 w (.slice a zs.length cap) zs) (hy : Sl .u32 w (.slice b ys.length cap') ys) (dx : Nm.Dg zs) (dy : Nm.Dg ys) :
    Calls Tryd.prog 4 #[.agg #[.int .i64 fm, .bool ng, .slice a zs.length cap, .int .i64 T, .bool nn, .bool bd, .bool pl, .bool mi, .bool am], .agg #[.int .i64 fmq, .bool ngq, .slice b ys.length cap', .int .i64 Tq, .bool nnq, .bool bdq, .bool plq, .bool miq, .bool amq]] w fun e w' => e = .returned (.bool true) ∧ Below w.heap.size w w' := by
  by_cases hsum : zs.length + ys.length ≤ 1048576
  rotate_left
  · exact LAccMerge.long fm ng T nn bd pl mi am fmq ngq Tq nnq bdq plq miq amq a b cap cap' zs ys w hx hy hsum
  have hn : zs.length ≤ 1048576 := by omega
  have hn' : ys.length ≤ 1048576 := by omega
  have no : ∀ c, mgNo fm (accB fm ng zs T nn bd pl mi am) (accB fmq ngq ys Tq nnq bdq plq miq amq) fmq T Tq c → Calls Tryd.prog 4 #[.agg #[.int .i64 fm, .bool ng, .slice a zs.length cap, .int .i64 T, .bool nn, .bool bd, .bool pl, .bool mi, .bool am], .agg #[.int .i64 fmq, .bool ngq, .slice b ys.length cap', .int .i64 Tq, .bool nnq, .bool bdq, .bool plq, .bool miq, .bool amq]] w fun e w' => e = .returned (.bool true) ∧ Below w.heap.size w w' := fun c hc =>
    LAccMerge.law fm ng T nn bd pl mi am fmq ngq Tq nnq bdq plq miq amq a b cap cap' zs ys w hT hx hy 0 false 0 false false false false false [] c (by simp) Nm.Dg.nil hn hn' hsum
      (fun w a b cap cap' h h' => (merge_spec_no fm ng T nn bd pl mi am fmq ngq Tq nnq bdq plq miq amq a b cap cap' zs ys w h h' hn hn' c hc).mono fun e w' ⟨he, hb⟩ => ⟨none, 0, he, Own.nil _ _, hb⟩)
      (fun w a b cap cap' ht h h' => (merge_impl_no fm ng T nn bd pl mi am fmq ngq Tq nnq bdq plq miq amq a b cap cap' zs ys w ht h h' hn hn' c hc).mono fun e w' ⟨he, hb⟩ => ⟨none, 0, he, Own.nil _ _, hb⟩)
  cases h1 : accB fm ng zs T nn bd pl mi am
  · exact no 1 (.inl ⟨h1, rfl⟩)
  cases h2 : accB fmq ngq ys Tq nnq bdq plq miq amq
  · exact no 1 (.inr (.inl ⟨h1, h2, rfl⟩))
  by_cases h3 : fm = fmq
  rotate_left
  · exact no 2 (.inr (.inr (.inl ⟨h1, h2, h3, rfl⟩)))
  by_cases h4 : T + Tq ≤ 1000000
  rotate_left
  · exact no 3 (.inr (.inr (.inr ⟨h1, h2, h3, by omega, rfl⟩)))
  have hf := merge_fits dx dy h1 (by rw [h3]; exact h2)
  exact LAccMerge.law fm ng T nn bd pl mi am fmq ngq Tq nnq bdq plq miq amq a b cap cap' zs ys w hT hx hy fm _ _ _ _ _ _ _ _ 0 (fits_200 hf) (Nm.wl_dg _) hn hn' hsum
    (fun w a b cap cap' h h' => merge_spec_yes fm ng T nn bd pl mi am fmq ngq Tq nnq bdq plq miq amq a b cap cap' zs ys w h h' dx dy h1 h2 h3 h4 _ rfl)
    (fun w a b cap cap' ht h h' => merge_impl_yes fm ng T nn bd pl mi am fmq ngq Tq nnq bdq plq miq amq a b cap cap' zs ys w ht h h' dx dy h1 h2 h3 h4 _ rfl)
end Go.Proofs.YtfblidnejdkjhaaDoor
