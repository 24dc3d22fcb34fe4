/-
  What is needed of WideR, WideU.
-/
import Derived.Test.YtkfjmcdniohljaaGreatDoorC15
set_option maxHeartbeats 16000000
set_option maxRecDepth 1000000
namespace Go.Proofs.YtkfjmcdniohljaaGreatDoor
set_option linter.unusedVariables false
set_option linter.unusedSimpArgs false
open Go.RowKit Go.Deep
theorem top_bit (n : Nat) (h : n < 4294967296) : n.testBit 31 = decide (2147483648 ≤ n) := by
  rw [Nat.testBit_eq_decide_div_mod_eq]
  have e : n / 2 ^ 31 % 2 = 1 ↔ 2147483648 ≤ n := by omega
  simp only [e]
theorem top_div (n : Nat) (h : n < 4294967296) : n / 2147483648 = if n.testBit 31 then 1 else 0 := by
  rw [top_bit n h]
  by_cases hc : 2147483648 ≤ n
  · simp [hc]; omega
  · simp [hc]; omega
theorem borrow_nat (X Y D : Nat) (hX : X < 4294967296) (hY : Y < 4294967296) (hD : D < 4294967296) :
    (((4294967295 ^^^ X) &&& Y) ||| ((4294967295 ^^^ (X ^^^ Y)) &&& D)) / 2147483648 = if (!decide (2147483648 ≤ X) && decide (2147483648 ≤ Y)) || (decide (2147483648 ≤ X) == decide (2147483648 ≤ Y) && decide (2147483648 ≤ D)) then 1 else 0 := by
  have h1 : (4294967295 ^^^ X) < 2 ^ 32 := Nat.xor_lt_two_pow (by decide) (by omega)
  have h2 : (X ^^^ Y) < 2 ^ 32 := Nat.xor_lt_two_pow (by omega) (by omega)
  have h3 : (4294967295 ^^^ (X ^^^ Y)) < 2 ^ 32 := Nat.xor_lt_two_pow (by decide) h2
  have h4 : ((4294967295 ^^^ X) &&& Y) < 2 ^ 32 := Nat.and_lt_two_pow _ (by omega)
  have h5 : ((4294967295 ^^^ (X ^^^ Y)) &&& D) < 2 ^ 32 := Nat.and_lt_two_pow _ (by omega)
  have h6 := Nat.or_lt_two_pow h4 h5
  rw [top_div _ (by omega), Nat.testBit_or, Nat.testBit_and, Nat.testBit_and, Nat.testBit_xor, Nat.testBit_xor, Nat.testBit_xor, top_bit X hX, top_bit Y hY, top_bit D hD, show Nat.testBit 4294967295 31 = true from by decide]
  cases decide (2147483648 ≤ X) <;> cases decide (2147483648 ≤ Y) <;> cases decide (2147483648 ≤ D) <;> rfl
theorem umax : IntKind.u32.max = 4294967295 := by decide
/-- What is borrowed. -/
def bor (x y c : Int) : Int := if x < y + c then 1 else 0
theorem borrow_any (x y c : Int) (hx : 0 ≤ x) (hx1 : x < 4294967296) (hy : 0 ≤ y) (hy1 : y < 4294967296) (hc : 0 ≤ c) (hc1 : c ≤ 1) :
    bits .or .u32 (bits .and .u32 (bits .xor .u32 IntKind.u32.max x) y) (bits .and .u32 (bits .xor .u32 IntKind.u32.max (bits .xor .u32 x y)) ((x - y - c) % 4294967296)) / 2147483648 = bor x y c := by
  unfold bor
  obtain ⟨X, rfl⟩ := Int.eq_ofNat_of_zero_le hx
  obtain ⟨Y, rfl⟩ := Int.eq_ofNat_of_zero_le hy
  obtain ⟨D, hD⟩ : ∃ D : Nat, ((X : Int) - Y - c) % 4294967296 = (D : Int) := Int.eq_ofNat_of_zero_le (by omega)
  rw [hD, umax]
  have hX : X < 4294967296 := by omega
  have hY : Y < 4294967296 := by omega
  have hD1 : D < 4294967296 := by omega
  have e1 : bits .xor .u32 (4294967295 : Int) (X : Int) = ((4294967295 ^^^ X : Nat) : Int) := by
    have := u32_xor_nat 4294967295 X (by decide) hX
    simpa using this
  have h1 : (4294967295 ^^^ X) < 2 ^ 32 := Nat.xor_lt_two_pow (by decide) (by omega)
  have h2 : (X ^^^ Y) < 2 ^ 32 := Nat.xor_lt_two_pow (by omega) (by omega)
  have e3 : bits .xor .u32 (4294967295 : Int) ((X ^^^ Y : Nat) : Int) = ((4294967295 ^^^ (X ^^^ Y) : Nat) : Int) := by
    have := u32_xor_nat 4294967295 (X ^^^ Y) (by decide) (by omega)
    simpa using this
  have h3 : (4294967295 ^^^ (X ^^^ Y)) < 2 ^ 32 := Nat.xor_lt_two_pow (by decide) h2
  have h4 : ((4294967295 ^^^ X) &&& Y) < 2 ^ 32 := Nat.and_lt_two_pow _ (by omega)
  have h5 : ((4294967295 ^^^ (X ^^^ Y)) &&& D) < 2 ^ 32 := Nat.and_lt_two_pow _ (by omega)
  rw [e1, u32_xor_nat X Y hX hY, e3, u32_and_nat _ Y (by omega) hY, u32_and_nat _ D (by omega) hD1, u32_or_nat _ _ (by omega) (by omega)]
  rw [show ((2147483648 : Int)) = ((2147483648 : Nat) : Int) from rfl, ← Int.natCast_ediv, borrow_nat X Y D hX hY hD1]
  by_cases b1 : 2147483648 ≤ X <;> by_cases b2 : 2147483648 ≤ Y <;> by_cases b3 : 2147483648 ≤ D <;> by_cases b4 : (X : Int) < Y + c <;> simp [b1, b2, b3, b4] <;> omega
theorem ret_two {a a' b b' : Int} (h : a = a') (k : b = b') : Ending.returned (.tuple #[.int .u32 a, .int .u32 b]) = .returned (.tuple #[.int .u32 a', .int .u32 b']) := by rw [h, k]
theorem sub32_any (x y c : Int) (w : World) (hx : 0 ≤ x) (hx1 : x < 4294967296) (hy : 0 ≤ y) (hy1 : y < 4294967296) (hc : 0 ≤ c) (hc1 : c ≤ 1) :
    Calls Tryz.prog 218 #[.int .u32 x, .int .u32 y, .int .u32 c] w fun e w' => e = .returned (.tuple #[.int .u32 ((x - y - c) % 4294967296), .int .u32 (bor x y c)]) ∧ w' = w := by
  have HB := hid (borrow_any x y c hx hx1 hy hy1 hc hc1)
  go_enter Tryz.func218, Tryz.ntmps218
  go_wp2
  go_ret2
  exact ⟨ret_two rfl HB.out, rfl⟩
theorem bor_is (x y c : Int) (hx : 0 ≤ x) (hx1 : x < 4294967296) (hy : 0 ≤ y) (hy1 : y < 4294967296) (hc : 0 ≤ c) (hc1 : c ≤ 1) : (x - y - c) % 4294967296 - 4294967296 * bor x y c = x - y - c ∧ 0 ≤ bor x y c ∧ bor x y c ≤ 1 := by
  unfold bor; split <;> omega
theorem subLimbs_any (a a' : Option Addr) (cap cap' : Nat) (xs ys : List Int) (w : World) (hx : Sl .u32 w (.slice a xs.length cap) xs) (hy : Sl .u32 w (.slice a' ys.length cap') ys) (dx : Nm.Dg xs) (dy : Nm.Dg ys) (hl : xs.length ≤ 500000) (hl' : ys.length ≤ xs.length) (hge : Nm.val ys ≤ Nm.val xs) :
    Calls Tryz.prog 162 #[.slice a xs.length cap, .slice a' ys.length cap'] w fun e w' => ∃ a1 c1 os, e = .returned (.slice a1 os.length c1) ∧ Own w' w.heap.size a1 c1 os ∧ Nm.Dg os ∧ Nm.val os = Nm.val xs - Nm.val ys ∧ os.length ≤ 1048576 ∧ Below w.heap.size w w' := by
  have hmk := run_make_row' (P := Tryz.prog) 30 128 (.int .u32 0) 4 Tryz.underlying30 info32 rfl .i64 .i64 xs.length (by omega) (by omega)
  obtain ⟨-, hx1, hx2, hx3⟩ := hx.cells
  have HX3 := hid hx3
  have HGE := hid hge
  clear hx3 hge
  go_enter Tryz.func162, Tryz.ntmps162
  go_wp2_with fail
  clear hmk
  go_loopw [6, 13] (fun cy i wr => ∃ k : Nat, ∃ os : List Int, ∃ c : Int, k ≤ xs.length ∧ i = .int .i64 k ∧ cy = .int .u32 c ∧ 0 ≤ c ∧ c ≤ 1 ∧ os.length = xs.length ∧ Rw wr w.heap.size os ∧ Nm.Dg os ∧ Nm.SubAt xs ys os k c ∧ Below w.heap.size w wr) (fun _ i _ => xs.length - (intOf i).toNat)
  case atStart => exact ⟨0, List.replicate xs.length 0, 0, Nat.zero_le _, rfl, rfl, by omega, by omega, by simp, Rw.made w xs.length, Nm.Dg.replicate _, Nm.SubAt.zero _ _ _, (by repeat (first | exact bz0 _ _ | refine bz1 ?_ | refine bz2 ?_ _ | refine bz3 ?_ _ | refine bz5 ?_ _ | refine bz6 ?_ _))⟩
  case round =>
    obtain ⟨k, os, c, hk, rfl, rfl, hc0, hc1, hol, hrw, hdo, hadd, hb⟩ := hrel
    have HOL := hid hol
    have hol1 : xs.length ≤ os.length := by omega
    have HADD := hid hadd
    have HDO := hid hdo
    clear hol hadd hdo
    have sy := hy.below hb
    by_cases hlt : k < xs.length
    · have hcell := hrw.cell (k := k) (by omega)
      have hfr := hrw.frozen k
      obtain ⟨o, ho⟩ : ∃ o, o = os.getD k 0 := ⟨_, rfl⟩
      rw [← ho] at hcell
      obtain ⟨b, off, rfl, hcx⟩ := HX3.out (by omega)
      have hca0 := hcx k hlt
      have hbl := World.block_lt_of_cell? w _ hca0
      have hca : wr.cell? ⟨b, off + k, none⟩ = some (.int .u32 (xs.getD k 0)) := (hb.cell (p := ⟨b, off + k, none⟩) hbl).trans hca0
      have c2 := fun w' (h : Sl .u32 w' (.slice a' ys.length cap') ys) => limbAt_any a' cap' ys k w' h (by omega) (by omega)
      have hst := fun d c' => Nm.SubAt.step (d := d) (c' := c') HADD.out (show k < os.length by omega)
      obtain ⟨ex0, ex1⟩ := dx.getD k
      obtain ⟨ey0, ey1⟩ := dy.getD k
      obtain ⟨x, hxk⟩ : ∃ x, x = xs.getD k 0 := ⟨_, rfl⟩
      obtain ⟨y, hyk⟩ : ∃ y, y = ys.getD k 0 := ⟨_, rfl⟩
      rw [← hxk] at hca ex0 ex1
      simp only [← hyk] at c2
      rw [← hyk] at ey0 ey1
      rw [← hxk, ← hyk] at hst
      have C2 := hid c2
      have HST := hid hst
      have HBO := hid (bor_is x y c ex0 ex1 ey0 ey1 hc0 hc1)
      clear c2 hst hxk hyk hca0 hcx ho
      have k0 : (0 : Int) ≤ (k : Int) := by omega
      have k1 : (k : Int) < (xs.length : Int) := by omega
      have hne : w.heap.size ≠ b := by simp at hbl; omega
      go_wp2_with fail
      go_region_held3 (fun w' => w'.cell? ⟨b, off + k, none⟩ = some (.int .u32 x)) (first | assumption | go_keep)
        (first
          | (go_at_call 194; refine (C2.out _ (by exact Sl.drew sy)).mono ?_; rintro e w' ⟨rfl, rfl⟩)
          | (go_at_call 218; refine (sub32_any x y c _ ex0 ex1 ey0 ey1 hc0 hc1).mono ?_; rintro e w' ⟨rfl, rfl⟩))
      go_wp2
      obtain ⟨b1, b2, b3⟩ := HBO.out
      go_roundw
      case rel => exact ⟨k + 1, os.set k ((x - y - c) % 4294967296), bor x y c, by omega, by go_num, rfl, b2, b3, by rw [List.length_set]; exact HOL.out, hrw.set (by omega) _, HDO.out.set _ (by omega), HST.out _ _ b1, (hb.setCell (Nat.le_refl _) _).drew⟩
      case measure => simp [intOf]; omega
    · obtain rfl : k = xs.length := by omega
      have hown := hrw.own (base := w.heap.size) (Nat.le_refl _) (by have := HOL.out; unfold maxLen; omega)
      have hs2 := HADD.out
      rw [← HOL.out] at hs2
      have hfull := hs2.full HOL.out.symm (by have := HOL.out; omega) dx dy HDO.out hc0 HGE.out
      have HF := hid (And.intro hown hfull)
      clear hown hfull hs2
      go_wp2
      go_ret
      exact ⟨some ⟨w.heap.size, 0, none⟩, os.length, os, by rw [HOL.out]; rfl, HF.out.1, HDO.out, HF.out.2, by have := HOL.out; omega, hb⟩
/-- Two boxes are exchanged. -/
theorem swapped {w : World} {b b' z : Nat} {u0 u1 v0 v1 r0 r1 : Value} (hx : R2 w b u0 u1) (hy : R2 w b' v0 v1) (hz : R2 w z r0 r1) (n1 : b ≠ b') (n2 : z ≠ b) (n3 : z ≠ b') :
    Box ((((w.setCell ⟨b, 0, none⟩ v0).setCell ⟨b, 1, none⟩ v1).setCell ⟨b', 0, none⟩ u0).setCell ⟨b', 1, none⟩ u1) b v0 v1 ∧
    Box ((((w.setCell ⟨b, 0, none⟩ v0).setCell ⟨b, 1, none⟩ v1).setCell ⟨b', 0, none⟩ u0).setCell ⟨b', 1, none⟩ u1) b' u0 u1 ∧
    R2 ((((w.setCell ⟨b, 0, none⟩ v0).setCell ⟨b, 1, none⟩ v1).setCell ⟨b', 0, none⟩ u0).setCell ⟨b', 1, none⟩ u1) z r0 r1 := by
  have h1 := ((R2.set hx v0 v1).other (p := ⟨b', 0, none⟩) n1 u0).other (p := ⟨b', 1, none⟩) n1 u1
  have h2 := R2.set ((hy.other (p := ⟨b, 0, none⟩) (Ne.symm n1) v0).other (p := ⟨b, 1, none⟩) (Ne.symm n1) v1) u0 u1
  have h3 := (((hz.other (p := ⟨b, 0, none⟩) n2 v0).other (p := ⟨b, 1, none⟩) n2 v1).other (p := ⟨b', 0, none⟩) n3 u0).other (p := ⟨b', 1, none⟩) n3 u1
  exact ⟨⟨h1.c0, h1.c1⟩, ⟨h2.c0, h2.c1⟩, h3⟩
theorem wadd_impl_no0 (na nb : Bool) (a b : Option Addr) (cap cap' : Nat) (xs ys : List Int) (w : World) (hx : Sl .u32 w (.slice a xs.length cap) xs) (hy : Sl .u32 w (.slice b ys.length cap') ys) (dx : Nm.Dg xs) (dy : Nm.Dg ys) (hl : xs.length ≤ 1048576) (hl' : ys.length ≤ 1048576) (x : Int) (h1 : okB na xs = false) :
    Calls Tryz.prog 61 #[.agg #[.bool na, .slice a xs.length cap], .agg #[.bool nb, .slice b ys.length cap']] w fun e w' => ∃ a' c', e = .returned (.tuple #[.agg #[.bool (opN (okB na xs && okB nb ys) x), .slice a' (opL (okB na xs && okB nb ys) x).length c'], .bool (opO (okB na xs && okB nb ys) x)]) ∧ Own w' w.heap.size a' c' (opL (okB na xs && okB nb ys) x) ∧ Below w.heap.size w w' := by
  have HK : Hid ((okB na xs && okB nb ys) = false) := hid (by rw [h1]; rfl)
  go_enter Tryz.func61, Tryz.ntmps61
  have Bx := ((Box.new w (.bool na) (.slice a xs.length cap) 32).alloc (.cells #[.bool nb, .slice b ys.length cap'] 32)).alloc (.cells #[.bool false, .slice none 0 0] 32)
  have By := (Box.new2 w (.cells #[.bool na, .slice a xs.length cap] 32) (.bool nb) (.slice b ys.length cap') 32).alloc (.cells #[.bool false, .slice none 0 0] 32)
  have Fx := ((R2.new w (.bool na) (.slice a xs.length cap) 32).alloc (.cells #[.bool nb, .slice b ys.length cap'] 32)).alloc (.cells #[.bool false, .slice none 0 0] 32)
  have Fy := (R2.new2 w (.cells #[.bool na, .slice a xs.length cap] 32) (.bool nb) (.slice b ys.length cap') 32).alloc (.cells #[.bool false, .slice none 0 0] 32)
  have Rz : R2 (((w.alloc (.cells #[.bool na, .slice a xs.length cap] 32)).alloc (.cells #[.bool nb, .slice b ys.length cap'] 32)).alloc (.cells #[.bool false, .slice none 0 0] 32)) (w.heap.size + 1 + 1) (.bool false) (.slice none 0 0) := by simpa using R2.new2 (w.alloc (.cells #[.bool na, .slice a xs.length cap] 32)) (.cells #[.bool nb, .slice b ys.length cap'] 32) (.bool false) (.slice none 0 0) 32
  have sx := ((hx.alloc (.cells #[.bool na, .slice a xs.length cap] 32)).alloc (.cells #[.bool nb, .slice b ys.length cap'] 32)).alloc (.cells #[.bool false, .slice none 0 0] 32)
  have sy := ((hy.alloc (.cells #[.bool na, .slice a xs.length cap] 32)).alloc (.cells #[.bool nb, .slice b ys.length cap'] 32)).alloc (.cells #[.bool false, .slice none 0 0] 32)
  have hbW : Below w.heap.size w (((w.alloc (.cells #[.bool na, .slice a xs.length cap] 32)).alloc (.cells #[.bool nb, .slice b ys.length cap'] 32)).alloc (.cells #[.bool false, .slice none 0 0] 32)) := (by repeat (first | exact bz0 _ _ | refine bz1 ?_ | refine bz2 ?_ _ | refine bz3 ?_ _ | refine bz5 ?_ _ | refine bz6 ?_ _))
  go_wp2_with fail
  refine (ok_impl na a cap xs _ sx (by omega)).mono ?_
  rintro e W ⟨rfl, hb1⟩
  replace Bx := Bx.below hb1
  replace By := By.below hb1
  replace Fx := Fx.below hb1
  replace Fy := Fy.below hb1
  replace Rz := Rz.below hb1
  replace sx := sx.below hb1
  replace sy := sy.below hb1
  replace hbW := bel_go hbW hb1
  obtain ⟨z0, z1, zf0, zf1⟩ := Rz
  go_wp2
  refine bodyPost_ret (v := .tuple #[.agg #[.bool false, .slice none 0 0], .bool false]) (by simp [results, Tryz.results61, go_sem, z0, z1]) rfl ⟨none, 0, ?_, ?_, ?_⟩
  · rw [HK.out, (op_no x).1, (op_no x).2.1, (op_no x).2.2]; rfl
  · rw [HK.out, (op_no x).1]; exact Own.nil _ _
  · exact (hbW.setCell (by simp; omega) _).setCell (by simp; omega) _
theorem wadd_impl_no1 (na nb : Bool) (a b : Option Addr) (cap cap' : Nat) (xs ys : List Int) (w : World) (hx : Sl .u32 w (.slice a xs.length cap) xs) (hy : Sl .u32 w (.slice b ys.length cap') ys) (dx : Nm.Dg xs) (dy : Nm.Dg ys) (hl : xs.length ≤ 1048576) (hl' : ys.length ≤ 1048576) (x : Int) (h1 : okB na xs = true) (h2 : okB nb ys = false) :
    Calls Tryz.prog 61 #[.agg #[.bool na, .slice a xs.length cap], .agg #[.bool nb, .slice b ys.length cap']] w fun e w' => ∃ a' c', e = .returned (.tuple #[.agg #[.bool (opN (okB na xs && okB nb ys) x), .slice a' (opL (okB na xs && okB nb ys) x).length c'], .bool (opO (okB na xs && okB nb ys) x)]) ∧ Own w' w.heap.size a' c' (opL (okB na xs && okB nb ys) x) ∧ Below w.heap.size w w' := by
  have HK : Hid ((okB na xs && okB nb ys) = false) := hid (by rw [h1, h2]; rfl)
  go_enter Tryz.func61, Tryz.ntmps61
  have Bx := ((Box.new w (.bool na) (.slice a xs.length cap) 32).alloc (.cells #[.bool nb, .slice b ys.length cap'] 32)).alloc (.cells #[.bool false, .slice none 0 0] 32)
  have By := (Box.new2 w (.cells #[.bool na, .slice a xs.length cap] 32) (.bool nb) (.slice b ys.length cap') 32).alloc (.cells #[.bool false, .slice none 0 0] 32)
  have Fx := ((R2.new w (.bool na) (.slice a xs.length cap) 32).alloc (.cells #[.bool nb, .slice b ys.length cap'] 32)).alloc (.cells #[.bool false, .slice none 0 0] 32)
  have Fy := (R2.new2 w (.cells #[.bool na, .slice a xs.length cap] 32) (.bool nb) (.slice b ys.length cap') 32).alloc (.cells #[.bool false, .slice none 0 0] 32)
  have Rz : R2 (((w.alloc (.cells #[.bool na, .slice a xs.length cap] 32)).alloc (.cells #[.bool nb, .slice b ys.length cap'] 32)).alloc (.cells #[.bool false, .slice none 0 0] 32)) (w.heap.size + 1 + 1) (.bool false) (.slice none 0 0) := by simpa using R2.new2 (w.alloc (.cells #[.bool na, .slice a xs.length cap] 32)) (.cells #[.bool nb, .slice b ys.length cap'] 32) (.bool false) (.slice none 0 0) 32
  have sx := ((hx.alloc (.cells #[.bool na, .slice a xs.length cap] 32)).alloc (.cells #[.bool nb, .slice b ys.length cap'] 32)).alloc (.cells #[.bool false, .slice none 0 0] 32)
  have sy := ((hy.alloc (.cells #[.bool na, .slice a xs.length cap] 32)).alloc (.cells #[.bool nb, .slice b ys.length cap'] 32)).alloc (.cells #[.bool false, .slice none 0 0] 32)
  have hbW : Below w.heap.size w (((w.alloc (.cells #[.bool na, .slice a xs.length cap] 32)).alloc (.cells #[.bool nb, .slice b ys.length cap'] 32)).alloc (.cells #[.bool false, .slice none 0 0] 32)) := (by repeat (first | exact bz0 _ _ | refine bz1 ?_ | refine bz2 ?_ _ | refine bz3 ?_ _ | refine bz5 ?_ _ | refine bz6 ?_ _))
  go_wp2_with fail
  refine (ok_impl na a cap xs _ sx (by omega)).mono ?_
  rintro e W ⟨rfl, hb1⟩
  replace Bx := Bx.below hb1
  replace By := By.below hb1
  replace Fx := Fx.below hb1
  replace Fy := Fy.below hb1
  replace Rz := Rz.below hb1
  replace sx := sx.below hb1
  replace sy := sy.below hb1
  replace hbW := bel_go hbW hb1
  obtain ⟨y0, y1⟩ := By
  go_wp2_with fail
  refine (ok_impl nb b cap' ys _ sy (by omega)).mono ?_
  rintro e W2 ⟨rfl, hb2⟩
  replace Rz := Rz.below hb2
  replace hbW := bel_go hbW hb2
  obtain ⟨z0, z1, zf0, zf1⟩ := Rz
  go_wp2
  refine bodyPost_ret (v := .tuple #[.agg #[.bool false, .slice none 0 0], .bool false]) (by simp [results, Tryz.results61, go_sem, z0, z1]) rfl ⟨none, 0, ?_, ?_, ?_⟩
  · rw [HK.out, (op_no x).1, (op_no x).2.1, (op_no x).2.2]; rfl
  · rw [HK.out, (op_no x).1]; exact Own.nil _ _
  · exact (hbW.setCell (by simp; omega) _).setCell (by simp; omega) _
theorem wadd_same (na nb : Bool) (a b : Option Addr) (cap cap' : Nat) (xs ys : List Int) (w : World) (hx : Sl .u32 w (.slice a xs.length cap) xs) (hy : Sl .u32 w (.slice b ys.length cap') ys) (dx : Nm.Dg xs) (dy : Nm.Dg ys) (hl : xs.length ≤ 1048576) (hl' : ys.length ≤ 1048576) (x : Int) (hxv : x = Nm.wv na xs + Nm.wv nb ys) (h1 : okB na xs = true) (h2 : okB nb ys = true) (hc : (na == nb) = true) :
    Calls Tryz.prog 61 #[.agg #[.bool na, .slice a xs.length cap], .agg #[.bool nb, .slice b ys.length cap']] w fun e w' => ∃ a' c', e = .returned (.tuple #[.agg #[.bool (opN (okB na xs && okB nb ys) x), .slice a' (opL (okB na xs && okB nb ys) x).length c'], .bool (opO (okB na xs && okB nb ys) x)]) ∧ Own w' w.heap.size a' c' (opL (okB na xs && okB nb ys) x) ∧ Below w.heap.size w w' := by
  have HX : Hid (∀ os, Nm.val os = Nm.val xs + Nm.val ys → x = Nm.wv na os) := hid (fun os h => by
    have hc' : na = nb := by simpa using hc
    rw [hxv, ← hc']; exact Nm.wv_same h)
  clear hxv
  have HK : Hid ((okB na xs && okB nb ys) = true) := hid (by rw [h1, h2]; rfl)
  obtain ⟨nx, lx⟩ := okB_nz h1
  obtain ⟨ny, ly⟩ := okB_nz h2
  go_enter Tryz.func61, Tryz.ntmps61
  have Bx := ((Box.new w (.bool na) (.slice a xs.length cap) 32).alloc (.cells #[.bool nb, .slice b ys.length cap'] 32)).alloc (.cells #[.bool false, .slice none 0 0] 32)
  have By := (Box.new2 w (.cells #[.bool na, .slice a xs.length cap] 32) (.bool nb) (.slice b ys.length cap') 32).alloc (.cells #[.bool false, .slice none 0 0] 32)
  have Fx := ((R2.new w (.bool na) (.slice a xs.length cap) 32).alloc (.cells #[.bool nb, .slice b ys.length cap'] 32)).alloc (.cells #[.bool false, .slice none 0 0] 32)
  have Fy := (R2.new2 w (.cells #[.bool na, .slice a xs.length cap] 32) (.bool nb) (.slice b ys.length cap') 32).alloc (.cells #[.bool false, .slice none 0 0] 32)
  have Rz : R2 (((w.alloc (.cells #[.bool na, .slice a xs.length cap] 32)).alloc (.cells #[.bool nb, .slice b ys.length cap'] 32)).alloc (.cells #[.bool false, .slice none 0 0] 32)) (w.heap.size + 1 + 1) (.bool false) (.slice none 0 0) := by simpa using R2.new2 (w.alloc (.cells #[.bool na, .slice a xs.length cap] 32)) (.cells #[.bool nb, .slice b ys.length cap'] 32) (.bool false) (.slice none 0 0) 32
  have sx := ((hx.alloc (.cells #[.bool na, .slice a xs.length cap] 32)).alloc (.cells #[.bool nb, .slice b ys.length cap'] 32)).alloc (.cells #[.bool false, .slice none 0 0] 32)
  have sy := ((hy.alloc (.cells #[.bool na, .slice a xs.length cap] 32)).alloc (.cells #[.bool nb, .slice b ys.length cap'] 32)).alloc (.cells #[.bool false, .slice none 0 0] 32)
  have hbW : Below w.heap.size w (((w.alloc (.cells #[.bool na, .slice a xs.length cap] 32)).alloc (.cells #[.bool nb, .slice b ys.length cap'] 32)).alloc (.cells #[.bool false, .slice none 0 0] 32)) := (by repeat (first | exact bz0 _ _ | refine bz1 ?_ | refine bz2 ?_ _ | refine bz3 ?_ _ | refine bz5 ?_ _ | refine bz6 ?_ _))
  go_wp2_with fail
  refine (ok_impl na a cap xs _ sx (by omega)).mono ?_
  rintro e W1 ⟨rfl, hb1⟩
  replace Bx := Bx.below hb1
  replace By := By.below hb1
  replace Fx := Fx.below hb1
  replace Fy := Fy.below hb1
  replace Rz := Rz.below hb1
  replace sx := sx.below hb1
  replace sy := sy.below hb1
  replace hbW := bel_go hbW hb1
  obtain ⟨y0, y1⟩ := By
  go_wp2_with fail
  refine (ok_impl nb b cap' ys _ sy (by omega)).mono ?_
  rintro e W ⟨rfl, hb2⟩
  have By : Box W1 (w.heap.size + 1) (.bool nb) (.slice b ys.length cap') := ⟨y0, y1⟩
  replace Bx := Bx.below hb2
  replace By := By.below hb2
  replace Fx := Fx.below hb2
  replace Fy := Fy.below hb2
  replace Rz := Rz.below hb2
  replace sx := sx.below hb2
  replace sy := sy.below hb2
  replace hbW := bel_go hbW hb2
  have lW : w.heap.size + 1 + 1 < W.heap.size := World.block_lt_of_cell? W _ Rz.c0
  clear y0 y1 hb1 hb2
  have x0 := Bx.1
  have y0 := By.1
  go_wp2_with fail
  go_region_held3 (fun w' => w'.cell? ⟨w.heap.size, 0, none⟩ = some (.bool na) ∧ w'.cell? ⟨w.heap.size, 1, none⟩ = some (.slice a xs.length cap) ∧ w'.cell? ⟨w.heap.size + 1, 1, none⟩ = some (.slice b ys.length cap')) (first | assumption | (refine keep3_set k3.1 k3.2.1 k3.2.2 ?_ ?_ _ _ <;> omega) | exact ⟨Bx.1, Bx.2, By.2⟩)
    (first
      | (go_at_call 161; refine (addLimbs_any a b cap cap' xs ys _ (by exact sx.drew) (by exact sy.drew) dx dy (by omega) (by omega) ).mono ?_; rintro e w2 ⟨a2, c2, os, rfl, ho2, dos, hv, hlo, hb2⟩; have k2 := keep3 (w := W.drew) Bx.1 Bx.2 By.2 hb2; have Rz2 := Rz.drew.below hb2)
      | (go_at_call 105; refine (fitted_v na a2 c2 os W.heap.size _ (by exact ho2) dos hlo x (HX.out os hv)).mono ?_; rintro e w3 ⟨a3, c3, rfl, ho3, hb3⟩; have k3 := keep3 k2.1 k2.2.1 k2.2.2 hb3; have Rz3 := Rz2.below hb3; obtain ⟨z0, z1, zf0, zf1⟩ := Rz3))
  have l2 : W.heap.size ≤ w2.heap.size := hb2.size
  have l3 : w2.heap.size ≤ w3.heap.size := hb3.size
  go_wp2
  obtain ⟨e1, e2, e3⟩ := op_yes x
  refine bodyPost_ret (v := .tuple #[.agg #[.bool (Nm.outN x), .slice a3 (Nm.outL x).length c3], .bool (Nm.fits x)]) (by simp [results, Tryz.results61, go_sem, z0, z1]) rfl ⟨a3, c3, ?_, ?_, ?_⟩
  · rw [HK.out, e1, e2, e3]
  · rw [HK.out, e1]
    exact Own.base ((ho3.setBelow (by simp; omega) _).setBelow (by simp; omega) _) (by omega)
  · exact ((bel_go (bel_go (Below.drew hbW) hb2) hb3).setCell (by simp; omega) _).setCell (by simp; omega) _
theorem wadd_high (na nb : Bool) (a b : Option Addr) (cap cap' : Nat) (xs ys : List Int) (w : World) (hx : Sl .u32 w (.slice a xs.length cap) xs) (hy : Sl .u32 w (.slice b ys.length cap') ys) (dx : Nm.Dg xs) (dy : Nm.Dg ys) (hl : xs.length ≤ 1048576) (hl' : ys.length ≤ 1048576) (x : Int) (hxv : x = Nm.wv na xs + Nm.wv nb ys) (h1 : okB na xs = true) (h2 : okB nb ys = true) (hc : (na == nb) = false) (hm : ¬ cmpL xs ys < 0) :
    Calls Tryz.prog 61 #[.agg #[.bool na, .slice a xs.length cap], .agg #[.bool nb, .slice b ys.length cap']] w fun e w' => ∃ a' c', e = .returned (.tuple #[.agg #[.bool (opN (okB na xs && okB nb ys) x), .slice a' (opL (okB na xs && okB nb ys) x).length c'], .bool (opO (okB na xs && okB nb ys) x)]) ∧ Own w' w.heap.size a' c' (opL (okB na xs && okB nb ys) x) ∧ Below w.heap.size w w' := by
  have HX : Hid (∀ os, Nm.val os = Nm.val xs - Nm.val ys → x = Nm.wv na os) := hid (fun os h => by rw [hxv]; exact Nm.wv_less hc h)
  have nx0 := (okB_nz h1).1
  have ny0 := (okB_nz h2).1
  have hge : Nm.val ys ≤ Nm.val xs := by have := (cmpL_val dx dy nx0 ny0).1; omega
  have hln : ys.length ≤ xs.length := Nm.len_le_of_val dx dy ny0 hge
  have HGE := hid (And.intro hge hln)
  clear hxv hge hln nx0 ny0
  have HK : Hid ((okB na xs && okB nb ys) = true) := hid (by rw [h1, h2]; rfl)
  obtain ⟨nx, lx⟩ := okB_nz h1
  obtain ⟨ny, ly⟩ := okB_nz h2
  go_enter Tryz.func61, Tryz.ntmps61
  have Bx := ((Box.new w (.bool na) (.slice a xs.length cap) 32).alloc (.cells #[.bool nb, .slice b ys.length cap'] 32)).alloc (.cells #[.bool false, .slice none 0 0] 32)
  have By := (Box.new2 w (.cells #[.bool na, .slice a xs.length cap] 32) (.bool nb) (.slice b ys.length cap') 32).alloc (.cells #[.bool false, .slice none 0 0] 32)
  have Fx := ((R2.new w (.bool na) (.slice a xs.length cap) 32).alloc (.cells #[.bool nb, .slice b ys.length cap'] 32)).alloc (.cells #[.bool false, .slice none 0 0] 32)
  have Fy := (R2.new2 w (.cells #[.bool na, .slice a xs.length cap] 32) (.bool nb) (.slice b ys.length cap') 32).alloc (.cells #[.bool false, .slice none 0 0] 32)
  have Rz : R2 (((w.alloc (.cells #[.bool na, .slice a xs.length cap] 32)).alloc (.cells #[.bool nb, .slice b ys.length cap'] 32)).alloc (.cells #[.bool false, .slice none 0 0] 32)) (w.heap.size + 1 + 1) (.bool false) (.slice none 0 0) := by simpa using R2.new2 (w.alloc (.cells #[.bool na, .slice a xs.length cap] 32)) (.cells #[.bool nb, .slice b ys.length cap'] 32) (.bool false) (.slice none 0 0) 32
  have sx := ((hx.alloc (.cells #[.bool na, .slice a xs.length cap] 32)).alloc (.cells #[.bool nb, .slice b ys.length cap'] 32)).alloc (.cells #[.bool false, .slice none 0 0] 32)
  have sy := ((hy.alloc (.cells #[.bool na, .slice a xs.length cap] 32)).alloc (.cells #[.bool nb, .slice b ys.length cap'] 32)).alloc (.cells #[.bool false, .slice none 0 0] 32)
  have hbW : Below w.heap.size w (((w.alloc (.cells #[.bool na, .slice a xs.length cap] 32)).alloc (.cells #[.bool nb, .slice b ys.length cap'] 32)).alloc (.cells #[.bool false, .slice none 0 0] 32)) := (by repeat (first | exact bz0 _ _ | refine bz1 ?_ | refine bz2 ?_ _ | refine bz3 ?_ _ | refine bz5 ?_ _ | refine bz6 ?_ _))
  go_wp2_with fail
  refine (ok_impl na a cap xs _ sx (by omega)).mono ?_
  rintro e W1 ⟨rfl, hb1⟩
  replace Bx := Bx.below hb1
  replace By := By.below hb1
  replace Fx := Fx.below hb1
  replace Fy := Fy.below hb1
  replace Rz := Rz.below hb1
  replace sx := sx.below hb1
  replace sy := sy.below hb1
  replace hbW := bel_go hbW hb1
  obtain ⟨y0, y1⟩ := By
  go_wp2_with fail
  refine (ok_impl nb b cap' ys _ sy (by omega)).mono ?_
  rintro e W ⟨rfl, hb2⟩
  have By : Box W1 (w.heap.size + 1) (.bool nb) (.slice b ys.length cap') := ⟨y0, y1⟩
  replace Bx := Bx.below hb2
  replace By := By.below hb2
  replace Fx := Fx.below hb2
  replace Fy := Fy.below hb2
  replace Rz := Rz.below hb2
  replace sx := sx.below hb2
  replace sy := sy.below hb2
  replace hbW := bel_go hbW hb2
  have lW : w.heap.size + 1 + 1 < W.heap.size := World.block_lt_of_cell? W _ Rz.c0
  clear y0 y1 hb1 hb2
  obtain ⟨x0, x1⟩ := Bx
  obtain ⟨y0, y1⟩ := By
  go_wp2_with fail
  refine (cmpLimbs_any a b cap cap' xs ys _ sx sy (by omega) (by omega)).mono ?_
  rintro e W3 ⟨rfl, hb3⟩
  have Bx : Box W (w.heap.size) (.bool na) (.slice a xs.length cap) := ⟨x0, x1⟩
  have By : Box W (w.heap.size + 1) (.bool nb) (.slice b ys.length cap') := ⟨y0, y1⟩
  have l0 : W.heap.size ≤ W3.heap.size := hb3.size
  replace Bx := Bx.below hb3
  replace By := By.below hb3
  replace Fx := Fx.below hb3
  replace Fy := Fy.below hb3
  replace Rz := Rz.below hb3
  replace sx := sx.below hb3
  replace sy := sy.below hb3
  replace hbW := bel_go hbW hb3
  clear x0 x1 y0 y1 hb3
  have lW : w.heap.size + 1 + 1 < W3.heap.size := World.block_lt_of_cell? W3 _ Rz.c0
  go_wp2_with fail
  go_region_held3 (fun w' => w'.cell? ⟨w.heap.size, 0, none⟩ = some (.bool na) ∧ w'.cell? ⟨w.heap.size, 1, none⟩ = some (.slice a xs.length cap) ∧ w'.cell? ⟨w.heap.size + 1, 1, none⟩ = some (.slice b ys.length cap')) (first | assumption | (refine keep3_set k3.1 k3.2.1 k3.2.2 ?_ ?_ _ _ <;> omega) | exact ⟨Bx.1, Bx.2, By.2⟩)
    (first
      | (go_at_call 162; refine (subLimbs_any a b cap cap' xs ys _ (by exact sx.drew) (by exact sy.drew) dx dy (by omega) HGE.out.2 HGE.out.1).mono ?_; rintro e w2 ⟨a2, c2, os, rfl, ho2, dos, hv, hlo, hb2⟩; have k2 := keep3 (w := W3.drew) Bx.1 Bx.2 By.2 hb2; have Rz2 := Rz.drew.below hb2)
      | (go_at_call 105; refine (fitted_v na a2 c2 os W3.heap.size _ (by exact ho2) dos hlo x (HX.out os hv)).mono ?_; rintro e w3 ⟨a3, c3, rfl, ho3, hb3⟩; have k3 := keep3 k2.1 k2.2.1 k2.2.2 hb3; have Rz3 := Rz2.below hb3; obtain ⟨z0, z1, zf0, zf1⟩ := Rz3))
  have l2 : W3.heap.size ≤ w2.heap.size := hb2.size
  have l3 : w2.heap.size ≤ w3.heap.size := hb3.size
  go_wp2
  obtain ⟨e1, e2, e3⟩ := op_yes x
  refine bodyPost_ret (v := .tuple #[.agg #[.bool (Nm.outN x), .slice a3 (Nm.outL x).length c3], .bool (Nm.fits x)]) (by simp [results, Tryz.results61, go_sem, z0, z1]) rfl ⟨a3, c3, ?_, ?_, ?_⟩
  · rw [HK.out, e1, e2, e3]
  · rw [HK.out, e1]
    exact Own.base ((ho3.setBelow (by simp; omega) _).setBelow (by simp; omega) _) (by omega)
  · exact ((bel_go (bel_go (Below.drew hbW) hb2) hb3).setCell (by simp; omega) _).setCell (by simp; omega) _
theorem wadd_low (na nb : Bool) (a b : Option Addr) (cap cap' : Nat) (xs ys : List Int) (w : World) (hx : Sl .u32 w (.slice a xs.length cap) xs) (hy : Sl .u32 w (.slice b ys.length cap') ys) (dx : Nm.Dg xs) (dy : Nm.Dg ys) (hl : xs.length ≤ 1048576) (hl' : ys.length ≤ 1048576) (x : Int) (hxv : x = Nm.wv na xs + Nm.wv nb ys) (h1 : okB na xs = true) (h2 : okB nb ys = true) (hc : (na == nb) = false) (hm : cmpL xs ys < 0) :
    Calls Tryz.prog 61 #[.agg #[.bool na, .slice a xs.length cap], .agg #[.bool nb, .slice b ys.length cap']] w fun e w' => ∃ a' c', e = .returned (.tuple #[.agg #[.bool (opN (okB na xs && okB nb ys) x), .slice a' (opL (okB na xs && okB nb ys) x).length c'], .bool (opO (okB na xs && okB nb ys) x)]) ∧ Own w' w.heap.size a' c' (opL (okB na xs && okB nb ys) x) ∧ Below w.heap.size w w' := by
  have HX : Hid (∀ os, Nm.val os = Nm.val ys - Nm.val xs → x = Nm.wv nb os) := hid (fun os h => by rw [hxv]; exact Nm.wv_less' hc h)
  have nx0 := (okB_nz h1).1
  have ny0 := (okB_nz h2).1
  have hge : Nm.val xs ≤ Nm.val ys := by have := (cmpL_val dx dy nx0 ny0).1; omega
  have hln : xs.length ≤ ys.length := Nm.len_le_of_val dy dx nx0 hge
  have HGE := hid (And.intro hge hln)
  clear hxv hge hln nx0 ny0
  have HK : Hid ((okB na xs && okB nb ys) = true) := hid (by rw [h1, h2]; rfl)
  obtain ⟨nx, lx⟩ := okB_nz h1
  obtain ⟨ny, ly⟩ := okB_nz h2
  go_enter Tryz.func61, Tryz.ntmps61
  have Bx := ((Box.new w (.bool na) (.slice a xs.length cap) 32).alloc (.cells #[.bool nb, .slice b ys.length cap'] 32)).alloc (.cells #[.bool false, .slice none 0 0] 32)
  have By := (Box.new2 w (.cells #[.bool na, .slice a xs.length cap] 32) (.bool nb) (.slice b ys.length cap') 32).alloc (.cells #[.bool false, .slice none 0 0] 32)
  have Fx := ((R2.new w (.bool na) (.slice a xs.length cap) 32).alloc (.cells #[.bool nb, .slice b ys.length cap'] 32)).alloc (.cells #[.bool false, .slice none 0 0] 32)
  have Fy := (R2.new2 w (.cells #[.bool na, .slice a xs.length cap] 32) (.bool nb) (.slice b ys.length cap') 32).alloc (.cells #[.bool false, .slice none 0 0] 32)
  have Rz : R2 (((w.alloc (.cells #[.bool na, .slice a xs.length cap] 32)).alloc (.cells #[.bool nb, .slice b ys.length cap'] 32)).alloc (.cells #[.bool false, .slice none 0 0] 32)) (w.heap.size + 1 + 1) (.bool false) (.slice none 0 0) := by simpa using R2.new2 (w.alloc (.cells #[.bool na, .slice a xs.length cap] 32)) (.cells #[.bool nb, .slice b ys.length cap'] 32) (.bool false) (.slice none 0 0) 32
  have sx := ((hx.alloc (.cells #[.bool na, .slice a xs.length cap] 32)).alloc (.cells #[.bool nb, .slice b ys.length cap'] 32)).alloc (.cells #[.bool false, .slice none 0 0] 32)
  have sy := ((hy.alloc (.cells #[.bool na, .slice a xs.length cap] 32)).alloc (.cells #[.bool nb, .slice b ys.length cap'] 32)).alloc (.cells #[.bool false, .slice none 0 0] 32)
  have hbW : Below w.heap.size w (((w.alloc (.cells #[.bool na, .slice a xs.length cap] 32)).alloc (.cells #[.bool nb, .slice b ys.length cap'] 32)).alloc (.cells #[.bool false, .slice none 0 0] 32)) := (by repeat (first | exact bz0 _ _ | refine bz1 ?_ | refine bz2 ?_ _ | refine bz3 ?_ _ | refine bz5 ?_ _ | refine bz6 ?_ _))
  go_wp2_with fail
  refine (ok_impl na a cap xs _ sx (by omega)).mono ?_
  rintro e W1 ⟨rfl, hb1⟩
  replace Bx := Bx.below hb1
  replace By := By.below hb1
  replace Fx := Fx.below hb1
  replace Fy := Fy.below hb1
  replace Rz := Rz.below hb1
  replace sx := sx.below hb1
  replace sy := sy.below hb1
  replace hbW := bel_go hbW hb1
  obtain ⟨y0, y1⟩ := By
  go_wp2_with fail
  refine (ok_impl nb b cap' ys _ sy (by omega)).mono ?_
  rintro e W ⟨rfl, hb2⟩
  have By : Box W1 (w.heap.size + 1) (.bool nb) (.slice b ys.length cap') := ⟨y0, y1⟩
  replace Bx := Bx.below hb2
  replace By := By.below hb2
  replace Fx := Fx.below hb2
  replace Fy := Fy.below hb2
  replace Rz := Rz.below hb2
  replace sx := sx.below hb2
  replace sy := sy.below hb2
  replace hbW := bel_go hbW hb2
  have lW : w.heap.size + 1 + 1 < W.heap.size := World.block_lt_of_cell? W _ Rz.c0
  clear y0 y1 hb1 hb2
  obtain ⟨x0, x1⟩ := Bx
  obtain ⟨y0, y1⟩ := By
  go_wp2_with fail
  refine (cmpLimbs_any a b cap cap' xs ys _ sx sy (by omega) (by omega)).mono ?_
  rintro e W3 ⟨rfl, hb3⟩
  have Bx : Box W (w.heap.size) (.bool na) (.slice a xs.length cap) := ⟨x0, x1⟩
  have By : Box W (w.heap.size + 1) (.bool nb) (.slice b ys.length cap') := ⟨y0, y1⟩
  have l0 : W.heap.size ≤ W3.heap.size := hb3.size
  replace Bx := Bx.below hb3
  replace By := By.below hb3
  replace Fx := Fx.below hb3
  replace Fy := Fy.below hb3
  replace Rz := Rz.below hb3
  replace sx := sx.below hb3
  replace sy := sy.below hb3
  replace hbW := bel_go hbW hb3
  clear x0 x1 y0 y1 hb3
  have lW3 : w.heap.size + 1 + 1 < W3.heap.size := World.block_lt_of_cell? W3 _ Rz.c0
  obtain ⟨x0, x1, xf0, xf1⟩ := Fx
  obtain ⟨y0, y1, yf0, yf1⟩ := Fy
  have hfin := swapped (w := W3) ⟨x0, x1, xf0, xf1⟩ ⟨y0, y1, yf0, yf1⟩ Rz (by omega) (by omega) (by omega)
  have hbs : Below w.heap.size w ((((W3.setCell ⟨w.heap.size, 0, none⟩ (.bool nb)).setCell ⟨w.heap.size, 1, none⟩ (.slice b ys.length cap')).setCell ⟨w.heap.size + 1, 0, none⟩ (.bool na)).setCell ⟨w.heap.size + 1, 1, none⟩ (.slice a xs.length cap)) := (((hbW.setCell (by simp) _).setCell (by simp) _).setCell (by simp) _).setCell (by simp) _
  have hss := And.intro (hx.below hbs) (hy.below hbs)
  go_wp2_with fail
  generalize (((W3.setCell ⟨w.heap.size, 0, none⟩ (.bool nb)).setCell ⟨w.heap.size, 1, none⟩ (.slice b ys.length cap')).setCell ⟨w.heap.size + 1, 0, none⟩ (.bool na)).setCell ⟨w.heap.size + 1, 1, none⟩ (.slice a xs.length cap) = W4 at hfin hbs hss ⊢
  clear x0 x1 xf0 xf1 y0 y1 yf0 yf1 Bx By sx sy hbW Rz
  obtain ⟨By, Bx, Rz⟩ := hfin
  obtain ⟨sx, sy⟩ := hss
  have hbW := hbs
  have lW : w.heap.size + 1 + 1 < W4.heap.size := World.block_lt_of_cell? W4 _ Rz.c0
  go_region_held3 (fun w' => w'.cell? ⟨w.heap.size, 0, none⟩ = some (.bool nb) ∧ w'.cell? ⟨w.heap.size, 1, none⟩ = some (.slice b ys.length cap') ∧ w'.cell? ⟨w.heap.size + 1, 1, none⟩ = some (.slice a xs.length cap)) (first | assumption | (refine keep3_set k3.1 k3.2.1 k3.2.2 ?_ ?_ _ _ <;> omega) | exact ⟨By.1, By.2, Bx.2⟩)
    (first
      | (go_at_call 162; refine (subLimbs_any b a cap' cap ys xs _ (by exact sy.drew) (by exact sx.drew) dy dx (by omega) HGE.out.2 HGE.out.1).mono ?_; rintro e w2 ⟨a2, c2, os, rfl, ho2, dos, hv, hlo, hb2⟩; have k2 := keep3 (w := W4.drew) By.1 By.2 Bx.2 hb2; have Rz2 := Rz.drew.below hb2)
      | (go_at_call 105; refine (fitted_v nb a2 c2 os W4.heap.size _ (by exact ho2) dos hlo x (HX.out os hv)).mono ?_; rintro e w3 ⟨a3, c3, rfl, ho3, hb3⟩; have k3 := keep3 k2.1 k2.2.1 k2.2.2 hb3; have Rz3 := Rz2.below hb3; obtain ⟨z0, z1, zf0, zf1⟩ := Rz3))
  have l2 : W4.heap.size ≤ w2.heap.size := hb2.size
  have l3 : w2.heap.size ≤ w3.heap.size := hb3.size
  go_wp2
  obtain ⟨e1, e2, e3⟩ := op_yes x
  refine bodyPost_ret (v := .tuple #[.agg #[.bool (Nm.outN x), .slice a3 (Nm.outL x).length c3], .bool (Nm.fits x)]) (by simp [results, Tryz.results61, go_sem, z0, z1]) rfl ⟨a3, c3, ?_, ?_, ?_⟩
  · rw [HK.out, e1, e2, e3]
  · rw [HK.out, e1]
    exact Own.base ((ho3.setBelow (by simp; omega) _).setBelow (by simp; omega) _) (by omega)
  · exact ((bel_go (bel_go (Below.drew hbW) hb2) hb3).setCell (by simp; omega) _).setCell (by simp; omega) _
theorem wadd_impl (na nb : Bool) (a b : Option Addr) (cap cap' : Nat) (xs ys : List Int) (w : World) (hx : Sl .u32 w (.slice a xs.length cap) xs) (hy : Sl .u32 w (.slice b ys.length cap') ys) (dx : Nm.Dg xs) (dy : Nm.Dg ys) (hl : xs.length ≤ 1048576) (hl' : ys.length ≤ 1048576) (x : Int) (hxv : x = Nm.wv na xs + Nm.wv nb ys) :
    Calls Tryz.prog 61 #[.agg #[.bool na, .slice a xs.length cap], .agg #[.bool nb, .slice b ys.length cap']] w fun e w' => ∃ a' c', e = .returned (.tuple #[.agg #[.bool (opN (okB na xs && okB nb ys) x), .slice a' (opL (okB na xs && okB nb ys) x).length c'], .bool (opO (okB na xs && okB nb ys) x)]) ∧ Own w' w.heap.size a' c' (opL (okB na xs && okB nb ys) x) ∧ Below w.heap.size w w' := by
  cases h1 : okB na xs
  · have := wadd_impl_no0 na nb a b cap cap' xs ys w hx hy dx dy hl hl' x h1
    rwa [h1] at this
  · cases h2 : okB nb ys
    · have := wadd_impl_no1 na nb a b cap cap' xs ys w hx hy dx dy hl hl' x h1 h2
      rwa [h1, h2] at this
    · cases hc : (na == nb)
      · by_cases hm : cmpL xs ys < 0
        · have := wadd_low na nb a b cap cap' xs ys w hx hy dx dy hl hl' x hxv h1 h2 hc hm
          rwa [h1, h2] at this
        · have := wadd_high na nb a b cap cap' xs ys w hx hy dx dy hl hl' x hxv h1 h2 hc hm
          rwa [h1, h2] at this
      · have := wadd_same na nb a b cap cap' xs ys w hx hy dx dy hl hl' x hxv h1 h2 hc
        rwa [h1, h2] at this
end Go.Proofs.YtkfjmcdniohljaaGreatDoor
