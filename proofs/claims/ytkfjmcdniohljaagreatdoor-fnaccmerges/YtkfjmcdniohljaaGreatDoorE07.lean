/-
  What is needed of Rows2, WideP, WideR.
-/
import Derived.Test.YtkfjmcdniohljaaGreatDoorE04
set_option maxHeartbeats 16000000
set_option maxRecDepth 1000000
namespace Go.Proofs.YtkfjmcdniohljaaGreatDoor
set_option linter.unusedVariables false
set_option linter.unusedSimpArgs false
open Go.RowKit Go.Deep
theorem add32_any (x y c : Int) (w : World) (hx : 0 ≤ x) (hx1 : x < 4294967296) (hy : 0 ≤ y) (hy1 : y < 4294967296) (hc : 0 ≤ c) (hc1 : c ≤ 1) :
    Calls Tryz.prog 217 #[.int .u32 x, .int .u32 y, .int .u32 c] w fun e w' => e = .returned (.tuple #[.int .u32 ((x + y + c) % 4294967296), .int .u32 ((x + y + c) / 4294967296)]) ∧ w' = w := by
  go_enter Tryz.func217, Tryz.ntmps217
  go_wp2
  go_ret2
  exact ⟨rfl, rfl⟩
theorem mk1 (N : Nat) (h : N ≤ 1000000) : ∀ w : World, (Instr.makeSlice 30 (.int .i64 ((N : Int) + 1)) (.int .i64 ((N : Int) + 1))).run Tryz.prog w = .ok (.slice (some ⟨w.heap.size, 0, none⟩) (N + 1) (N + 1)) (w.alloc (.cells (madeCells #[.int .u32 0] (N + 1)) 128)) :=
  run_make_row' (P := Tryz.prog) 30 128 (.int .u32 0) 4 Tryz.underlying30 info32 rfl .i64 .i64 (N + 1) (by omega) (by omega)
theorem addLimbs_lt (a a' : Option Addr) (cap cap' : Nat) (xs ys : List Int) (w : World) (hx : Sl .u32 w (.slice a xs.length cap) xs) (hy : Sl .u32 w (.slice a' ys.length cap') ys) (dx : Nm.Dg xs) (dy : Nm.Dg ys) (hl : xs.length ≤ 1000000) (hl' : ys.length ≤ 1000000) (hc : xs.length < ys.length) :
    Calls Tryz.prog 161 #[.slice a xs.length cap, .slice a' ys.length cap'] w fun e w' => ∃ a1 c1 os, e = .returned (.slice a1 os.length c1) ∧ Own w' w.heap.size a1 c1 os ∧ Nm.Dg os ∧ Nm.val os = Nm.val xs + Nm.val ys ∧ os.length ≤ 1048576 ∧ Below w.heap.size w w' := by
  have hmk := mk1 ys.length (by omega)
  go_enter Tryz.func161, Tryz.ntmps161
  go_wp2_with fail
  clear hmk
  go_loopw [7, 18] (fun cy i wr => ∃ k : Nat, ∃ os : List Int, ∃ c : Int, k ≤ ys.length ∧ i = .int .i64 k ∧ cy = .int .u32 c ∧ 0 ≤ c ∧ c ≤ 1 ∧ os.length = ys.length + 1 ∧ Rw wr w.heap.size os ∧ Nm.Dg os ∧ Nm.AddAt xs ys os k c ∧ Below w.heap.size w wr) (fun _ i _ => ys.length - (intOf i).toNat)
  case atStart => exact ⟨0, List.replicate (ys.length + 1) 0, 0, Nat.zero_le _, rfl, rfl, by omega, by omega, by simp, Rw.made w (ys.length + 1), Nm.Dg.replicate _, Nm.AddAt.zero _ _ _, (by repeat (first | exact bz0 _ _ | refine bz1 ?_ | refine bz2 ?_ _ | refine bz3 ?_ _ | refine bz5 ?_ _ | refine bz6 ?_ _))⟩
  case round =>
    obtain ⟨k, os, c, hk, rfl, rfl, hc0, hc1, hol, hrw, hdo, hadd, hb⟩ := hrel
    have HOL := hid hol
    have hol1 : ys.length + 1 ≤ os.length := by omega
    have HADD := hid hadd
    have HDO := hid hdo
    clear hol hadd hdo
    have sx := hx.below hb
    have sy := hy.below hb
    by_cases hlt : k < ys.length
    · have hcell := hrw.cell (k := k) (by omega)
      have hfr := hrw.frozen k
      have c1 := limbAt_any a cap xs k wr sx (by omega) (by omega)
      have c2 := limbAt_any a' cap' ys k wr sy (by omega) (by omega)
      have hst := fun d c' => Nm.AddAt.step (d := d) (c' := c') HADD.out (show k < os.length by omega)
      obtain ⟨ex0, ex1⟩ := dx.getD k
      obtain ⟨ey0, ey1⟩ := dy.getD k
      obtain ⟨x, hxk⟩ : ∃ x, x = xs.getD k 0 := ⟨_, rfl⟩
      obtain ⟨y, hyk⟩ : ∃ y, y = ys.getD k 0 := ⟨_, rfl⟩
      rw [← hxk] at c1 ex0 ex1
      rw [← hyk] at c2 ey0 ey1
      rw [← hxk, ← hyk] at hst
      have C1 := hid c1
      have C2 := hid c2
      have HST := hid hst
      clear c1 c2 hst hxk hyk
      go_wp2_with fail
      refine C1.out.mono ?_
      rintro e w1 ⟨rfl, rfl⟩
      go_wp2_with fail
      refine C2.out.mono ?_
      rintro e w1 ⟨rfl, rfl⟩
      go_wp2_with fail
      refine (add32_any x y c _ ex0 ex1 ey0 ey1 hc0 hc1).mono ?_
      rintro e w1 ⟨rfl, rfl⟩
      go_wp2
      go_roundw
      case rel =>
        refine ⟨k + 1, os.set k ((x + y + c) % 4294967296), (x + y + c) / 4294967296, by omega, by go_num, rfl, by omega, by omega, by rw [List.length_set]; exact HOL.out, hrw.set (by omega) _, HDO.out.set _ (by omega), HST.out _ _ (by omega), hb.setCell (Nat.le_refl _) _⟩
      case measure => simp [intOf]; omega
    · obtain rfl : k = ys.length := by omega
      have hcell := hrw.cell (k := ys.length) (by omega)
      have hfr := hrw.frozen ys.length
      go_wp2
      go_ret
      have hfull : Nm.val (os.set ys.length c) = Nm.val xs + Nm.val ys := by
        have h1 := HADD.out
        have h2 := Nm.val_take_succ (os.set ys.length c) ys.length
        have h3 : (os.set ys.length c).take (ys.length + 1) = os.set ys.length c := List.take_of_length_le (by rw [List.length_set]; exact Nat.le_of_eq HOL.out)
        rw [h3, List.take_set_of_le (Nat.le_refl _), Nm.getD_set _ _ _ _ (by omega), if_pos rfl] at h2
        unfold Nm.AddAt at h1
        rw [List.take_of_length_le (l := xs) (by omega), List.take_of_length_le (l := ys) (by omega)] at h1
        omega
      have hlen : (os.set ys.length c).length = ys.length + 1 := by rw [List.length_set]; exact HOL.out
      have hown : Own (wr.setCell ⟨w.heap.size, ys.length, none⟩ (.int .u32 c)) w.heap.size (some ⟨w.heap.size, 0, none⟩) (ys.length + 1) (os.set ys.length c) := by
        have := (hrw.set (k := ys.length) (by omega) c).own (base := w.heap.size) (Nat.le_refl _) (by unfold maxLen; omega)
        rwa [hlen] at this
      refine ⟨some ⟨w.heap.size, 0, none⟩, ys.length + 1, os.set ys.length c, by rw [hlen]; rfl, hown, HDO.out.set _ (by omega), hfull, by omega, hb.setCell (Nat.le_refl _) _⟩
theorem addLimbs_ge (a a' : Option Addr) (cap cap' : Nat) (xs ys : List Int) (w : World) (hx : Sl .u32 w (.slice a xs.length cap) xs) (hy : Sl .u32 w (.slice a' ys.length cap') ys) (dx : Nm.Dg xs) (dy : Nm.Dg ys) (hl : xs.length ≤ 1000000) (hl' : ys.length ≤ 1000000) (hc : ¬ xs.length < ys.length) :
    Calls Tryz.prog 161 #[.slice a xs.length cap, .slice a' ys.length cap'] w fun e w' => ∃ a1 c1 os, e = .returned (.slice a1 os.length c1) ∧ Own w' w.heap.size a1 c1 os ∧ Nm.Dg os ∧ Nm.val os = Nm.val xs + Nm.val ys ∧ os.length ≤ 1048576 ∧ Below w.heap.size w w' := by
  have hmk := mk1 xs.length (by omega)
  go_enter Tryz.func161, Tryz.ntmps161
  go_wp2_with fail
  clear hmk
  go_loopw [7, 18] (fun cy i wr => ∃ k : Nat, ∃ os : List Int, ∃ c : Int, k ≤ xs.length ∧ i = .int .i64 k ∧ cy = .int .u32 c ∧ 0 ≤ c ∧ c ≤ 1 ∧ os.length = xs.length + 1 ∧ Rw wr w.heap.size os ∧ Nm.Dg os ∧ Nm.AddAt xs ys os k c ∧ Below w.heap.size w wr) (fun _ i _ => xs.length - (intOf i).toNat)
  case atStart => exact ⟨0, List.replicate (xs.length + 1) 0, 0, Nat.zero_le _, rfl, rfl, by omega, by omega, by simp, Rw.made w (xs.length + 1), Nm.Dg.replicate _, Nm.AddAt.zero _ _ _, (by repeat (first | exact bz0 _ _ | refine bz1 ?_ | refine bz2 ?_ _ | refine bz3 ?_ _ | refine bz5 ?_ _ | refine bz6 ?_ _))⟩
  case round =>
    obtain ⟨k, os, c, hk, rfl, rfl, hc0, hc1, hol, hrw, hdo, hadd, hb⟩ := hrel
    have HOL := hid hol
    have hol1 : xs.length + 1 ≤ os.length := by omega
    have HADD := hid hadd
    have HDO := hid hdo
    clear hol hadd hdo
    have sx := hx.below hb
    have sy := hy.below hb
    by_cases hlt : k < xs.length
    · have hcell := hrw.cell (k := k) (by omega)
      have hfr := hrw.frozen k
      have c1 := limbAt_any a cap xs k wr sx (by omega) (by omega)
      have c2 := limbAt_any a' cap' ys k wr sy (by omega) (by omega)
      have hst := fun d c' => Nm.AddAt.step (d := d) (c' := c') HADD.out (show k < os.length by omega)
      obtain ⟨ex0, ex1⟩ := dx.getD k
      obtain ⟨ey0, ey1⟩ := dy.getD k
      obtain ⟨x, hxk⟩ : ∃ x, x = xs.getD k 0 := ⟨_, rfl⟩
      obtain ⟨y, hyk⟩ : ∃ y, y = ys.getD k 0 := ⟨_, rfl⟩
      rw [← hxk] at c1 ex0 ex1
      rw [← hyk] at c2 ey0 ey1
      rw [← hxk, ← hyk] at hst
      have C1 := hid c1
      have C2 := hid c2
      have HST := hid hst
      clear c1 c2 hst hxk hyk
      go_wp2_with fail
      refine C1.out.mono ?_
      rintro e w1 ⟨rfl, rfl⟩
      go_wp2_with fail
      refine C2.out.mono ?_
      rintro e w1 ⟨rfl, rfl⟩
      go_wp2_with fail
      refine (add32_any x y c _ ex0 ex1 ey0 ey1 hc0 hc1).mono ?_
      rintro e w1 ⟨rfl, rfl⟩
      go_wp2
      go_roundw
      case rel =>
        refine ⟨k + 1, os.set k ((x + y + c) % 4294967296), (x + y + c) / 4294967296, by omega, by go_num, rfl, by omega, by omega, by rw [List.length_set]; exact HOL.out, hrw.set (by omega) _, HDO.out.set _ (by omega), HST.out _ _ (by omega), hb.setCell (Nat.le_refl _) _⟩
      case measure => simp [intOf]; omega
    · obtain rfl : k = xs.length := by omega
      have hcell := hrw.cell (k := xs.length) (by omega)
      have hfr := hrw.frozen xs.length
      go_wp2
      go_ret
      have hfull : Nm.val (os.set xs.length c) = Nm.val xs + Nm.val ys := by
        have h1 := HADD.out
        have h2 := Nm.val_take_succ (os.set xs.length c) xs.length
        have h3 : (os.set xs.length c).take (xs.length + 1) = os.set xs.length c := List.take_of_length_le (by rw [List.length_set]; exact Nat.le_of_eq HOL.out)
        rw [h3, List.take_set_of_le (Nat.le_refl _), Nm.getD_set _ _ _ _ (by omega), if_pos rfl] at h2
        unfold Nm.AddAt at h1
        rw [List.take_of_length_le (l := xs) (by omega), List.take_of_length_le (l := ys) (by omega)] at h1
        omega
      have hlen : (os.set xs.length c).length = xs.length + 1 := by rw [List.length_set]; exact HOL.out
      have hown : Own (wr.setCell ⟨w.heap.size, xs.length, none⟩ (.int .u32 c)) w.heap.size (some ⟨w.heap.size, 0, none⟩) (xs.length + 1) (os.set xs.length c) := by
        have := (hrw.set (k := xs.length) (by omega) c).own (base := w.heap.size) (Nat.le_refl _) (by unfold maxLen; omega)
        rwa [hlen] at this
      refine ⟨some ⟨w.heap.size, 0, none⟩, xs.length + 1, os.set xs.length c, by rw [hlen]; rfl, hown, HDO.out.set _ (by omega), hfull, by omega, hb.setCell (Nat.le_refl _) _⟩
theorem addLimbs_any (a a' : Option Addr) (cap cap' : Nat) (xs ys : List Int) (w : World) (hx : Sl .u32 w (.slice a xs.length cap) xs) (hy : Sl .u32 w (.slice a' ys.length cap') ys) (dx : Nm.Dg xs) (dy : Nm.Dg ys) (hl : xs.length ≤ 1000000) (hl' : ys.length ≤ 1000000) :
    Calls Tryz.prog 161 #[.slice a xs.length cap, .slice a' ys.length cap'] w fun e w' => ∃ a1 c1 os, e = .returned (.slice a1 os.length c1) ∧ Own w' w.heap.size a1 c1 os ∧ Nm.Dg os ∧ Nm.val os = Nm.val xs + Nm.val ys ∧ os.length ≤ 1048576 ∧ Below w.heap.size w w' := by
  by_cases h : xs.length < ys.length
  · exact addLimbs_lt a a' cap cap' xs ys w hx hy dx dy hl hl' h
  · exact addLimbs_ge a a' cap cap' xs ys w hx hy dx dy hl hl' h
theorem top_bit (n : Nat) (h : n < 4294967296) : n.testBit 31 = decide (2147483648 ≤ n) := by
  rw [Nat.testBit_eq_decide_div_mod_eq]
  have e : n / 2 ^ 31 % 2 = 1 ↔ 2147483648 ≤ n := by omega
  simp only [e]
theorem top_div (n : Nat) (h : n < 4294967296) : n / 2147483648 = if n.testBit 31 then 1 else 0 := by
  rw [top_bit n h]
  by_cases hc : 2147483648 ≤ n
  · simp [hc]; omega
  · simp [hc]; omega
theorem borrow_nat (X Y D : Nat) (hX : X < 4294967296) (hY : Y < 4294967296) (hD : D < 4294967296) :
    (((4294967295 ^^^ X) &&& Y) ||| ((4294967295 ^^^ (X ^^^ Y)) &&& D)) / 2147483648 = if (!decide (2147483648 ≤ X) && decide (2147483648 ≤ Y)) || (decide (2147483648 ≤ X) == decide (2147483648 ≤ Y) && decide (2147483648 ≤ D)) then 1 else 0 := by
  have h1 : (4294967295 ^^^ X) < 2 ^ 32 := Nat.xor_lt_two_pow (by decide) (by omega)
  have h2 : (X ^^^ Y) < 2 ^ 32 := Nat.xor_lt_two_pow (by omega) (by omega)
  have h3 : (4294967295 ^^^ (X ^^^ Y)) < 2 ^ 32 := Nat.xor_lt_two_pow (by decide) h2
  have h4 : ((4294967295 ^^^ X) &&& Y) < 2 ^ 32 := Nat.and_lt_two_pow _ (by omega)
  have h5 : ((4294967295 ^^^ (X ^^^ Y)) &&& D) < 2 ^ 32 := Nat.and_lt_two_pow _ (by omega)
  have h6 := Nat.or_lt_two_pow h4 h5
  rw [top_div _ (by omega), Nat.testBit_or, Nat.testBit_and, Nat.testBit_and, Nat.testBit_xor, Nat.testBit_xor, Nat.testBit_xor, top_bit X hX, top_bit Y hY, top_bit D hD, show Nat.testBit 4294967295 31 = true from by decide]
  cases decide (2147483648 ≤ X) <;> cases decide (2147483648 ≤ Y) <;> cases decide (2147483648 ≤ D) <;> rfl
theorem umax : IntKind.u32.max = 4294967295 := by decide
/-- What is borrowed. -/
def bor (x y c : Int) : Int := if x < y + c then 1 else 0
theorem borrow_any (x y c : Int) (hx : 0 ≤ x) (hx1 : x < 4294967296) (hy : 0 ≤ y) (hy1 : y < 4294967296) (hc : 0 ≤ c) (hc1 : c ≤ 1) :
    bits .or .u32 (bits .and .u32 (bits .xor .u32 IntKind.u32.max x) y) (bits .and .u32 (bits .xor .u32 IntKind.u32.max (bits .xor .u32 x y)) ((x - y - c) % 4294967296)) / 2147483648 = bor x y c := by
  unfold bor
  obtain ⟨X, rfl⟩ := Int.eq_ofNat_of_zero_le hx
  obtain ⟨Y, rfl⟩ := Int.eq_ofNat_of_zero_le hy
  obtain ⟨D, hD⟩ : ∃ D : Nat, ((X : Int) - Y - c) % 4294967296 = (D : Int) := Int.eq_ofNat_of_zero_le (by omega)
  rw [hD, umax]
  have hX : X < 4294967296 := by omega
  have hY : Y < 4294967296 := by omega
  have hD1 : D < 4294967296 := by omega
  have e1 : bits .xor .u32 (4294967295 : Int) (X : Int) = ((4294967295 ^^^ X : Nat) : Int) := by
    have := u32_xor_nat 4294967295 X (by decide) hX
    simpa using this
  have h1 : (4294967295 ^^^ X) < 2 ^ 32 := Nat.xor_lt_two_pow (by decide) (by omega)
  have h2 : (X ^^^ Y) < 2 ^ 32 := Nat.xor_lt_two_pow (by omega) (by omega)
  have e3 : bits .xor .u32 (4294967295 : Int) ((X ^^^ Y : Nat) : Int) = ((4294967295 ^^^ (X ^^^ Y) : Nat) : Int) := by
    have := u32_xor_nat 4294967295 (X ^^^ Y) (by decide) (by omega)
    simpa using this
  have h3 : (4294967295 ^^^ (X ^^^ Y)) < 2 ^ 32 := Nat.xor_lt_two_pow (by decide) h2
  have h4 : ((4294967295 ^^^ X) &&& Y) < 2 ^ 32 := Nat.and_lt_two_pow _ (by omega)
  have h5 : ((4294967295 ^^^ (X ^^^ Y)) &&& D) < 2 ^ 32 := Nat.and_lt_two_pow _ (by omega)
  rw [e1, u32_xor_nat X Y hX hY, e3, u32_and_nat _ Y (by omega) hY, u32_and_nat _ D (by omega) hD1, u32_or_nat _ _ (by omega) (by omega)]
  rw [show ((2147483648 : Int)) = ((2147483648 : Nat) : Int) from rfl, ← Int.natCast_ediv, borrow_nat X Y D hX hY hD1]
  by_cases b1 : 2147483648 ≤ X <;> by_cases b2 : 2147483648 ≤ Y <;> by_cases b3 : 2147483648 ≤ D <;> by_cases b4 : (X : Int) < Y + c <;> simp [b1, b2, b3, b4] <;> omega
theorem ret_two {a a' b b' : Int} (h : a = a') (k : b = b') : Ending.returned (.tuple #[.int .u32 a, .int .u32 b]) = .returned (.tuple #[.int .u32 a', .int .u32 b']) := by rw [h, k]
theorem sub32_any (x y c : Int) (w : World) (hx : 0 ≤ x) (hx1 : x < 4294967296) (hy : 0 ≤ y) (hy1 : y < 4294967296) (hc : 0 ≤ c) (hc1 : c ≤ 1) :
    Calls Tryz.prog 218 #[.int .u32 x, .int .u32 y, .int .u32 c] w fun e w' => e = .returned (.tuple #[.int .u32 ((x - y - c) % 4294967296), .int .u32 (bor x y c)]) ∧ w' = w := by
  have HB := hid (borrow_any x y c hx hx1 hy hy1 hc hc1)
  go_enter Tryz.func218, Tryz.ntmps218
  go_wp2
  go_ret2
  exact ⟨ret_two rfl HB.out, rfl⟩
theorem bor_is (x y c : Int) (hx : 0 ≤ x) (hx1 : x < 4294967296) (hy : 0 ≤ y) (hy1 : y < 4294967296) (hc : 0 ≤ c) (hc1 : c ≤ 1) : (x - y - c) % 4294967296 - 4294967296 * bor x y c = x - y - c ∧ 0 ≤ bor x y c ∧ bor x y c ≤ 1 := by
  unfold bor; split <;> omega
theorem subLimbs_any (a a' : Option Addr) (cap cap' : Nat) (xs ys : List Int) (w : World) (hx : Sl .u32 w (.slice a xs.length cap) xs) (hy : Sl .u32 w (.slice a' ys.length cap') ys) (dx : Nm.Dg xs) (dy : Nm.Dg ys) (hl : xs.length ≤ 500000) (hl' : ys.length ≤ xs.length) (hge : Nm.val ys ≤ Nm.val xs) :
    Calls Tryz.prog 162 #[.slice a xs.length cap, .slice a' ys.length cap'] w fun e w' => ∃ a1 c1 os, e = .returned (.slice a1 os.length c1) ∧ Own w' w.heap.size a1 c1 os ∧ Nm.Dg os ∧ Nm.val os = Nm.val xs - Nm.val ys ∧ os.length ≤ 1048576 ∧ Below w.heap.size w w' := by
  have hmk := run_make_row' (P := Tryz.prog) 30 128 (.int .u32 0) 4 Tryz.underlying30 info32 rfl .i64 .i64 xs.length (by omega) (by omega)
  obtain ⟨-, hx1, hx2, hx3⟩ := hx.cells
  have HX3 := hid hx3
  have HGE := hid hge
  clear hx3 hge
  go_enter Tryz.func162, Tryz.ntmps162
  go_wp2_with fail
  clear hmk
  go_loopw [6, 13] (fun cy i wr => ∃ k : Nat, ∃ os : List Int, ∃ c : Int, k ≤ xs.length ∧ i = .int .i64 k ∧ cy = .int .u32 c ∧ 0 ≤ c ∧ c ≤ 1 ∧ os.length = xs.length ∧ Rw wr w.heap.size os ∧ Nm.Dg os ∧ Nm.SubAt xs ys os k c ∧ Below w.heap.size w wr) (fun _ i _ => xs.length - (intOf i).toNat)
  case atStart => exact ⟨0, List.replicate xs.length 0, 0, Nat.zero_le _, rfl, rfl, by omega, by omega, by simp, Rw.made w xs.length, Nm.Dg.replicate _, Nm.SubAt.zero _ _ _, (by repeat (first | exact bz0 _ _ | refine bz1 ?_ | refine bz2 ?_ _ | refine bz3 ?_ _ | refine bz5 ?_ _ | refine bz6 ?_ _))⟩
  case round =>
    obtain ⟨k, os, c, hk, rfl, rfl, hc0, hc1, hol, hrw, hdo, hadd, hb⟩ := hrel
    have HOL := hid hol
    have hol1 : xs.length ≤ os.length := by omega
    have HADD := hid hadd
    have HDO := hid hdo
    clear hol hadd hdo
    have sy := hy.below hb
    by_cases hlt : k < xs.length
    · have hcell := hrw.cell (k := k) (by omega)
      have hfr := hrw.frozen k
      obtain ⟨o, ho⟩ : ∃ o, o = os.getD k 0 := ⟨_, rfl⟩
      rw [← ho] at hcell
      obtain ⟨b, off, rfl, hcx⟩ := HX3.out (by omega)
      have hca0 := hcx k hlt
      have hbl := World.block_lt_of_cell? w _ hca0
      have hca : wr.cell? ⟨b, off + k, none⟩ = some (.int .u32 (xs.getD k 0)) := (hb.cell (p := ⟨b, off + k, none⟩) hbl).trans hca0
      have c2 := fun w' (h : Sl .u32 w' (.slice a' ys.length cap') ys) => limbAt_any a' cap' ys k w' h (by omega) (by omega)
      have hst := fun d c' => Nm.SubAt.step (d := d) (c' := c') HADD.out (show k < os.length by omega)
      obtain ⟨ex0, ex1⟩ := dx.getD k
      obtain ⟨ey0, ey1⟩ := dy.getD k
      obtain ⟨x, hxk⟩ : ∃ x, x = xs.getD k 0 := ⟨_, rfl⟩
      obtain ⟨y, hyk⟩ : ∃ y, y = ys.getD k 0 := ⟨_, rfl⟩
      rw [← hxk] at hca ex0 ex1
      simp only [← hyk] at c2
      rw [← hyk] at ey0 ey1
      rw [← hxk, ← hyk] at hst
      have C2 := hid c2
      have HST := hid hst
      have HBO := hid (bor_is x y c ex0 ex1 ey0 ey1 hc0 hc1)
      clear c2 hst hxk hyk hca0 hcx ho
      have k0 : (0 : Int) ≤ (k : Int) := by omega
      have k1 : (k : Int) < (xs.length : Int) := by omega
      have hne : w.heap.size ≠ b := by simp at hbl; omega
      go_wp2_with fail
      go_region_held3 (fun w' => w'.cell? ⟨b, off + k, none⟩ = some (.int .u32 x)) (first | assumption | go_keep)
        (first
          | (go_at_call 194; refine (C2.out _ (by exact Sl.drew sy)).mono ?_; rintro e w' ⟨rfl, rfl⟩)
          | (go_at_call 218; refine (sub32_any x y c _ ex0 ex1 ey0 ey1 hc0 hc1).mono ?_; rintro e w' ⟨rfl, rfl⟩))
      go_wp2
      obtain ⟨b1, b2, b3⟩ := HBO.out
      go_roundw
      case rel => exact ⟨k + 1, os.set k ((x - y - c) % 4294967296), bor x y c, by omega, by go_num, rfl, b2, b3, by rw [List.length_set]; exact HOL.out, hrw.set (by omega) _, HDO.out.set _ (by omega), HST.out _ _ b1, (hb.setCell (Nat.le_refl _) _).drew⟩
      case measure => simp [intOf]; omega
    · obtain rfl : k = xs.length := by omega
      have hown := hrw.own (base := w.heap.size) (Nat.le_refl _) (by have := HOL.out; unfold maxLen; omega)
      have hs2 := HADD.out
      rw [← HOL.out] at hs2
      have hfull := hs2.full HOL.out.symm (by have := HOL.out; omega) dx dy HDO.out hc0 HGE.out
      have HF := hid (And.intro hown hfull)
      clear hown hfull hs2
      go_wp2
      go_ret
      exact ⟨some ⟨w.heap.size, 0, none⟩, os.length, os, by rw [HOL.out]; rfl, HF.out.1, HDO.out, HF.out.2, by have := HOL.out; omega, hb⟩
end Go.Proofs.YtkfjmcdniohljaaGreatDoor
