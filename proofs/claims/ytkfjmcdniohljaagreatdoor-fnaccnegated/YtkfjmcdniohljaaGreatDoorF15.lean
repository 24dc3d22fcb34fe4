/-
  What is needed of FloatO.
-/
import Derived.Test.YtkfjmcdniohljaaGreatDoorF09
set_option maxHeartbeats 16000000
set_option maxRecDepth 1000000
namespace Go.Proofs.YtkfjmcdniohljaaGreatDoor
set_option linter.unusedVariables false
set_option linter.unusedSimpArgs false
open Go.RowKit
theorem fin_no {fm x : Int} (h : okF fm x = false) : finB fm x = false := by unfold finB; rw [cls_no h]; decide
theorem fin_lt {fm x : Int} (h : okF fm x = true) : finB fm x = decide (absF fm x < infOf fm) := by
 rcases okF_cases h with ⟨rfl, hx⟩ | rfl
 ·unfold finB infOf; rw [cls32 hx, abs32 hx, if_pos rfl]; unfold clsY
  rw [Bool.eq_iff_iff]; simp only [decide_eq_true_eq]
  repeat' split
  all_goals omega
 ·unfold finB infOf; rw [cls64, abs64, if_neg (by decide)]; unfold clsY
  rw [Bool.eq_iff_iff]; simp only [decide_eq_true_eq]
  repeat' split
  all_goals omega
theorem spec_fin (fm x : Int) (w : World) (h0 : 0 ≤ x) (h1 : x < 18446744073709551616) :
  Calls Tryz.prog 129 #[.int .i64 fm, .int .u64 x] w fun e w' => e = .returned (.bool (finB fm x)) ∧ Below w.heap.size w w' := by
 cases ho : okF fm x
 ·have HR := hid (fin_no ho)
  go_enter Tryz.func129, Tryz.ntmps129
  go_wp2_with fail
  refine (spec_ok fm x _).mono ?_
  rintro e w1 ⟨rfl, hb1⟩
  go_wp2
  go_ret
  exact ⟨ret_bool HR.out.symm, (by repeat (first | exact bz0 _ _ | refine bz1 ?_ | refine bz2 ?_ _ | refine bz3 ?_ _ | refine bz4 ?_ hb1 | refine bz5 ?_ _ | refine bz6 ?_ _ | refine bz7 ?_ hb1))⟩
 ·have HR := hid (fin_lt ho)
  have HO := hid ho
  go_enter Tryz.func129, Tryz.ntmps129
  go_wp2_with fail
  refine (spec_ok fm x _).mono ?_
  rintro e w1 ⟨rfl, hb1⟩
  go_wp2_with fail
  refine (spec_l2abs fm x _ HO.out h0 h1).mono ?_
  rintro e w2 ⟨rfl, hb2⟩
  go_wp2_with fail
  refine (spec_inf fm x _ HO.out).mono ?_
  rintro e w3 ⟨rfl, hb3⟩
  go_wp2
  go_ret
  exact ⟨ret_bool HR.out.symm, (by repeat (first | exact bz0 _ _ | refine bz1 ?_ | refine bz2 ?_ _ | refine bz3 ?_ _ | refine bz4 ?_ hb3 | refine bz4 ?_ hb2 | refine bz4 ?_ hb1 | refine bz5 ?_ _ | refine bz6 ?_ _ | refine bz7 ?_ hb3 | refine bz7 ?_ hb2 | refine bz7 ?_ hb1))⟩
theorem spec_P32 (w : World) :
  Calls Tryz.prog 164 #[.int .i64 32] w fun e w' => e = .returned (.int .i64 24) ∧ Below w.heap.size w w' := by
 go_enter Tryz.func164, Tryz.ntmps164
 go_wp2
 go_ret
 exact ⟨rfl, (by repeat (first | exact bz0 _ _ | refine bz1 ?_ | refine bz2 ?_ _ | refine bz3 ?_ _ | refine bz5 ?_ _ | refine bz6 ?_ _))⟩
theorem spec_Q32 (w : World) :
  Calls Tryz.prog 133 #[.int .i64 32] w fun e w' => e = .returned (.int .i64 (-149)) ∧ Below w.heap.size w w' := by
 go_enter Tryz.func133, Tryz.ntmps133
 go_wp2
 go_ret
 exact ⟨rfl, (by repeat (first | exact bz0 _ _ | refine bz1 ?_ | refine bz2 ?_ _ | refine bz3 ?_ _ | refine bz5 ?_ _ | refine bz6 ?_ _))⟩
theorem spec_P64 (w : World) :
  Calls Tryz.prog 164 #[.int .i64 64] w fun e w' => e = .returned (.int .i64 53) ∧ Below w.heap.size w w' := by
 go_enter Tryz.func164, Tryz.ntmps164
 go_wp2
 go_ret
 exact ⟨rfl, (by repeat (first | exact bz0 _ _ | refine bz1 ?_ | refine bz2 ?_ _ | refine bz3 ?_ _ | refine bz5 ?_ _ | refine bz6 ?_ _))⟩
theorem spec_Q64 (w : World) :
  Calls Tryz.prog 133 #[.int .i64 64] w fun e w' => e = .returned (.int .i64 (-1074)) ∧ Below w.heap.size w w' := by
 go_enter Tryz.func133, Tryz.ntmps133
 go_wp2
 go_ret
 exact ⟨rfl, (by repeat (first | exact bz0 _ _ | refine bz1 ?_ | refine bz2 ?_ _ | refine bz3 ?_ _ | refine bz5 ?_ _ | refine bz6 ?_ _))⟩

theorem R3.set1 {w : World} {b : Nat} {v0 v1 v2 : Value} (h : R3 w b v0 v1 v2) (a1 : Value) : R3 (w.setCell ⟨b, 1, none⟩ a1) b v0 a1 v2 := by
 obtain ⟨h0, h1, h2, f0, f1, f2⟩ := h
 exact ⟨by simp [go_sem, h0, h1, h2], by simp [go_sem, h0, h1, h2], by simp [go_sem, h0, h1, h2], by simp [go_sem, f0, f1, f2], by simp [go_sem, f0, f1, f2], by simp [go_sem, f0, f1, f2]⟩
theorem ret_agg3 {s : Bool} {a b a' b' : Int} (h : a = a') (k : b = b') : Ending.returned (.agg #[.bool s, .int .i64 a, .int .i64 b]) = .returned (.agg #[.bool s, .int .i64 a', .int .i64 b']) := by rw [h, k]
theorem spec_l2Parts32 (x : Int) (w : World) (h0 : 0 ≤ x) (h1 : x < 4294967296) :
  Calls Tryz.prog 77 #[.int .i64 32, .int .u64 x] w fun e w' => e = .returned (.agg #[.bool (sigB 32 x), .int .i64 (parM 8388608 (x % 2147483648)), .int .i64 (parE 8388608 (-149) (x % 2147483648))]) ∧ Below w.heap.size w w' := by
 have h1' : x < 18446744073709551616 := by omega
 have HO : Hid (okF 32 x = true) := hid (by first | exact okF32 h1 | exact okF64)
 have HA : Hid (absF 32 x = x % 2147483648) := hid (by first | exact abs32 h1 | exact abs64)
 have HN : Hid (x % 8388608 = x % 2147483648 % 8388608) := hid (by omega)
 have e2 := Bt.mask23 (x % 2147483648) (by omega) (by omega)
 have y0 : 0 ≤ x % 2147483648 := by omega
 have y1 : x % 2147483648 < 2147483648 := by omega
 have xl0 : 0 ≤ x % 8388608 := by omega
 have xl1 : x % 8388608 < 8388608 := by omega
 have k0 : 0 ≤ x % 2147483648 / 8388608 := by omega
 have k1 : x % 2147483648 / 8388608 < 256 := by omega
 have hwr : IntKind.i64.wrap (x % 2147483648 % 8388608) = x % 2147483648 % 8388608 := by rw [IntKind.wrap_i64]; omega
 have hwk : IntKind.i64.wrap (x % 2147483648 / 8388608) = x % 2147483648 / 8388608 := by rw [IntKind.wrap_i64]; omega
 go_enter Tryz.func77, Tryz.ntmps77
 go_wp2_with fail
 refine (spec_l2abs 32 x _ HO.out h0 h1').mono ?_
 rw [HA.out]
 rintro e w1 ⟨rfl, hb1⟩
 go_wp2_with fail
 refine (spec_P32 _).mono ?_
 rintro e w2 ⟨rfl, hb2⟩
 go_wp2_with fail
 refine (spec_P32 _).mono ?_
 rintro e w3 ⟨rfl, hb3⟩
 go_wp2_with fail
 refine (spec_l2neg 32 x _ HO.out h0 h1').mono ?_
 rintro e w4 ⟨rfl, hb4⟩
 go_wp2_with fail
 refine (spec_Q32 _).mono ?_
 rintro e w5 ⟨rfl, hb5⟩
 have r5 := (((((R3.new w (.bool false) (.int .i64 0) (.int .i64 0) 89).below hb1).below hb2).below hb3).below hb4).below hb5
 by_cases hz : x % 2147483648 / 8388608 = 0
 ·have HP : Hid (x % 8388608 = parM 8388608 (x % 2147483648)) := hid (by unfold parM; rw [if_pos hz]; exact HN.out)
  have HQ : Hid ((-149) = parE 8388608 (-149) (x % 2147483648)) := hid (by unfold parE; rw [if_pos hz])
  have hz' : ¬ 0 < x % 2147483648 / 8388608 := by omega
  clear hz
  obtain ⟨rc0, rc1, rc2, rf0, rf1, rf2⟩ := r5
  have lw : w.heap.size < w5.heap.size := World.block_lt_of_cell? w5 _ rc0
  go_wp2
  exact bodyPost_ret (v := .agg #[.bool (sigB 32 x), .int .i64 (x % 8388608), .int .i64 (-149)]) (by simp [results, Tryz.results77, go_sem, rc0, rc1, rc2, lw]) rfl ⟨ret_agg3 HP.out HQ.out, (by repeat (first | exact bz0 _ _ | refine bz1 ?_ | refine bz2 ?_ _ | refine bz3 ?_ _ | refine bz4 ?_ hb5 | refine bz4 ?_ hb4 | refine bz4 ?_ hb3 | refine bz4 ?_ hb2 | refine bz4 ?_ hb1 | refine bz5 ?_ _ | refine bz6 ?_ _ | refine bz7 ?_ hb5 | refine bz7 ?_ hb4 | refine bz7 ?_ hb3 | refine bz7 ?_ hb2 | refine bz7 ?_ hb1))⟩
 ·have HP : Hid (x % 8388608 + 8388608 = parM 8388608 (x % 2147483648)) := hid (by unfold parM; rw [if_neg hz, ← HN.out])
  have HQ : Hid ((-149) + x % 2147483648 / 8388608 - 1 = parE 8388608 (-149) (x % 2147483648)) := hid (by unfold parE; rw [if_neg hz])
  have hz' : 0 < x % 2147483648 / 8388608 := by omega
  clear hz
  go_wp2_with fail
  refine (spec_P32 _).mono ?_
  rintro e w6 ⟨rfl, hb6⟩
  have r6 := (r5.al (.cells #[.bool (sigB 32 x), .int .i64 (x % 8388608), .int .i64 (-149)] 89)).below hb6
  have p6 := (R3.new w5 (.bool (sigB 32 x)) (.int .i64 (x % 8388608)) (.int .i64 (-149)) 89).below hb6
  have lw : w.heap.size < w5.heap.size := World.block_lt_of_cell? w5 _ r5.c0
  have r7 := r6.other (p := ⟨w5.heap.size, 1, none⟩) (Nat.ne_of_lt lw) (.int .i64 (x % 8388608 + 8388608))
  have p7 := p6.set1 (.int .i64 (x % 8388608 + 8388608))
  obtain ⟨pc0, pc1, pc2, pf0, pf1, pf2⟩ := p6
  go_wp2_with fail
  refine (spec_Q32 _).mono ?_
  rintro e w7 ⟨rfl, hb7⟩
  obtain ⟨rc0, rc1, rc2, rf0, rf1, rf2⟩ := r7.below hb7
  obtain ⟨qc0, qc1, qc2, qf0, qf1, qf2⟩ := p7.below hb7
  have lw6 : w5.heap.size < w6.heap.size := World.block_lt_of_cell? w6 _ pc0
  have lw7 : w5.heap.size < w7.heap.size := World.block_lt_of_cell? w7 _ qc0
  clear pc0 pc1 pc2 pf0 pf1 pf2 r6 r7 p7 r5
  go_wp2
  exact bodyPost_ret (v := .agg #[.bool (sigB 32 x), .int .i64 (x % 8388608 + 8388608), .int .i64 ((-149) + x % 2147483648 / 8388608 - 1)]) (by simp [results, Tryz.results77, go_sem, rc0, rc1, rc2, lw]) rfl ⟨ret_agg3 HP.out HQ.out, (by repeat (first | exact bz0 _ _ | refine bz1 ?_ | refine bz2 ?_ _ | refine bz3 ?_ _ | refine bz4 ?_ hb7 | refine bz4 ?_ hb6 | refine bz4 ?_ hb5 | refine bz4 ?_ hb4 | refine bz4 ?_ hb3 | refine bz4 ?_ hb2 | refine bz4 ?_ hb1 | refine bz5 ?_ _ | refine bz6 ?_ _ | refine bz7 ?_ hb7 | refine bz7 ?_ hb6 | refine bz7 ?_ hb5 | refine bz7 ?_ hb4 | refine bz7 ?_ hb3 | refine bz7 ?_ hb2 | refine bz7 ?_ hb1))⟩
theorem spec_l2Parts64 (x : Int) (w : World) (h0 : 0 ≤ x) (h1 : x < 18446744073709551616) :
  Calls Tryz.prog 77 #[.int .i64 64, .int .u64 x] w fun e w' => e = .returned (.agg #[.bool (sigB 64 x), .int .i64 (parM 4503599627370496 (x % 9223372036854775808)), .int .i64 (parE 4503599627370496 (-1074) (x % 9223372036854775808))]) ∧ Below w.heap.size w w' := by
 have h1' : x < 18446744073709551616 := by omega
 have HO : Hid (okF 64 x = true) := hid (by first | exact okF32 h1 | exact okF64)
 have HA : Hid (absF 64 x = x % 9223372036854775808) := hid (by first | exact abs32 h1 | exact abs64)
 have HN : Hid (x % 4503599627370496 = x % 9223372036854775808 % 4503599627370496) := hid (by omega)
 have e2 := Bt.mask52 (x % 9223372036854775808) (by omega) (by omega)
 have y0 : 0 ≤ x % 9223372036854775808 := by omega
 have y1 : x % 9223372036854775808 < 9223372036854775808 := by omega
 have xl0 : 0 ≤ x % 4503599627370496 := by omega
 have xl1 : x % 4503599627370496 < 4503599627370496 := by omega
 have k0 : 0 ≤ x % 9223372036854775808 / 4503599627370496 := by omega
 have k1 : x % 9223372036854775808 / 4503599627370496 < 2048 := by omega
 have hwr : IntKind.i64.wrap (x % 9223372036854775808 % 4503599627370496) = x % 9223372036854775808 % 4503599627370496 := by rw [IntKind.wrap_i64]; omega
 have hwk : IntKind.i64.wrap (x % 9223372036854775808 / 4503599627370496) = x % 9223372036854775808 / 4503599627370496 := by rw [IntKind.wrap_i64]; omega
 go_enter Tryz.func77, Tryz.ntmps77
 go_wp2_with fail
 refine (spec_l2abs 64 x _ HO.out h0 h1').mono ?_
 rw [HA.out]
 rintro e w1 ⟨rfl, hb1⟩
 go_wp2_with fail
 refine (spec_P64 _).mono ?_
 rintro e w2 ⟨rfl, hb2⟩
 go_wp2_with fail
 refine (spec_P64 _).mono ?_
 rintro e w3 ⟨rfl, hb3⟩
 go_wp2_with fail
 refine (spec_l2neg 64 x _ HO.out h0 h1').mono ?_
 rintro e w4 ⟨rfl, hb4⟩
 go_wp2_with fail
 refine (spec_Q64 _).mono ?_
 rintro e w5 ⟨rfl, hb5⟩
 have r5 := (((((R3.new w (.bool false) (.int .i64 0) (.int .i64 0) 89).below hb1).below hb2).below hb3).below hb4).below hb5
 by_cases hz : x % 9223372036854775808 / 4503599627370496 = 0
 ·have HP : Hid (x % 4503599627370496 = parM 4503599627370496 (x % 9223372036854775808)) := hid (by unfold parM; rw [if_pos hz]; exact HN.out)
  have HQ : Hid ((-1074) = parE 4503599627370496 (-1074) (x % 9223372036854775808)) := hid (by unfold parE; rw [if_pos hz])
  have hz' : ¬ 0 < x % 9223372036854775808 / 4503599627370496 := by omega
  clear hz
  obtain ⟨rc0, rc1, rc2, rf0, rf1, rf2⟩ := r5
  have lw : w.heap.size < w5.heap.size := World.block_lt_of_cell? w5 _ rc0
  go_wp2
  exact bodyPost_ret (v := .agg #[.bool (sigB 64 x), .int .i64 (x % 4503599627370496), .int .i64 (-1074)]) (by simp [results, Tryz.results77, go_sem, rc0, rc1, rc2, lw]) rfl ⟨ret_agg3 HP.out HQ.out, (by repeat (first | exact bz0 _ _ | refine bz1 ?_ | refine bz2 ?_ _ | refine bz3 ?_ _ | refine bz4 ?_ hb5 | refine bz4 ?_ hb4 | refine bz4 ?_ hb3 | refine bz4 ?_ hb2 | refine bz4 ?_ hb1 | refine bz5 ?_ _ | refine bz6 ?_ _ | refine bz7 ?_ hb5 | refine bz7 ?_ hb4 | refine bz7 ?_ hb3 | refine bz7 ?_ hb2 | refine bz7 ?_ hb1))⟩
 ·have HP : Hid (x % 4503599627370496 + 4503599627370496 = parM 4503599627370496 (x % 9223372036854775808)) := hid (by unfold parM; rw [if_neg hz, ← HN.out])
  have HQ : Hid ((-1074) + x % 9223372036854775808 / 4503599627370496 - 1 = parE 4503599627370496 (-1074) (x % 9223372036854775808)) := hid (by unfold parE; rw [if_neg hz])
  have hz' : 0 < x % 9223372036854775808 / 4503599627370496 := by omega
  clear hz
  go_wp2_with fail
  refine (spec_P64 _).mono ?_
  rintro e w6 ⟨rfl, hb6⟩
  have r6 := (r5.al (.cells #[.bool (sigB 64 x), .int .i64 (x % 4503599627370496), .int .i64 (-1074)] 89)).below hb6
  have p6 := (R3.new w5 (.bool (sigB 64 x)) (.int .i64 (x % 4503599627370496)) (.int .i64 (-1074)) 89).below hb6
  have lw : w.heap.size < w5.heap.size := World.block_lt_of_cell? w5 _ r5.c0
  have r7 := r6.other (p := ⟨w5.heap.size, 1, none⟩) (Nat.ne_of_lt lw) (.int .i64 (x % 4503599627370496 + 4503599627370496))
  have p7 := p6.set1 (.int .i64 (x % 4503599627370496 + 4503599627370496))
  obtain ⟨pc0, pc1, pc2, pf0, pf1, pf2⟩ := p6
  go_wp2_with fail
  refine (spec_Q64 _).mono ?_
  rintro e w7 ⟨rfl, hb7⟩
  obtain ⟨rc0, rc1, rc2, rf0, rf1, rf2⟩ := r7.below hb7
  obtain ⟨qc0, qc1, qc2, qf0, qf1, qf2⟩ := p7.below hb7
  have lw6 : w5.heap.size < w6.heap.size := World.block_lt_of_cell? w6 _ pc0
  have lw7 : w5.heap.size < w7.heap.size := World.block_lt_of_cell? w7 _ qc0
  clear pc0 pc1 pc2 pf0 pf1 pf2 r6 r7 p7 r5
  go_wp2
  exact bodyPost_ret (v := .agg #[.bool (sigB 64 x), .int .i64 (x % 4503599627370496 + 4503599627370496), .int .i64 ((-1074) + x % 9223372036854775808 / 4503599627370496 - 1)]) (by simp [results, Tryz.results77, go_sem, rc0, rc1, rc2, lw]) rfl ⟨ret_agg3 HP.out HQ.out, (by repeat (first | exact bz0 _ _ | refine bz1 ?_ | refine bz2 ?_ _ | refine bz3 ?_ _ | refine bz4 ?_ hb7 | refine bz4 ?_ hb6 | refine bz4 ?_ hb5 | refine bz4 ?_ hb4 | refine bz4 ?_ hb3 | refine bz4 ?_ hb2 | refine bz4 ?_ hb1 | refine bz5 ?_ _ | refine bz6 ?_ _ | refine bz7 ?_ hb7 | refine bz7 ?_ hb6 | refine bz7 ?_ hb5 | refine bz7 ?_ hb4 | refine bz7 ?_ hb3 | refine bz7 ?_ hb2 | refine bz7 ?_ hb1))⟩

def pS (fm x : Int) : Bool := if finB fm x then sigB fm x else false
def pM (fm x : Int) : Int := if finB fm x then (if fm = 32 then parM 8388608 (x % 2147483648) else parM 4503599627370496 (x % 9223372036854775808)) else 0
def pE (fm x : Int) : Int := if finB fm x then (if fm = 32 then parE 8388608 (-149) (x % 2147483648) else parE 4503599627370496 (-1074) (x % 9223372036854775808)) else 0
theorem ret_p3 {s s' : Bool} {a b a' b' : Int} (g : s = s') (h : a = a') (k : b = b') : Ending.returned (.agg #[.bool s, .int .i64 a, .int .i64 b]) = .returned (.agg #[.bool s', .int .i64 a', .int .i64 b']) := by rw [g, h, k]
end Go.Proofs.YtkfjmcdniohljaaGreatDoor
