/-
  Floats: how two compare, by the specification; the law.
-/
import Derived.Test.YtpphokbefichcaaDoorFloatJ
namespace Go.Proofs.YtpphokbefichcaaDoor
set_option linter.unusedVariables false
set_option linter.unusedSimpArgs false
open Go.RowKit
/-- Infinity's bits. -/
def infOf (fm : Int) : Int := if fm = 32 then 2139095040 else 9218868437227405312
def nanB (fm x : Int) : Bool := decide (infOf fm < absF fm x)
theorem num_no {fm x : Int} (h : okF fm x = false) : numB fm x = false := by unfold numB; rw [cls_no h]; decide
theorem num_nan {fm x : Int} (h : okF fm x = true) : numB fm x = !nanB fm x := by
  rcases okF_cases h with ⟨rfl, hx⟩ | rfl
  · unfold numB nanB infOf; rw [cls32 hx, abs32 hx, if_pos rfl]; unfold clsY
    rw [Bool.eq_iff_iff]; simp only [decide_eq_true_eq, Bool.not_eq_true', decide_eq_false_iff_not]
    repeat' split
    all_goals omega
  · unfold numB nanB infOf; rw [cls64, abs64, if_neg (by decide)]; unfold clsY
    rw [Bool.eq_iff_iff]; simp only [decide_eq_true_eq, Bool.not_eq_true', decide_eq_false_iff_not]
    repeat' split
    all_goals omega
theorem cls_zero {fm x : Int} (h : okF fm x = true) : (cls fm x == 0) = (absF fm x == 0) := by
  rcases okF_cases h with ⟨rfl, hx⟩ | rfl
  · rw [cls32 hx, abs32 hx]; unfold clsY
    rw [Bool.eq_iff_iff]; simp only [beq_iff_eq]
    repeat' split
    all_goals omega
  · rw [cls64, abs64]; unfold clsY
    rw [Bool.eq_iff_iff]; simp only [beq_iff_eq]
    repeat' split
    all_goals omega

theorem spec_inf32 (w : World) :
    Calls Tryd.prog 37 #[.int .i64 32] w fun e w' => e = .returned (.int .u64 (infOf 32)) ∧ Below w.heap.size w w' := by
  have HR : Hid (infOf 32 = 2139095040) := hid rfl
  go_enter Tryd.func37, Tryd.ntmps37
  go_wp2
  go_ret
  exact ⟨ret_int HR.out.symm, (by repeat (first | exact Below.refl _ _ | refine Below.drew ?_ | refine bel_dn ?_ _ | refine bel_al ?_ _ | refine Below.setCell ?_ (by first | omega | (simp; done) | (simp; omega)) _ | refine Below.alloc ?_ (by first | omega | (simp; done) | (simp; omega)) _))⟩
theorem spec_inf64 (w : World) :
    Calls Tryd.prog 37 #[.int .i64 64] w fun e w' => e = .returned (.int .u64 (infOf 64)) ∧ Below w.heap.size w w' := by
  have HR : Hid (infOf 64 = 9218868437227405312) := hid rfl
  go_enter Tryd.func37, Tryd.ntmps37
  go_wp2
  go_ret
  exact ⟨ret_int HR.out.symm, (by repeat (first | exact Below.refl _ _ | refine Below.drew ?_ | refine bel_dn ?_ _ | refine bel_al ?_ _ | refine Below.setCell ?_ (by first | omega | (simp; done) | (simp; omega)) _ | refine Below.alloc ?_ (by first | omega | (simp; done) | (simp; omega)) _))⟩
theorem spec_inf (fm x : Int) (w : World) (h : okF fm x = true) :
    Calls Tryd.prog 37 #[.int .i64 fm] w fun e w' => e = .returned (.int .u64 (infOf fm)) ∧ Below w.heap.size w w' := by
  rcases okF_cases h with ⟨rfl, hx⟩ | rfl
  · exact spec_inf32 w
  · exact spec_inf64 w
set_option maxHeartbeats 1000000 in
theorem spec_nan (fm x : Int) (w : World) (h : okF fm x = true) (h0 : 0 ≤ x) (h1 : x < 18446744073709551616) :
    Calls Tryd.prog 32 #[.int .i64 fm, .int .u64 x] w fun e w' => e = .returned (.bool (nanB fm x)) ∧ Below w.heap.size w w' := by
  have HH := hid h
  have HR : Hid (decide (infOf fm < absF fm x) = nanB fm x) := hid rfl
  clear h
  go_enter Tryd.func32, Tryd.ntmps32
  go_wp2_with fail
  refine (spec_l2abs fm x _ HH.out h0 h1).mono ?_
  rintro e w1 ⟨rfl, hb1⟩
  go_wp2_with fail
  refine (spec_inf fm x _ HH.out).mono ?_
  rintro e w2 ⟨rfl, hb2⟩
  go_wp2
  go_ret
  exact ⟨ret_bool HR.out, (by repeat (first | exact Below.refl _ _ | refine Below.drew ?_ | refine bel_dn ?_ _ | refine bel_al ?_ _ | refine bel_go ?_ hb2 | refine bel_go ?_ hb1 | refine Below.setCell ?_ (by first | omega | (simp; done) | (simp; omega)) _ | refine Below.alloc ?_ (by first | omega | (simp; done) | (simp; omega)) _ | refine Below.trans ?_ (Below.mono hb2 (by first | omega | (simp; done) | (simp; omega))) | refine Below.trans ?_ (Below.mono hb1 (by first | omega | (simp; done) | (simp; omega)))))⟩
set_option maxHeartbeats 4000000 in
theorem spec_cmp (fm a b : Int) (w : World) (a0 : 0 ≤ a) (a1 : a < 18446744073709551616) (b0 : 0 ≤ b) (b1 : b < 18446744073709551616) :
    Calls Tryd.prog 17 #[.int .i64 fm, .int .u64 a, .int .u64 b] w fun e w' => e = .returned (.int .i64 (cmpF fm a b)) ∧ Below w.heap.size w w' := by
  cases hoa : okF fm a
  · have HR := hid (cmp_no1 (b := b) (num_no hoa))
    go_enter Tryd.func17, Tryd.ntmps17
    go_wp2_with fail
    refine (spec_ok fm a _).mono ?_
    rintro e w1 ⟨rfl, hb1⟩
    go_wp2
    go_ret
    exact ⟨ret_int HR.out.symm, (by repeat (first | exact Below.refl _ _ | refine Below.drew ?_ | refine bel_dn ?_ _ | refine bel_al ?_ _ | refine bel_go ?_ hb1 | refine Below.setCell ?_ (by first | omega | (simp; done) | (simp; omega)) _ | refine Below.alloc ?_ (by first | omega | (simp; done) | (simp; omega)) _ | refine Below.trans ?_ (Below.mono hb1 (by first | omega | (simp; done) | (simp; omega)))))⟩
  have HA := hid hoa
  cases hob : okF fm b
  · have HR := hid (cmp_no2 (a := a) (num_no hob))
    go_enter Tryd.func17, Tryd.ntmps17
    go_wp2_with fail
    refine (spec_ok fm a _).mono ?_
    rintro e w1 ⟨rfl, hb1⟩
    go_wp2_with fail
    refine (spec_ok fm b _).mono ?_
    rintro e w2 ⟨rfl, hb2⟩
    go_wp2
    go_ret
    exact ⟨ret_int HR.out.symm, (by repeat (first | exact Below.refl _ _ | refine Below.drew ?_ | refine bel_dn ?_ _ | refine bel_al ?_ _ | refine bel_go ?_ hb2 | refine bel_go ?_ hb1 | refine Below.setCell ?_ (by first | omega | (simp; done) | (simp; omega)) _ | refine Below.alloc ?_ (by first | omega | (simp; done) | (simp; omega)) _ | refine Below.trans ?_ (Below.mono hb2 (by first | omega | (simp; done) | (simp; omega))) | refine Below.trans ?_ (Below.mono hb1 (by first | omega | (simp; done) | (simp; omega)))))⟩
  have HB := hid hob
  have NA := hid (num_nan hoa)
  have NB := hid (num_nan hob)
  have ZA := hid (cls_zero hoa)
  have ZB := hid (cls_zero hob)
  cases hna : nanB fm a
  rotate_left
  · have HR := hid (cmp_no1 (b := b) (show numB fm a = false by rw [NA.out, hna]; rfl))
    go_enter Tryd.func17, Tryd.ntmps17
    go_wp2_with fail
    refine (spec_ok fm a _).mono ?_
    rintro e w1 ⟨rfl, hb1⟩
    go_wp2_with fail
    refine (spec_ok fm b _).mono ?_
    rintro e w2 ⟨rfl, hb2⟩
    go_wp2_with fail
    refine (spec_nan fm a _ HA.out a0 a1).mono ?_
    rintro e w3 ⟨rfl, hb3⟩
    go_wp2
    go_ret
    exact ⟨ret_int HR.out.symm, (by repeat (first | exact Below.refl _ _ | refine Below.drew ?_ | refine bel_dn ?_ _ | refine bel_al ?_ _ | refine bel_go ?_ hb3 | refine bel_go ?_ hb2 | refine bel_go ?_ hb1 | refine Below.setCell ?_ (by first | omega | (simp; done) | (simp; omega)) _ | refine Below.alloc ?_ (by first | omega | (simp; done) | (simp; omega)) _ | refine Below.trans ?_ (Below.mono hb3 (by first | omega | (simp; done) | (simp; omega))) | refine Below.trans ?_ (Below.mono hb2 (by first | omega | (simp; done) | (simp; omega))) | refine Below.trans ?_ (Below.mono hb1 (by first | omega | (simp; done) | (simp; omega)))))⟩
  have NA' : Hid (numB fm a = true) := hid (by rw [NA.out, hna]; rfl)
  cases hnb : nanB fm b
  rotate_left
  · have HR := hid (cmp_no2 (a := a) (show numB fm b = false by rw [NB.out, hnb]; rfl))
    go_enter Tryd.func17, Tryd.ntmps17
    go_wp2_with fail
    refine (spec_ok fm a _).mono ?_
    rintro e w1 ⟨rfl, hb1⟩
    go_wp2_with fail
    refine (spec_ok fm b _).mono ?_
    rintro e w2 ⟨rfl, hb2⟩
    go_wp2_with fail
    refine (spec_nan fm a _ HA.out a0 a1).mono ?_
    rintro e w3 ⟨rfl, hb3⟩
    go_wp2_with fail
    refine (spec_nan fm b _ HB.out b0 b1).mono ?_
    rintro e w4 ⟨rfl, hb4⟩
    go_wp2
    go_ret
    exact ⟨ret_int HR.out.symm, (by repeat (first | exact Below.refl _ _ | refine Below.drew ?_ | refine bel_dn ?_ _ | refine bel_al ?_ _ | refine bel_go ?_ hb4 | refine bel_go ?_ hb3 | refine bel_go ?_ hb2 | refine bel_go ?_ hb1 | refine Below.setCell ?_ (by first | omega | (simp; done) | (simp; omega)) _ | refine Below.alloc ?_ (by first | omega | (simp; done) | (simp; omega)) _ | refine Below.trans ?_ (Below.mono hb4 (by first | omega | (simp; done) | (simp; omega))) | refine Below.trans ?_ (Below.mono hb3 (by first | omega | (simp; done) | (simp; omega))) | refine Below.trans ?_ (Below.mono hb2 (by first | omega | (simp; done) | (simp; omega))) | refine Below.trans ?_ (Below.mono hb1 (by first | omega | (simp; done) | (simp; omega)))))⟩
  have NB' : Hid (numB fm b = true) := hid (by rw [NB.out, hnb]; rfl)
  cases hza : (absF fm a == 0)
  · by_cases lt : ordI fm a < ordI fm b
    · have HR : Hid (cmpF fm a b = -1) := hid (by rw [cmp_else NA'.out NB'.out (by rw [ZA.out, hza]; rfl)]; unfold cmpI; rw [if_pos lt])
      go_enter Tryd.func17, Tryd.ntmps17
      go_wp2_with fail
      refine (spec_ok fm a _).mono ?_
      rintro e w1 ⟨rfl, hb1⟩
      go_wp2_with fail
      refine (spec_ok fm b _).mono ?_
      rintro e w2 ⟨rfl, hb2⟩
      go_wp2_with fail
      refine (spec_nan fm a _ HA.out a0 a1).mono ?_
      rintro e w3 ⟨rfl, hb3⟩
      go_wp2_with fail
      refine (spec_nan fm b _ HB.out b0 b1).mono ?_
      rintro e w4 ⟨rfl, hb4⟩
      go_wp2_with fail
      refine (spec_l2abs fm a _ HA.out a0 a1).mono ?_
      rintro e w5 ⟨rfl, hb5⟩
      go_wp2_with fail
      refine (spec_ord fm a _ a0 a1).mono ?_
      rintro e w7 ⟨rfl, hb7⟩
      go_wp2_with fail
      refine (spec_ord fm b _ b0 b1).mono ?_
      rintro e w8 ⟨rfl, hb8⟩
      go_wp2
      go_ret
      exact ⟨ret_int HR.out.symm, (by repeat (first | exact Below.refl _ _ | refine Below.drew ?_ | refine bel_dn ?_ _ | refine bel_al ?_ _ | refine bel_go ?_ hb8 | refine bel_go ?_ hb7 | refine bel_go ?_ hb5 | refine bel_go ?_ hb4 | refine bel_go ?_ hb3 | refine bel_go ?_ hb2 | refine bel_go ?_ hb1 | refine Below.setCell ?_ (by first | omega | (simp; done) | (simp; omega)) _ | refine Below.alloc ?_ (by first | omega | (simp; done) | (simp; omega)) _ | refine Below.trans ?_ (Below.mono hb8 (by first | omega | (simp; done) | (simp; omega))) | refine Below.trans ?_ (Below.mono hb7 (by first | omega | (simp; done) | (simp; omega))) | refine Below.trans ?_ (Below.mono hb5 (by first | omega | (simp; done) | (simp; omega))) | refine Below.trans ?_ (Below.mono hb4 (by first | omega | (simp; done) | (simp; omega))) | refine Below.trans ?_ (Below.mono hb3 (by first | omega | (simp; done) | (simp; omega))) | refine Below.trans ?_ (Below.mono hb2 (by first | omega | (simp; done) | (simp; omega))) | refine Below.trans ?_ (Below.mono hb1 (by first | omega | (simp; done) | (simp; omega)))))⟩
    by_cases gt : ordI fm b < ordI fm a
    · have HR : Hid (cmpF fm a b = 1) := hid (by rw [cmp_else NA'.out NB'.out (by rw [ZA.out, hza]; rfl)]; unfold cmpI; rw [if_neg lt, if_pos gt])
      go_enter Tryd.func17, Tryd.ntmps17
      go_wp2_with fail
      refine (spec_ok fm a _).mono ?_
      rintro e w1 ⟨rfl, hb1⟩
      go_wp2_with fail
      refine (spec_ok fm b _).mono ?_
      rintro e w2 ⟨rfl, hb2⟩
      go_wp2_with fail
      refine (spec_nan fm a _ HA.out a0 a1).mono ?_
      rintro e w3 ⟨rfl, hb3⟩
      go_wp2_with fail
      refine (spec_nan fm b _ HB.out b0 b1).mono ?_
      rintro e w4 ⟨rfl, hb4⟩
      go_wp2_with fail
      refine (spec_l2abs fm a _ HA.out a0 a1).mono ?_
      rintro e w5 ⟨rfl, hb5⟩
      go_wp2_with fail
      refine (spec_ord fm a _ a0 a1).mono ?_
      rintro e w7 ⟨rfl, hb7⟩
      go_wp2_with fail
      refine (spec_ord fm b _ b0 b1).mono ?_
      rintro e w8 ⟨rfl, hb8⟩
      go_wp2
      go_ret
      exact ⟨ret_int HR.out.symm, (by repeat (first | exact Below.refl _ _ | refine Below.drew ?_ | refine bel_dn ?_ _ | refine bel_al ?_ _ | refine bel_go ?_ hb8 | refine bel_go ?_ hb7 | refine bel_go ?_ hb5 | refine bel_go ?_ hb4 | refine bel_go ?_ hb3 | refine bel_go ?_ hb2 | refine bel_go ?_ hb1 | refine Below.setCell ?_ (by first | omega | (simp; done) | (simp; omega)) _ | refine Below.alloc ?_ (by first | omega | (simp; done) | (simp; omega)) _ | refine Below.trans ?_ (Below.mono hb8 (by first | omega | (simp; done) | (simp; omega))) | refine Below.trans ?_ (Below.mono hb7 (by first | omega | (simp; done) | (simp; omega))) | refine Below.trans ?_ (Below.mono hb5 (by first | omega | (simp; done) | (simp; omega))) | refine Below.trans ?_ (Below.mono hb4 (by first | omega | (simp; done) | (simp; omega))) | refine Below.trans ?_ (Below.mono hb3 (by first | omega | (simp; done) | (simp; omega))) | refine Below.trans ?_ (Below.mono hb2 (by first | omega | (simp; done) | (simp; omega))) | refine Below.trans ?_ (Below.mono hb1 (by first | omega | (simp; done) | (simp; omega)))))⟩
    · have HR : Hid (cmpF fm a b = 0) := hid (by rw [cmp_else NA'.out NB'.out (by rw [ZA.out, hza]; rfl)]; unfold cmpI; rw [if_neg lt, if_neg gt])
      go_enter Tryd.func17, Tryd.ntmps17
      go_wp2_with fail
      refine (spec_ok fm a _).mono ?_
      rintro e w1 ⟨rfl, hb1⟩
      go_wp2_with fail
      refine (spec_ok fm b _).mono ?_
      rintro e w2 ⟨rfl, hb2⟩
      go_wp2_with fail
      refine (spec_nan fm a _ HA.out a0 a1).mono ?_
      rintro e w3 ⟨rfl, hb3⟩
      go_wp2_with fail
      refine (spec_nan fm b _ HB.out b0 b1).mono ?_
      rintro e w4 ⟨rfl, hb4⟩
      go_wp2_with fail
      refine (spec_l2abs fm a _ HA.out a0 a1).mono ?_
      rintro e w5 ⟨rfl, hb5⟩
      go_wp2_with fail
      refine (spec_ord fm a _ a0 a1).mono ?_
      rintro e w7 ⟨rfl, hb7⟩
      go_wp2_with fail
      refine (spec_ord fm b _ b0 b1).mono ?_
      rintro e w8 ⟨rfl, hb8⟩
      go_wp2
      go_ret
      exact ⟨ret_int HR.out.symm, (by repeat (first | exact Below.refl _ _ | refine Below.drew ?_ | refine bel_dn ?_ _ | refine bel_al ?_ _ | refine bel_go ?_ hb8 | refine bel_go ?_ hb7 | refine bel_go ?_ hb5 | refine bel_go ?_ hb4 | refine bel_go ?_ hb3 | refine bel_go ?_ hb2 | refine bel_go ?_ hb1 | refine Below.setCell ?_ (by first | omega | (simp; done) | (simp; omega)) _ | refine Below.alloc ?_ (by first | omega | (simp; done) | (simp; omega)) _ | refine Below.trans ?_ (Below.mono hb8 (by first | omega | (simp; done) | (simp; omega))) | refine Below.trans ?_ (Below.mono hb7 (by first | omega | (simp; done) | (simp; omega))) | refine Below.trans ?_ (Below.mono hb5 (by first | omega | (simp; done) | (simp; omega))) | refine Below.trans ?_ (Below.mono hb4 (by first | omega | (simp; done) | (simp; omega))) | refine Below.trans ?_ (Below.mono hb3 (by first | omega | (simp; done) | (simp; omega))) | refine Below.trans ?_ (Below.mono hb2 (by first | omega | (simp; done) | (simp; omega))) | refine Below.trans ?_ (Below.mono hb1 (by first | omega | (simp; done) | (simp; omega)))))⟩
  cases hzb : (absF fm b == 0)
  · by_cases lt : ordI fm a < ordI fm b
    · have HR : Hid (cmpF fm a b = -1) := hid (by rw [cmp_else NA'.out NB'.out (by rw [ZA.out, ZB.out, hza, hzb]; rfl)]; unfold cmpI; rw [if_pos lt])
      go_enter Tryd.func17, Tryd.ntmps17
      go_wp2_with fail
      refine (spec_ok fm a _).mono ?_
      rintro e w1 ⟨rfl, hb1⟩
      go_wp2_with fail
      refine (spec_ok fm b _).mono ?_
      rintro e w2 ⟨rfl, hb2⟩
      go_wp2_with fail
      refine (spec_nan fm a _ HA.out a0 a1).mono ?_
      rintro e w3 ⟨rfl, hb3⟩
      go_wp2_with fail
      refine (spec_nan fm b _ HB.out b0 b1).mono ?_
      rintro e w4 ⟨rfl, hb4⟩
      go_wp2_with fail
      refine (spec_l2abs fm a _ HA.out a0 a1).mono ?_
      rintro e w5 ⟨rfl, hb5⟩
      go_wp2_with fail
      refine (spec_l2abs fm b _ HB.out b0 b1).mono ?_
      rintro e w6 ⟨rfl, hb6⟩
      go_wp2_with fail
      refine (spec_ord fm a _ a0 a1).mono ?_
      rintro e w7 ⟨rfl, hb7⟩
      go_wp2_with fail
      refine (spec_ord fm b _ b0 b1).mono ?_
      rintro e w8 ⟨rfl, hb8⟩
      go_wp2
      go_ret
      exact ⟨ret_int HR.out.symm, (by repeat (first | exact Below.refl _ _ | refine Below.drew ?_ | refine bel_dn ?_ _ | refine bel_al ?_ _ | refine bel_go ?_ hb8 | refine bel_go ?_ hb7 | refine bel_go ?_ hb6 | refine bel_go ?_ hb5 | refine bel_go ?_ hb4 | refine bel_go ?_ hb3 | refine bel_go ?_ hb2 | refine bel_go ?_ hb1 | refine Below.setCell ?_ (by first | omega | (simp; done) | (simp; omega)) _ | refine Below.alloc ?_ (by first | omega | (simp; done) | (simp; omega)) _ | refine Below.trans ?_ (Below.mono hb8 (by first | omega | (simp; done) | (simp; omega))) | refine Below.trans ?_ (Below.mono hb7 (by first | omega | (simp; done) | (simp; omega))) | refine Below.trans ?_ (Below.mono hb6 (by first | omega | (simp; done) | (simp; omega))) | refine Below.trans ?_ (Below.mono hb5 (by first | omega | (simp; done) | (simp; omega))) | refine Below.trans ?_ (Below.mono hb4 (by first | omega | (simp; done) | (simp; omega))) | refine Below.trans ?_ (Below.mono hb3 (by first | omega | (simp; done) | (simp; omega))) | refine Below.trans ?_ (Below.mono hb2 (by first | omega | (simp; done) | (simp; omega))) | refine Below.trans ?_ (Below.mono hb1 (by first | omega | (simp; done) | (simp; omega)))))⟩
    by_cases gt : ordI fm b < ordI fm a
    · have HR : Hid (cmpF fm a b = 1) := hid (by rw [cmp_else NA'.out NB'.out (by rw [ZA.out, ZB.out, hza, hzb]; rfl)]; unfold cmpI; rw [if_neg lt, if_pos gt])
      go_enter Tryd.func17, Tryd.ntmps17
      go_wp2_with fail
      refine (spec_ok fm a _).mono ?_
      rintro e w1 ⟨rfl, hb1⟩
      go_wp2_with fail
      refine (spec_ok fm b _).mono ?_
      rintro e w2 ⟨rfl, hb2⟩
      go_wp2_with fail
      refine (spec_nan fm a _ HA.out a0 a1).mono ?_
      rintro e w3 ⟨rfl, hb3⟩
      go_wp2_with fail
      refine (spec_nan fm b _ HB.out b0 b1).mono ?_
      rintro e w4 ⟨rfl, hb4⟩
      go_wp2_with fail
      refine (spec_l2abs fm a _ HA.out a0 a1).mono ?_
      rintro e w5 ⟨rfl, hb5⟩
      go_wp2_with fail
      refine (spec_l2abs fm b _ HB.out b0 b1).mono ?_
      rintro e w6 ⟨rfl, hb6⟩
      go_wp2_with fail
      refine (spec_ord fm a _ a0 a1).mono ?_
      rintro e w7 ⟨rfl, hb7⟩
      go_wp2_with fail
      refine (spec_ord fm b _ b0 b1).mono ?_
      rintro e w8 ⟨rfl, hb8⟩
      go_wp2
      go_ret
      exact ⟨ret_int HR.out.symm, (by repeat (first | exact Below.refl _ _ | refine Below.drew ?_ | refine bel_dn ?_ _ | refine bel_al ?_ _ | refine bel_go ?_ hb8 | refine bel_go ?_ hb7 | refine bel_go ?_ hb6 | refine bel_go ?_ hb5 | refine bel_go ?_ hb4 | refine bel_go ?_ hb3 | refine bel_go ?_ hb2 | refine bel_go ?_ hb1 | refine Below.setCell ?_ (by first | omega | (simp; done) | (simp; omega)) _ | refine Below.alloc ?_ (by first | omega | (simp; done) | (simp; omega)) _ | refine Below.trans ?_ (Below.mono hb8 (by first | omega | (simp; done) | (simp; omega))) | refine Below.trans ?_ (Below.mono hb7 (by first | omega | (simp; done) | (simp; omega))) | refine Below.trans ?_ (Below.mono hb6 (by first | omega | (simp; done) | (simp; omega))) | refine Below.trans ?_ (Below.mono hb5 (by first | omega | (simp; done) | (simp; omega))) | refine Below.trans ?_ (Below.mono hb4 (by first | omega | (simp; done) | (simp; omega))) | refine Below.trans ?_ (Below.mono hb3 (by first | omega | (simp; done) | (simp; omega))) | refine Below.trans ?_ (Below.mono hb2 (by first | omega | (simp; done) | (simp; omega))) | refine Below.trans ?_ (Below.mono hb1 (by first | omega | (simp; done) | (simp; omega)))))⟩
    · have HR : Hid (cmpF fm a b = 0) := hid (by rw [cmp_else NA'.out NB'.out (by rw [ZA.out, ZB.out, hza, hzb]; rfl)]; unfold cmpI; rw [if_neg lt, if_neg gt])
      go_enter Tryd.func17, Tryd.ntmps17
      go_wp2_with fail
      refine (spec_ok fm a _).mono ?_
      rintro e w1 ⟨rfl, hb1⟩
      go_wp2_with fail
      refine (spec_ok fm b _).mono ?_
      rintro e w2 ⟨rfl, hb2⟩
      go_wp2_with fail
      refine (spec_nan fm a _ HA.out a0 a1).mono ?_
      rintro e w3 ⟨rfl, hb3⟩
      go_wp2_with fail
      refine (spec_nan fm b _ HB.out b0 b1).mono ?_
      rintro e w4 ⟨rfl, hb4⟩
      go_wp2_with fail
      refine (spec_l2abs fm a _ HA.out a0 a1).mono ?_
      rintro e w5 ⟨rfl, hb5⟩
      go_wp2_with fail
      refine (spec_l2abs fm b _ HB.out b0 b1).mono ?_
      rintro e w6 ⟨rfl, hb6⟩
      go_wp2_with fail
      refine (spec_ord fm a _ a0 a1).mono ?_
      rintro e w7 ⟨rfl, hb7⟩
      go_wp2_with fail
      refine (spec_ord fm b _ b0 b1).mono ?_
      rintro e w8 ⟨rfl, hb8⟩
      go_wp2
      go_ret
      exact ⟨ret_int HR.out.symm, (by repeat (first | exact Below.refl _ _ | refine Below.drew ?_ | refine bel_dn ?_ _ | refine bel_al ?_ _ | refine bel_go ?_ hb8 | refine bel_go ?_ hb7 | refine bel_go ?_ hb6 | refine bel_go ?_ hb5 | refine bel_go ?_ hb4 | refine bel_go ?_ hb3 | refine bel_go ?_ hb2 | refine bel_go ?_ hb1 | refine Below.setCell ?_ (by first | omega | (simp; done) | (simp; omega)) _ | refine Below.alloc ?_ (by first | omega | (simp; done) | (simp; omega)) _ | refine Below.trans ?_ (Below.mono hb8 (by first | omega | (simp; done) | (simp; omega))) | refine Below.trans ?_ (Below.mono hb7 (by first | omega | (simp; done) | (simp; omega))) | refine Below.trans ?_ (Below.mono hb6 (by first | omega | (simp; done) | (simp; omega))) | refine Below.trans ?_ (Below.mono hb5 (by first | omega | (simp; done) | (simp; omega))) | refine Below.trans ?_ (Below.mono hb4 (by first | omega | (simp; done) | (simp; omega))) | refine Below.trans ?_ (Below.mono hb3 (by first | omega | (simp; done) | (simp; omega))) | refine Below.trans ?_ (Below.mono hb2 (by first | omega | (simp; done) | (simp; omega))) | refine Below.trans ?_ (Below.mono hb1 (by first | omega | (simp; done) | (simp; omega)))))⟩
  · have HR := hid (cmp_zero NA'.out NB'.out (by rw [ZA.out, hza]) (by rw [ZB.out, hzb]))
    go_enter Tryd.func17, Tryd.ntmps17
    go_wp2_with fail
    refine (spec_ok fm a _).mono ?_
    rintro e w1 ⟨rfl, hb1⟩
    go_wp2_with fail
    refine (spec_ok fm b _).mono ?_
    rintro e w2 ⟨rfl, hb2⟩
    go_wp2_with fail
    refine (spec_nan fm a _ HA.out a0 a1).mono ?_
    rintro e w3 ⟨rfl, hb3⟩
    go_wp2_with fail
    refine (spec_nan fm b _ HB.out b0 b1).mono ?_
    rintro e w4 ⟨rfl, hb4⟩
    go_wp2_with fail
    refine (spec_l2abs fm a _ HA.out a0 a1).mono ?_
    rintro e w5 ⟨rfl, hb5⟩
    go_wp2_with fail
    refine (spec_l2abs fm b _ HB.out b0 b1).mono ?_
    rintro e w6 ⟨rfl, hb6⟩
    go_wp2
    go_ret
    exact ⟨ret_int HR.out.symm, (by repeat (first | exact Below.refl _ _ | refine Below.drew ?_ | refine bel_dn ?_ _ | refine bel_al ?_ _ | refine bel_go ?_ hb6 | refine bel_go ?_ hb5 | refine bel_go ?_ hb4 | refine bel_go ?_ hb3 | refine bel_go ?_ hb2 | refine bel_go ?_ hb1 | refine Below.setCell ?_ (by first | omega | (simp; done) | (simp; omega)) _ | refine Below.alloc ?_ (by first | omega | (simp; done) | (simp; omega)) _ | refine Below.trans ?_ (Below.mono hb6 (by first | omega | (simp; done) | (simp; omega))) | refine Below.trans ?_ (Below.mono hb5 (by first | omega | (simp; done) | (simp; omega))) | refine Below.trans ?_ (Below.mono hb4 (by first | omega | (simp; done) | (simp; omega))) | refine Below.trans ?_ (Below.mono hb3 (by first | omega | (simp; done) | (simp; omega))) | refine Below.trans ?_ (Below.mono hb2 (by first | omega | (simp; done) | (simp; omega))) | refine Below.trans ?_ (Below.mono hb1 (by first | omega | (simp; done) | (simp; omega)))))⟩
set_option maxHeartbeats 1000000 in
theorem law_CompareFloats (fm a b : Int) (w : World) (h : Tab w) (a0 : 0 ≤ a) (a1 : a < 18446744073709551616) (b0 : 0 ≤ b) (b1 : b < 18446744073709551616) :
    Calls Tryd.prog 7 #[.int .i64 fm, .int .u64 a, .int .u64 b] w fun e w' => e = .returned (.bool true) ∧ Below w.heap.size w w' := by
  have hbe : (cmpF fm a b != cmpF fm a b) = false := by simp
  go_enter Tryd.func7, Tryd.ntmps7
  go_wp2_with fail
  refine (spec_cmp fm a b _ a0 a1 b0 b1).mono ?_
  rintro e w1 ⟨rfl, hb1⟩
  go_wp2_with fail
  refine (impl_cmp fm a b _ (h.below hb1) a0 a1 b0 b1).mono ?_
  rintro e w2 ⟨rfl, hb2⟩
  go_wp2
  go_ret
  exact ⟨rfl, (by repeat (first | exact Below.refl _ _ | refine Below.drew ?_ | refine bel_dn ?_ _ | refine bel_al ?_ _ | refine bel_go ?_ hb2 | refine bel_go ?_ hb1 | refine Below.setCell ?_ (by first | omega | (simp; done) | (simp; omega)) _ | refine Below.alloc ?_ (by first | omega | (simp; done) | (simp; omega)) _ | refine Below.trans ?_ (Below.mono hb2 (by first | omega | (simp; done) | (simp; omega))) | refine Below.trans ?_ (Below.mono hb1 (by first | omega | (simp; done) | (simp; omega)))))⟩
end Go.Proofs.YtpphokbefichcaaDoor
