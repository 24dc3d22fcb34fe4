/-
  Floats: how two compare, by the specification; the law.
-/
import Derived.Test.YtghbbnajphmmjaaDoorFloatJ
namespace Go.Proofs.YtghbbnajphmmjaaDoor
set_option linter.unusedVariables false
set_option linter.unusedSimpArgs false
open Go.RowKit
/-- Infinity's bits. -/
def infOf (fm : Int) : Int := if fm = 32 then 2139095040 else 9218868437227405312
def nanB (fm x : Int) : Bool := decide (infOf fm < absF fm x)
theorem num_no {fm x : Int} (h : okF fm x = false) : numB fm x = false := by unfold numB; rw [cls_no h]; decide
theorem num_nan {fm x : Int} (h : okF fm x = true) : numB fm x = !nanB fm x := by
  rcases okF_cases h with ⟨rfl, hx⟩ | rfl
  · unfold numB nanB infOf; rw [cls32 hx, abs32 hx, if_pos rfl]; unfold clsY
    rw [Bool.eq_iff_iff]; simp only [decide_eq_true_eq, Bool.not_eq_true', decide_eq_false_iff_not]
    repeat' split
    all_goals omega
  · unfold numB nanB infOf; rw [cls64, abs64, if_neg (by decide)]; unfold clsY
    rw [Bool.eq_iff_iff]; simp only [decide_eq_true_eq, Bool.not_eq_true', decide_eq_false_iff_not]
    repeat' split
    all_goals omega
theorem cls_zero {fm x : Int} (h : okF fm x = true) : (cls fm x == 0) = (absF fm x == 0) := by
  rcases okF_cases h with ⟨rfl, hx⟩ | rfl
  · rw [cls32 hx, abs32 hx]; unfold clsY
    rw [Bool.eq_iff_iff]; simp only [beq_iff_eq]
    repeat' split
    all_goals omega
  · rw [cls64, abs64]; unfold clsY
    rw [Bool.eq_iff_iff]; simp only [beq_iff_eq]
    repeat' split
    all_goals omega

theorem spec_inf32 (w : World) :
    Calls Tryd.prog 45 #[.int .i64 32] w fun e w' => e = .returned (.int .u64 (infOf 32)) ∧ Below w.heap.size w w' := by
  have HR : Hid (infOf 32 = 2139095040) := hid rfl
  go_enter Tryd.func45, Tryd.ntmps45
  go_wp2
  go_ret
  exact ⟨ret_int HR.out.symm, (by repeat (first | exact Below.refl _ _ | refine Below.drew ?_ | refine bel_dn ?_ _ | refine bel_al ?_ _ | refine Below.setCell ?_ (by first | omega | (simp; done) | (simp; omega)) _ | refine Below.alloc ?_ (by first | omega | (simp; done) | (simp; omega)) _))⟩
theorem spec_inf64 (w : World) :
    Calls Tryd.prog 45 #[.int .i64 64] w fun e w' => e = .returned (.int .u64 (infOf 64)) ∧ Below w.heap.size w w' := by
  have HR : Hid (infOf 64 = 9218868437227405312) := hid rfl
  go_enter Tryd.func45, Tryd.ntmps45
  go_wp2
  go_ret
  exact ⟨ret_int HR.out.symm, (by repeat (first | exact Below.refl _ _ | refine Below.drew ?_ | refine bel_dn ?_ _ | refine bel_al ?_ _ | refine Below.setCell ?_ (by first | omega | (simp; done) | (simp; omega)) _ | refine Below.alloc ?_ (by first | omega | (simp; done) | (simp; omega)) _))⟩
theorem spec_inf (fm x : Int) (w : World) (h : okF fm x = true) :
    Calls Tryd.prog 45 #[.int .i64 fm] w fun e w' => e = .returned (.int .u64 (infOf fm)) ∧ Below w.heap.size w w' := by
  rcases okF_cases h with ⟨rfl, hx⟩ | rfl
  · exact spec_inf32 w
  · exact spec_inf64 w
set_option maxHeartbeats 1000000 in
theorem spec_nan (fm x : Int) (w : World) (h : okF fm x = true) (h0 : 0 ≤ x) (h1 : x < 18446744073709551616) :
    Calls Tryd.prog 25 #[.int .i64 fm, .int .u64 x] w fun e w' => e = .returned (.bool (nanB fm x)) ∧ Below w.heap.size w w' := by
  have HH := hid h
  have HR : Hid (decide (infOf fm < absF fm x) = nanB fm x) := hid rfl
  clear h
  go_enter Tryd.func25, Tryd.ntmps25
  go_wp2_with fail
  refine (spec_l2abs fm x _ HH.out h0 h1).mono ?_
  rintro e w1 ⟨rfl, hb1⟩
  go_wp2_with fail
  refine (spec_inf fm x _ HH.out).mono ?_
  rintro e w2 ⟨rfl, hb2⟩
  go_wp2
  go_ret
  exact ⟨ret_bool HR.out, (by repeat (first | exact Below.refl _ _ | refine Below.drew ?_ | refine bel_dn ?_ _ | refine bel_al ?_ _ | refine bel_go ?_ hb2 | refine bel_go ?_ hb1 | refine Below.setCell ?_ (by first | omega | (simp; done) | (simp; omega)) _ | refine Below.alloc ?_ (by first | omega | (simp; done) | (simp; omega)) _ | refine Below.trans ?_ (Below.mono hb2 (by first | omega | (simp; done) | (simp; omega))) | refine Below.trans ?_ (Below.mono hb1 (by first | omega | (simp; done) | (simp; omega)))))⟩
end Go.Proofs.YtghbbnajphmmjaaDoor
