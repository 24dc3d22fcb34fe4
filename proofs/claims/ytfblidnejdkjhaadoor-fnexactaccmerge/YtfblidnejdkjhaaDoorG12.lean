/-
  Several texts in one: FloatD, FloatE, FloatG, FloatH, FloatJ, FloatK, FloatL, FloatM.
-/
import Derived.Test.YtfblidnejdkjhaaDoorG09
import Derived.Deep.QuietTactic
import Derived.BigQuiet
import Derived.Test.YtfblidnejdkjhaaDoorG05
/-
  Floats: whether it is one.
-/
namespace Go.Proofs.YtfblidnejdkjhaaDoor
set_option linter.unusedVariables false
set_option linter.unusedSimpArgs false
open Go.RowKit

/-- Whether it is a float of the format. -/
def okF (fm x : Int) : Bool := fm == 64 || (fm == 32 && decide (x < 4294967296))
theorem okF0 {fm x : Int} (h32 : fm ≠ 32) (h64 : fm ≠ 64) : okF fm x = false := by simp [okF, h32, h64]

set_option maxHeartbeats 1000000 in
theorem impl_ok32 (x : Int) (w : World) (h : Tab w) (h0 : 0 ≤ x) (h1 : x < 18446744073709551616) :
    Calls Tryd.prog 104 #[.int .i64 32, .int .u64 x] w fun e w' => e = .returned (.bool (decide (x < 4294967296))) ∧ Below w.heap.size w w' := by
  have e := Bt.andNot31 x h0 h1
  have HX : Hid (decide (bits .andNot .u64 x 2147483648 < 2147483648) = decide (x < 4294967296)) := hid (by rw [e]; congr 1; apply propext; omega)
  clear e
  go_enter Tryd.func104, Tryd.ntmps104
  go_wp2_with fail
  refine (sizes32 _ h).mono ?_
  rintro e w1 ⟨rfl, hb1⟩
  go_wp2_with fail
  have z1 := Z3.new w1 (.int .u64 23) (.int .u64 255) (.int .i64 (-149)) 72
  go_region_held3 (fun w' => w'.cell? ⟨w1.heap.size, 0, none⟩ = some (.int .u64 23) ∧ w'.cell? ⟨w1.heap.size, 1, none⟩ = some (.int .u64 255) ∧ w'.cell? ⟨w1.heap.size, 2, none⟩ = some (.int .i64 (-149))) (first | assumption | exact z1.drew)
    (first
      | (go_at_call 110; refine (sign32 _).mono ?_; rintro e w2 ⟨rfl, hb2⟩; have z2 := Z3.below (Z3.drew z1) hb2)
      | (go_at_call 110; refine (sign32 _).mono ?_; rintro e w3 ⟨rfl, hb3⟩; have z3 := Z3.below z2 hb3))
  go_wp2
  go_ret
  exact ⟨ret_bool HX.out, (by repeat (first | exact Below.refl _ _ | refine Below.drew ?_ | refine bel_dn ?_ _ | refine bel_al ?_ _ | refine bel_go ?_ hb3 | refine bel_go ?_ hb2 | refine bel_go ?_ hb1 | refine Below.setCell ?_ (by first | omega | (simp; done) | (simp; omega)) _ | refine Below.alloc ?_ (by first | omega | (simp; done) | (simp; omega)) _ | refine Below.trans ?_ (Below.mono hb3 (by first | omega | (simp; done) | (simp; omega))) | refine Below.trans ?_ (Below.mono hb2 (by first | omega | (simp; done) | (simp; omega))) | refine Below.trans ?_ (Below.mono hb1 (by first | omega | (simp; done) | (simp; omega)))))⟩
set_option maxHeartbeats 1000000 in
theorem impl_ok64 (x : Int) (w : World) (h : Tab w) (h0 : 0 ≤ x) (h1 : x < 18446744073709551616) :
    Calls Tryd.prog 104 #[.int .i64 64, .int .u64 x] w fun e w' => e = .returned (.bool (decide (x < 18446744073709551616))) ∧ Below w.heap.size w w' := by
  have e := Bt.andNot63 x h0 h1
  have HX : Hid (decide (bits .andNot .u64 x 9223372036854775808 < 9223372036854775808) = decide (x < 18446744073709551616)) := hid (by rw [e]; congr 1; apply propext; omega)
  clear e
  go_enter Tryd.func104, Tryd.ntmps104
  go_wp2_with fail
  refine (sizes64 _ h).mono ?_
  rintro e w1 ⟨rfl, hb1⟩
  go_wp2_with fail
  have z1 := Z3.new w1 (.int .u64 52) (.int .u64 2047) (.int .i64 (-1074)) 72
  go_region_held3 (fun w' => w'.cell? ⟨w1.heap.size, 0, none⟩ = some (.int .u64 52) ∧ w'.cell? ⟨w1.heap.size, 1, none⟩ = some (.int .u64 2047) ∧ w'.cell? ⟨w1.heap.size, 2, none⟩ = some (.int .i64 (-1074))) (first | assumption | exact z1.drew)
    (first
      | (go_at_call 110; refine (sign64 _).mono ?_; rintro e w2 ⟨rfl, hb2⟩; have z2 := Z3.below (Z3.drew z1) hb2)
      | (go_at_call 110; refine (sign64 _).mono ?_; rintro e w3 ⟨rfl, hb3⟩; have z3 := Z3.below z2 hb3))
  go_wp2
  go_ret
  exact ⟨ret_bool HX.out, (by repeat (first | exact Below.refl _ _ | refine Below.drew ?_ | refine bel_dn ?_ _ | refine bel_al ?_ _ | refine bel_go ?_ hb3 | refine bel_go ?_ hb2 | refine bel_go ?_ hb1 | refine Below.setCell ?_ (by first | omega | (simp; done) | (simp; omega)) _ | refine Below.alloc ?_ (by first | omega | (simp; done) | (simp; omega)) _ | refine Below.trans ?_ (Below.mono hb3 (by first | omega | (simp; done) | (simp; omega))) | refine Below.trans ?_ (Below.mono hb2 (by first | omega | (simp; done) | (simp; omega))) | refine Below.trans ?_ (Below.mono hb1 (by first | omega | (simp; done) | (simp; omega)))))⟩

theorem impl_ok0 (fm x : Int) (w : World) (h : Tab w) (h32 : fm ≠ 32) (h64 : fm ≠ 64) :
    Calls Tryd.prog 104 #[.int .i64 fm, .int .u64 x] w fun e w' => e = .returned (.bool false) ∧ Below w.heap.size w w' := by
  go_enter Tryd.func104, Tryd.ntmps104
  go_wp2_with fail
  refine (sizes0 fm _ h h32 h64).mono ?_
  rintro e w1 ⟨rfl, hb1⟩
  go_wp2_with fail
  have z1 := Z3.new w1 (.int .u64 0) (.int .u64 0) (.int .i64 0) 72
  go_quiet (fail)
  go_wp2
  go_ret
  exact ⟨rfl, (by repeat (first | exact Below.refl _ _ | refine Below.drew ?_ | refine bel_dn ?_ _ | refine bel_al ?_ _ | refine bel_go ?_ hb1 | refine Below.setCell ?_ (by first | omega | (simp; done) | (simp; omega)) _ | refine Below.alloc ?_ (by first | omega | (simp; done) | (simp; omega)) _ | refine Below.trans ?_ (Below.mono hb1 (by first | omega | (simp; done) | (simp; omega)))))⟩

theorem spec_ok (fm x : Int) (w : World) :
    Calls Tryd.prog 80 #[.int .i64 fm, .int .u64 x] w fun e w' => e = .returned (.bool (okF fm x)) ∧ Below w.heap.size w w' := by
  by_cases h64 : fm = 64
  · subst h64
    have HX : Hid (okF 64 x = true) := hid (by simp [okF])
    go_enter Tryd.func80, Tryd.ntmps80
    go_wp2
    go_ret
    exact ⟨ret_bool HX.out.symm, (by repeat (first | exact Below.refl _ _ | refine Below.drew ?_ | refine bel_dn ?_ _ | refine bel_al ?_ _ | refine Below.setCell ?_ (by first | omega | (simp; done) | (simp; omega)) _ | refine Below.alloc ?_ (by first | omega | (simp; done) | (simp; omega)) _))⟩
  · have e2 : (fm == 64) = false := by simpa using h64
    by_cases h32 : fm = 32
    · subst h32
      have HX : Hid (okF 32 x = decide (x < 4294967296)) := hid (by simp [okF])
      clear h64 e2
      go_enter Tryd.func80, Tryd.ntmps80
      go_wp2
      go_ret
      exact ⟨ret_bool HX.out.symm, (by repeat (first | exact Below.refl _ _ | refine Below.drew ?_ | refine bel_dn ?_ _ | refine bel_al ?_ _ | refine Below.setCell ?_ (by first | omega | (simp; done) | (simp; omega)) _ | refine Below.alloc ?_ (by first | omega | (simp; done) | (simp; omega)) _))⟩
    · have e1 : (fm == 32) = false := by simpa using h32
      have HX : Hid (okF fm x = false) := hid (okF0 h32 h64)
      clear h32 h64
      go_enter Tryd.func80, Tryd.ntmps80
      go_wp2
      go_ret
      exact ⟨ret_bool HX.out.symm, (by repeat (first | exact Below.refl _ _ | refine Below.drew ?_ | refine bel_dn ?_ _ | refine bel_al ?_ _ | refine Below.setCell ?_ (by first | omega | (simp; done) | (simp; omega)) _ | refine Below.alloc ?_ (by first | omega | (simp; done) | (simp; omega)) _))⟩

theorem impl_ok (fm x : Int) (w : World) (h : Tab w) (h0 : 0 ≤ x) (h1 : x < 18446744073709551616) :
    Calls Tryd.prog 104 #[.int .i64 fm, .int .u64 x] w fun e w' => e = .returned (.bool (okF fm x)) ∧ Below w.heap.size w w' := by
  by_cases h32 : fm = 32
  · subst h32; have := impl_ok32 x w h h0 h1; rwa [show okF 32 x = decide (x < 4294967296) by simp [okF]]
  by_cases h64 : fm = 64
  · subst h64; have := impl_ok64 x w h h0 h1; rwa [show okF 64 x = decide (x < 18446744073709551616) by simp [okF, h1]]
  rw [okF0 h32 h64]; exact impl_ok0 fm x w h h32 h64
end Go.Proofs.YtfblidnejdkjhaaDoor
/-
  Floats: their classes.
-/
namespace Go.Proofs.YtfblidnejdkjhaaDoor
set_option linter.unusedVariables false
set_option linter.unusedSimpArgs false
open Go.RowKit

/-- The class of a float whose bits without sign are y. -/
def clsY (L I Q y : Int) : Int := if y = 0 then 0 else if y < L then 1 else if y < I then 2 else if y = I then 3 else if y / Q % 2 = 1 then 4 else 5
/-- The class of bits of a format; -1 when they are no float. -/
def cls (fm x : Int) : Int := if okF fm x then (if fm = 32 then clsY 8388608 2139095040 4194304 (x % 2147483648) else clsY 4503599627370496 9218868437227405312 2251799813685248 (x % 9223372036854775808)) else -1
theorem okF32 {x : Int} (h : x < 4294967296) : okF 32 x = true := by simp [okF, h]
theorem okF64 {x : Int} : okF 64 x = true := by simp [okF]
theorem cls32 {x : Int} (h : x < 4294967296) : cls 32 x = clsY 8388608 2139095040 4194304 (x % 2147483648) := by unfold cls; rw [okF32 h]; simp
theorem cls64 {x : Int} : cls 64 x = clsY 4503599627370496 9218868437227405312 2251799813685248 (x % 9223372036854775808) := by unfold cls; rw [okF64]; simp
theorem cls_no {fm x : Int} (h : okF fm x = false) : cls fm x = -1 := by unfold cls; rw [h]; simp

theorem okF_cases {fm x : Int} (h : okF fm x = true) : fm = 32 ∧ x < 4294967296 ∨ fm = 64 := by
  unfold okF at h
  by_cases h64 : fm = 64
  · exact .inr h64
  · simp [h64] at h; exact .inl h
end Go.Proofs.YtfblidnejdkjhaaDoor
/-
  Floats: the sign turned, the sign gone.
-/
namespace Go.Proofs.YtfblidnejdkjhaaDoor
set_option linter.unusedVariables false
set_option linter.unusedSimpArgs false
open Go.RowKit

/-- The sign's place. -/
def sgOf (fm : Int) : Int := if fm = 32 then 2147483648 else 9223372036854775808
/-- The sign turned; the sign gone; whether there is one. -/
def negF (fm x : Int) : Int := if okF fm x then (if x < sgOf fm then x + sgOf fm else x - sgOf fm) else 0
def absF (fm x : Int) : Int := if okF fm x then x % sgOf fm else 0
theorem neg32 {x : Int} (h : x < 4294967296) : negF 32 x = if x < 2147483648 then x + 2147483648 else x - 2147483648 := by unfold negF; rw [okF32 h]; rfl
theorem neg64 {x : Int} : negF 64 x = if x < 9223372036854775808 then x + 9223372036854775808 else x - 9223372036854775808 := by unfold negF; rw [okF64]; rfl
theorem abs32 {x : Int} (h : x < 4294967296) : absF 32 x = x % 2147483648 := by unfold absF; rw [okF32 h]; rfl
theorem abs64 {x : Int} : absF 64 x = x % 9223372036854775808 := by unfold absF; rw [okF64]; rfl
theorem neg_no {fm x : Int} (h : okF fm x = false) : negF fm x = 0 := by unfold negF; rw [h]; rfl
theorem abs_no {fm x : Int} (h : okF fm x = false) : absF fm x = 0 := by unfold absF; rw [h]; rfl

end Go.Proofs.YtfblidnejdkjhaaDoor
/-
  Floats: signs, and their order.
-/
namespace Go.Proofs.YtfblidnejdkjhaaDoor
set_option linter.unusedVariables false
set_option linter.unusedSimpArgs false
open Go.RowKit

theorem abs_bd {fm x : Int} (h0 : 0 ≤ x) : 0 ≤ absF fm x ∧ absF fm x < 9223372036854775808 := by
  unfold absF sgOf
  split
  · split <;> omega
  · omega
theorem abs_le {fm x : Int} (h0 : 0 ≤ x) : absF fm x ≤ x := by
  unfold absF sgOf
  split
  · split <;> omega
  · omega
/-- Whether it has the sign. -/
def sigB (fm x : Int) : Bool := x != absF fm x
/-- Its place in the order. -/
def ordI (fm x : Int) : Int := if okF fm x then (if sigB fm x then -1 - absF fm x else absF fm x) else 0
theorem ord_no {fm x : Int} (h : okF fm x = false) : ordI fm x = 0 := by unfold ordI; rw [h]; rfl
theorem ord_neg {fm x : Int} (h : okF fm x = true) (k : sigB fm x = true) : ordI fm x = -1 - absF fm x := by unfold ordI; rw [h, k]; rfl
theorem ord_pos {fm x : Int} (h : okF fm x = true) (k : sigB fm x = false) : ordI fm x = absF fm x := by unfold ordI; rw [h, k]; rfl



end Go.Proofs.YtfblidnejdkjhaaDoor
/-
  Floats: finite, number; how two compare, by the program.
-/
namespace Go.Proofs.YtfblidnejdkjhaaDoor
set_option linter.unusedVariables false
set_option linter.unusedSimpArgs false
open Go.RowKit
theorem clsY_rng (L I Q y : Int) : 0 ≤ clsY L I Q y ∧ clsY L I Q y ≤ 5 := by unfold clsY; repeat' split <;> omega
theorem cls_rng (fm x : Int) : -1 ≤ cls fm x ∧ cls fm x ≤ 5 := by
  unfold cls
  split
  · split
    · have := clsY_rng 8388608 2139095040 4194304 (x % 2147483648); omega
    · have := clsY_rng 4503599627370496 9218868437227405312 2251799813685248 (x % 9223372036854775808); omega
  · omega
/-- Finite; finite or infinity. -/
def finB (fm x : Int) : Bool := decide (0 ≤ cls fm x ∧ cls fm x ≤ 2)
def numB (fm x : Int) : Bool := decide (0 ≤ cls fm x ∧ cls fm x ≤ 3)


/-- How two floats compare. -/
def cmpF (fm a b : Int) : Int := if numB fm a && numB fm b then (if cls fm a == 0 && cls fm b == 0 then 0 else cmpI (ordI fm a) (ordI fm b)) else 2
theorem cmp_no1 {fm a b : Int} (h : numB fm a = false) : cmpF fm a b = 2 := by unfold cmpF; rw [h]; rfl
theorem cmp_no2 {fm a b : Int} (h : numB fm b = false) : cmpF fm a b = 2 := by unfold cmpF; rw [h]; simp
theorem cmp_zero {fm a b : Int} (h : numB fm a = true) (k : numB fm b = true) (h0 : (cls fm a == 0) = true) (k0 : (cls fm b == 0) = true) : cmpF fm a b = 0 := by unfold cmpF; rw [h, k, h0, k0]; rfl
theorem cmp_else {fm a b : Int} (h : numB fm a = true) (k : numB fm b = true) (h0 : (cls fm a == 0 && cls fm b == 0) = false) : cmpF fm a b = cmpI (ordI fm a) (ordI fm b) := by unfold cmpF; rw [h, k, h0]; rfl

end Go.Proofs.YtfblidnejdkjhaaDoor
/-
  Floats: how two compare, by the specification; the law.
-/
namespace Go.Proofs.YtfblidnejdkjhaaDoor
set_option linter.unusedVariables false
set_option linter.unusedSimpArgs false
open Go.RowKit
/-- Infinity's bits. -/
def infOf (fm : Int) : Int := if fm = 32 then 2139095040 else 9218868437227405312
def nanB (fm x : Int) : Bool := decide (infOf fm < absF fm x)
theorem num_no {fm x : Int} (h : okF fm x = false) : numB fm x = false := by unfold numB; rw [cls_no h]; decide
theorem num_nan {fm x : Int} (h : okF fm x = true) : numB fm x = !nanB fm x := by
  rcases okF_cases h with ⟨rfl, hx⟩ | rfl
  · unfold numB nanB infOf; rw [cls32 hx, abs32 hx, if_pos rfl]; unfold clsY
    rw [Bool.eq_iff_iff]; simp only [decide_eq_true_eq, Bool.not_eq_true', decide_eq_false_iff_not]
    repeat' split
    all_goals omega
  · unfold numB nanB infOf; rw [cls64, abs64, if_neg (by decide)]; unfold clsY
    rw [Bool.eq_iff_iff]; simp only [decide_eq_true_eq, Bool.not_eq_true', decide_eq_false_iff_not]
    repeat' split
    all_goals omega
theorem cls_zero {fm x : Int} (h : okF fm x = true) : (cls fm x == 0) = (absF fm x == 0) := by
  rcases okF_cases h with ⟨rfl, hx⟩ | rfl
  · rw [cls32 hx, abs32 hx]; unfold clsY
    rw [Bool.eq_iff_iff]; simp only [beq_iff_eq]
    repeat' split
    all_goals omega
  · rw [cls64, abs64]; unfold clsY
    rw [Bool.eq_iff_iff]; simp only [beq_iff_eq]
    repeat' split
    all_goals omega

theorem spec_inf32 (w : World) :
    Calls Tryd.prog 73 #[.int .i64 32] w fun e w' => e = .returned (.int .u64 (infOf 32)) ∧ Below w.heap.size w w' := by
  have HR : Hid (infOf 32 = 2139095040) := hid rfl
  go_enter Tryd.func73, Tryd.ntmps73
  go_wp2
  go_ret
  exact ⟨ret_int HR.out.symm, (by repeat (first | exact Below.refl _ _ | refine Below.drew ?_ | refine bel_dn ?_ _ | refine bel_al ?_ _ | refine Below.setCell ?_ (by first | omega | (simp; done) | (simp; omega)) _ | refine Below.alloc ?_ (by first | omega | (simp; done) | (simp; omega)) _))⟩
theorem spec_inf64 (w : World) :
    Calls Tryd.prog 73 #[.int .i64 64] w fun e w' => e = .returned (.int .u64 (infOf 64)) ∧ Below w.heap.size w w' := by
  have HR : Hid (infOf 64 = 9218868437227405312) := hid rfl
  go_enter Tryd.func73, Tryd.ntmps73
  go_wp2
  go_ret
  exact ⟨ret_int HR.out.symm, (by repeat (first | exact Below.refl _ _ | refine Below.drew ?_ | refine bel_dn ?_ _ | refine bel_al ?_ _ | refine Below.setCell ?_ (by first | omega | (simp; done) | (simp; omega)) _ | refine Below.alloc ?_ (by first | omega | (simp; done) | (simp; omega)) _))⟩
theorem spec_inf (fm x : Int) (w : World) (h : okF fm x = true) :
    Calls Tryd.prog 73 #[.int .i64 fm] w fun e w' => e = .returned (.int .u64 (infOf fm)) ∧ Below w.heap.size w w' := by
  rcases okF_cases h with ⟨rfl, hx⟩ | rfl
  · exact spec_inf32 w
  · exact spec_inf64 w
end Go.Proofs.YtfblidnejdkjhaaDoor
/-
  Floats: the next one up.
-/
namespace Go.Proofs.YtfblidnejdkjhaaDoor
set_option linter.unusedVariables false
set_option linter.unusedSimpArgs false
open Go.RowKit
def nanOf (fm : Int) : Int := if fm = 32 then 2143289344 else 9221120237041090560
/-- The next float up. -/
def upF (fm x : Int) : Int := if okF fm x then (if nanB fm x then nanOf fm else if absF fm x == 0 then 1 else if sigB fm x then x - 1 else if x == infOf fm then x else x + 1) else 0
theorem up_no {fm x : Int} (h : okF fm x = false) : upF fm x = 0 := by unfold upF; rw [h]; rfl
theorem up_nan {fm x : Int} (h : okF fm x = true) (h1 : nanB fm x = true) : upF fm x = nanOf fm := by unfold upF; rw [h, h1]; rfl
theorem up_zero {fm x : Int} (h : okF fm x = true) (h1 : nanB fm x = false) (h2 : (absF fm x == 0) = true) : upF fm x = 1 := by unfold upF; rw [h, h1, h2]; rfl
theorem up_neg {fm x : Int} (h : okF fm x = true) (h1 : nanB fm x = false) (h2 : (absF fm x == 0) = false) (h3 : sigB fm x = true) : upF fm x = x - 1 := by unfold upF; rw [h, h1, h2, h3]; rfl
theorem up_inf {fm x : Int} (h : okF fm x = true) (h1 : nanB fm x = false) (h2 : (absF fm x == 0) = false) (h3 : sigB fm x = false) (h4 : (x == infOf fm) = true) : upF fm x = x := by unfold upF; rw [h, h1, h2, h3, h4]; rfl
theorem up_pos {fm x : Int} (h : okF fm x = true) (h1 : nanB fm x = false) (h2 : (absF fm x == 0) = false) (h3 : sigB fm x = false) (h4 : (x == infOf fm) = false) : upF fm x = x + 1 := by unfold upF; rw [h, h1, h2, h3, h4]; rfl
/-- The classes, told by the bits without sign. -/
theorem cls_nan {fm x : Int} (h : okF fm x = true) (h1 : nanB fm x = true) : cls fm x = 4 ∨ cls fm x = 5 := by
  have r := cls_rng fm x
  have n := num_nan h
  rw [h1] at n
  unfold numB at n
  simp at n
  have z := cls_zero h
  rcases okF_cases h with ⟨rfl, hx⟩ | rfl
  · have := clsY_rng 8388608 2139095040 4194304 (x % 2147483648); rw [← cls32 hx] at this; omega
  · have := clsY_rng 4503599627370496 9218868437227405312 2251799813685248 (x % 9223372036854775808); rw [← cls64] at this; omega
theorem cls_num {fm x : Int} (h : okF fm x = true) (h1 : nanB fm x = false) : 0 ≤ cls fm x ∧ cls fm x ≤ 3 := by
  have n := num_nan h
  rw [h1] at n
  unfold numB at n
  simpa using n
theorem sig_inf {fm x : Int} (h : okF fm x = true) (h0 : 0 ≤ x) (k : sigB fm x = true) : (x == infOf fm) = false := by
  rcases okF_cases h with ⟨rfl, hx⟩ | rfl
  · unfold sigB at k; rw [abs32 hx] at k; unfold infOf; simp at k ⊢; omega
  · unfold sigB at k; rw [abs64] at k; unfold infOf; simp at k ⊢; omega
theorem up_bd {fm x : Int} (h : okF fm x = true) (h0 : 0 ≤ x) (h1 : nanB fm x = false) (h3 : sigB fm x = false) : x ≤ 9218868437227405312 := by
  rcases okF_cases h with ⟨rfl, hx⟩ | rfl
  · omega
  · unfold nanB infOf at h1; unfold sigB at h3; rw [abs64] at h1 h3; simp at h1 h3; omega
theorem up_bd' {fm x : Int} (h0 : 0 ≤ x) (h3 : sigB fm x = true) : 1 ≤ x := by
  unfold sigB at h3; have := abs_bd (fm := fm) h0; have := abs_le (fm := fm) h0; simp at h3; omega


end Go.Proofs.YtfblidnejdkjhaaDoor
/-
  Floats: the next one down.
-/
namespace Go.Proofs.YtfblidnejdkjhaaDoor
set_option linter.unusedVariables false
set_option linter.unusedSimpArgs false
open Go.RowKit
/-- The next float down. -/
def downF (fm x : Int) : Int := if numB fm x then negF fm (upF fm (negF fm x)) else upF fm x
theorem down_no {fm x : Int} (h : numB fm x = false) : downF fm x = upF fm x := by unfold downF; rw [h]; rfl
theorem down_num {fm x : Int} (h : numB fm x = true) : downF fm x = negF fm (upF fm (negF fm x)) := by unfold downF; rw [h]; rfl
theorem neg_ok {fm x : Int} (h : okF fm x = true) (h0 : 0 ≤ x) (h1 : x < 18446744073709551616) : okF fm (negF fm x) = true ∧ 0 ≤ negF fm x ∧ negF fm x < 18446744073709551616 := by
  rcases okF_cases h with ⟨rfl, hx⟩ | rfl
  · rw [neg32 hx]
    split
    · exact ⟨okF32 (by omega), by omega, by omega⟩
    · exact ⟨okF32 (by omega), by omega, by omega⟩
  · rw [neg64]
    split
    · exact ⟨okF64, by omega, by omega⟩
    · exact ⟨okF64, by omega, by omega⟩
theorem up_ok {fm x : Int} (h : okF fm x = true) (h0 : 0 ≤ x) (h1 : x < 18446744073709551616) : okF fm (upF fm x) = true ∧ 0 ≤ upF fm x ∧ upF fm x < 18446744073709551616 := by
  cases hn : nanB fm x
  rotate_left
  · rw [up_nan h hn]; rcases okF_cases h with ⟨rfl, hx⟩ | rfl <;> exact ⟨by decide, by decide, by decide⟩
  cases hz : (absF fm x == 0)
  rotate_left
  · rw [up_zero h hn hz]; rcases okF_cases h with ⟨rfl, hx⟩ | rfl <;> exact ⟨by decide, by decide, by decide⟩
  cases hs : sigB fm x
  · have bd := up_bd h h0 hn hs
    cases hi : (x == infOf fm)
    · rw [up_pos h hn hz hs hi]
      rcases okF_cases h with ⟨rfl, hx⟩ | rfl
      · unfold nanB infOf at hn; unfold sigB at hs; rw [abs32 hx] at hn hs; simp at hn hs
        exact ⟨okF32 (by omega), by omega, by omega⟩
      · exact ⟨okF64, by omega, by omega⟩
    · rw [up_inf h hn hz hs hi]; exact ⟨h, h0, h1⟩
  · have bd := up_bd' (fm := fm) h0 hs
    rw [up_neg h hn hz hs]
    rcases okF_cases h with ⟨rfl, hx⟩ | rfl
    · exact ⟨okF32 (by omega), by omega, by omega⟩
    · exact ⟨okF64, by omega, by omega⟩
theorem num_ok {fm x : Int} (h : numB fm x = true) : okF fm x = true := by
  cases ho : okF fm x
  · rw [num_no ho] at h; cases h
  · rfl

end Go.Proofs.YtfblidnejdkjhaaDoor
