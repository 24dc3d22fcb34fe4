/-
  What is needed of FloatG, FloatH, FloatJ.
-/
import Derived.Test.YtpalbhkihheogaaDoorC06
set_option maxHeartbeats 16000000
set_option maxRecDepth 1000000
namespace Go.Proofs.YtpalbhkihheogaaDoor
set_option linter.unusedVariables false
set_option linter.unusedSimpArgs false
open Go.RowKit
/-- The sign's place. -/
def sgOf (fm : Int) : Int := if fm = 32 then 2147483648 else 9223372036854775808
def absF (fm x : Int) : Int := if okF fm x then x % sgOf fm else 0
theorem abs32 {x : Int} (h : x < 4294967296) : absF 32 x = x % 2147483648 := by unfold absF; rw [okF32 h]; rfl
theorem abs64 {x : Int} : absF 64 x = x % 9223372036854775808 := by unfold absF; rw [okF64]; rfl
theorem abs_no {fm x : Int} (h : okF fm x = false) : absF fm x = 0 := by unfold absF; rw [h]; rfl

theorem impl_abs32 (x : Int) (w : World) (h : Tab w) (h0 : 0 ≤ x) (h1 : x < 4294967296) :
    Calls Tryd.prog 65 #[.int .i64 32, .int .u64 x] w fun e w' => e = .returned (.int .u64 (x % 2147483648)) ∧ Below w.heap.size w w' := by
  have hok : okF 32 x = true := by simp [okF, h1]
  have h1' : x < 18446744073709551616 := by omega
  have e : bits .andNot .u64 x 2147483648 = x % 2147483648 := by rw [Bt.andNot31 x h0 (by omega)]; omega
  go_enter Tryd.func65, Tryd.ntmps65
  go_wp2_with fail
  refine (impl_ok 32 x _ h h0 h1').mono ?_
  rintro e w1 ⟨rfl, hb1⟩
  have hT1 := h.below hb1
  go_wp2_with fail
  refine (sizes32 _ hT1).mono ?_
  rintro e w2 ⟨rfl, hb2⟩
  go_wp2_with (go_at_call 116; refine (sign32 _).mono ?_; rintro e w3 ⟨rfl, hb3⟩)
  go_ret
  exact ⟨rfl, (by repeat (first | exact bz0 _ _ | refine bz1 ?_ | refine bz2 ?_ _ | refine bz3 ?_ _ | refine bz4 ?_ hb3 | refine bz4 ?_ hb2 | refine bz4 ?_ hb1 | refine bz5 ?_ _ | refine bz6 ?_ _ | refine bz7 ?_ hb3 | refine bz7 ?_ hb2 | refine bz7 ?_ hb1))⟩
theorem impl_abs64 (x : Int) (w : World) (h : Tab w) (h0 : 0 ≤ x) (h1 : x < 18446744073709551616) :
    Calls Tryd.prog 65 #[.int .i64 64, .int .u64 x] w fun e w' => e = .returned (.int .u64 (x % 9223372036854775808)) ∧ Below w.heap.size w w' := by
  have hok : okF 64 x = true := by simp [okF, h1]
  have h1' : x < 18446744073709551616 := by omega
  have e : bits .andNot .u64 x 9223372036854775808 = x % 9223372036854775808 := by rw [Bt.andNot63 x h0 (by omega)]; omega
  go_enter Tryd.func65, Tryd.ntmps65
  go_wp2_with fail
  refine (impl_ok 64 x _ h h0 h1').mono ?_
  rintro e w1 ⟨rfl, hb1⟩
  have hT1 := h.below hb1
  go_wp2_with fail
  refine (sizes64 _ hT1).mono ?_
  rintro e w2 ⟨rfl, hb2⟩
  go_wp2_with (go_at_call 116; refine (sign64 _).mono ?_; rintro e w3 ⟨rfl, hb3⟩)
  go_ret
  exact ⟨rfl, (by repeat (first | exact bz0 _ _ | refine bz1 ?_ | refine bz2 ?_ _ | refine bz3 ?_ _ | refine bz4 ?_ hb3 | refine bz4 ?_ hb2 | refine bz4 ?_ hb1 | refine bz5 ?_ _ | refine bz6 ?_ _ | refine bz7 ?_ hb3 | refine bz7 ?_ hb2 | refine bz7 ?_ hb1))⟩
theorem impl_abs (fm x : Int) (w : World) (hT : Tab w) (h0 : 0 ≤ x) (h1 : x < 18446744073709551616) :
    Calls Tryd.prog 65 #[.int .i64 fm, .int .u64 x] w fun e w' => e = .returned (.int .u64 (absF fm x)) ∧ Below w.heap.size w w' := by
  cases h : okF fm x
  · rw [abs_no h]
    go_enter Tryd.func65, Tryd.ntmps65
    go_wp2_with (go_at_call 64; refine (impl_ok fm x _ hT h0 h1).mono ?_; rintro e w1 ⟨rfl, hb1⟩)
    go_ret
    exact ⟨rfl, (by repeat (first | exact bz0 _ _ | refine bz1 ?_ | refine bz2 ?_ _ | refine bz3 ?_ _ | refine bz4 ?_ hb1 | refine bz5 ?_ _ | refine bz6 ?_ _ | refine bz7 ?_ hb1))⟩
  · rcases okF_cases h with ⟨rfl, hx⟩ | rfl
    · rw [abs32 hx]; exact impl_abs32 x w hT h0 hx
    · rw [abs64]; exact impl_abs64 x w hT h0 h1
theorem abs_bd {fm x : Int} (h0 : 0 ≤ x) : 0 ≤ absF fm x ∧ absF fm x < 9223372036854775808 := by
  unfold absF sgOf
  split
  · split <;> omega
  · omega
theorem abs_le {fm x : Int} (h0 : 0 ≤ x) : absF fm x ≤ x := by
  unfold absF sgOf
  split
  · split <;> omega
  · omega
/-- Whether it has the sign. -/
def sigB (fm x : Int) : Bool := x != absF fm x
/-- Its place in the order. -/
def ordI (fm x : Int) : Int := if okF fm x then (if sigB fm x then -1 - absF fm x else absF fm x) else 0
theorem ord_no {fm x : Int} (h : okF fm x = false) : ordI fm x = 0 := by unfold ordI; rw [h]; rfl
theorem ord_neg {fm x : Int} (h : okF fm x = true) (k : sigB fm x = true) : ordI fm x = -1 - absF fm x := by unfold ordI; rw [h, k]; rfl
theorem ord_pos {fm x : Int} (h : okF fm x = true) (k : sigB fm x = false) : ordI fm x = absF fm x := by unfold ordI; rw [h, k]; rfl

theorem impl_sig (fm x : Int) (w : World) (hT : Tab w) (h0 : 0 ≤ x) (h1 : x < 18446744073709551616) :
    Calls Tryd.prog 66 #[.int .i64 fm, .int .u64 x] w fun e w' => e = .returned (.bool (sigB fm x)) ∧ Below w.heap.size w w' := by
  have HR : Hid ((x != absF fm x) = sigB fm x) := hid rfl
  go_enter Tryd.func66, Tryd.ntmps66
  go_wp2_with (go_at_call 65; refine (impl_abs fm x _ hT h0 h1).mono ?_; rintro e w1 ⟨rfl, hb1⟩)
  go_ret
  exact ⟨ret_bool HR.out, (by repeat (first | exact bz0 _ _ | refine bz1 ?_ | refine bz2 ?_ _ | refine bz3 ?_ _ | refine bz4 ?_ hb1 | refine bz5 ?_ _ | refine bz6 ?_ _ | refine bz7 ?_ hb1))⟩

theorem impl_ord (fm x : Int) (w : World) (hT : Tab w) (h0 : 0 ≤ x) (h1 : x < 18446744073709551616) :
    Calls Tryd.prog 16 #[.int .i64 fm, .int .u64 x] w fun e w' => e = .returned (.tuple #[.int .i64 (ordI fm x), .bool (okF fm x)]) ∧ Below w.heap.size w w' := by
  have ⟨b0, b1⟩ := abs_bd (fm := fm) h0
  cases h : okF fm x
  · have HR := hid (ord_no h)
    rw [HR.out]
    go_enter Tryd.func16, Tryd.ntmps16
    go_wp2_with (go_at_call 64; refine (impl_ok fm x _ hT h0 h1).mono ?_; rintro e w1 ⟨rfl, hb1⟩)
    go_ret2
    exact ⟨rfl, (by repeat (first | exact bz0 _ _ | refine bz1 ?_ | refine bz2 ?_ _ | refine bz3 ?_ _ | refine bz4 ?_ hb1 | refine bz5 ?_ _ | refine bz6 ?_ _ | refine bz7 ?_ hb1))⟩
  · cases k : sigB fm x
    · rw [ord_pos h k]
      go_enter Tryd.func16, Tryd.ntmps16
      go_wp2_with fail
      refine (impl_ok fm x _ hT h0 h1).mono ?_
      rintro e w1 ⟨rfl, hb1⟩
      have hT1 := hT.below hb1
      go_wp2_with fail
      refine (impl_abs fm x _ hT1 h0 h1).mono ?_
      rintro e w2 ⟨rfl, hb2⟩
      have hT2 := hT1.below hb2
      go_wp2_with fail
      refine (impl_sig fm x _ hT2 h0 h1).mono ?_
      rintro e w3 ⟨rfl, hb3⟩
      go_wp2
      go_ret2
      exact ⟨rfl, (by repeat (first | exact bz0 _ _ | refine bz1 ?_ | refine bz2 ?_ _ | refine bz3 ?_ _ | refine bz4 ?_ hb3 | refine bz4 ?_ hb2 | refine bz4 ?_ hb1 | refine bz5 ?_ _ | refine bz6 ?_ _ | refine bz7 ?_ hb3 | refine bz7 ?_ hb2 | refine bz7 ?_ hb1))⟩
    · rw [ord_neg h k]
      go_enter Tryd.func16, Tryd.ntmps16
      go_wp2_with fail
      refine (impl_ok fm x _ hT h0 h1).mono ?_
      rintro e w1 ⟨rfl, hb1⟩
      have hT1 := hT.below hb1
      go_wp2_with fail
      refine (impl_abs fm x _ hT1 h0 h1).mono ?_
      rintro e w2 ⟨rfl, hb2⟩
      have hT2 := hT1.below hb2
      go_wp2_with fail
      refine (impl_sig fm x _ hT2 h0 h1).mono ?_
      rintro e w3 ⟨rfl, hb3⟩
      go_wp2
      go_ret2
      exact ⟨rfl, (by repeat (first | exact bz0 _ _ | refine bz1 ?_ | refine bz2 ?_ _ | refine bz3 ?_ _ | refine bz4 ?_ hb3 | refine bz4 ?_ hb2 | refine bz4 ?_ hb1 | refine bz5 ?_ _ | refine bz6 ?_ _ | refine bz7 ?_ hb3 | refine bz7 ?_ hb2 | refine bz7 ?_ hb1))⟩

theorem spec_l2abs (fm x : Int) (w : World) (h : okF fm x = true) (h0 : 0 ≤ x) (h1 : x < 18446744073709551616) :
    Calls Tryd.prog 60 #[.int .i64 fm, .int .u64 x] w fun e w' => e = .returned (.int .u64 (absF fm x)) ∧ Below w.heap.size w w' := by
  rcases okF_cases h with ⟨rfl, hx⟩ | rfl
  · have a31 : bits .andNot .u64 x 2147483648 = absF 32 x := by rw [Bt.andNot31 x h0 (by omega), abs32 hx]; omega
    go_enter Tryd.func60, Tryd.ntmps60
    go_wp2
    go_ret
    exact ⟨rfl, (by repeat (first | exact bz0 _ _ | refine bz1 ?_ | refine bz2 ?_ _ | refine bz3 ?_ _ | refine bz5 ?_ _ | refine bz6 ?_ _))⟩
  · have a31 : bits .andNot .u64 x 9223372036854775808 = absF 64 x := by rw [Bt.andNot63 x h0 (by omega), abs64]; omega
    go_enter Tryd.func60, Tryd.ntmps60
    go_wp2
    go_ret
    exact ⟨rfl, (by repeat (first | exact bz0 _ _ | refine bz1 ?_ | refine bz2 ?_ _ | refine bz3 ?_ _ | refine bz5 ?_ _ | refine bz6 ?_ _))⟩
theorem sig32 {x : Int} (hx : x < 4294967296) (h0 : 0 ≤ x) : sigB 32 x = (x / 2147483648 % 2 * 2147483648 != 0) := by
  unfold sigB; rw [abs32 hx]
  by_cases h : x < 2147483648
  · rw [show x % 2147483648 = x by omega, show x / 2147483648 % 2 = 0 by omega]; simp
  · rw [show x / 2147483648 % 2 = 1 by omega]; simp; omega
theorem sig64 {x : Int} (hx : x < 18446744073709551616) (h0 : 0 ≤ x) : sigB 64 x = (x / 9223372036854775808 % 2 * 9223372036854775808 != 0) := by
  unfold sigB; rw [abs64]
  by_cases h : x < 9223372036854775808
  · rw [show x % 9223372036854775808 = x by omega, show x / 9223372036854775808 % 2 = 0 by omega]; simp
  · rw [show x / 9223372036854775808 % 2 = 1 by omega]; simp; omega
theorem spec_l2neg (fm x : Int) (w : World) (h : okF fm x = true) (h0 : 0 ≤ x) (h1 : x < 18446744073709551616) :
    Calls Tryd.prog 92 #[.int .i64 fm, .int .u64 x] w fun e w' => e = .returned (.bool (sigB fm x)) ∧ Below w.heap.size w w' := by
  rcases okF_cases h with ⟨rfl, hx⟩ | rfl
  · have HS := hid (sig32 hx h0)
    have a31 := Bt.and31 x h0 (by omega)
    go_enter Tryd.func92, Tryd.ntmps92
    go_wp2
    go_ret
    exact ⟨ret_bool HS.out.symm, (by repeat (first | exact bz0 _ _ | refine bz1 ?_ | refine bz2 ?_ _ | refine bz3 ?_ _ | refine bz5 ?_ _ | refine bz6 ?_ _))⟩
  · have HS := hid (sig64 h1 h0)
    have a31 := Bt.and63 x h0 (by omega)
    go_enter Tryd.func92, Tryd.ntmps92
    go_wp2
    go_ret
    exact ⟨ret_bool HS.out.symm, (by repeat (first | exact bz0 _ _ | refine bz1 ?_ | refine bz2 ?_ _ | refine bz3 ?_ _ | refine bz5 ?_ _ | refine bz6 ?_ _))⟩
theorem spec_ord (fm x : Int) (w : World) (h0 : 0 ≤ x) (h1 : x < 18446744073709551616) :
    Calls Tryd.prog 61 #[.int .i64 fm, .int .u64 x] w fun e w' => e = .returned (.tuple #[.int .i64 (ordI fm x), .bool (okF fm x)]) ∧ Below w.heap.size w w' := by
  have ⟨b0, b1⟩ := abs_bd (fm := fm) h0
  cases h : okF fm x
  · have HR := hid (ord_no h)
    rw [HR.out]
    go_enter Tryd.func61, Tryd.ntmps61
    go_wp2_with (go_at_call 58; refine (spec_ok fm x _).mono ?_; rintro e w1 ⟨rfl, hb1⟩)
    go_ret2
    exact ⟨rfl, (by repeat (first | exact bz0 _ _ | refine bz1 ?_ | refine bz2 ?_ _ | refine bz3 ?_ _ | refine bz4 ?_ hb1 | refine bz5 ?_ _ | refine bz6 ?_ _ | refine bz7 ?_ hb1))⟩
  · have HH := hid h
    cases k : sigB fm x
    · rw [ord_pos h k]
      go_enter Tryd.func61, Tryd.ntmps61
      go_wp2_with fail
      refine (spec_ok fm x _).mono ?_
      rintro e w1 ⟨rfl, hb1⟩
      go_wp2_with fail
      refine (spec_l2abs fm x _ HH.out h0 h1).mono ?_
      rintro e w2 ⟨rfl, hb2⟩
      go_wp2_with fail
      refine (spec_l2neg fm x _ HH.out h0 h1).mono ?_
      rintro e w3 ⟨rfl, hb3⟩
      go_wp2
      go_ret2
      exact ⟨rfl, (by repeat (first | exact bz0 _ _ | refine bz1 ?_ | refine bz2 ?_ _ | refine bz3 ?_ _ | refine bz4 ?_ hb3 | refine bz4 ?_ hb2 | refine bz4 ?_ hb1 | refine bz5 ?_ _ | refine bz6 ?_ _ | refine bz7 ?_ hb3 | refine bz7 ?_ hb2 | refine bz7 ?_ hb1))⟩
    · rw [ord_neg h k]
      go_enter Tryd.func61, Tryd.ntmps61
      go_wp2_with fail
      refine (spec_ok fm x _).mono ?_
      rintro e w1 ⟨rfl, hb1⟩
      go_wp2_with fail
      refine (spec_l2abs fm x _ HH.out h0 h1).mono ?_
      rintro e w2 ⟨rfl, hb2⟩
      go_wp2_with fail
      refine (spec_l2neg fm x _ HH.out h0 h1).mono ?_
      rintro e w3 ⟨rfl, hb3⟩
      go_wp2
      go_ret2
      exact ⟨rfl, (by repeat (first | exact bz0 _ _ | refine bz1 ?_ | refine bz2 ?_ _ | refine bz3 ?_ _ | refine bz4 ?_ hb3 | refine bz4 ?_ hb2 | refine bz4 ?_ hb1 | refine bz5 ?_ _ | refine bz6 ?_ _ | refine bz7 ?_ hb3 | refine bz7 ?_ hb2 | refine bz7 ?_ hb1))⟩
theorem clsY_rng (L I Q y : Int) : 0 ≤ clsY L I Q y ∧ clsY L I Q y ≤ 5 := by unfold clsY; repeat' split <;> omega
theorem cls_rng (fm x : Int) : -1 ≤ cls fm x ∧ cls fm x ≤ 5 := by
  unfold cls
  split
  · split
    · have := clsY_rng 8388608 2139095040 4194304 (x % 2147483648); omega
    · have := clsY_rng 4503599627370496 9218868437227405312 2251799813685248 (x % 9223372036854775808); omega
  · omega
/-- Finite; finite or infinity. -/
def finB (fm x : Int) : Bool := decide (0 ≤ cls fm x ∧ cls fm x ≤ 2)
def numB (fm x : Int) : Bool := decide (0 ≤ cls fm x ∧ cls fm x ≤ 3)

theorem impl_fin (fm x : Int) (w : World) (hT : Tab w) (h0 : 0 ≤ x) (h1 : x < 18446744073709551616) :
    Calls Tryd.prog 70 #[.int .i64 fm, .int .u64 x] w fun e w' => e = .returned (.bool (finB fm x)) ∧ Below w.heap.size w w' := by
  have ⟨r0, r1⟩ := cls_rng fm x
  by_cases hc : 0 ≤ cls fm x ∧ cls fm x ≤ 2
  · have HR : Hid (finB fm x = true) := hid (by unfold finB; simpa using hc)
    have h3 : cls fm x = 0 ∨ cls fm x = 1 ∨ cls fm x = 2 := by omega
    have H3 := hid h3
    clear h3 hc
    rcases H3.out with c | c | c
    all_goals
      go_enter Tryd.func70, Tryd.ntmps70
      go_wp2_with fail
      refine (impl_cls fm x _ hT h0 h1).mono ?_
      rintro e w1 ⟨rfl, hb1⟩
      go_wp2
      go_ret
      exact ⟨ret_bool HR.out.symm, (by repeat (first | exact bz0 _ _ | refine bz1 ?_ | refine bz2 ?_ _ | refine bz3 ?_ _ | refine bz4 ?_ hb1 | refine bz5 ?_ _ | refine bz6 ?_ _ | refine bz7 ?_ hb1))⟩
  · have HR : Hid (finB fm x = false) := hid (by unfold finB; simpa using hc)
    have n0 : (cls fm x == 0) = false := by rw [beq_eq_false_iff_ne]; omega
    have n1 : (cls fm x == 1) = false := by rw [beq_eq_false_iff_ne]; omega
    have n2 : (cls fm x == 2) = false := by rw [beq_eq_false_iff_ne]; omega
    clear hc
    go_enter Tryd.func70, Tryd.ntmps70
    go_wp2_with fail
    refine (impl_cls fm x _ hT h0 h1).mono ?_
    rintro e w1 ⟨rfl, hb1⟩
    go_wp2
    go_ret
    exact ⟨ret_bool HR.out.symm, (by repeat (first | exact bz0 _ _ | refine bz1 ?_ | refine bz2 ?_ _ | refine bz3 ?_ _ | refine bz4 ?_ hb1 | refine bz5 ?_ _ | refine bz6 ?_ _ | refine bz7 ?_ hb1))⟩
theorem impl_num (fm x : Int) (w : World) (hT : Tab w) (h0 : 0 ≤ x) (h1 : x < 18446744073709551616) :
    Calls Tryd.prog 56 #[.int .i64 fm, .int .u64 x] w fun e w' => e = .returned (.bool (numB fm x)) ∧ Below w.heap.size w w' := by
  have ⟨r0, r1⟩ := cls_rng fm x
  cases hf : finB fm x
  · have hn : numB fm x = (cls fm x == 3) := by
      unfold finB at hf; unfold numB
      simp at hf
      rw [Bool.eq_iff_iff]; simp; omega
    have HR := hid hn
    clear hn
    go_enter Tryd.func56, Tryd.ntmps56
    go_wp2_with fail
    refine (impl_fin fm x _ hT h0 h1).mono ?_
    rintro e w1 ⟨rfl, hb1⟩
    go_wp2_with fail
    refine (impl_cls fm x _ (hT.below hb1) h0 h1).mono ?_
    rintro e w2 ⟨rfl, hb2⟩
    go_wp2
    go_ret
    exact ⟨ret_bool HR.out.symm, (by repeat (first | exact bz0 _ _ | refine bz1 ?_ | refine bz2 ?_ _ | refine bz3 ?_ _ | refine bz4 ?_ hb2 | refine bz4 ?_ hb1 | refine bz5 ?_ _ | refine bz6 ?_ _ | refine bz7 ?_ hb2 | refine bz7 ?_ hb1))⟩
  · have HR : Hid (numB fm x = true) := hid (by unfold finB at hf; unfold numB; simp at hf ⊢; omega)
    go_enter Tryd.func56, Tryd.ntmps56
    go_wp2_with fail
    refine (impl_fin fm x _ hT h0 h1).mono ?_
    rintro e w1 ⟨rfl, hb1⟩
    go_wp2
    go_ret
    exact ⟨ret_bool HR.out.symm, (by repeat (first | exact bz0 _ _ | refine bz1 ?_ | refine bz2 ?_ _ | refine bz3 ?_ _ | refine bz4 ?_ hb1 | refine bz5 ?_ _ | refine bz6 ?_ _ | refine bz7 ?_ hb1))⟩

/-- How two floats compare. -/
def cmpF (fm a b : Int) : Int := if numB fm a && numB fm b then (if cls fm a == 0 && cls fm b == 0 then 0 else cmpI (ordI fm a) (ordI fm b)) else 2
theorem cmp_no1 {fm a b : Int} (h : numB fm a = false) : cmpF fm a b = 2 := by unfold cmpF; rw [h]; rfl
theorem cmp_no2 {fm a b : Int} (h : numB fm b = false) : cmpF fm a b = 2 := by unfold cmpF; rw [h]; simp
theorem cmp_zero {fm a b : Int} (h : numB fm a = true) (k : numB fm b = true) (h0 : (cls fm a == 0) = true) (k0 : (cls fm b == 0) = true) : cmpF fm a b = 0 := by unfold cmpF; rw [h, k, h0, k0]; rfl
theorem cmp_else {fm a b : Int} (h : numB fm a = true) (k : numB fm b = true) (h0 : (cls fm a == 0 && cls fm b == 0) = false) : cmpF fm a b = cmpI (ordI fm a) (ordI fm b) := by unfold cmpF; rw [h, k, h0]; rfl

theorem impl_cmp (fm a b : Int) (w : World) (hT : Tab w) (a0 : 0 ≤ a) (a1 : a < 18446744073709551616) (b0 : 0 ≤ b) (b1 : b < 18446744073709551616) :
    Calls Tryd.prog 13 #[.int .i64 fm, .int .u64 a, .int .u64 b] w fun e w' => e = .returned (.int .i64 (cmpF fm a b)) ∧ Below w.heap.size w w' := by
  have ⟨m0, m1⟩ := cmpI_rng (ordI fm a) (ordI fm b)
  cases hna : numB fm a
  · have HR := hid (cmp_no1 (b := b) hna)
    go_enter Tryd.func13, Tryd.ntmps13
    go_wp2_with fail
    refine (impl_num fm a _ hT a0 a1).mono ?_
    rintro e w1 ⟨rfl, hb1⟩
    go_wp2
    go_ret
    exact ⟨ret_int HR.out.symm, (by repeat (first | exact bz0 _ _ | refine bz1 ?_ | refine bz2 ?_ _ | refine bz3 ?_ _ | refine bz4 ?_ hb1 | refine bz5 ?_ _ | refine bz6 ?_ _ | refine bz7 ?_ hb1))⟩
  cases hnb : numB fm b
  · have HR := hid (cmp_no2 (a := a) hnb)
    go_enter Tryd.func13, Tryd.ntmps13
    go_wp2_with fail
    refine (impl_num fm a _ hT a0 a1).mono ?_
    rintro e w1 ⟨rfl, hb1⟩
    have hT1 := hT.below hb1
    go_wp2_with fail
    refine (impl_num fm b _ hT1 b0 b1).mono ?_
    rintro e w2 ⟨rfl, hb2⟩
    go_wp2
    go_ret
    exact ⟨ret_int HR.out.symm, (by repeat (first | exact bz0 _ _ | refine bz1 ?_ | refine bz2 ?_ _ | refine bz3 ?_ _ | refine bz4 ?_ hb2 | refine bz4 ?_ hb1 | refine bz5 ?_ _ | refine bz6 ?_ _ | refine bz7 ?_ hb2 | refine bz7 ?_ hb1))⟩
  cases hza : (cls fm a == 0)
  · have HR := hid (cmp_else hna hnb (by rw [hza]; rfl))
    go_enter Tryd.func13, Tryd.ntmps13
    go_wp2_with fail
    refine (impl_num fm a _ hT a0 a1).mono ?_
    rintro e w1 ⟨rfl, hb1⟩
    have hT1 := hT.below hb1
    go_wp2_with fail
    refine (impl_num fm b _ hT1 b0 b1).mono ?_
    rintro e w2 ⟨rfl, hb2⟩
    have hT2 := hT1.below hb2
    go_wp2_with fail
    refine (impl_cls fm a _ hT2 a0 a1).mono ?_
    rintro e w3 ⟨rfl, hb3⟩
    have hT3 := hT2.below hb3
    go_wp2_with fail
    refine (impl_ord fm a _ hT3 a0 a1).mono ?_
    rintro e w4 ⟨rfl, hb4⟩
    have hT4 := hT3.below hb4
    go_wp2_with fail
    refine (impl_ord fm b _ hT4 b0 b1).mono ?_
    rintro e w5 ⟨rfl, hb5⟩
    go_wp2_with fail
    refine (compare_int64 _ _ _).mono ?_
    rintro e w6 ⟨rfl, hb6⟩
    go_wp2
    go_ret
    exact ⟨ret_int HR.out.symm, (by repeat (first | exact bz0 _ _ | refine bz1 ?_ | refine bz2 ?_ _ | refine bz3 ?_ _ | refine bz4 ?_ hb6 | refine bz4 ?_ hb5 | refine bz4 ?_ hb4 | refine bz4 ?_ hb3 | refine bz4 ?_ hb2 | refine bz4 ?_ hb1 | refine bz5 ?_ _ | refine bz6 ?_ _ | refine bz7 ?_ hb6 | refine bz7 ?_ hb5 | refine bz7 ?_ hb4 | refine bz7 ?_ hb3 | refine bz7 ?_ hb2 | refine bz7 ?_ hb1))⟩
  cases hzb : (cls fm b == 0)
  · have HR := hid (cmp_else hna hnb (by rw [hza, hzb]; rfl))
    go_enter Tryd.func13, Tryd.ntmps13
    go_wp2_with fail
    refine (impl_num fm a _ hT a0 a1).mono ?_
    rintro e w1 ⟨rfl, hb1⟩
    have hT1 := hT.below hb1
    go_wp2_with fail
    refine (impl_num fm b _ hT1 b0 b1).mono ?_
    rintro e w2 ⟨rfl, hb2⟩
    have hT2 := hT1.below hb2
    go_wp2_with fail
    refine (impl_cls fm a _ hT2 a0 a1).mono ?_
    rintro e w3 ⟨rfl, hb3⟩
    have hT3 := hT2.below hb3
    go_wp2_with fail
    refine (impl_cls fm b _ hT3 b0 b1).mono ?_
    rintro e w4' ⟨rfl, hb4'⟩
    have hT3' := hT3.below hb4'
    go_wp2_with fail
    refine (impl_ord fm a _ hT3' a0 a1).mono ?_
    rintro e w4 ⟨rfl, hb4⟩
    have hT4 := hT3'.below hb4
    go_wp2_with fail
    refine (impl_ord fm b _ hT4 b0 b1).mono ?_
    rintro e w5 ⟨rfl, hb5⟩
    go_wp2_with fail
    refine (compare_int64 _ _ _).mono ?_
    rintro e w6 ⟨rfl, hb6⟩
    go_wp2
    go_ret
    exact ⟨ret_int HR.out.symm, (by repeat (first | exact bz0 _ _ | refine bz1 ?_ | refine bz2 ?_ _ | refine bz3 ?_ _ | refine bz4 ?_ hb6 | refine bz4 ?_ hb5 | refine bz4 ?_ hb4 | refine bz4 ?_ hb4' | refine bz4 ?_ hb3 | refine bz4 ?_ hb2 | refine bz4 ?_ hb1 | refine bz5 ?_ _ | refine bz6 ?_ _ | refine bz7 ?_ hb6 | refine bz7 ?_ hb5 | refine bz7 ?_ hb4 | refine bz7 ?_ hb4' | refine bz7 ?_ hb3 | refine bz7 ?_ hb2 | refine bz7 ?_ hb1))⟩
  · have HR := hid (cmp_zero hna hnb hza hzb)
    go_enter Tryd.func13, Tryd.ntmps13
    go_wp2_with fail
    refine (impl_num fm a _ hT a0 a1).mono ?_
    rintro e w1 ⟨rfl, hb1⟩
    have hT1 := hT.below hb1
    go_wp2_with fail
    refine (impl_num fm b _ hT1 b0 b1).mono ?_
    rintro e w2 ⟨rfl, hb2⟩
    have hT2 := hT1.below hb2
    go_wp2_with fail
    refine (impl_cls fm a _ hT2 a0 a1).mono ?_
    rintro e w3 ⟨rfl, hb3⟩
    have hT3 := hT2.below hb3
    go_wp2_with fail
    refine (impl_cls fm b _ hT3 b0 b1).mono ?_
    rintro e w4 ⟨rfl, hb4⟩
    go_wp2
    go_ret
    exact ⟨ret_int HR.out.symm, (by repeat (first | exact bz0 _ _ | refine bz1 ?_ | refine bz2 ?_ _ | refine bz3 ?_ _ | refine bz4 ?_ hb4 | refine bz4 ?_ hb3 | refine bz4 ?_ hb2 | refine bz4 ?_ hb1 | refine bz5 ?_ _ | refine bz6 ?_ _ | refine bz7 ?_ hb4 | refine bz7 ?_ hb3 | refine bz7 ?_ hb2 | refine bz7 ?_ hb1))⟩
end Go.Proofs.YtpalbhkihheogaaDoor
