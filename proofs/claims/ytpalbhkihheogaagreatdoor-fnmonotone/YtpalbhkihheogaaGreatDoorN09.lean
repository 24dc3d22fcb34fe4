/-
  What is needed of FloatG, FloatH.
-/
import Derived.Test.YtpalbhkihheogaaGreatDoorN07
set_option maxHeartbeats 16000000
set_option maxRecDepth 1000000
namespace Go.Proofs.YtpalbhkihheogaaGreatDoor
set_option linter.unusedVariables false
set_option linter.unusedSimpArgs false
open Go.RowKit
/-- The sign's place. -/
def sgOf (fm : Int) : Int := if fm = 32 then 2147483648 else 9223372036854775808
def absF (fm x : Int) : Int := if okF fm x then x % sgOf fm else 0
theorem abs32 {x : Int} (h : x < 4294967296) : absF 32 x = x % 2147483648 := by unfold absF; rw [okF32 h]; rfl
theorem abs64 {x : Int} : absF 64 x = x % 9223372036854775808 := by unfold absF; rw [okF64]; rfl
theorem abs_no {fm x : Int} (h : okF fm x = false) : absF fm x = 0 := by unfold absF; rw [h]; rfl

theorem impl_abs32 (x : Int) (w : World) (h : Tab w) (h0 : 0 ≤ x) (h1 : x < 4294967296) :
    Calls Tryz.prog 24 #[.int .i64 32, .int .u64 x] w fun e w' => e = .returned (.int .u64 (x % 2147483648)) ∧ Below w.heap.size w w' := by
  have hok : okF 32 x = true := by simp [okF, h1]
  have h1' : x < 18446744073709551616 := by omega
  have e : bits .andNot .u64 x 2147483648 = x % 2147483648 := by rw [Bt.andNot31 x h0 (by omega)]; omega
  go_enter Tryz.func24, Tryz.ntmps24
  go_wp2_with fail
  refine (impl_ok 32 x _ h h0 h1').mono ?_
  rintro e w1 ⟨rfl, hb1⟩
  have hT1 := h.below hb1
  go_wp2_with fail
  refine (sizes32 _ hT1).mono ?_
  rintro e w2 ⟨rfl, hb2⟩
  go_wp2_with (go_at_call 72; refine (sign32 _).mono ?_; rintro e w3 ⟨rfl, hb3⟩)
  go_ret
  exact ⟨rfl, (by repeat (first | exact bz0 _ _ | refine bz1 ?_ | refine bz2 ?_ _ | refine bz3 ?_ _ | refine bz4 ?_ hb3 | refine bz4 ?_ hb2 | refine bz4 ?_ hb1 | refine bz5 ?_ _ | refine bz6 ?_ _ | refine bz7 ?_ hb3 | refine bz7 ?_ hb2 | refine bz7 ?_ hb1))⟩
theorem impl_abs64 (x : Int) (w : World) (h : Tab w) (h0 : 0 ≤ x) (h1 : x < 18446744073709551616) :
    Calls Tryz.prog 24 #[.int .i64 64, .int .u64 x] w fun e w' => e = .returned (.int .u64 (x % 9223372036854775808)) ∧ Below w.heap.size w w' := by
  have hok : okF 64 x = true := by simp [okF, h1]
  have h1' : x < 18446744073709551616 := by omega
  have e : bits .andNot .u64 x 9223372036854775808 = x % 9223372036854775808 := by rw [Bt.andNot63 x h0 (by omega)]; omega
  go_enter Tryz.func24, Tryz.ntmps24
  go_wp2_with fail
  refine (impl_ok 64 x _ h h0 h1').mono ?_
  rintro e w1 ⟨rfl, hb1⟩
  have hT1 := h.below hb1
  go_wp2_with fail
  refine (sizes64 _ hT1).mono ?_
  rintro e w2 ⟨rfl, hb2⟩
  go_wp2_with (go_at_call 72; refine (sign64 _).mono ?_; rintro e w3 ⟨rfl, hb3⟩)
  go_ret
  exact ⟨rfl, (by repeat (first | exact bz0 _ _ | refine bz1 ?_ | refine bz2 ?_ _ | refine bz3 ?_ _ | refine bz4 ?_ hb3 | refine bz4 ?_ hb2 | refine bz4 ?_ hb1 | refine bz5 ?_ _ | refine bz6 ?_ _ | refine bz7 ?_ hb3 | refine bz7 ?_ hb2 | refine bz7 ?_ hb1))⟩
theorem impl_abs (fm x : Int) (w : World) (hT : Tab w) (h0 : 0 ≤ x) (h1 : x < 18446744073709551616) :
    Calls Tryz.prog 24 #[.int .i64 fm, .int .u64 x] w fun e w' => e = .returned (.int .u64 (absF fm x)) ∧ Below w.heap.size w w' := by
  cases h : okF fm x
  · rw [abs_no h]
    go_enter Tryz.func24, Tryz.ntmps24
    go_wp2_with (go_at_call 69; refine (impl_ok fm x _ hT h0 h1).mono ?_; rintro e w1 ⟨rfl, hb1⟩)
    go_ret
    exact ⟨rfl, (by repeat (first | exact bz0 _ _ | refine bz1 ?_ | refine bz2 ?_ _ | refine bz3 ?_ _ | refine bz4 ?_ hb1 | refine bz5 ?_ _ | refine bz6 ?_ _ | refine bz7 ?_ hb1))⟩
  · rcases okF_cases h with ⟨rfl, hx⟩ | rfl
    · rw [abs32 hx]; exact impl_abs32 x w hT h0 hx
    · rw [abs64]; exact impl_abs64 x w hT h0 h1
theorem abs_bd {fm x : Int} (h0 : 0 ≤ x) : 0 ≤ absF fm x ∧ absF fm x < 9223372036854775808 := by
  unfold absF sgOf
  split
  · split <;> omega
  · omega
theorem abs_le {fm x : Int} (h0 : 0 ≤ x) : absF fm x ≤ x := by
  unfold absF sgOf
  split
  · split <;> omega
  · omega
/-- Whether it has the sign. -/
def sigB (fm x : Int) : Bool := x != absF fm x
/-- Its place in the order. -/
def ordI (fm x : Int) : Int := if okF fm x then (if sigB fm x then -1 - absF fm x else absF fm x) else 0
theorem ord_no {fm x : Int} (h : okF fm x = false) : ordI fm x = 0 := by unfold ordI; rw [h]; rfl
theorem ord_neg {fm x : Int} (h : okF fm x = true) (k : sigB fm x = true) : ordI fm x = -1 - absF fm x := by unfold ordI; rw [h, k]; rfl
theorem ord_pos {fm x : Int} (h : okF fm x = true) (k : sigB fm x = false) : ordI fm x = absF fm x := by unfold ordI; rw [h, k]; rfl

theorem impl_sig (fm x : Int) (w : World) (hT : Tab w) (h0 : 0 ≤ x) (h1 : x < 18446744073709551616) :
    Calls Tryz.prog 73 #[.int .i64 fm, .int .u64 x] w fun e w' => e = .returned (.bool (sigB fm x)) ∧ Below w.heap.size w w' := by
  have HR : Hid ((x != absF fm x) = sigB fm x) := hid rfl
  go_enter Tryz.func73, Tryz.ntmps73
  go_wp2_with (go_at_call 24; refine (impl_abs fm x _ hT h0 h1).mono ?_; rintro e w1 ⟨rfl, hb1⟩)
  go_ret
  exact ⟨ret_bool HR.out, (by repeat (first | exact bz0 _ _ | refine bz1 ?_ | refine bz2 ?_ _ | refine bz3 ?_ _ | refine bz4 ?_ hb1 | refine bz5 ?_ _ | refine bz6 ?_ _ | refine bz7 ?_ hb1))⟩

theorem impl_ord (fm x : Int) (w : World) (hT : Tab w) (h0 : 0 ≤ x) (h1 : x < 18446744073709551616) :
    Calls Tryz.prog 25 #[.int .i64 fm, .int .u64 x] w fun e w' => e = .returned (.tuple #[.int .i64 (ordI fm x), .bool (okF fm x)]) ∧ Below w.heap.size w w' := by
  have ⟨b0, b1⟩ := abs_bd (fm := fm) h0
  cases h : okF fm x
  · have HR := hid (ord_no h)
    rw [HR.out]
    go_enter Tryz.func25, Tryz.ntmps25
    go_wp2_with (go_at_call 69; refine (impl_ok fm x _ hT h0 h1).mono ?_; rintro e w1 ⟨rfl, hb1⟩)
    go_ret2
    exact ⟨rfl, (by repeat (first | exact bz0 _ _ | refine bz1 ?_ | refine bz2 ?_ _ | refine bz3 ?_ _ | refine bz4 ?_ hb1 | refine bz5 ?_ _ | refine bz6 ?_ _ | refine bz7 ?_ hb1))⟩
  · cases k : sigB fm x
    · rw [ord_pos h k]
      go_enter Tryz.func25, Tryz.ntmps25
      go_wp2_with fail
      refine (impl_ok fm x _ hT h0 h1).mono ?_
      rintro e w1 ⟨rfl, hb1⟩
      have hT1 := hT.below hb1
      go_wp2_with fail
      refine (impl_abs fm x _ hT1 h0 h1).mono ?_
      rintro e w2 ⟨rfl, hb2⟩
      have hT2 := hT1.below hb2
      go_wp2_with fail
      refine (impl_sig fm x _ hT2 h0 h1).mono ?_
      rintro e w3 ⟨rfl, hb3⟩
      go_wp2
      go_ret2
      exact ⟨rfl, (by repeat (first | exact bz0 _ _ | refine bz1 ?_ | refine bz2 ?_ _ | refine bz3 ?_ _ | refine bz4 ?_ hb3 | refine bz4 ?_ hb2 | refine bz4 ?_ hb1 | refine bz5 ?_ _ | refine bz6 ?_ _ | refine bz7 ?_ hb3 | refine bz7 ?_ hb2 | refine bz7 ?_ hb1))⟩
    · rw [ord_neg h k]
      go_enter Tryz.func25, Tryz.ntmps25
      go_wp2_with fail
      refine (impl_ok fm x _ hT h0 h1).mono ?_
      rintro e w1 ⟨rfl, hb1⟩
      have hT1 := hT.below hb1
      go_wp2_with fail
      refine (impl_abs fm x _ hT1 h0 h1).mono ?_
      rintro e w2 ⟨rfl, hb2⟩
      have hT2 := hT1.below hb2
      go_wp2_with fail
      refine (impl_sig fm x _ hT2 h0 h1).mono ?_
      rintro e w3 ⟨rfl, hb3⟩
      go_wp2
      go_ret2
      exact ⟨rfl, (by repeat (first | exact bz0 _ _ | refine bz1 ?_ | refine bz2 ?_ _ | refine bz3 ?_ _ | refine bz4 ?_ hb3 | refine bz4 ?_ hb2 | refine bz4 ?_ hb1 | refine bz5 ?_ _ | refine bz6 ?_ _ | refine bz7 ?_ hb3 | refine bz7 ?_ hb2 | refine bz7 ?_ hb1))⟩

theorem spec_l2abs (fm x : Int) (w : World) (h : okF fm x = true) (h0 : 0 ≤ x) (h1 : x < 18446744073709551616) :
    Calls Tryz.prog 83 #[.int .i64 fm, .int .u64 x] w fun e w' => e = .returned (.int .u64 (absF fm x)) ∧ Below w.heap.size w w' := by
  rcases okF_cases h with ⟨rfl, hx⟩ | rfl
  · have a31 : bits .andNot .u64 x 2147483648 = absF 32 x := by rw [Bt.andNot31 x h0 (by omega), abs32 hx]; omega
    go_enter Tryz.func83, Tryz.ntmps83
    go_wp2
    go_ret
    exact ⟨rfl, (by repeat (first | exact bz0 _ _ | refine bz1 ?_ | refine bz2 ?_ _ | refine bz3 ?_ _ | refine bz5 ?_ _ | refine bz6 ?_ _))⟩
  · have a31 : bits .andNot .u64 x 9223372036854775808 = absF 64 x := by rw [Bt.andNot63 x h0 (by omega), abs64]; omega
    go_enter Tryz.func83, Tryz.ntmps83
    go_wp2
    go_ret
    exact ⟨rfl, (by repeat (first | exact bz0 _ _ | refine bz1 ?_ | refine bz2 ?_ _ | refine bz3 ?_ _ | refine bz5 ?_ _ | refine bz6 ?_ _))⟩
theorem sig32 {x : Int} (hx : x < 4294967296) (h0 : 0 ≤ x) : sigB 32 x = (x / 2147483648 % 2 * 2147483648 != 0) := by
  unfold sigB; rw [abs32 hx]
  by_cases h : x < 2147483648
  · rw [show x % 2147483648 = x by omega, show x / 2147483648 % 2 = 0 by omega]; simp
  · rw [show x / 2147483648 % 2 = 1 by omega]; simp; omega
theorem sig64 {x : Int} (hx : x < 18446744073709551616) (h0 : 0 ≤ x) : sigB 64 x = (x / 9223372036854775808 % 2 * 9223372036854775808 != 0) := by
  unfold sigB; rw [abs64]
  by_cases h : x < 9223372036854775808
  · rw [show x % 9223372036854775808 = x by omega, show x / 9223372036854775808 % 2 = 0 by omega]; simp
  · rw [show x / 9223372036854775808 % 2 = 1 by omega]; simp; omega
theorem spec_l2neg (fm x : Int) (w : World) (h : okF fm x = true) (h0 : 0 ≤ x) (h1 : x < 18446744073709551616) :
    Calls Tryz.prog 121 #[.int .i64 fm, .int .u64 x] w fun e w' => e = .returned (.bool (sigB fm x)) ∧ Below w.heap.size w w' := by
  rcases okF_cases h with ⟨rfl, hx⟩ | rfl
  · have HS := hid (sig32 hx h0)
    have a31 := Bt.and31 x h0 (by omega)
    go_enter Tryz.func121, Tryz.ntmps121
    go_wp2
    go_ret
    exact ⟨ret_bool HS.out.symm, (by repeat (first | exact bz0 _ _ | refine bz1 ?_ | refine bz2 ?_ _ | refine bz3 ?_ _ | refine bz5 ?_ _ | refine bz6 ?_ _))⟩
  · have HS := hid (sig64 h1 h0)
    have a31 := Bt.and63 x h0 (by omega)
    go_enter Tryz.func121, Tryz.ntmps121
    go_wp2
    go_ret
    exact ⟨ret_bool HS.out.symm, (by repeat (first | exact bz0 _ _ | refine bz1 ?_ | refine bz2 ?_ _ | refine bz3 ?_ _ | refine bz5 ?_ _ | refine bz6 ?_ _))⟩
end Go.Proofs.YtpalbhkihheogaaGreatDoor
