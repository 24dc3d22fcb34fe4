/-
  Floats: signs, and their order.
-/
import Derived.Test.YtghbbnajphmmjaaDoorFloatG
namespace Go.Proofs.YtghbbnajphmmjaaDoor
set_option linter.unusedVariables false
set_option linter.unusedSimpArgs false
open Go.RowKit

theorem abs_bd {fm x : Int} (h0 : 0 ≤ x) : 0 ≤ absF fm x ∧ absF fm x < 9223372036854775808 := by
  unfold absF sgOf
  split
  · split <;> omega
  · omega
theorem abs_le {fm x : Int} (h0 : 0 ≤ x) : absF fm x ≤ x := by
  unfold absF sgOf
  split
  · split <;> omega
  · omega
/-- Whether it has the sign. -/
def sigB (fm x : Int) : Bool := x != absF fm x
/-- Its place in the order. -/
def ordI (fm x : Int) : Int := if okF fm x then (if sigB fm x then -1 - absF fm x else absF fm x) else 0
theorem ord_no {fm x : Int} (h : okF fm x = false) : ordI fm x = 0 := by unfold ordI; rw [h]; rfl
theorem ord_neg {fm x : Int} (h : okF fm x = true) (k : sigB fm x = true) : ordI fm x = -1 - absF fm x := by unfold ordI; rw [h, k]; rfl
theorem ord_pos {fm x : Int} (h : okF fm x = true) (k : sigB fm x = false) : ordI fm x = absF fm x := by unfold ordI; rw [h, k]; rfl

set_option maxHeartbeats 1000000 in
theorem impl_sig (fm x : Int) (w : World) (hT : Tab w) (h0 : 0 ≤ x) (h1 : x < 18446744073709551616) :
    Calls Tryd.prog 35 #[.int .i64 fm, .int .u64 x] w fun e w' => e = .returned (.bool (sigB fm x)) ∧ Below w.heap.size w w' := by
  have HR : Hid ((x != absF fm x) = sigB fm x) := hid rfl
  go_enter Tryd.func35, Tryd.ntmps35
  go_wp2_with (go_at_call 51; refine (impl_abs fm x _ hT h0 h1).mono ?_; rintro e w1 ⟨rfl, hb1⟩)
  go_ret
  exact ⟨ret_bool HR.out, (by repeat (first | exact Below.refl _ _ | refine Below.drew ?_ | refine bel_dn ?_ _ | refine bel_al ?_ _ | refine bel_go ?_ hb1 | refine Below.setCell ?_ (by first | omega | (simp; done) | (simp; omega)) _ | refine Below.alloc ?_ (by first | omega | (simp; done) | (simp; omega)) _ | refine Below.trans ?_ (Below.mono hb1 (by first | omega | (simp; done) | (simp; omega)))))⟩


set_option maxHeartbeats 1000000 in
theorem spec_l2abs (fm x : Int) (w : World) (h : okF fm x = true) (h0 : 0 ≤ x) (h1 : x < 18446744073709551616) :
    Calls Tryd.prog 44 #[.int .i64 fm, .int .u64 x] w fun e w' => e = .returned (.int .u64 (absF fm x)) ∧ Below w.heap.size w w' := by
  rcases okF_cases h with ⟨rfl, hx⟩ | rfl
  · have a31 : bits .andNot .u64 x 2147483648 = absF 32 x := by rw [Bt.andNot31 x h0 (by omega), abs32 hx]; omega
    go_enter Tryd.func44, Tryd.ntmps44
    go_wp2
    go_ret
    exact ⟨rfl, (by repeat (first | exact Below.refl _ _ | refine Below.drew ?_ | refine bel_dn ?_ _ | refine bel_al ?_ _ | refine Below.setCell ?_ (by first | omega | (simp; done) | (simp; omega)) _ | refine Below.alloc ?_ (by first | omega | (simp; done) | (simp; omega)) _))⟩
  · have a31 : bits .andNot .u64 x 9223372036854775808 = absF 64 x := by rw [Bt.andNot63 x h0 (by omega), abs64]; omega
    go_enter Tryd.func44, Tryd.ntmps44
    go_wp2
    go_ret
    exact ⟨rfl, (by repeat (first | exact Below.refl _ _ | refine Below.drew ?_ | refine bel_dn ?_ _ | refine bel_al ?_ _ | refine Below.setCell ?_ (by first | omega | (simp; done) | (simp; omega)) _ | refine Below.alloc ?_ (by first | omega | (simp; done) | (simp; omega)) _))⟩
theorem sig32 {x : Int} (hx : x < 4294967296) (h0 : 0 ≤ x) : sigB 32 x = (x / 2147483648 % 2 * 2147483648 != 0) := by
  unfold sigB; rw [abs32 hx]
  by_cases h : x < 2147483648
  · rw [show x % 2147483648 = x by omega, show x / 2147483648 % 2 = 0 by omega]; simp
  · rw [show x / 2147483648 % 2 = 1 by omega]; simp; omega
theorem sig64 {x : Int} (hx : x < 18446744073709551616) (h0 : 0 ≤ x) : sigB 64 x = (x / 9223372036854775808 % 2 * 9223372036854775808 != 0) := by
  unfold sigB; rw [abs64]
  by_cases h : x < 9223372036854775808
  · rw [show x % 9223372036854775808 = x by omega, show x / 9223372036854775808 % 2 = 0 by omega]; simp
  · rw [show x / 9223372036854775808 % 2 = 1 by omega]; simp; omega
set_option maxHeartbeats 1000000 in
theorem spec_l2neg (fm x : Int) (w : World) (h : okF fm x = true) (h0 : 0 ≤ x) (h1 : x < 18446744073709551616) :
    Calls Tryd.prog 48 #[.int .i64 fm, .int .u64 x] w fun e w' => e = .returned (.bool (sigB fm x)) ∧ Below w.heap.size w w' := by
  rcases okF_cases h with ⟨rfl, hx⟩ | rfl
  · have HS := hid (sig32 hx h0)
    have a31 := Bt.and31 x h0 (by omega)
    go_enter Tryd.func48, Tryd.ntmps48
    go_wp2
    go_ret
    exact ⟨ret_bool HS.out.symm, (by repeat (first | exact Below.refl _ _ | refine Below.drew ?_ | refine bel_dn ?_ _ | refine bel_al ?_ _ | refine Below.setCell ?_ (by first | omega | (simp; done) | (simp; omega)) _ | refine Below.alloc ?_ (by first | omega | (simp; done) | (simp; omega)) _))⟩
  · have HS := hid (sig64 h1 h0)
    have a31 := Bt.and63 x h0 (by omega)
    go_enter Tryd.func48, Tryd.ntmps48
    go_wp2
    go_ret
    exact ⟨ret_bool HS.out.symm, (by repeat (first | exact Below.refl _ _ | refine Below.drew ?_ | refine bel_dn ?_ _ | refine bel_al ?_ _ | refine Below.setCell ?_ (by first | omega | (simp; done) | (simp; omega)) _ | refine Below.alloc ?_ (by first | omega | (simp; done) | (simp; omega)) _))⟩
end Go.Proofs.YtghbbnajphmmjaaDoor
