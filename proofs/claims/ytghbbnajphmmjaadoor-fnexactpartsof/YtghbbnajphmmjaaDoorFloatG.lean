/-
  Floats: the sign turned, the sign gone.
-/
import Derived.Test.YtghbbnajphmmjaaDoorFloatE
namespace Go.Proofs.YtghbbnajphmmjaaDoor
set_option linter.unusedVariables false
set_option linter.unusedSimpArgs false
open Go.RowKit

/-- The sign's place. -/
def sgOf (fm : Int) : Int := if fm = 32 then 2147483648 else 9223372036854775808
/-- The sign turned; the sign gone; whether there is one. -/
def negF (fm x : Int) : Int := if okF fm x then (if x < sgOf fm then x + sgOf fm else x - sgOf fm) else 0
def absF (fm x : Int) : Int := if okF fm x then x % sgOf fm else 0
theorem neg32 {x : Int} (h : x < 4294967296) : negF 32 x = if x < 2147483648 then x + 2147483648 else x - 2147483648 := by unfold negF; rw [okF32 h]; rfl
theorem neg64 {x : Int} : negF 64 x = if x < 9223372036854775808 then x + 9223372036854775808 else x - 9223372036854775808 := by unfold negF; rw [okF64]; rfl
theorem abs32 {x : Int} (h : x < 4294967296) : absF 32 x = x % 2147483648 := by unfold absF; rw [okF32 h]; rfl
theorem abs64 {x : Int} : absF 64 x = x % 9223372036854775808 := by unfold absF; rw [okF64]; rfl
theorem neg_no {fm x : Int} (h : okF fm x = false) : negF fm x = 0 := by unfold negF; rw [h]; rfl
theorem abs_no {fm x : Int} (h : okF fm x = false) : absF fm x = 0 := by unfold absF; rw [h]; rfl

set_option maxHeartbeats 1000000 in
theorem impl_neg32 (x : Int) (w : World) (h : Tab w) (h0 : 0 ≤ x) (h1 : x < 4294967296) :
    Calls Tryd.prog 23 #[.int .i64 32, .int .u64 x] w fun e w' => e = .returned (.int .u64 (if x < 2147483648 then x + 2147483648 else x - 2147483648)) ∧ Below w.heap.size w w' := by
  have hok : okF 32 x = true := by simp [okF, h1]
  have h1' : x < 18446744073709551616 := by omega
  obtain ⟨y, hy⟩ : ∃ y, y = if x < 2147483648 then x + 2147483648 else x - 2147483648 := ⟨_, rfl⟩
  rw [← hy]
  have e : bits .xor .u64 x 2147483648 = y := by rw [Bt.xor31 x h0 (by omega), hy]; split <;> split <;> omega
  clear hy
  go_enter Tryd.func23, Tryd.ntmps23
  go_wp2_with fail
  refine (impl_ok 32 x _ h h0 h1').mono ?_
  rintro e w1 ⟨rfl, hb1⟩
  have hT1 := h.below hb1
  go_wp2_with fail
  refine (sizes32 _ hT1).mono ?_
  rintro e w2 ⟨rfl, hb2⟩
  go_wp2_with (go_at_call 43; refine (sign32 _).mono ?_; rintro e w3 ⟨rfl, hb3⟩)
  go_ret
  exact ⟨rfl, (by repeat (first | exact Below.refl _ _ | refine Below.drew ?_ | refine bel_dn ?_ _ | refine bel_al ?_ _ | refine bel_go ?_ hb3 | refine bel_go ?_ hb2 | refine bel_go ?_ hb1 | refine Below.setCell ?_ (by first | omega | (simp; done) | (simp; omega)) _ | refine Below.alloc ?_ (by first | omega | (simp; done) | (simp; omega)) _ | refine Below.trans ?_ (Below.mono hb3 (by first | omega | (simp; done) | (simp; omega))) | refine Below.trans ?_ (Below.mono hb2 (by first | omega | (simp; done) | (simp; omega))) | refine Below.trans ?_ (Below.mono hb1 (by first | omega | (simp; done) | (simp; omega)))))⟩
set_option maxHeartbeats 1000000 in
theorem impl_abs32 (x : Int) (w : World) (h : Tab w) (h0 : 0 ≤ x) (h1 : x < 4294967296) :
    Calls Tryd.prog 51 #[.int .i64 32, .int .u64 x] w fun e w' => e = .returned (.int .u64 (x % 2147483648)) ∧ Below w.heap.size w w' := by
  have hok : okF 32 x = true := by simp [okF, h1]
  have h1' : x < 18446744073709551616 := by omega
  have e : bits .andNot .u64 x 2147483648 = x % 2147483648 := by rw [Bt.andNot31 x h0 (by omega)]; omega
  go_enter Tryd.func51, Tryd.ntmps51
  go_wp2_with fail
  refine (impl_ok 32 x _ h h0 h1').mono ?_
  rintro e w1 ⟨rfl, hb1⟩
  have hT1 := h.below hb1
  go_wp2_with fail
  refine (sizes32 _ hT1).mono ?_
  rintro e w2 ⟨rfl, hb2⟩
  go_wp2_with (go_at_call 43; refine (sign32 _).mono ?_; rintro e w3 ⟨rfl, hb3⟩)
  go_ret
  exact ⟨rfl, (by repeat (first | exact Below.refl _ _ | refine Below.drew ?_ | refine bel_dn ?_ _ | refine bel_al ?_ _ | refine bel_go ?_ hb3 | refine bel_go ?_ hb2 | refine bel_go ?_ hb1 | refine Below.setCell ?_ (by first | omega | (simp; done) | (simp; omega)) _ | refine Below.alloc ?_ (by first | omega | (simp; done) | (simp; omega)) _ | refine Below.trans ?_ (Below.mono hb3 (by first | omega | (simp; done) | (simp; omega))) | refine Below.trans ?_ (Below.mono hb2 (by first | omega | (simp; done) | (simp; omega))) | refine Below.trans ?_ (Below.mono hb1 (by first | omega | (simp; done) | (simp; omega)))))⟩
set_option maxHeartbeats 1000000 in
theorem impl_neg64 (x : Int) (w : World) (h : Tab w) (h0 : 0 ≤ x) (h1 : x < 18446744073709551616) :
    Calls Tryd.prog 23 #[.int .i64 64, .int .u64 x] w fun e w' => e = .returned (.int .u64 (if x < 9223372036854775808 then x + 9223372036854775808 else x - 9223372036854775808)) ∧ Below w.heap.size w w' := by
  have hok : okF 64 x = true := by simp [okF, h1]
  have h1' : x < 18446744073709551616 := by omega
  obtain ⟨y, hy⟩ : ∃ y, y = if x < 9223372036854775808 then x + 9223372036854775808 else x - 9223372036854775808 := ⟨_, rfl⟩
  rw [← hy]
  have e : bits .xor .u64 x 9223372036854775808 = y := by rw [Bt.xor63 x h0 (by omega), hy]; split <;> split <;> omega
  clear hy
  go_enter Tryd.func23, Tryd.ntmps23
  go_wp2_with fail
  refine (impl_ok 64 x _ h h0 h1').mono ?_
  rintro e w1 ⟨rfl, hb1⟩
  have hT1 := h.below hb1
  go_wp2_with fail
  refine (sizes64 _ hT1).mono ?_
  rintro e w2 ⟨rfl, hb2⟩
  go_wp2_with (go_at_call 43; refine (sign64 _).mono ?_; rintro e w3 ⟨rfl, hb3⟩)
  go_ret
  exact ⟨rfl, (by repeat (first | exact Below.refl _ _ | refine Below.drew ?_ | refine bel_dn ?_ _ | refine bel_al ?_ _ | refine bel_go ?_ hb3 | refine bel_go ?_ hb2 | refine bel_go ?_ hb1 | refine Below.setCell ?_ (by first | omega | (simp; done) | (simp; omega)) _ | refine Below.alloc ?_ (by first | omega | (simp; done) | (simp; omega)) _ | refine Below.trans ?_ (Below.mono hb3 (by first | omega | (simp; done) | (simp; omega))) | refine Below.trans ?_ (Below.mono hb2 (by first | omega | (simp; done) | (simp; omega))) | refine Below.trans ?_ (Below.mono hb1 (by first | omega | (simp; done) | (simp; omega)))))⟩
set_option maxHeartbeats 1000000 in
theorem impl_abs64 (x : Int) (w : World) (h : Tab w) (h0 : 0 ≤ x) (h1 : x < 18446744073709551616) :
    Calls Tryd.prog 51 #[.int .i64 64, .int .u64 x] w fun e w' => e = .returned (.int .u64 (x % 9223372036854775808)) ∧ Below w.heap.size w w' := by
  have hok : okF 64 x = true := by simp [okF, h1]
  have h1' : x < 18446744073709551616 := by omega
  have e : bits .andNot .u64 x 9223372036854775808 = x % 9223372036854775808 := by rw [Bt.andNot63 x h0 (by omega)]; omega
  go_enter Tryd.func51, Tryd.ntmps51
  go_wp2_with fail
  refine (impl_ok 64 x _ h h0 h1').mono ?_
  rintro e w1 ⟨rfl, hb1⟩
  have hT1 := h.below hb1
  go_wp2_with fail
  refine (sizes64 _ hT1).mono ?_
  rintro e w2 ⟨rfl, hb2⟩
  go_wp2_with (go_at_call 43; refine (sign64 _).mono ?_; rintro e w3 ⟨rfl, hb3⟩)
  go_ret
  exact ⟨rfl, (by repeat (first | exact Below.refl _ _ | refine Below.drew ?_ | refine bel_dn ?_ _ | refine bel_al ?_ _ | refine bel_go ?_ hb3 | refine bel_go ?_ hb2 | refine bel_go ?_ hb1 | refine Below.setCell ?_ (by first | omega | (simp; done) | (simp; omega)) _ | refine Below.alloc ?_ (by first | omega | (simp; done) | (simp; omega)) _ | refine Below.trans ?_ (Below.mono hb3 (by first | omega | (simp; done) | (simp; omega))) | refine Below.trans ?_ (Below.mono hb2 (by first | omega | (simp; done) | (simp; omega))) | refine Below.trans ?_ (Below.mono hb1 (by first | omega | (simp; done) | (simp; omega)))))⟩
theorem impl_neg (fm x : Int) (w : World) (hT : Tab w) (h0 : 0 ≤ x) (h1 : x < 18446744073709551616) :
    Calls Tryd.prog 23 #[.int .i64 fm, .int .u64 x] w fun e w' => e = .returned (.int .u64 (negF fm x)) ∧ Below w.heap.size w w' := by
  cases h : okF fm x
  · rw [neg_no h]
    go_enter Tryd.func23, Tryd.ntmps23
    go_wp2_with (go_at_call 42; refine (impl_ok fm x _ hT h0 h1).mono ?_; rintro e w1 ⟨rfl, hb1⟩)
    go_ret
    exact ⟨rfl, (by repeat (first | exact Below.refl _ _ | refine Below.drew ?_ | refine bel_dn ?_ _ | refine bel_al ?_ _ | refine bel_go ?_ hb1 | refine Below.setCell ?_ (by first | omega | (simp; done) | (simp; omega)) _ | refine Below.alloc ?_ (by first | omega | (simp; done) | (simp; omega)) _ | refine Below.trans ?_ (Below.mono hb1 (by first | omega | (simp; done) | (simp; omega)))))⟩
  · rcases okF_cases h with ⟨rfl, hx⟩ | rfl
    · rw [neg32 hx]; exact impl_neg32 x w hT h0 hx
    · rw [neg64]; exact impl_neg64 x w hT h0 h1
theorem impl_abs (fm x : Int) (w : World) (hT : Tab w) (h0 : 0 ≤ x) (h1 : x < 18446744073709551616) :
    Calls Tryd.prog 51 #[.int .i64 fm, .int .u64 x] w fun e w' => e = .returned (.int .u64 (absF fm x)) ∧ Below w.heap.size w w' := by
  cases h : okF fm x
  · rw [abs_no h]
    go_enter Tryd.func51, Tryd.ntmps51
    go_wp2_with (go_at_call 42; refine (impl_ok fm x _ hT h0 h1).mono ?_; rintro e w1 ⟨rfl, hb1⟩)
    go_ret
    exact ⟨rfl, (by repeat (first | exact Below.refl _ _ | refine Below.drew ?_ | refine bel_dn ?_ _ | refine bel_al ?_ _ | refine bel_go ?_ hb1 | refine Below.setCell ?_ (by first | omega | (simp; done) | (simp; omega)) _ | refine Below.alloc ?_ (by first | omega | (simp; done) | (simp; omega)) _ | refine Below.trans ?_ (Below.mono hb1 (by first | omega | (simp; done) | (simp; omega)))))⟩
  · rcases okF_cases h with ⟨rfl, hx⟩ | rfl
    · rw [abs32 hx]; exact impl_abs32 x w hT h0 hx
    · rw [abs64]; exact impl_abs64 x w hT h0 h1
end Go.Proofs.YtghbbnajphmmjaaDoor
