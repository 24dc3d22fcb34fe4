/-
  Several texts in one: ModeA, RC.
-/
import Derived.Test.YtojcaoccjapdoaaDoorRows
import Derived.Test.YtojcaoccjapdoaaDoorG00
import Derived.WalkKit
import Derived.WalkSpells
import Derived.WalkLawsBesides
import Derived.Test.YtojcaoccjapdoaaDoorG13
/-
  Modes: whether a number is one, by the program and by the specification; the law.
-/
namespace Go.Proofs.YtojcaoccjapdoaaDoor
set_option linter.unusedVariables false
set_option linter.unusedSimpArgs false
open Go.RowKit
/-- Whether a number is a mode. -/
def modeB (m : Int) : Bool := decide (0 ≤ m) && decide (m ≤ 5)
/-- Whether a number lies between two. -/
def inB (n lo hi : Int) : Bool := decide (lo ≤ n) && decide (n ≤ hi)
set_option maxHeartbeats 400000 in
theorem in_spec (n lo hi : Int) (w : World) :
    Calls Tryd.prog 92 #[.int .i64 n, .int .i64 lo, .int .i64 hi] w fun e w' => e = .returned (.bool (inB n lo hi)) ∧ w' = w := by
  by_cases h1 : lo ≤ n
  · by_cases h2 : n ≤ hi
    · have HR : Hid (inB n lo hi = true) := hid (by simp [inB, h1, h2])
      go_enter Tryd.func92, Tryd.ntmps92
      go_wp2
      go_ret
      exact ⟨ret_bool HR.out.symm, rfl⟩
    · have HR : Hid (inB n lo hi = false) := hid (by simp [inB, h1, h2])
      go_enter Tryd.func92, Tryd.ntmps92
      go_wp2
      go_ret
      exact ⟨ret_bool HR.out.symm, rfl⟩
  · have HR : Hid (inB n lo hi = false) := hid (by simp [inB, h1])
    go_enter Tryd.func92, Tryd.ntmps92
    go_wp2
    go_ret
    exact ⟨ret_bool HR.out.symm, rfl⟩
theorem mode_spec (m : Int) (w : World) :
    Calls Tryd.prog 98 #[.int .i64 m] w fun e w' => e = .returned (.bool (modeB m)) ∧ w' = w := by
  go_enter Tryd.func98, Tryd.ntmps98
  go_wp2_with fail
  refine (in_spec m 0 5 _).mono ?_
  rintro e w1 ⟨rfl, rfl⟩
  go_wp2
  go_ret
  exact ⟨rfl, rfl⟩
theorem mode_impl (m : Int) (w : World) :
    Calls Tryd.prog 104 #[.int .i64 m] w fun e w' => e = .returned (.bool (modeB m)) ∧ w' = w := by
  by_cases h1 : 0 ≤ m
  · by_cases h2 : m ≤ 5
    · have HR : Hid (modeB m = true) := hid (by simp [modeB, h1, h2])
      go_enter Tryd.func104, Tryd.ntmps104
      go_wp2
      go_ret
      exact ⟨ret_bool HR.out.symm, rfl⟩
    · have HR : Hid (modeB m = false) := hid (by simp [modeB, h1, h2])
      go_enter Tryd.func104, Tryd.ntmps104
      go_wp2
      go_ret
      exact ⟨ret_bool HR.out.symm, rfl⟩
  · have HR : Hid (modeB m = false) := hid (by simp [modeB, h1])
    go_enter Tryd.func104, Tryd.ntmps104
    go_wp2
    go_ret
    exact ⟨ret_bool HR.out.symm, rfl⟩
end Go.Proofs.YtojcaoccjapdoaaDoor
/-
  What a mode says, and what is too great, by the specification.
-/
namespace Go.Proofs.YtojcaoccjapdoaaDoor
set_option linter.unusedVariables false
set_option linter.unusedSimpArgs false
open Go.RowKit Go.Deep
/-- Does what is cut off go away from 0? -/
def upB (mode : Int) (odd : Bool) (half : Int) (neg : Bool) : Bool :=
  if mode = 0 then decide (0 < half) || (decide (half = 0) && odd) else if mode = 2 then !neg else if mode = 3 then neg else if mode = 4 then decide (0 ≤ half) else if mode = 5 then decide (0 < half) else false
/-- What is too great: the greatest float? -/
def ovB (mode : Int) (neg : Bool) : Bool := decide (mode = 1) || (decide (mode = 2) && neg) || (decide (mode = 3) && !neg)
theorem mode_cases {m : Int} (h : modeB m = true) : m = 0 ∨ m = 1 ∨ m = 2 ∨ m = 3 ∨ m = 4 ∨ m = 5 := by
  simp [modeB] at h; omega
set_option maxHeartbeats 2000000 in
theorem l3up_any (mode : Int) (odd : Bool) (half : Int) (neg : Bool) (w : World) (h : modeB mode = true) :
    Calls Tryd.prog 137 #[.int .i64 mode, .bool odd, .int .i64 half, .bool neg] w fun e w' => e = .returned (.bool (upB mode odd half neg)) ∧ w' = w := by
  rcases mode_cases h with rfl | rfl | rfl | rfl | rfl | rfl
  · by_cases h0 : 0 < half
    · have HR : Hid (upB 0 odd half neg = true) := hid (by simp [upB, h0])
      go_enter Tryd.func137, Tryd.ntmps137
      go_wp2
      go_ret
      exact ⟨ret_bool HR.out.symm, rfl⟩
    · by_cases h1 : half = 0
      · subst h1
        have HR : Hid (upB 0 odd 0 neg = odd) := hid (by simp [upB])
        go_enter Tryd.func137, Tryd.ntmps137
        go_wp2
        go_ret
        exact ⟨ret_bool HR.out.symm, rfl⟩
      · have HR : Hid (upB 0 odd half neg = false) := hid (by simp [upB, h0, h1])
        have h1' : (half == 0) = false := by simpa using h1
        clear h1
        go_enter Tryd.func137, Tryd.ntmps137
        go_wp2
        go_ret
        exact ⟨ret_bool HR.out.symm, rfl⟩
  · have HR : Hid (upB 1 odd half neg = upB 1 odd half neg) := hid rfl
    go_enter Tryd.func137, Tryd.ntmps137
    go_wp2
    go_ret
    exact ⟨ret_bool (by unfold upB; simp), rfl⟩
  · have HR : Hid (upB 2 odd half neg = upB 2 odd half neg) := hid rfl
    go_enter Tryd.func137, Tryd.ntmps137
    go_wp2
    go_ret
    exact ⟨ret_bool (by unfold upB; simp), rfl⟩
  · have HR : Hid (upB 3 odd half neg = upB 3 odd half neg) := hid rfl
    go_enter Tryd.func137, Tryd.ntmps137
    go_wp2
    go_ret
    exact ⟨ret_bool (by unfold upB; simp), rfl⟩
  · have HR : Hid (upB 4 odd half neg = upB 4 odd half neg) := hid rfl
    go_enter Tryd.func137, Tryd.ntmps137
    go_wp2
    go_ret
    exact ⟨ret_bool (by unfold upB; simp), rfl⟩
  · have HR : Hid (upB 5 odd half neg = upB 5 odd half neg) := hid rfl
    go_enter Tryd.func137, Tryd.ntmps137
    go_wp2
    go_ret
    exact ⟨ret_bool (by unfold upB; simp), rfl⟩
set_option maxHeartbeats 2000000 in
theorem l3over_32 (mode : Int) (neg : Bool) (w : World) (h : modeB mode = true) :
    Calls Tryd.prog 140 #[.int .i64 32, .int .i64 mode, .bool neg] w fun e w' => e = .returned (.int .u64 (if ovB mode neg then sgn 2147483648 2139095039 neg else sgn 2147483648 2139095040 neg)) ∧ Below w.heap.size w w' := by
  have hinf : infOf 32 = 2139095040 := rfl
  rcases mode_cases h with rfl | rfl | rfl | rfl | rfl | rfl <;> cases neg
  all_goals
    go_enter Tryd.func140, Tryd.ntmps140
    go_wp2_with fail
    have hi := spec_inf32 w
    rw [hinf] at hi
    refine hi.mono ?_
    rintro e w1 ⟨rfl, hb1⟩
    clear hi
    go_wp2_with fail
    refine (with_32 _ _ _ (fun _ => ⟨by decide, by decide⟩)).mono ?_
    rintro e w2 ⟨rfl, hb2⟩
    go_wp2
    go_ret
    exact ⟨rfl, (by repeat (first | exact Below.refl _ _ | refine Below.drew ?_ | refine bel_dn ?_ _ | refine bel_al ?_ _ | refine bel_go ?_ hb2 | refine bel_go ?_ hb1 | refine Below.setCell ?_ (by first | omega | (simp; done) | (simp; omega)) _ | refine Below.alloc ?_ (by first | omega | (simp; done) | (simp; omega)) _ | refine Below.trans ?_ (Below.mono hb2 (by first | omega | (simp; done) | (simp; omega))) | refine Below.trans ?_ (Below.mono hb1 (by first | omega | (simp; done) | (simp; omega)))))⟩
set_option maxHeartbeats 2000000 in
theorem l3over_64 (mode : Int) (neg : Bool) (w : World) (h : modeB mode = true) :
    Calls Tryd.prog 140 #[.int .i64 64, .int .i64 mode, .bool neg] w fun e w' => e = .returned (.int .u64 (if ovB mode neg then sgn 9223372036854775808 9218868437227405311 neg else sgn 9223372036854775808 9218868437227405312 neg)) ∧ Below w.heap.size w w' := by
  have hinf : infOf 64 = 9218868437227405312 := rfl
  rcases mode_cases h with rfl | rfl | rfl | rfl | rfl | rfl <;> cases neg
  all_goals
    go_enter Tryd.func140, Tryd.ntmps140
    go_wp2_with fail
    have hi := spec_inf64 w
    rw [hinf] at hi
    refine hi.mono ?_
    rintro e w1 ⟨rfl, hb1⟩
    clear hi
    go_wp2_with fail
    refine (with_64 _ _ _ (fun _ => ⟨by decide, by decide⟩)).mono ?_
    rintro e w2 ⟨rfl, hb2⟩
    go_wp2
    go_ret
    exact ⟨rfl, (by repeat (first | exact Below.refl _ _ | refine Below.drew ?_ | refine bel_dn ?_ _ | refine bel_al ?_ _ | refine bel_go ?_ hb2 | refine bel_go ?_ hb1 | refine Below.setCell ?_ (by first | omega | (simp; done) | (simp; omega)) _ | refine Below.alloc ?_ (by first | omega | (simp; done) | (simp; omega)) _ | refine Below.trans ?_ (Below.mono hb2 (by first | omega | (simp; done) | (simp; omega))) | refine Below.trans ?_ (Below.mono hb1 (by first | omega | (simp; done) | (simp; omega)))))⟩
end Go.Proofs.YtojcaoccjapdoaaDoor
