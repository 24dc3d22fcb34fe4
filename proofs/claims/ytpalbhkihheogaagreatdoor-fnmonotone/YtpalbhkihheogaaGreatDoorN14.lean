/-
  What is needed of FloatK, FloatL, FloatM.
-/
import Derived.Test.YtpalbhkihheogaaGreatDoorN12
set_option maxHeartbeats 16000000
set_option maxRecDepth 1000000
namespace Go.Proofs.YtpalbhkihheogaaGreatDoor
set_option linter.unusedVariables false
set_option linter.unusedSimpArgs false
open Go.RowKit
/-- Infinity's bits. -/
def infOf (fm : Int) : Int := if fm = 32 then 2139095040 else 9218868437227405312
def nanB (fm x : Int) : Bool := decide (infOf fm < absF fm x)
theorem spec_inf32 (w : World) :
    Calls Tryz.prog 84 #[.int .i64 32] w fun e w' => e = .returned (.int .u64 (infOf 32)) ∧ Below w.heap.size w w' := by
  have HR : Hid (infOf 32 = 2139095040) := hid rfl
  go_enter Tryz.func84, Tryz.ntmps84
  go_wp2
  go_ret
  exact ⟨ret_int HR.out.symm, (by repeat (first | exact bz0 _ _ | refine bz1 ?_ | refine bz2 ?_ _ | refine bz3 ?_ _ | refine bz5 ?_ _ | refine bz6 ?_ _))⟩
theorem spec_inf64 (w : World) :
    Calls Tryz.prog 84 #[.int .i64 64] w fun e w' => e = .returned (.int .u64 (infOf 64)) ∧ Below w.heap.size w w' := by
  have HR : Hid (infOf 64 = 9218868437227405312) := hid rfl
  go_enter Tryz.func84, Tryz.ntmps84
  go_wp2
  go_ret
  exact ⟨ret_int HR.out.symm, (by repeat (first | exact bz0 _ _ | refine bz1 ?_ | refine bz2 ?_ _ | refine bz3 ?_ _ | refine bz5 ?_ _ | refine bz6 ?_ _))⟩
theorem spec_inf (fm x : Int) (w : World) (h : okF fm x = true) :
    Calls Tryz.prog 84 #[.int .i64 fm] w fun e w' => e = .returned (.int .u64 (infOf fm)) ∧ Below w.heap.size w w' := by
  rcases okF_cases h with ⟨rfl, hx⟩ | rfl
  · exact spec_inf32 w
  · exact spec_inf64 w
theorem spec_nan (fm x : Int) (w : World) (h : okF fm x = true) (h0 : 0 ≤ x) (h1 : x < 18446744073709551616) :
    Calls Tryz.prog 126 #[.int .i64 fm, .int .u64 x] w fun e w' => e = .returned (.bool (nanB fm x)) ∧ Below w.heap.size w w' := by
  have HH := hid h
  have HR : Hid (decide (infOf fm < absF fm x) = nanB fm x) := hid rfl
  clear h
  go_enter Tryz.func126, Tryz.ntmps126
  go_wp2_with fail
  refine (spec_l2abs fm x _ HH.out h0 h1).mono ?_
  rintro e w1 ⟨rfl, hb1⟩
  go_wp2_with fail
  refine (spec_inf fm x _ HH.out).mono ?_
  rintro e w2 ⟨rfl, hb2⟩
  go_wp2
  go_ret
  exact ⟨ret_bool HR.out, (by repeat (first | exact bz0 _ _ | refine bz1 ?_ | refine bz2 ?_ _ | refine bz3 ?_ _ | refine bz4 ?_ hb2 | refine bz4 ?_ hb1 | refine bz5 ?_ _ | refine bz6 ?_ _ | refine bz7 ?_ hb2 | refine bz7 ?_ hb1))⟩
def nanOf (fm : Int) : Int := if fm = 32 then 2143289344 else 9221120237041090560
/-- The next float up. -/
def upF (fm x : Int) : Int := if okF fm x then (if nanB fm x then nanOf fm else if absF fm x == 0 then 1 else if sigB fm x then x - 1 else if x == infOf fm then x else x + 1) else 0
theorem up_no {fm x : Int} (h : okF fm x = false) : upF fm x = 0 := by unfold upF; rw [h]; rfl
theorem up_nan {fm x : Int} (h : okF fm x = true) (h1 : nanB fm x = true) : upF fm x = nanOf fm := by unfold upF; rw [h, h1]; rfl
theorem up_zero {fm x : Int} (h : okF fm x = true) (h1 : nanB fm x = false) (h2 : (absF fm x == 0) = true) : upF fm x = 1 := by unfold upF; rw [h, h1, h2]; rfl
theorem up_neg {fm x : Int} (h : okF fm x = true) (h1 : nanB fm x = false) (h2 : (absF fm x == 0) = false) (h3 : sigB fm x = true) : upF fm x = x - 1 := by unfold upF; rw [h, h1, h2, h3]; rfl
theorem up_inf {fm x : Int} (h : okF fm x = true) (h1 : nanB fm x = false) (h2 : (absF fm x == 0) = false) (h3 : sigB fm x = false) (h4 : (x == infOf fm) = true) : upF fm x = x := by unfold upF; rw [h, h1, h2, h3, h4]; rfl
theorem up_pos {fm x : Int} (h : okF fm x = true) (h1 : nanB fm x = false) (h2 : (absF fm x == 0) = false) (h3 : sigB fm x = false) (h4 : (x == infOf fm) = false) : upF fm x = x + 1 := by unfold upF; rw [h, h1, h2, h3, h4]; rfl
theorem up_bd {fm x : Int} (h : okF fm x = true) (h0 : 0 ≤ x) (h1 : nanB fm x = false) (h3 : sigB fm x = false) : x ≤ 9218868437227405312 := by
  rcases okF_cases h with ⟨rfl, hx⟩ | rfl
  · omega
  · unfold nanB infOf at h1; unfold sigB at h3; rw [abs64] at h1 h3; simp at h1 h3; omega
theorem up_bd' {fm x : Int} (h0 : 0 ≤ x) (h3 : sigB fm x = true) : 1 ≤ x := by
  unfold sigB at h3; have := abs_bd (fm := fm) h0; have := abs_le (fm := fm) h0; simp at h3; omega


theorem spec_nanof32 (w : World) :
    Calls Tryz.prog 127 #[.int .i64 32] w fun e w' => e = .returned (.int .u64 (nanOf 32)) ∧ Below w.heap.size w w' := by
  have HR : Hid (nanOf 32 = 2143289344) := hid rfl
  go_enter Tryz.func127, Tryz.ntmps127
  go_wp2
  go_ret
  exact ⟨ret_int HR.out.symm, (by repeat (first | exact bz0 _ _ | refine bz1 ?_ | refine bz2 ?_ _ | refine bz3 ?_ _ | refine bz5 ?_ _ | refine bz6 ?_ _))⟩
theorem spec_nanof64 (w : World) :
    Calls Tryz.prog 127 #[.int .i64 64] w fun e w' => e = .returned (.int .u64 (nanOf 64)) ∧ Below w.heap.size w w' := by
  have HR : Hid (nanOf 64 = 9221120237041090560) := hid rfl
  go_enter Tryz.func127, Tryz.ntmps127
  go_wp2
  go_ret
  exact ⟨ret_int HR.out.symm, (by repeat (first | exact bz0 _ _ | refine bz1 ?_ | refine bz2 ?_ _ | refine bz3 ?_ _ | refine bz5 ?_ _ | refine bz6 ?_ _))⟩
theorem spec_nanG (fm x : Int) (w : World) (h : okF fm x = true) :
    Calls Tryz.prog 127 #[.int .i64 fm] w fun e w' => e = .returned (.int .u64 (nanOf fm)) ∧ Below w.heap.size w w' := by
  rcases okF_cases h with ⟨rfl, hx⟩ | rfl
  · exact spec_nanof32 w
  · exact spec_nanof64 w
theorem spec_up (fm x : Int) (w : World) (h0 : 0 ≤ x) (h1 : x < 18446744073709551616) :
    Calls Tryz.prog 100 #[.int .i64 fm, .int .u64 x] w fun e w' => e = .returned (.int .u64 (upF fm x)) ∧ Below w.heap.size w w' := by
  cases ho : okF fm x
  · have HR := hid (up_no ho)
    go_enter Tryz.func100, Tryz.ntmps100
    go_wp2_with fail
    refine (spec_ok fm x _).mono ?_
    rintro e w1 ⟨rfl, hb1⟩
    go_wp2
    go_ret
    exact ⟨ret_int HR.out.symm, (by repeat (first | exact bz0 _ _ | refine bz1 ?_ | refine bz2 ?_ _ | refine bz3 ?_ _ | refine bz4 ?_ hb1 | refine bz5 ?_ _ | refine bz6 ?_ _ | refine bz7 ?_ hb1))⟩
  have HO := hid ho
  cases hn : nanB fm x
  rotate_left
  · have HR := hid (up_nan ho hn)
    go_enter Tryz.func100, Tryz.ntmps100
    go_wp2_with fail
    refine (spec_ok fm x _).mono ?_
    rintro e w1 ⟨rfl, hb1⟩
    go_wp2_with fail
    refine (spec_nan fm x _ HO.out h0 h1).mono ?_
    rintro e w2 ⟨rfl, hb2⟩
    go_wp2_with fail
    refine (spec_nanG fm x _ HO.out).mono ?_
    rintro e w3 ⟨rfl, hb3⟩
    go_wp2
    go_ret
    exact ⟨ret_int HR.out.symm, (by repeat (first | exact bz0 _ _ | refine bz1 ?_ | refine bz2 ?_ _ | refine bz3 ?_ _ | refine bz4 ?_ hb3 | refine bz4 ?_ hb2 | refine bz4 ?_ hb1 | refine bz5 ?_ _ | refine bz6 ?_ _ | refine bz7 ?_ hb3 | refine bz7 ?_ hb2 | refine bz7 ?_ hb1))⟩
  cases hz : (absF fm x == 0)
  rotate_left
  · have HR := hid (up_zero ho hn hz)
    go_enter Tryz.func100, Tryz.ntmps100
    go_wp2_with fail
    refine (spec_ok fm x _).mono ?_
    rintro e w1 ⟨rfl, hb1⟩
    go_wp2_with fail
    refine (spec_nan fm x _ HO.out h0 h1).mono ?_
    rintro e w2 ⟨rfl, hb2⟩
    go_wp2_with fail
    refine (spec_l2abs fm x _ HO.out h0 h1).mono ?_
    rintro e w3 ⟨rfl, hb3⟩
    go_wp2
    go_ret
    exact ⟨ret_int HR.out.symm, (by repeat (first | exact bz0 _ _ | refine bz1 ?_ | refine bz2 ?_ _ | refine bz3 ?_ _ | refine bz4 ?_ hb3 | refine bz4 ?_ hb2 | refine bz4 ?_ hb1 | refine bz5 ?_ _ | refine bz6 ?_ _ | refine bz7 ?_ hb3 | refine bz7 ?_ hb2 | refine bz7 ?_ hb1))⟩
  cases hs : sigB fm x
  · have bd := up_bd ho h0 hn hs
    cases hi : (x == infOf fm)
    · have HR := hid (up_pos ho hn hz hs hi)
      go_enter Tryz.func100, Tryz.ntmps100
      go_wp2_with fail
      refine (spec_ok fm x _).mono ?_
      rintro e w1 ⟨rfl, hb1⟩
      go_wp2_with fail
      refine (spec_nan fm x _ HO.out h0 h1).mono ?_
      rintro e w2 ⟨rfl, hb2⟩
      go_wp2_with fail
      refine (spec_l2abs fm x _ HO.out h0 h1).mono ?_
      rintro e w3 ⟨rfl, hb3⟩
      go_wp2_with fail
      refine (spec_l2neg fm x _ HO.out h0 h1).mono ?_
      rintro e w4 ⟨rfl, hb4⟩
      go_wp2_with fail
      refine (spec_inf fm x _ HO.out).mono ?_
      rintro e w5 ⟨rfl, hb5⟩
      go_wp2
      go_ret
      exact ⟨ret_int HR.out.symm, (by repeat (first | exact bz0 _ _ | refine bz1 ?_ | refine bz2 ?_ _ | refine bz3 ?_ _ | refine bz4 ?_ hb5 | refine bz4 ?_ hb4 | refine bz4 ?_ hb3 | refine bz4 ?_ hb2 | refine bz4 ?_ hb1 | refine bz5 ?_ _ | refine bz6 ?_ _ | refine bz7 ?_ hb5 | refine bz7 ?_ hb4 | refine bz7 ?_ hb3 | refine bz7 ?_ hb2 | refine bz7 ?_ hb1))⟩
    · have HR := hid (up_inf ho hn hz hs hi)
      go_enter Tryz.func100, Tryz.ntmps100
      go_wp2_with fail
      refine (spec_ok fm x _).mono ?_
      rintro e w1 ⟨rfl, hb1⟩
      go_wp2_with fail
      refine (spec_nan fm x _ HO.out h0 h1).mono ?_
      rintro e w2 ⟨rfl, hb2⟩
      go_wp2_with fail
      refine (spec_l2abs fm x _ HO.out h0 h1).mono ?_
      rintro e w3 ⟨rfl, hb3⟩
      go_wp2_with fail
      refine (spec_l2neg fm x _ HO.out h0 h1).mono ?_
      rintro e w4 ⟨rfl, hb4⟩
      go_wp2_with fail
      refine (spec_inf fm x _ HO.out).mono ?_
      rintro e w5 ⟨rfl, hb5⟩
      go_wp2
      go_ret
      exact ⟨ret_int HR.out.symm, (by repeat (first | exact bz0 _ _ | refine bz1 ?_ | refine bz2 ?_ _ | refine bz3 ?_ _ | refine bz4 ?_ hb5 | refine bz4 ?_ hb4 | refine bz4 ?_ hb3 | refine bz4 ?_ hb2 | refine bz4 ?_ hb1 | refine bz5 ?_ _ | refine bz6 ?_ _ | refine bz7 ?_ hb5 | refine bz7 ?_ hb4 | refine bz7 ?_ hb3 | refine bz7 ?_ hb2 | refine bz7 ?_ hb1))⟩
  · have HR := hid (up_neg ho hn hz hs)
    have bd := up_bd' (fm := fm) h0 hs
    go_enter Tryz.func100, Tryz.ntmps100
    go_wp2_with fail
    refine (spec_ok fm x _).mono ?_
    rintro e w1 ⟨rfl, hb1⟩
    go_wp2_with fail
    refine (spec_nan fm x _ HO.out h0 h1).mono ?_
    rintro e w2 ⟨rfl, hb2⟩
    go_wp2_with fail
    refine (spec_l2abs fm x _ HO.out h0 h1).mono ?_
    rintro e w3 ⟨rfl, hb3⟩
    go_wp2_with fail
    refine (spec_l2neg fm x _ HO.out h0 h1).mono ?_
    rintro e w4 ⟨rfl, hb4⟩
    go_wp2
    go_ret
    exact ⟨ret_int HR.out.symm, (by repeat (first | exact bz0 _ _ | refine bz1 ?_ | refine bz2 ?_ _ | refine bz3 ?_ _ | refine bz4 ?_ hb4 | refine bz4 ?_ hb3 | refine bz4 ?_ hb2 | refine bz4 ?_ hb1 | refine bz5 ?_ _ | refine bz6 ?_ _ | refine bz7 ?_ hb4 | refine bz7 ?_ hb3 | refine bz7 ?_ hb2 | refine bz7 ?_ hb1))⟩
theorem up_ok {fm x : Int} (h : okF fm x = true) (h0 : 0 ≤ x) (h1 : x < 18446744073709551616) : okF fm (upF fm x) = true ∧ 0 ≤ upF fm x ∧ upF fm x < 18446744073709551616 := by
  cases hn : nanB fm x
  rotate_left
  · rw [up_nan h hn]; rcases okF_cases h with ⟨rfl, hx⟩ | rfl <;> exact ⟨by decide, by decide, by decide⟩
  cases hz : (absF fm x == 0)
  rotate_left
  · rw [up_zero h hn hz]; rcases okF_cases h with ⟨rfl, hx⟩ | rfl <;> exact ⟨by decide, by decide, by decide⟩
  cases hs : sigB fm x
  · have bd := up_bd h h0 hn hs
    cases hi : (x == infOf fm)
    · rw [up_pos h hn hz hs hi]
      rcases okF_cases h with ⟨rfl, hx⟩ | rfl
      · unfold nanB infOf at hn; unfold sigB at hs; rw [abs32 hx] at hn hs; simp at hn hs
        exact ⟨okF32 (by omega), by omega, by omega⟩
      · exact ⟨okF64, by omega, by omega⟩
    · rw [up_inf h hn hz hs hi]; exact ⟨h, h0, h1⟩
  · have bd := up_bd' (fm := fm) h0 hs
    rw [up_neg h hn hz hs]
    rcases okF_cases h with ⟨rfl, hx⟩ | rfl
    · exact ⟨okF32 (by omega), by omega, by omega⟩
    · exact ⟨okF64, by omega, by omega⟩
end Go.Proofs.YtpalbhkihheogaaGreatDoor
