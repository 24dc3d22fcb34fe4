/-
  What is needed of RndB, FloatG, FloatH, FloatL, FloatM.
-/
import Derived.Test.YtmcflggionkhlaaGreatDoorC09
import Derived.Test.YtmcflggionkhlaaGreatDoorC12
import Derived.Test.YtmcflggionkhlaaGreatDoorC15
set_option maxHeartbeats 16000000
set_option maxRecDepth 1000000
namespace Go.Proofs.YtmcflggionkhlaaGreatDoor
set_option linter.unusedVariables false
namespace Nm
/-- Parts: what is cut is 0 just where the parts are within the format. -/
theorem parts_in {P : Nat} {q : Int} {m : Nat} {e : Int} (h : m ≠ 0) : stIn P q m e = decide (rr P q m e = 0) := by
  have hs := tz_spec m h
  have hb : bitLen m = bitLen (od m) + tz m := by
    have := bl_mul (od_pos h) (tz m); rwa [hs.1] at this
  rw [Bool.eq_iff_iff, decide_eq_true_eq, rr_tz h]
  unfold stIn stSp rn
  rw [Bool.and_eq_true, decide_eq_true_eq, decide_eq_true_eq]
  omega
theorem parts_U {P : Nat} {q : Int} {m : Nat} {e : Int} (h : m ≠ 0) (hr : rr P q m e = 0) (up : Bool) : rU P q m e up = stU q m e := by
  have hn := (rr_tz (P := P) (q := q) (e := e) h).1 hr
  have hq : q - e ≤ rn P q m e := by unfold rn; omega
  have hs := (tz_spec m h).1
  unfold rU r1 stU
  rw [if_neg (by simp [hr])]
  unfold rm
  generalize rn P q m e = n at *
  have e1 : sh m (-n) = od m * 2 ^ ((tz m : Int) - n).toNat := by
    unfold sh
    split
    · rw [show (- -n).toNat = n.toNat by omega]
      have : m = od m * 2 ^ ((tz m : Int) - n).toNat * 2 ^ n.toNat := by
        rw [Nat.mul_assoc, ← Nat.pow_add, show ((tz m : Int) - n).toNat + n.toNat = tz m by omega]; exact hs.symm
      exact (congrArg (fun z => z / 2 ^ n.toNat) this).trans (Nat.mul_div_cancel _ (pw_pos2 _))
    · rw [show ((tz m : Int) - n).toNat = tz m + (-n).toNat by omega, Nat.pow_add, ← Nat.mul_assoc, hs]
  rw [e1, Nat.mul_assoc, ← Nat.pow_add]
  congr 2
  omega
end Nm
set_option linter.unusedSimpArgs false
open Go.RowKit
/-- The sign turned; the sign gone; whether there is one. -/
def negF (fm x : Int) : Int := if okF fm x then (if x < sgOf fm then x + sgOf fm else x - sgOf fm) else 0
theorem neg32 {x : Int} (h : x < 4294967296) : negF 32 x = if x < 2147483648 then x + 2147483648 else x - 2147483648 := by unfold negF; rw [okF32 h]; rfl
theorem neg64 {x : Int} : negF 64 x = if x < 9223372036854775808 then x + 9223372036854775808 else x - 9223372036854775808 := by unfold negF; rw [okF64]; rfl
theorem impl_neg32 (x : Int) (w : World) (h : Tab w) (h0 : 0 ≤ x) (h1 : x < 4294967296) :
    Calls Tryz.prog 32 #[.int .i64 32, .int .u64 x] w fun e w' => e = .returned (.int .u64 (if x < 2147483648 then x + 2147483648 else x - 2147483648)) ∧ Below w.heap.size w w' := by
  have hok : okF 32 x = true := by simp [okF, h1]
  have h1' : x < 18446744073709551616 := by omega
  obtain ⟨y, hy⟩ : ∃ y, y = if x < 2147483648 then x + 2147483648 else x - 2147483648 := ⟨_, rfl⟩
  rw [← hy]
  have e : bits .xor .u64 x 2147483648 = y := by rw [Bt.xor31 x h0 (by omega), hy]; split <;> split <;> omega
  clear hy
  go_enter Tryz.func32, Tryz.ntmps32
  go_wp2_with fail
  refine (impl_ok 32 x _ h h0 h1').mono ?_
  rintro e w1 ⟨rfl, hb1⟩
  have hT1 := h.below hb1
  go_wp2_with fail
  refine (sizes32 _ hT1).mono ?_
  rintro e w2 ⟨rfl, hb2⟩
  go_wp2_with (go_at_call 107; refine (sign32 _).mono ?_; rintro e w3 ⟨rfl, hb3⟩)
  go_ret
  exact ⟨rfl, (by repeat (first | exact bz0 _ _ | refine bz1 ?_ | refine bz2 ?_ _ | refine bz3 ?_ _ | refine bz4 ?_ hb3 | refine bz4 ?_ hb2 | refine bz4 ?_ hb1 | refine bz5 ?_ _ | refine bz6 ?_ _ | refine bz7 ?_ hb3 | refine bz7 ?_ hb2 | refine bz7 ?_ hb1))⟩
theorem impl_neg64 (x : Int) (w : World) (h : Tab w) (h0 : 0 ≤ x) (h1 : x < 18446744073709551616) :
    Calls Tryz.prog 32 #[.int .i64 64, .int .u64 x] w fun e w' => e = .returned (.int .u64 (if x < 9223372036854775808 then x + 9223372036854775808 else x - 9223372036854775808)) ∧ Below w.heap.size w w' := by
  have hok : okF 64 x = true := by simp [okF, h1]
  have h1' : x < 18446744073709551616 := by omega
  obtain ⟨y, hy⟩ : ∃ y, y = if x < 9223372036854775808 then x + 9223372036854775808 else x - 9223372036854775808 := ⟨_, rfl⟩
  rw [← hy]
  have e : bits .xor .u64 x 9223372036854775808 = y := by rw [Bt.xor63 x h0 (by omega), hy]; split <;> split <;> omega
  clear hy
  go_enter Tryz.func32, Tryz.ntmps32
  go_wp2_with fail
  refine (impl_ok 64 x _ h h0 h1').mono ?_
  rintro e w1 ⟨rfl, hb1⟩
  have hT1 := h.below hb1
  go_wp2_with fail
  refine (sizes64 _ hT1).mono ?_
  rintro e w2 ⟨rfl, hb2⟩
  go_wp2_with (go_at_call 107; refine (sign64 _).mono ?_; rintro e w3 ⟨rfl, hb3⟩)
  go_ret
  exact ⟨rfl, (by repeat (first | exact bz0 _ _ | refine bz1 ?_ | refine bz2 ?_ _ | refine bz3 ?_ _ | refine bz4 ?_ hb3 | refine bz4 ?_ hb2 | refine bz4 ?_ hb1 | refine bz5 ?_ _ | refine bz6 ?_ _ | refine bz7 ?_ hb3 | refine bz7 ?_ hb2 | refine bz7 ?_ hb1))⟩
theorem abs_bd {fm x : Int} (h0 : 0 ≤ x) : 0 ≤ absF fm x ∧ absF fm x < 9223372036854775808 := by
  unfold absF sgOf
  split
  · split <;> omega
  · omega
theorem abs_le {fm x : Int} (h0 : 0 ≤ x) : absF fm x ≤ x := by
  unfold absF sgOf
  split
  · split <;> omega
  · omega
/-- The next float up. -/
def upF (fm x : Int) : Int := if okF fm x then (if nanB fm x then nanOf fm else if absF fm x == 0 then 1 else if sigB fm x then x - 1 else if x == infOf fm then x else x + 1) else 0
theorem up_no {fm x : Int} (h : okF fm x = false) : upF fm x = 0 := by unfold upF; rw [h]; rfl
theorem up_nan {fm x : Int} (h : okF fm x = true) (h1 : nanB fm x = true) : upF fm x = nanOf fm := by unfold upF; rw [h, h1]; rfl
theorem up_zero {fm x : Int} (h : okF fm x = true) (h1 : nanB fm x = false) (h2 : (absF fm x == 0) = true) : upF fm x = 1 := by unfold upF; rw [h, h1, h2]; rfl
theorem up_neg {fm x : Int} (h : okF fm x = true) (h1 : nanB fm x = false) (h2 : (absF fm x == 0) = false) (h3 : sigB fm x = true) : upF fm x = x - 1 := by unfold upF; rw [h, h1, h2, h3]; rfl
theorem up_inf {fm x : Int} (h : okF fm x = true) (h1 : nanB fm x = false) (h2 : (absF fm x == 0) = false) (h3 : sigB fm x = false) (h4 : (x == infOf fm) = true) : upF fm x = x := by unfold upF; rw [h, h1, h2, h3, h4]; rfl
theorem up_pos {fm x : Int} (h : okF fm x = true) (h1 : nanB fm x = false) (h2 : (absF fm x == 0) = false) (h3 : sigB fm x = false) (h4 : (x == infOf fm) = false) : upF fm x = x + 1 := by unfold upF; rw [h, h1, h2, h3, h4]; rfl
theorem up_bd {fm x : Int} (h : okF fm x = true) (h0 : 0 ≤ x) (h1 : nanB fm x = false) (h3 : sigB fm x = false) : x ≤ 9218868437227405312 := by
  rcases okF_cases h with ⟨rfl, hx⟩ | rfl
  · omega
  · unfold nanB infOf at h1; unfold sigB at h3; rw [abs64] at h1 h3; simp at h1 h3; omega
theorem up_bd' {fm x : Int} (h0 : 0 ≤ x) (h3 : sigB fm x = true) : 1 ≤ x := by
  unfold sigB at h3; have := abs_bd (fm := fm) h0; have := abs_le (fm := fm) h0; simp at h3; omega

theorem spec_nanof32 (w : World) :
    Calls Tryz.prog 92 #[.int .i64 32] w fun e w' => e = .returned (.int .u64 (nanOf 32)) ∧ Below w.heap.size w w' := by
  have HR : Hid (nanOf 32 = 2143289344) := hid rfl
  go_enter Tryz.func92, Tryz.ntmps92
  go_wp2
  go_ret
  exact ⟨ret_int HR.out.symm, (by repeat (first | exact bz0 _ _ | refine bz1 ?_ | refine bz2 ?_ _ | refine bz3 ?_ _ | refine bz5 ?_ _ | refine bz6 ?_ _))⟩
theorem spec_nanof64 (w : World) :
    Calls Tryz.prog 92 #[.int .i64 64] w fun e w' => e = .returned (.int .u64 (nanOf 64)) ∧ Below w.heap.size w w' := by
  have HR : Hid (nanOf 64 = 9221120237041090560) := hid rfl
  go_enter Tryz.func92, Tryz.ntmps92
  go_wp2
  go_ret
  exact ⟨ret_int HR.out.symm, (by repeat (first | exact bz0 _ _ | refine bz1 ?_ | refine bz2 ?_ _ | refine bz3 ?_ _ | refine bz5 ?_ _ | refine bz6 ?_ _))⟩
theorem spec_nanG (fm x : Int) (w : World) (h : okF fm x = true) :
    Calls Tryz.prog 92 #[.int .i64 fm] w fun e w' => e = .returned (.int .u64 (nanOf fm)) ∧ Below w.heap.size w w' := by
  rcases okF_cases h with ⟨rfl, hx⟩ | rfl
  · exact spec_nanof32 w
  · exact spec_nanof64 w
theorem spec_up (fm x : Int) (w : World) (h0 : 0 ≤ x) (h1 : x < 18446744073709551616) :
    Calls Tryz.prog 152 #[.int .i64 fm, .int .u64 x] w fun e w' => e = .returned (.int .u64 (upF fm x)) ∧ Below w.heap.size w w' := by
  cases ho : okF fm x
  · have HR := hid (up_no ho)
    go_enter Tryz.func152, Tryz.ntmps152
    go_wp2_with fail
    refine (spec_ok fm x _).mono ?_
    rintro e w1 ⟨rfl, hb1⟩
    go_wp2
    go_ret
    exact ⟨ret_int HR.out.symm, (by repeat (first | exact bz0 _ _ | refine bz1 ?_ | refine bz2 ?_ _ | refine bz3 ?_ _ | refine bz4 ?_ hb1 | refine bz5 ?_ _ | refine bz6 ?_ _ | refine bz7 ?_ hb1))⟩
  have HO := hid ho
  cases hn : nanB fm x
  rotate_left
  · have HR := hid (up_nan ho hn)
    go_enter Tryz.func152, Tryz.ntmps152
    go_wp2_with fail
    refine (spec_ok fm x _).mono ?_
    rintro e w1 ⟨rfl, hb1⟩
    go_wp2_with fail
    refine (spec_nan fm x _ HO.out h0 h1).mono ?_
    rintro e w2 ⟨rfl, hb2⟩
    go_wp2_with fail
    refine (spec_nanG fm x _ HO.out).mono ?_
    rintro e w3 ⟨rfl, hb3⟩
    go_wp2
    go_ret
    exact ⟨ret_int HR.out.symm, (by repeat (first | exact bz0 _ _ | refine bz1 ?_ | refine bz2 ?_ _ | refine bz3 ?_ _ | refine bz4 ?_ hb3 | refine bz4 ?_ hb2 | refine bz4 ?_ hb1 | refine bz5 ?_ _ | refine bz6 ?_ _ | refine bz7 ?_ hb3 | refine bz7 ?_ hb2 | refine bz7 ?_ hb1))⟩
  cases hz : (absF fm x == 0)
  rotate_left
  · have HR := hid (up_zero ho hn hz)
    go_enter Tryz.func152, Tryz.ntmps152
    go_wp2_with fail
    refine (spec_ok fm x _).mono ?_
    rintro e w1 ⟨rfl, hb1⟩
    go_wp2_with fail
    refine (spec_nan fm x _ HO.out h0 h1).mono ?_
    rintro e w2 ⟨rfl, hb2⟩
    go_wp2_with fail
    refine (spec_l2abs fm x _ HO.out h0 h1).mono ?_
    rintro e w3 ⟨rfl, hb3⟩
    go_wp2
    go_ret
    exact ⟨ret_int HR.out.symm, (by repeat (first | exact bz0 _ _ | refine bz1 ?_ | refine bz2 ?_ _ | refine bz3 ?_ _ | refine bz4 ?_ hb3 | refine bz4 ?_ hb2 | refine bz4 ?_ hb1 | refine bz5 ?_ _ | refine bz6 ?_ _ | refine bz7 ?_ hb3 | refine bz7 ?_ hb2 | refine bz7 ?_ hb1))⟩
  cases hs : sigB fm x
  · have bd := up_bd ho h0 hn hs
    cases hi : (x == infOf fm)
    · have HR := hid (up_pos ho hn hz hs hi)
      go_enter Tryz.func152, Tryz.ntmps152
      go_wp2_with fail
      refine (spec_ok fm x _).mono ?_
      rintro e w1 ⟨rfl, hb1⟩
      go_wp2_with fail
      refine (spec_nan fm x _ HO.out h0 h1).mono ?_
      rintro e w2 ⟨rfl, hb2⟩
      go_wp2_with fail
      refine (spec_l2abs fm x _ HO.out h0 h1).mono ?_
      rintro e w3 ⟨rfl, hb3⟩
      go_wp2_with fail
      refine (spec_l2neg fm x _ HO.out h0 h1).mono ?_
      rintro e w4 ⟨rfl, hb4⟩
      go_wp2_with fail
      refine (spec_inf fm x _ HO.out).mono ?_
      rintro e w5 ⟨rfl, hb5⟩
      go_wp2
      go_ret
      exact ⟨ret_int HR.out.symm, (by repeat (first | exact bz0 _ _ | refine bz1 ?_ | refine bz2 ?_ _ | refine bz3 ?_ _ | refine bz4 ?_ hb5 | refine bz4 ?_ hb4 | refine bz4 ?_ hb3 | refine bz4 ?_ hb2 | refine bz4 ?_ hb1 | refine bz5 ?_ _ | refine bz6 ?_ _ | refine bz7 ?_ hb5 | refine bz7 ?_ hb4 | refine bz7 ?_ hb3 | refine bz7 ?_ hb2 | refine bz7 ?_ hb1))⟩
    · have HR := hid (up_inf ho hn hz hs hi)
      go_enter Tryz.func152, Tryz.ntmps152
      go_wp2_with fail
      refine (spec_ok fm x _).mono ?_
      rintro e w1 ⟨rfl, hb1⟩
      go_wp2_with fail
      refine (spec_nan fm x _ HO.out h0 h1).mono ?_
      rintro e w2 ⟨rfl, hb2⟩
      go_wp2_with fail
      refine (spec_l2abs fm x _ HO.out h0 h1).mono ?_
      rintro e w3 ⟨rfl, hb3⟩
      go_wp2_with fail
      refine (spec_l2neg fm x _ HO.out h0 h1).mono ?_
      rintro e w4 ⟨rfl, hb4⟩
      go_wp2_with fail
      refine (spec_inf fm x _ HO.out).mono ?_
      rintro e w5 ⟨rfl, hb5⟩
      go_wp2
      go_ret
      exact ⟨ret_int HR.out.symm, (by repeat (first | exact bz0 _ _ | refine bz1 ?_ | refine bz2 ?_ _ | refine bz3 ?_ _ | refine bz4 ?_ hb5 | refine bz4 ?_ hb4 | refine bz4 ?_ hb3 | refine bz4 ?_ hb2 | refine bz4 ?_ hb1 | refine bz5 ?_ _ | refine bz6 ?_ _ | refine bz7 ?_ hb5 | refine bz7 ?_ hb4 | refine bz7 ?_ hb3 | refine bz7 ?_ hb2 | refine bz7 ?_ hb1))⟩
  · have HR := hid (up_neg ho hn hz hs)
    have bd := up_bd' (fm := fm) h0 hs
    go_enter Tryz.func152, Tryz.ntmps152
    go_wp2_with fail
    refine (spec_ok fm x _).mono ?_
    rintro e w1 ⟨rfl, hb1⟩
    go_wp2_with fail
    refine (spec_nan fm x _ HO.out h0 h1).mono ?_
    rintro e w2 ⟨rfl, hb2⟩
    go_wp2_with fail
    refine (spec_l2abs fm x _ HO.out h0 h1).mono ?_
    rintro e w3 ⟨rfl, hb3⟩
    go_wp2_with fail
    refine (spec_l2neg fm x _ HO.out h0 h1).mono ?_
    rintro e w4 ⟨rfl, hb4⟩
    go_wp2
    go_ret
    exact ⟨ret_int HR.out.symm, (by repeat (first | exact bz0 _ _ | refine bz1 ?_ | refine bz2 ?_ _ | refine bz3 ?_ _ | refine bz4 ?_ hb4 | refine bz4 ?_ hb3 | refine bz4 ?_ hb2 | refine bz4 ?_ hb1 | refine bz5 ?_ _ | refine bz6 ?_ _ | refine bz7 ?_ hb4 | refine bz7 ?_ hb3 | refine bz7 ?_ hb2 | refine bz7 ?_ hb1))⟩
theorem neg_ok {fm x : Int} (h : okF fm x = true) (h0 : 0 ≤ x) (h1 : x < 18446744073709551616) : okF fm (negF fm x) = true ∧ 0 ≤ negF fm x ∧ negF fm x < 18446744073709551616 := by
  rcases okF_cases h with ⟨rfl, hx⟩ | rfl
  · rw [neg32 hx]
    split
    · exact ⟨okF32 (by omega), by omega, by omega⟩
    · exact ⟨okF32 (by omega), by omega, by omega⟩
  · rw [neg64]
    split
    · exact ⟨okF64, by omega, by omega⟩
    · exact ⟨okF64, by omega, by omega⟩
end Go.Proofs.YtmcflggionkhlaaGreatDoor
