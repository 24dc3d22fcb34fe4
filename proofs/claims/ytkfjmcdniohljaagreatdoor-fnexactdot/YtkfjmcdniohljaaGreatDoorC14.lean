/-
  What is needed of FloatE.
-/
import Derived.Test.YtkfjmcdniohljaaGreatDoorC09
set_option maxHeartbeats 16000000
set_option maxRecDepth 1000000
namespace Go.Proofs.YtkfjmcdniohljaaGreatDoor
set_option linter.unusedVariables false
set_option linter.unusedSimpArgs false
open Go.RowKit
/-- The class of a float whose bits without sign are y. -/
def clsY (L I Q y : Int) : Int := if y = 0 then 0 else if y < L then 1 else if y < I then 2 else if y = I then 3 else if y / Q % 2 = 1 then 4 else 5
/-- The class of bits of a format; -1 when they are no float. -/
def cls (fm x : Int) : Int := if okF fm x then (if fm = 32 then clsY 8388608 2139095040 4194304 (x % 2147483648) else clsY 4503599627370496 9218868437227405312 2251799813685248 (x % 9223372036854775808)) else -1
theorem okF32 {x : Int} (h : x < 4294967296) : okF 32 x = true := by simp [okF, h]
theorem okF64 {x : Int} : okF 64 x = true := by simp [okF]
theorem cls32 {x : Int} (h : x < 4294967296) : cls 32 x = clsY 8388608 2139095040 4194304 (x % 2147483648) := by unfold cls; rw [okF32 h]; simp
theorem cls64 {x : Int} : cls 64 x = clsY 4503599627370496 9218868437227405312 2251799813685248 (x % 9223372036854775808) := by unfold cls; rw [okF64]; simp
theorem cls_no {fm x : Int} (h : okF fm x = false) : cls fm x = -1 := by unfold cls; rw [h]; simp

theorem okF_cases {fm x : Int} (h : okF fm x = true) : fm = 32 ∧ x < 4294967296 ∨ fm = 64 := by
  unfold okF at h
  by_cases h64 : fm = 64
  · exact .inr h64
  · simp [h64] at h; exact .inl h
theorem spec_cls32 (x : Int) (w : World) (h0 : 0 ≤ x) (h1 : x < 4294967296) :
    Calls Tryz.prog 62 #[.int .i64 32, .int .u64 x] w fun e w' => e = .returned (.int .i64 (clsY 8388608 2139095040 4194304 (x % 2147483648))) ∧ Below w.heap.size w w' := by
  have hok : okF 32 x = true := by simp [okF, h1]
  obtain ⟨y, hy⟩ : ∃ y, y = x % 2147483648 := ⟨_, rfl⟩
  have e : bits .andNot .u64 x 2147483648 = y := by rw [Bt.andNot31 x h0 (by omega)]; omega
  have y0 : 0 ≤ y := by omega
  have y1 : y < 2147483648 := by omega
  have eb := Bt.bit22 y y0 (by omega)
  rw [← hy]
  clear hy
  by_cases c0 : y = 0
  · have t0 : (y == 0) = true := by simpa using c0
    have HR : Hid (clsY 8388608 2139095040 4194304 y = 0) := hid (by unfold clsY; rw [if_pos c0])
    clear c0 eb
    go_enter Tryz.func62, Tryz.ntmps62
    go_wp2_with (first | (go_at_call 126; refine (spec_ok 32 x _).mono ?_; rintro e w1 ⟨rfl, hb1⟩) | go_in)
    go_ret
    exact ⟨ret_int HR.out.symm, (by repeat (first | exact bz0 _ _ | refine bz1 ?_ | refine bz2 ?_ _ | refine bz3 ?_ _ | refine bz4 ?_ hb1 | refine bz5 ?_ _ | refine bz6 ?_ _ | refine bz7 ?_ hb1))⟩
  have t0 : (y == 0) = false := by simpa using c0
  have p0 : 0 < y := by omega
  by_cases c1 : y < 8388608
  · have HR : Hid (clsY 8388608 2139095040 4194304 y = 1) := hid (by unfold clsY; rw [if_neg c0, if_pos c1])
    clear c0 eb
    go_enter Tryz.func62, Tryz.ntmps62
    go_wp2_with (first | (go_at_call 126; refine (spec_ok 32 x _).mono ?_; rintro e w1 ⟨rfl, hb1⟩) | go_in)
    go_ret
    exact ⟨ret_int HR.out.symm, (by repeat (first | exact bz0 _ _ | refine bz1 ?_ | refine bz2 ?_ _ | refine bz3 ?_ _ | refine bz4 ?_ hb1 | refine bz5 ?_ _ | refine bz6 ?_ _ | refine bz7 ?_ hb1))⟩
  by_cases c2 : y < 2139095040
  · have HR : Hid (clsY 8388608 2139095040 4194304 y = 2) := hid (by unfold clsY; rw [if_neg c0, if_neg c1, if_pos c2])
    clear c0 eb
    go_enter Tryz.func62, Tryz.ntmps62
    go_wp2_with (first | (go_at_call 126; refine (spec_ok 32 x _).mono ?_; rintro e w1 ⟨rfl, hb1⟩) | go_in)
    go_ret
    exact ⟨ret_int HR.out.symm, (by repeat (first | exact bz0 _ _ | refine bz1 ?_ | refine bz2 ?_ _ | refine bz3 ?_ _ | refine bz4 ?_ hb1 | refine bz5 ?_ _ | refine bz6 ?_ _ | refine bz7 ?_ hb1))⟩
  by_cases c3 : y = 2139095040
  · have t3 : (y == 2139095040) = true := by simpa using c3
    have HR : Hid (clsY 8388608 2139095040 4194304 y = 3) := hid (by unfold clsY; rw [if_neg c0, if_neg c1, if_neg c2, if_pos c3])
    clear c0 eb c3
    go_enter Tryz.func62, Tryz.ntmps62
    go_wp2_with (first | (go_at_call 126; refine (spec_ok 32 x _).mono ?_; rintro e w1 ⟨rfl, hb1⟩) | go_in)
    go_ret
    exact ⟨ret_int HR.out.symm, (by repeat (first | exact bz0 _ _ | refine bz1 ?_ | refine bz2 ?_ _ | refine bz3 ?_ _ | refine bz4 ?_ hb1 | refine bz5 ?_ _ | refine bz6 ?_ _ | refine bz7 ?_ hb1))⟩
  have t3 : (y == 2139095040) = false := by simpa using c3
  have p3 : 2139095040 < y := by omega
  by_cases c4 : y / 4194304 % 2 = 1
  · have t4 : (bits .and .u64 y 4194304 != 0) = true := by rw [eb, c4]; decide
    have HR : Hid (clsY 8388608 2139095040 4194304 y = 4) := hid (by unfold clsY; rw [if_neg c0, if_neg c1, if_neg c2, if_neg c3, if_pos c4])
    clear c0 eb c3 c4
    go_enter Tryz.func62, Tryz.ntmps62
    go_wp2_with (first | (go_at_call 126; refine (spec_ok 32 x _).mono ?_; rintro e w1 ⟨rfl, hb1⟩) | go_in)
    go_ret
    exact ⟨ret_int HR.out.symm, (by repeat (first | exact bz0 _ _ | refine bz1 ?_ | refine bz2 ?_ _ | refine bz3 ?_ _ | refine bz4 ?_ hb1 | refine bz5 ?_ _ | refine bz6 ?_ _ | refine bz7 ?_ hb1))⟩
  · have t4 : (bits .and .u64 y 4194304 != 0) = false := by rw [eb, show y / 4194304 % 2 = 0 by omega]; decide
    have HR : Hid (clsY 8388608 2139095040 4194304 y = 5) := hid (by unfold clsY; rw [if_neg c0, if_neg c1, if_neg c2, if_neg c3, if_neg c4])
    clear c0 eb c3 c4
    go_enter Tryz.func62, Tryz.ntmps62
    go_wp2_with (first | (go_at_call 126; refine (spec_ok 32 x _).mono ?_; rintro e w1 ⟨rfl, hb1⟩) | go_in)
    go_ret
    exact ⟨ret_int HR.out.symm, (by repeat (first | exact bz0 _ _ | refine bz1 ?_ | refine bz2 ?_ _ | refine bz3 ?_ _ | refine bz4 ?_ hb1 | refine bz5 ?_ _ | refine bz6 ?_ _ | refine bz7 ?_ hb1))⟩
theorem spec_cls64 (x : Int) (w : World) (h0 : 0 ≤ x) (h1 : x < 18446744073709551616) :
    Calls Tryz.prog 62 #[.int .i64 64, .int .u64 x] w fun e w' => e = .returned (.int .i64 (clsY 4503599627370496 9218868437227405312 2251799813685248 (x % 9223372036854775808))) ∧ Below w.heap.size w w' := by
  have hok : okF 64 x = true := by simp [okF, h1]
  obtain ⟨y, hy⟩ : ∃ y, y = x % 9223372036854775808 := ⟨_, rfl⟩
  have e : bits .andNot .u64 x 9223372036854775808 = y := by rw [Bt.andNot63 x h0 (by omega)]; omega
  have y0 : 0 ≤ y := by omega
  have y1 : y < 9223372036854775808 := by omega
  have eb := Bt.bit51 y y0 (by omega)
  rw [← hy]
  clear hy
  by_cases c0 : y = 0
  · have t0 : (y == 0) = true := by simpa using c0
    have HR : Hid (clsY 4503599627370496 9218868437227405312 2251799813685248 y = 0) := hid (by unfold clsY; rw [if_pos c0])
    clear c0 eb
    go_enter Tryz.func62, Tryz.ntmps62
    go_wp2_with (first | (go_at_call 126; refine (spec_ok 64 x _).mono ?_; rintro e w1 ⟨rfl, hb1⟩) | go_in)
    go_ret
    exact ⟨ret_int HR.out.symm, (by repeat (first | exact bz0 _ _ | refine bz1 ?_ | refine bz2 ?_ _ | refine bz3 ?_ _ | refine bz4 ?_ hb1 | refine bz5 ?_ _ | refine bz6 ?_ _ | refine bz7 ?_ hb1))⟩
  have t0 : (y == 0) = false := by simpa using c0
  have p0 : 0 < y := by omega
  by_cases c1 : y < 4503599627370496
  · have HR : Hid (clsY 4503599627370496 9218868437227405312 2251799813685248 y = 1) := hid (by unfold clsY; rw [if_neg c0, if_pos c1])
    clear c0 eb
    go_enter Tryz.func62, Tryz.ntmps62
    go_wp2_with (first | (go_at_call 126; refine (spec_ok 64 x _).mono ?_; rintro e w1 ⟨rfl, hb1⟩) | go_in)
    go_ret
    exact ⟨ret_int HR.out.symm, (by repeat (first | exact bz0 _ _ | refine bz1 ?_ | refine bz2 ?_ _ | refine bz3 ?_ _ | refine bz4 ?_ hb1 | refine bz5 ?_ _ | refine bz6 ?_ _ | refine bz7 ?_ hb1))⟩
  by_cases c2 : y < 9218868437227405312
  · have HR : Hid (clsY 4503599627370496 9218868437227405312 2251799813685248 y = 2) := hid (by unfold clsY; rw [if_neg c0, if_neg c1, if_pos c2])
    clear c0 eb
    go_enter Tryz.func62, Tryz.ntmps62
    go_wp2_with (first | (go_at_call 126; refine (spec_ok 64 x _).mono ?_; rintro e w1 ⟨rfl, hb1⟩) | go_in)
    go_ret
    exact ⟨ret_int HR.out.symm, (by repeat (first | exact bz0 _ _ | refine bz1 ?_ | refine bz2 ?_ _ | refine bz3 ?_ _ | refine bz4 ?_ hb1 | refine bz5 ?_ _ | refine bz6 ?_ _ | refine bz7 ?_ hb1))⟩
  by_cases c3 : y = 9218868437227405312
  · have t3 : (y == 9218868437227405312) = true := by simpa using c3
    have HR : Hid (clsY 4503599627370496 9218868437227405312 2251799813685248 y = 3) := hid (by unfold clsY; rw [if_neg c0, if_neg c1, if_neg c2, if_pos c3])
    clear c0 eb c3
    go_enter Tryz.func62, Tryz.ntmps62
    go_wp2_with (first | (go_at_call 126; refine (spec_ok 64 x _).mono ?_; rintro e w1 ⟨rfl, hb1⟩) | go_in)
    go_ret
    exact ⟨ret_int HR.out.symm, (by repeat (first | exact bz0 _ _ | refine bz1 ?_ | refine bz2 ?_ _ | refine bz3 ?_ _ | refine bz4 ?_ hb1 | refine bz5 ?_ _ | refine bz6 ?_ _ | refine bz7 ?_ hb1))⟩
  have t3 : (y == 9218868437227405312) = false := by simpa using c3
  have p3 : 9218868437227405312 < y := by omega
  by_cases c4 : y / 2251799813685248 % 2 = 1
  · have t4 : (bits .and .u64 y 2251799813685248 != 0) = true := by rw [eb, c4]; decide
    have HR : Hid (clsY 4503599627370496 9218868437227405312 2251799813685248 y = 4) := hid (by unfold clsY; rw [if_neg c0, if_neg c1, if_neg c2, if_neg c3, if_pos c4])
    clear c0 eb c3 c4
    go_enter Tryz.func62, Tryz.ntmps62
    go_wp2_with (first | (go_at_call 126; refine (spec_ok 64 x _).mono ?_; rintro e w1 ⟨rfl, hb1⟩) | go_in)
    go_ret
    exact ⟨ret_int HR.out.symm, (by repeat (first | exact bz0 _ _ | refine bz1 ?_ | refine bz2 ?_ _ | refine bz3 ?_ _ | refine bz4 ?_ hb1 | refine bz5 ?_ _ | refine bz6 ?_ _ | refine bz7 ?_ hb1))⟩
  · have t4 : (bits .and .u64 y 2251799813685248 != 0) = false := by rw [eb, show y / 2251799813685248 % 2 = 0 by omega]; decide
    have HR : Hid (clsY 4503599627370496 9218868437227405312 2251799813685248 y = 5) := hid (by unfold clsY; rw [if_neg c0, if_neg c1, if_neg c2, if_neg c3, if_neg c4])
    clear c0 eb c3 c4
    go_enter Tryz.func62, Tryz.ntmps62
    go_wp2_with (first | (go_at_call 126; refine (spec_ok 64 x _).mono ?_; rintro e w1 ⟨rfl, hb1⟩) | go_in)
    go_ret
    exact ⟨ret_int HR.out.symm, (by repeat (first | exact bz0 _ _ | refine bz1 ?_ | refine bz2 ?_ _ | refine bz3 ?_ _ | refine bz4 ?_ hb1 | refine bz5 ?_ _ | refine bz6 ?_ _ | refine bz7 ?_ hb1))⟩

theorem spec_clsNo (fm x : Int) (w : World) (h : okF fm x = false) :
    Calls Tryz.prog 62 #[.int .i64 fm, .int .u64 x] w fun e w' => e = .returned (.int .i64 (-1)) ∧ Below w.heap.size w w' := by
  go_enter Tryz.func62, Tryz.ntmps62
  go_wp2_with (go_at_call 126; refine (spec_ok fm x _).mono ?_; rintro e w1 ⟨rfl, hb1⟩)
  go_ret
  exact ⟨rfl, (by repeat (first | exact bz0 _ _ | refine bz1 ?_ | refine bz2 ?_ _ | refine bz3 ?_ _ | refine bz4 ?_ hb1 | refine bz5 ?_ _ | refine bz6 ?_ _ | refine bz7 ?_ hb1))⟩
theorem spec_cls (fm x : Int) (w : World) (h0 : 0 ≤ x) (h1 : x < 18446744073709551616) :
    Calls Tryz.prog 62 #[.int .i64 fm, .int .u64 x] w fun e w' => e = .returned (.int .i64 (cls fm x)) ∧ Below w.heap.size w w' := by
  cases h : okF fm x
  · rw [cls_no h]; exact spec_clsNo fm x w h
  · rcases okF_cases h with ⟨rfl, hx⟩ | rfl
    · rw [cls32 hx]; exact spec_cls32 x w h0 hx
    · rw [cls64]; exact spec_cls64 x w h0 h1
theorem impl_cls32 (x : Int) (w : World) (h : Tab w) (h0 : 0 ≤ x) (h1 : x < 4294967296) :
    Calls Tryz.prog 66 #[.int .i64 32, .int .u64 x] w fun e w' => e = .returned (.int .i64 (clsY 8388608 2139095040 4194304 (x % 2147483648))) ∧ Below w.heap.size w w' := by
  have hok : okF 32 x = true := by simp [okF, h1]
  have h1' : x < 18446744073709551616 := by omega
  have eb := Bt.bit22 (x % 8388608) (by omega) (by omega)
  obtain ⟨y, hy⟩ : ∃ y, y = x % 2147483648 := ⟨_, rfl⟩
  rw [← hy]
  by_cases c0 : y = 0
  · have t0 : (x / 8388608 % 256 == 0) = true := by rw [beq_iff_eq]; omega
    have r0 : (x % 8388608 == 0) = true := by rw [beq_iff_eq]; omega
    have HR : Hid (clsY 8388608 2139095040 4194304 y = 0) := hid (by unfold clsY; rw [if_pos c0])
    clear c0 eb hy
    go_enter Tryz.func66, Tryz.ntmps66
    go_wp2_with fail
    refine (impl_ok 32 x _ h h0 h1').mono ?_
    rintro e w1 ⟨rfl, hb1⟩
    have hT1 := h.below hb1
    go_wp2_with fail
    refine (sizes32 _ hT1).mono ?_
    rintro e w2 ⟨rfl, hb2⟩
    go_wp2_with (go_at_call 169; refine (parted32 x _ h0 h1').mono ?_; rintro e w3 ⟨rfl, hb3⟩; obtain ⟨z30, z31, z32⟩ := Z3.below (Z3.new w2 (.int .u64 23) (.int .u64 255) (.int .i64 (-149)) 121) hb3)
    go_ret
    exact ⟨ret_int HR.out.symm, (by repeat (first | exact bz0 _ _ | refine bz1 ?_ | refine bz2 ?_ _ | refine bz3 ?_ _ | refine bz4 ?_ hb3 | refine bz4 ?_ hb2 | refine bz4 ?_ hb1 | refine bz5 ?_ _ | refine bz6 ?_ _ | refine bz7 ?_ hb3 | refine bz7 ?_ hb2 | refine bz7 ?_ hb1))⟩
  by_cases c1 : y < 8388608
  · have t0 : (x / 8388608 % 256 == 0) = true := by rw [beq_iff_eq]; omega
    have r0 : (x % 8388608 == 0) = false := by rw [beq_eq_false_iff_ne]; omega
    have HR : Hid (clsY 8388608 2139095040 4194304 y = 1) := hid (by unfold clsY; rw [if_neg c0, if_pos c1])
    clear c0 eb hy c1
    go_enter Tryz.func66, Tryz.ntmps66
    go_wp2_with fail
    refine (impl_ok 32 x _ h h0 h1').mono ?_
    rintro e w1 ⟨rfl, hb1⟩
    have hT1 := h.below hb1
    go_wp2_with fail
    refine (sizes32 _ hT1).mono ?_
    rintro e w2 ⟨rfl, hb2⟩
    go_wp2_with (go_at_call 169; refine (parted32 x _ h0 h1').mono ?_; rintro e w3 ⟨rfl, hb3⟩; obtain ⟨z30, z31, z32⟩ := Z3.below (Z3.new w2 (.int .u64 23) (.int .u64 255) (.int .i64 (-149)) 121) hb3)
    go_ret
    exact ⟨ret_int HR.out.symm, (by repeat (first | exact bz0 _ _ | refine bz1 ?_ | refine bz2 ?_ _ | refine bz3 ?_ _ | refine bz4 ?_ hb3 | refine bz4 ?_ hb2 | refine bz4 ?_ hb1 | refine bz5 ?_ _ | refine bz6 ?_ _ | refine bz7 ?_ hb3 | refine bz7 ?_ hb2 | refine bz7 ?_ hb1))⟩
  have t0 : (x / 8388608 % 256 == 0) = false := by rw [beq_eq_false_iff_ne]; omega
  by_cases c2 : y < 2139095040
  · have u0 : x / 8388608 % 256 < 255 := by omega
    have HR : Hid (clsY 8388608 2139095040 4194304 y = 2) := hid (by unfold clsY; rw [if_neg c0, if_neg c1, if_pos c2])
    clear c0 eb hy c1 c2
    go_enter Tryz.func66, Tryz.ntmps66
    go_wp2_with fail
    refine (impl_ok 32 x _ h h0 h1').mono ?_
    rintro e w1 ⟨rfl, hb1⟩
    have hT1 := h.below hb1
    go_wp2_with fail
    refine (sizes32 _ hT1).mono ?_
    rintro e w2 ⟨rfl, hb2⟩
    go_wp2_with (go_at_call 169; refine (parted32 x _ h0 h1').mono ?_; rintro e w3 ⟨rfl, hb3⟩; obtain ⟨z30, z31, z32⟩ := Z3.below (Z3.new w2 (.int .u64 23) (.int .u64 255) (.int .i64 (-149)) 121) hb3)
    go_ret
    exact ⟨ret_int HR.out.symm, (by repeat (first | exact bz0 _ _ | refine bz1 ?_ | refine bz2 ?_ _ | refine bz3 ?_ _ | refine bz4 ?_ hb3 | refine bz4 ?_ hb2 | refine bz4 ?_ hb1 | refine bz5 ?_ _ | refine bz6 ?_ _ | refine bz7 ?_ hb3 | refine bz7 ?_ hb2 | refine bz7 ?_ hb1))⟩
  have u0 : ¬ x / 8388608 % 256 < 255 := by omega
  by_cases c3 : y = 2139095040
  · have r0 : (x % 8388608 == 0) = true := by rw [beq_iff_eq]; omega
    have HR : Hid (clsY 8388608 2139095040 4194304 y = 3) := hid (by unfold clsY; rw [if_neg c0, if_neg c1, if_neg c2, if_pos c3])
    clear c0 eb c3 hy c1 c2
    go_enter Tryz.func66, Tryz.ntmps66
    go_wp2_with fail
    refine (impl_ok 32 x _ h h0 h1').mono ?_
    rintro e w1 ⟨rfl, hb1⟩
    have hT1 := h.below hb1
    go_wp2_with fail
    refine (sizes32 _ hT1).mono ?_
    rintro e w2 ⟨rfl, hb2⟩
    go_wp2_with (go_at_call 169; refine (parted32 x _ h0 h1').mono ?_; rintro e w3 ⟨rfl, hb3⟩; obtain ⟨z30, z31, z32⟩ := Z3.below (Z3.new w2 (.int .u64 23) (.int .u64 255) (.int .i64 (-149)) 121) hb3)
    go_ret
    exact ⟨ret_int HR.out.symm, (by repeat (first | exact bz0 _ _ | refine bz1 ?_ | refine bz2 ?_ _ | refine bz3 ?_ _ | refine bz4 ?_ hb3 | refine bz4 ?_ hb2 | refine bz4 ?_ hb1 | refine bz5 ?_ _ | refine bz6 ?_ _ | refine bz7 ?_ hb3 | refine bz7 ?_ hb2 | refine bz7 ?_ hb1))⟩
  have r0 : (x % 8388608 == 0) = false := by rw [beq_eq_false_iff_ne]; omega
  by_cases c4 : y / 4194304 % 2 = 1
  · have t4 : (bits .and .u64 (x % 8388608) 4194304 != 0) = true := by rw [eb, show x % 8388608 / 4194304 % 2 = 1 by omega]; decide
    have HR : Hid (clsY 8388608 2139095040 4194304 y = 4) := hid (by unfold clsY; rw [if_neg c0, if_neg c1, if_neg c2, if_neg c3, if_pos c4])
    clear c0 eb c3 c4 hy c1 c2
    go_enter Tryz.func66, Tryz.ntmps66
    go_wp2_with fail
    refine (impl_ok 32 x _ h h0 h1').mono ?_
    rintro e w1 ⟨rfl, hb1⟩
    have hT1 := h.below hb1
    go_wp2_with fail
    refine (sizes32 _ hT1).mono ?_
    rintro e w2 ⟨rfl, hb2⟩
    go_wp2_with (go_at_call 169; refine (parted32 x _ h0 h1').mono ?_; rintro e w3 ⟨rfl, hb3⟩; obtain ⟨z30, z31, z32⟩ := Z3.below (Z3.new w2 (.int .u64 23) (.int .u64 255) (.int .i64 (-149)) 121) hb3)
    refine (quiet32 _).mono ?_
    rintro e w4 ⟨rfl, hb4⟩
    go_wp2
    go_ret
    exact ⟨ret_int HR.out.symm, (by repeat (first | exact bz0 _ _ | refine bz1 ?_ | refine bz2 ?_ _ | refine bz3 ?_ _ | refine bz4 ?_ hb4 | refine bz4 ?_ hb3 | refine bz4 ?_ hb2 | refine bz4 ?_ hb1 | refine bz5 ?_ _ | refine bz6 ?_ _ | refine bz7 ?_ hb4 | refine bz7 ?_ hb3 | refine bz7 ?_ hb2 | refine bz7 ?_ hb1))⟩
  · have t4 : (bits .and .u64 (x % 8388608) 4194304 != 0) = false := by rw [eb, show x % 8388608 / 4194304 % 2 = 0 by omega]; decide
    have HR : Hid (clsY 8388608 2139095040 4194304 y = 5) := hid (by unfold clsY; rw [if_neg c0, if_neg c1, if_neg c2, if_neg c3, if_neg c4])
    clear c0 eb c3 c4 hy c1 c2
    go_enter Tryz.func66, Tryz.ntmps66
    go_wp2_with fail
    refine (impl_ok 32 x _ h h0 h1').mono ?_
    rintro e w1 ⟨rfl, hb1⟩
    have hT1 := h.below hb1
    go_wp2_with fail
    refine (sizes32 _ hT1).mono ?_
    rintro e w2 ⟨rfl, hb2⟩
    go_wp2_with (go_at_call 169; refine (parted32 x _ h0 h1').mono ?_; rintro e w3 ⟨rfl, hb3⟩; obtain ⟨z30, z31, z32⟩ := Z3.below (Z3.new w2 (.int .u64 23) (.int .u64 255) (.int .i64 (-149)) 121) hb3)
    refine (quiet32 _).mono ?_
    rintro e w4 ⟨rfl, hb4⟩
    go_wp2
    go_ret
    exact ⟨ret_int HR.out.symm, (by repeat (first | exact bz0 _ _ | refine bz1 ?_ | refine bz2 ?_ _ | refine bz3 ?_ _ | refine bz4 ?_ hb4 | refine bz4 ?_ hb3 | refine bz4 ?_ hb2 | refine bz4 ?_ hb1 | refine bz5 ?_ _ | refine bz6 ?_ _ | refine bz7 ?_ hb4 | refine bz7 ?_ hb3 | refine bz7 ?_ hb2 | refine bz7 ?_ hb1))⟩
theorem impl_cls64 (x : Int) (w : World) (h : Tab w) (h0 : 0 ≤ x) (h1 : x < 18446744073709551616) :
    Calls Tryz.prog 66 #[.int .i64 64, .int .u64 x] w fun e w' => e = .returned (.int .i64 (clsY 4503599627370496 9218868437227405312 2251799813685248 (x % 9223372036854775808))) ∧ Below w.heap.size w w' := by
  have hok : okF 64 x = true := by simp [okF, h1]
  have h1' : x < 18446744073709551616 := by omega
  have eb := Bt.bit51 (x % 4503599627370496) (by omega) (by omega)
  obtain ⟨y, hy⟩ : ∃ y, y = x % 9223372036854775808 := ⟨_, rfl⟩
  rw [← hy]
  by_cases c0 : y = 0
  · have t0 : (x / 4503599627370496 % 2048 == 0) = true := by rw [beq_iff_eq]; omega
    have r0 : (x % 4503599627370496 == 0) = true := by rw [beq_iff_eq]; omega
    have HR : Hid (clsY 4503599627370496 9218868437227405312 2251799813685248 y = 0) := hid (by unfold clsY; rw [if_pos c0])
    clear c0 eb hy
    go_enter Tryz.func66, Tryz.ntmps66
    go_wp2_with fail
    refine (impl_ok 64 x _ h h0 h1').mono ?_
    rintro e w1 ⟨rfl, hb1⟩
    have hT1 := h.below hb1
    go_wp2_with fail
    refine (sizes64 _ hT1).mono ?_
    rintro e w2 ⟨rfl, hb2⟩
    go_wp2_with (go_at_call 169; refine (parted64 x _ h0 h1').mono ?_; rintro e w3 ⟨rfl, hb3⟩; obtain ⟨z30, z31, z32⟩ := Z3.below (Z3.new w2 (.int .u64 52) (.int .u64 2047) (.int .i64 (-1074)) 121) hb3)
    go_ret
    exact ⟨ret_int HR.out.symm, (by repeat (first | exact bz0 _ _ | refine bz1 ?_ | refine bz2 ?_ _ | refine bz3 ?_ _ | refine bz4 ?_ hb3 | refine bz4 ?_ hb2 | refine bz4 ?_ hb1 | refine bz5 ?_ _ | refine bz6 ?_ _ | refine bz7 ?_ hb3 | refine bz7 ?_ hb2 | refine bz7 ?_ hb1))⟩
  by_cases c1 : y < 4503599627370496
  · have t0 : (x / 4503599627370496 % 2048 == 0) = true := by rw [beq_iff_eq]; omega
    have r0 : (x % 4503599627370496 == 0) = false := by rw [beq_eq_false_iff_ne]; omega
    have HR : Hid (clsY 4503599627370496 9218868437227405312 2251799813685248 y = 1) := hid (by unfold clsY; rw [if_neg c0, if_pos c1])
    clear c0 eb hy c1
    go_enter Tryz.func66, Tryz.ntmps66
    go_wp2_with fail
    refine (impl_ok 64 x _ h h0 h1').mono ?_
    rintro e w1 ⟨rfl, hb1⟩
    have hT1 := h.below hb1
    go_wp2_with fail
    refine (sizes64 _ hT1).mono ?_
    rintro e w2 ⟨rfl, hb2⟩
    go_wp2_with (go_at_call 169; refine (parted64 x _ h0 h1').mono ?_; rintro e w3 ⟨rfl, hb3⟩; obtain ⟨z30, z31, z32⟩ := Z3.below (Z3.new w2 (.int .u64 52) (.int .u64 2047) (.int .i64 (-1074)) 121) hb3)
    go_ret
    exact ⟨ret_int HR.out.symm, (by repeat (first | exact bz0 _ _ | refine bz1 ?_ | refine bz2 ?_ _ | refine bz3 ?_ _ | refine bz4 ?_ hb3 | refine bz4 ?_ hb2 | refine bz4 ?_ hb1 | refine bz5 ?_ _ | refine bz6 ?_ _ | refine bz7 ?_ hb3 | refine bz7 ?_ hb2 | refine bz7 ?_ hb1))⟩
  have t0 : (x / 4503599627370496 % 2048 == 0) = false := by rw [beq_eq_false_iff_ne]; omega
  by_cases c2 : y < 9218868437227405312
  · have u0 : x / 4503599627370496 % 2048 < 2047 := by omega
    have HR : Hid (clsY 4503599627370496 9218868437227405312 2251799813685248 y = 2) := hid (by unfold clsY; rw [if_neg c0, if_neg c1, if_pos c2])
    clear c0 eb hy c1 c2
    go_enter Tryz.func66, Tryz.ntmps66
    go_wp2_with fail
    refine (impl_ok 64 x _ h h0 h1').mono ?_
    rintro e w1 ⟨rfl, hb1⟩
    have hT1 := h.below hb1
    go_wp2_with fail
    refine (sizes64 _ hT1).mono ?_
    rintro e w2 ⟨rfl, hb2⟩
    go_wp2_with (go_at_call 169; refine (parted64 x _ h0 h1').mono ?_; rintro e w3 ⟨rfl, hb3⟩; obtain ⟨z30, z31, z32⟩ := Z3.below (Z3.new w2 (.int .u64 52) (.int .u64 2047) (.int .i64 (-1074)) 121) hb3)
    go_ret
    exact ⟨ret_int HR.out.symm, (by repeat (first | exact bz0 _ _ | refine bz1 ?_ | refine bz2 ?_ _ | refine bz3 ?_ _ | refine bz4 ?_ hb3 | refine bz4 ?_ hb2 | refine bz4 ?_ hb1 | refine bz5 ?_ _ | refine bz6 ?_ _ | refine bz7 ?_ hb3 | refine bz7 ?_ hb2 | refine bz7 ?_ hb1))⟩
  have u0 : ¬ x / 4503599627370496 % 2048 < 2047 := by omega
  by_cases c3 : y = 9218868437227405312
  · have r0 : (x % 4503599627370496 == 0) = true := by rw [beq_iff_eq]; omega
    have HR : Hid (clsY 4503599627370496 9218868437227405312 2251799813685248 y = 3) := hid (by unfold clsY; rw [if_neg c0, if_neg c1, if_neg c2, if_pos c3])
    clear c0 eb c3 hy c1 c2
    go_enter Tryz.func66, Tryz.ntmps66
    go_wp2_with fail
    refine (impl_ok 64 x _ h h0 h1').mono ?_
    rintro e w1 ⟨rfl, hb1⟩
    have hT1 := h.below hb1
    go_wp2_with fail
    refine (sizes64 _ hT1).mono ?_
    rintro e w2 ⟨rfl, hb2⟩
    go_wp2_with (go_at_call 169; refine (parted64 x _ h0 h1').mono ?_; rintro e w3 ⟨rfl, hb3⟩; obtain ⟨z30, z31, z32⟩ := Z3.below (Z3.new w2 (.int .u64 52) (.int .u64 2047) (.int .i64 (-1074)) 121) hb3)
    go_ret
    exact ⟨ret_int HR.out.symm, (by repeat (first | exact bz0 _ _ | refine bz1 ?_ | refine bz2 ?_ _ | refine bz3 ?_ _ | refine bz4 ?_ hb3 | refine bz4 ?_ hb2 | refine bz4 ?_ hb1 | refine bz5 ?_ _ | refine bz6 ?_ _ | refine bz7 ?_ hb3 | refine bz7 ?_ hb2 | refine bz7 ?_ hb1))⟩
  have r0 : (x % 4503599627370496 == 0) = false := by rw [beq_eq_false_iff_ne]; omega
  by_cases c4 : y / 2251799813685248 % 2 = 1
  · have t4 : (bits .and .u64 (x % 4503599627370496) 2251799813685248 != 0) = true := by rw [eb, show x % 4503599627370496 / 2251799813685248 % 2 = 1 by omega]; decide
    have HR : Hid (clsY 4503599627370496 9218868437227405312 2251799813685248 y = 4) := hid (by unfold clsY; rw [if_neg c0, if_neg c1, if_neg c2, if_neg c3, if_pos c4])
    clear c0 eb c3 c4 hy c1 c2
    go_enter Tryz.func66, Tryz.ntmps66
    go_wp2_with fail
    refine (impl_ok 64 x _ h h0 h1').mono ?_
    rintro e w1 ⟨rfl, hb1⟩
    have hT1 := h.below hb1
    go_wp2_with fail
    refine (sizes64 _ hT1).mono ?_
    rintro e w2 ⟨rfl, hb2⟩
    go_wp2_with (go_at_call 169; refine (parted64 x _ h0 h1').mono ?_; rintro e w3 ⟨rfl, hb3⟩; obtain ⟨z30, z31, z32⟩ := Z3.below (Z3.new w2 (.int .u64 52) (.int .u64 2047) (.int .i64 (-1074)) 121) hb3)
    refine (quiet64 _).mono ?_
    rintro e w4 ⟨rfl, hb4⟩
    go_wp2
    go_ret
    exact ⟨ret_int HR.out.symm, (by repeat (first | exact bz0 _ _ | refine bz1 ?_ | refine bz2 ?_ _ | refine bz3 ?_ _ | refine bz4 ?_ hb4 | refine bz4 ?_ hb3 | refine bz4 ?_ hb2 | refine bz4 ?_ hb1 | refine bz5 ?_ _ | refine bz6 ?_ _ | refine bz7 ?_ hb4 | refine bz7 ?_ hb3 | refine bz7 ?_ hb2 | refine bz7 ?_ hb1))⟩
  · have t4 : (bits .and .u64 (x % 4503599627370496) 2251799813685248 != 0) = false := by rw [eb, show x % 4503599627370496 / 2251799813685248 % 2 = 0 by omega]; decide
    have HR : Hid (clsY 4503599627370496 9218868437227405312 2251799813685248 y = 5) := hid (by unfold clsY; rw [if_neg c0, if_neg c1, if_neg c2, if_neg c3, if_neg c4])
    clear c0 eb c3 c4 hy c1 c2
    go_enter Tryz.func66, Tryz.ntmps66
    go_wp2_with fail
    refine (impl_ok 64 x _ h h0 h1').mono ?_
    rintro e w1 ⟨rfl, hb1⟩
    have hT1 := h.below hb1
    go_wp2_with fail
    refine (sizes64 _ hT1).mono ?_
    rintro e w2 ⟨rfl, hb2⟩
    go_wp2_with (go_at_call 169; refine (parted64 x _ h0 h1').mono ?_; rintro e w3 ⟨rfl, hb3⟩; obtain ⟨z30, z31, z32⟩ := Z3.below (Z3.new w2 (.int .u64 52) (.int .u64 2047) (.int .i64 (-1074)) 121) hb3)
    refine (quiet64 _).mono ?_
    rintro e w4 ⟨rfl, hb4⟩
    go_wp2
    go_ret
    exact ⟨ret_int HR.out.symm, (by repeat (first | exact bz0 _ _ | refine bz1 ?_ | refine bz2 ?_ _ | refine bz3 ?_ _ | refine bz4 ?_ hb4 | refine bz4 ?_ hb3 | refine bz4 ?_ hb2 | refine bz4 ?_ hb1 | refine bz5 ?_ _ | refine bz6 ?_ _ | refine bz7 ?_ hb4 | refine bz7 ?_ hb3 | refine bz7 ?_ hb2 | refine bz7 ?_ hb1))⟩
theorem impl_clsNo (fm x : Int) (w : World) (hT : Tab w) (h : okF fm x = false) (h0 : 0 ≤ x) (h1 : x < 18446744073709551616) :
    Calls Tryz.prog 66 #[.int .i64 fm, .int .u64 x] w fun e w' => e = .returned (.int .i64 (-1)) ∧ Below w.heap.size w w' := by
  go_enter Tryz.func66, Tryz.ntmps66
  go_wp2_with (go_at_call 147; refine (impl_ok fm x _ hT h0 h1).mono ?_; rintro e w1 ⟨rfl, hb1⟩)
  go_ret
  exact ⟨rfl, (by repeat (first | exact bz0 _ _ | refine bz1 ?_ | refine bz2 ?_ _ | refine bz3 ?_ _ | refine bz4 ?_ hb1 | refine bz5 ?_ _ | refine bz6 ?_ _ | refine bz7 ?_ hb1))⟩
theorem impl_cls (fm x : Int) (w : World) (hT : Tab w) (h0 : 0 ≤ x) (h1 : x < 18446744073709551616) :
    Calls Tryz.prog 66 #[.int .i64 fm, .int .u64 x] w fun e w' => e = .returned (.int .i64 (cls fm x)) ∧ Below w.heap.size w w' := by
  cases h : okF fm x
  · rw [cls_no h]; exact impl_clsNo fm x w hT h h0 h1
  · rcases okF_cases h with ⟨rfl, hx⟩ | rfl
    · rw [cls32 hx]; exact impl_cls32 x w hT h0 hx
    · rw [cls64]; exact impl_cls64 x w hT h0 h1
end Go.Proofs.YtkfjmcdniohljaaGreatDoor
