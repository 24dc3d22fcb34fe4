/-
  What is needed of FloatJ.
-/
import Derived.Test.YtpalbhkihheogaaGreatDoorN09
set_option maxHeartbeats 16000000
set_option maxRecDepth 1000000
namespace Go.Proofs.YtpalbhkihheogaaGreatDoor
set_option linter.unusedVariables false
set_option linter.unusedSimpArgs false
open Go.RowKit
theorem clsY_rng (L I Q y : Int) : 0 ≤ clsY L I Q y ∧ clsY L I Q y ≤ 5 := by unfold clsY; repeat' split <;> omega
theorem cls_rng (fm x : Int) : -1 ≤ cls fm x ∧ cls fm x ≤ 5 := by
  unfold cls
  split
  · split
    · have := clsY_rng 8388608 2139095040 4194304 (x % 2147483648); omega
    · have := clsY_rng 4503599627370496 9218868437227405312 2251799813685248 (x % 9223372036854775808); omega
  · omega
/-- Finite; finite or infinity. -/
def finB (fm x : Int) : Bool := decide (0 ≤ cls fm x ∧ cls fm x ≤ 2)
def numB (fm x : Int) : Bool := decide (0 ≤ cls fm x ∧ cls fm x ≤ 3)

theorem impl_fin (fm x : Int) (w : World) (hT : Tab w) (h0 : 0 ≤ x) (h1 : x < 18446744073709551616) :
    Calls Tryz.prog 78 #[.int .i64 fm, .int .u64 x] w fun e w' => e = .returned (.bool (finB fm x)) ∧ Below w.heap.size w w' := by
  have ⟨r0, r1⟩ := cls_rng fm x
  by_cases hc : 0 ≤ cls fm x ∧ cls fm x ≤ 2
  · have HR : Hid (finB fm x = true) := hid (by unfold finB; simpa using hc)
    have h3 : cls fm x = 0 ∨ cls fm x = 1 ∨ cls fm x = 2 := by omega
    have H3 := hid h3
    clear h3 hc
    rcases H3.out with c | c | c
    all_goals
      go_enter Tryz.func78, Tryz.ntmps78
      go_wp2_with fail
      refine (impl_cls fm x _ hT h0 h1).mono ?_
      rintro e w1 ⟨rfl, hb1⟩
      go_wp2
      go_ret
      exact ⟨ret_bool HR.out.symm, (by repeat (first | exact bz0 _ _ | refine bz1 ?_ | refine bz2 ?_ _ | refine bz3 ?_ _ | refine bz4 ?_ hb1 | refine bz5 ?_ _ | refine bz6 ?_ _ | refine bz7 ?_ hb1))⟩
  · have HR : Hid (finB fm x = false) := hid (by unfold finB; simpa using hc)
    have n0 : (cls fm x == 0) = false := by rw [beq_eq_false_iff_ne]; omega
    have n1 : (cls fm x == 1) = false := by rw [beq_eq_false_iff_ne]; omega
    have n2 : (cls fm x == 2) = false := by rw [beq_eq_false_iff_ne]; omega
    clear hc
    go_enter Tryz.func78, Tryz.ntmps78
    go_wp2_with fail
    refine (impl_cls fm x _ hT h0 h1).mono ?_
    rintro e w1 ⟨rfl, hb1⟩
    go_wp2
    go_ret
    exact ⟨ret_bool HR.out.symm, (by repeat (first | exact bz0 _ _ | refine bz1 ?_ | refine bz2 ?_ _ | refine bz3 ?_ _ | refine bz4 ?_ hb1 | refine bz5 ?_ _ | refine bz6 ?_ _ | refine bz7 ?_ hb1))⟩
theorem impl_num (fm x : Int) (w : World) (hT : Tab w) (h0 : 0 ≤ x) (h1 : x < 18446744073709551616) :
    Calls Tryz.prog 67 #[.int .i64 fm, .int .u64 x] w fun e w' => e = .returned (.bool (numB fm x)) ∧ Below w.heap.size w w' := by
  have ⟨r0, r1⟩ := cls_rng fm x
  cases hf : finB fm x
  · have hn : numB fm x = (cls fm x == 3) := by
      unfold finB at hf; unfold numB
      simp at hf
      rw [Bool.eq_iff_iff]; simp; omega
    have HR := hid hn
    clear hn
    go_enter Tryz.func67, Tryz.ntmps67
    go_wp2_with fail
    refine (impl_fin fm x _ hT h0 h1).mono ?_
    rintro e w1 ⟨rfl, hb1⟩
    go_wp2_with fail
    refine (impl_cls fm x _ (hT.below hb1) h0 h1).mono ?_
    rintro e w2 ⟨rfl, hb2⟩
    go_wp2
    go_ret
    exact ⟨ret_bool HR.out.symm, (by repeat (first | exact bz0 _ _ | refine bz1 ?_ | refine bz2 ?_ _ | refine bz3 ?_ _ | refine bz4 ?_ hb2 | refine bz4 ?_ hb1 | refine bz5 ?_ _ | refine bz6 ?_ _ | refine bz7 ?_ hb2 | refine bz7 ?_ hb1))⟩
  · have HR : Hid (numB fm x = true) := hid (by unfold finB at hf; unfold numB; simp at hf ⊢; omega)
    go_enter Tryz.func67, Tryz.ntmps67
    go_wp2_with fail
    refine (impl_fin fm x _ hT h0 h1).mono ?_
    rintro e w1 ⟨rfl, hb1⟩
    go_wp2
    go_ret
    exact ⟨ret_bool HR.out.symm, (by repeat (first | exact bz0 _ _ | refine bz1 ?_ | refine bz2 ?_ _ | refine bz3 ?_ _ | refine bz4 ?_ hb1 | refine bz5 ?_ _ | refine bz6 ?_ _ | refine bz7 ?_ hb1))⟩

/-- How two floats compare. -/
def cmpF (fm a b : Int) : Int := if numB fm a && numB fm b then (if cls fm a == 0 && cls fm b == 0 then 0 else cmpI (ordI fm a) (ordI fm b)) else 2
theorem cmp_no1 {fm a b : Int} (h : numB fm a = false) : cmpF fm a b = 2 := by unfold cmpF; rw [h]; rfl
theorem cmp_no2 {fm a b : Int} (h : numB fm b = false) : cmpF fm a b = 2 := by unfold cmpF; rw [h]; simp
theorem cmp_zero {fm a b : Int} (h : numB fm a = true) (k : numB fm b = true) (h0 : (cls fm a == 0) = true) (k0 : (cls fm b == 0) = true) : cmpF fm a b = 0 := by unfold cmpF; rw [h, k, h0, k0]; rfl
theorem cmp_else {fm a b : Int} (h : numB fm a = true) (k : numB fm b = true) (h0 : (cls fm a == 0 && cls fm b == 0) = false) : cmpF fm a b = cmpI (ordI fm a) (ordI fm b) := by unfold cmpF; rw [h, k, h0]; rfl

theorem impl_cmp (fm a b : Int) (w : World) (hT : Tab w) (a0 : 0 ≤ a) (a1 : a < 18446744073709551616) (b0 : 0 ≤ b) (b1 : b < 18446744073709551616) :
    Calls Tryz.prog 21 #[.int .i64 fm, .int .u64 a, .int .u64 b] w fun e w' => e = .returned (.int .i64 (cmpF fm a b)) ∧ Below w.heap.size w w' := by
  have ⟨m0, m1⟩ := cmpI_rng (ordI fm a) (ordI fm b)
  cases hna : numB fm a
  · have HR := hid (cmp_no1 (b := b) hna)
    go_enter Tryz.func21, Tryz.ntmps21
    go_wp2_with fail
    refine (impl_num fm a _ hT a0 a1).mono ?_
    rintro e w1 ⟨rfl, hb1⟩
    go_wp2
    go_ret
    exact ⟨ret_int HR.out.symm, (by repeat (first | exact bz0 _ _ | refine bz1 ?_ | refine bz2 ?_ _ | refine bz3 ?_ _ | refine bz4 ?_ hb1 | refine bz5 ?_ _ | refine bz6 ?_ _ | refine bz7 ?_ hb1))⟩
  cases hnb : numB fm b
  · have HR := hid (cmp_no2 (a := a) hnb)
    go_enter Tryz.func21, Tryz.ntmps21
    go_wp2_with fail
    refine (impl_num fm a _ hT a0 a1).mono ?_
    rintro e w1 ⟨rfl, hb1⟩
    have hT1 := hT.below hb1
    go_wp2_with fail
    refine (impl_num fm b _ hT1 b0 b1).mono ?_
    rintro e w2 ⟨rfl, hb2⟩
    go_wp2
    go_ret
    exact ⟨ret_int HR.out.symm, (by repeat (first | exact bz0 _ _ | refine bz1 ?_ | refine bz2 ?_ _ | refine bz3 ?_ _ | refine bz4 ?_ hb2 | refine bz4 ?_ hb1 | refine bz5 ?_ _ | refine bz6 ?_ _ | refine bz7 ?_ hb2 | refine bz7 ?_ hb1))⟩
  cases hza : (cls fm a == 0)
  · have HR := hid (cmp_else hna hnb (by rw [hza]; rfl))
    go_enter Tryz.func21, Tryz.ntmps21
    go_wp2_with fail
    refine (impl_num fm a _ hT a0 a1).mono ?_
    rintro e w1 ⟨rfl, hb1⟩
    have hT1 := hT.below hb1
    go_wp2_with fail
    refine (impl_num fm b _ hT1 b0 b1).mono ?_
    rintro e w2 ⟨rfl, hb2⟩
    have hT2 := hT1.below hb2
    go_wp2_with fail
    refine (impl_cls fm a _ hT2 a0 a1).mono ?_
    rintro e w3 ⟨rfl, hb3⟩
    have hT3 := hT2.below hb3
    go_wp2_with fail
    refine (impl_ord fm a _ hT3 a0 a1).mono ?_
    rintro e w4 ⟨rfl, hb4⟩
    have hT4 := hT3.below hb4
    go_wp2_with fail
    refine (impl_ord fm b _ hT4 b0 b1).mono ?_
    rintro e w5 ⟨rfl, hb5⟩
    go_wp2_with fail
    refine (compare_int64 _ _ _).mono ?_
    rintro e w6 ⟨rfl, hb6⟩
    go_wp2
    go_ret
    exact ⟨ret_int HR.out.symm, (by repeat (first | exact bz0 _ _ | refine bz1 ?_ | refine bz2 ?_ _ | refine bz3 ?_ _ | refine bz4 ?_ hb6 | refine bz4 ?_ hb5 | refine bz4 ?_ hb4 | refine bz4 ?_ hb3 | refine bz4 ?_ hb2 | refine bz4 ?_ hb1 | refine bz5 ?_ _ | refine bz6 ?_ _ | refine bz7 ?_ hb6 | refine bz7 ?_ hb5 | refine bz7 ?_ hb4 | refine bz7 ?_ hb3 | refine bz7 ?_ hb2 | refine bz7 ?_ hb1))⟩
  cases hzb : (cls fm b == 0)
  · have HR := hid (cmp_else hna hnb (by rw [hza, hzb]; rfl))
    go_enter Tryz.func21, Tryz.ntmps21
    go_wp2_with fail
    refine (impl_num fm a _ hT a0 a1).mono ?_
    rintro e w1 ⟨rfl, hb1⟩
    have hT1 := hT.below hb1
    go_wp2_with fail
    refine (impl_num fm b _ hT1 b0 b1).mono ?_
    rintro e w2 ⟨rfl, hb2⟩
    have hT2 := hT1.below hb2
    go_wp2_with fail
    refine (impl_cls fm a _ hT2 a0 a1).mono ?_
    rintro e w3 ⟨rfl, hb3⟩
    have hT3 := hT2.below hb3
    go_wp2_with fail
    refine (impl_cls fm b _ hT3 b0 b1).mono ?_
    rintro e w4' ⟨rfl, hb4'⟩
    have hT3' := hT3.below hb4'
    go_wp2_with fail
    refine (impl_ord fm a _ hT3' a0 a1).mono ?_
    rintro e w4 ⟨rfl, hb4⟩
    have hT4 := hT3'.below hb4
    go_wp2_with fail
    refine (impl_ord fm b _ hT4 b0 b1).mono ?_
    rintro e w5 ⟨rfl, hb5⟩
    go_wp2_with fail
    refine (compare_int64 _ _ _).mono ?_
    rintro e w6 ⟨rfl, hb6⟩
    go_wp2
    go_ret
    exact ⟨ret_int HR.out.symm, (by repeat (first | exact bz0 _ _ | refine bz1 ?_ | refine bz2 ?_ _ | refine bz3 ?_ _ | refine bz4 ?_ hb6 | refine bz4 ?_ hb5 | refine bz4 ?_ hb4 | refine bz4 ?_ hb4' | refine bz4 ?_ hb3 | refine bz4 ?_ hb2 | refine bz4 ?_ hb1 | refine bz5 ?_ _ | refine bz6 ?_ _ | refine bz7 ?_ hb6 | refine bz7 ?_ hb5 | refine bz7 ?_ hb4 | refine bz7 ?_ hb4' | refine bz7 ?_ hb3 | refine bz7 ?_ hb2 | refine bz7 ?_ hb1))⟩
  · have HR := hid (cmp_zero hna hnb hza hzb)
    go_enter Tryz.func21, Tryz.ntmps21
    go_wp2_with fail
    refine (impl_num fm a _ hT a0 a1).mono ?_
    rintro e w1 ⟨rfl, hb1⟩
    have hT1 := hT.below hb1
    go_wp2_with fail
    refine (impl_num fm b _ hT1 b0 b1).mono ?_
    rintro e w2 ⟨rfl, hb2⟩
    have hT2 := hT1.below hb2
    go_wp2_with fail
    refine (impl_cls fm a _ hT2 a0 a1).mono ?_
    rintro e w3 ⟨rfl, hb3⟩
    have hT3 := hT2.below hb3
    go_wp2_with fail
    refine (impl_cls fm b _ hT3 b0 b1).mono ?_
    rintro e w4 ⟨rfl, hb4⟩
    go_wp2
    go_ret
    exact ⟨ret_int HR.out.symm, (by repeat (first | exact bz0 _ _ | refine bz1 ?_ | refine bz2 ?_ _ | refine bz3 ?_ _ | refine bz4 ?_ hb4 | refine bz4 ?_ hb3 | refine bz4 ?_ hb2 | refine bz4 ?_ hb1 | refine bz5 ?_ _ | refine bz6 ?_ _ | refine bz7 ?_ hb4 | refine bz7 ?_ hb3 | refine bz7 ?_ hb2 | refine bz7 ?_ hb1))⟩
end Go.Proofs.YtpalbhkihheogaaGreatDoor
