/-
  What is needed of Cmp, FloatH, FloatJ, RG, RH, TP, SP.
-/
import Derived.Test.YtbhfbaogmkgmiaaGreatDoorC52
set_option maxHeartbeats 16000000
set_option maxRecDepth 1000000
namespace Go.Proofs.YtbhfbaogmkgmiaaGreatDoor
set_option linter.unusedVariables false
set_option linter.unusedSimpArgs false
open Go.RowKit
theorem compare_int64 (x y : Int) (w : World) :
    Calls Tryz.prog 131 #[.int .i64 x, .int .i64 y] w fun e w' => e = .returned (.int .i64 (cmpI x y)) ∧ Below w.heap.size w w' := by
  have ex : (x != x) = false := by simp
  have ey : (y != y) = false := by simp
  by_cases h1 : x < y
  · have HR : Hid (cmpI x y = -1) := hid (by unfold cmpI; rw [if_pos h1])
    go_enter Tryz.func131, Tryz.ntmps131
    go_wp2
    go_ret
    exact ⟨ret_int HR.out.symm, (by repeat (first | exact bz0 _ _ | refine bz1 ?_ | refine bz2 ?_ _ | refine bz3 ?_ _ | refine bz5 ?_ _ | refine bz6 ?_ _))⟩
  by_cases h2 : y < x
  · have HR : Hid (cmpI x y = 1) := hid (by unfold cmpI; rw [if_neg h1, if_pos h2])
    go_enter Tryz.func131, Tryz.ntmps131
    go_wp2
    go_ret
    exact ⟨ret_int HR.out.symm, (by repeat (first | exact bz0 _ _ | refine bz1 ?_ | refine bz2 ?_ _ | refine bz3 ?_ _ | refine bz5 ?_ _ | refine bz6 ?_ _))⟩
  · have HR : Hid (cmpI x y = 0) := hid (by unfold cmpI; rw [if_neg h1, if_neg h2])
    go_enter Tryz.func131, Tryz.ntmps131
    go_wp2
    go_ret
    exact ⟨ret_int HR.out.symm, (by repeat (first | exact bz0 _ _ | refine bz1 ?_ | refine bz2 ?_ _ | refine bz3 ?_ _ | refine bz5 ?_ _ | refine bz6 ?_ _))⟩
theorem ord_no {fm x : Int} (h : okF fm x = false) : ordI fm x = 0 := by unfold ordI; rw [h]; rfl
theorem ord_neg {fm x : Int} (h : okF fm x = true) (k : sigB fm x = true) : ordI fm x = -1 - absF fm x := by unfold ordI; rw [h, k]; rfl
theorem ord_pos {fm x : Int} (h : okF fm x = true) (k : sigB fm x = false) : ordI fm x = absF fm x := by unfold ordI; rw [h, k]; rfl

theorem impl_ord (fm x : Int) (w : World) (hT : Tab w) (h0 : 0 ≤ x) (h1 : x < 18446744073709551616) :
    Calls Tryz.prog 130 #[.int .i64 fm, .int .u64 x] w fun e w' => e = .returned (.tuple #[.int .i64 (ordI fm x), .bool (okF fm x)]) ∧ Below w.heap.size w w' := by
  have ⟨b0, b1⟩ := abs_bd (fm := fm) h0
  cases h : okF fm x
  · have HR := hid (ord_no h)
    rw [HR.out]
    go_enter Tryz.func130, Tryz.ntmps130
    go_wp2_with (go_at_call 105; refine (impl_ok fm x _ hT h0 h1).mono ?_; rintro e w1 ⟨rfl, hb1⟩)
    go_ret2
    exact ⟨rfl, (by repeat (first | exact bz0 _ _ | refine bz1 ?_ | refine bz2 ?_ _ | refine bz3 ?_ _ | refine bz4 ?_ hb1 | refine bz5 ?_ _ | refine bz6 ?_ _ | refine bz7 ?_ hb1))⟩
  · cases k : sigB fm x
    · rw [ord_pos h k]
      go_enter Tryz.func130, Tryz.ntmps130
      go_wp2_with fail
      refine (impl_ok fm x _ hT h0 h1).mono ?_
      rintro e w1 ⟨rfl, hb1⟩
      have hT1 := hT.below hb1
      go_wp2_with fail
      refine (impl_abs fm x _ hT1 h0 h1).mono ?_
      rintro e w2 ⟨rfl, hb2⟩
      have hT2 := hT1.below hb2
      go_wp2_with fail
      refine (impl_sig fm x _ hT2 h0 h1).mono ?_
      rintro e w3 ⟨rfl, hb3⟩
      go_wp2
      go_ret2
      exact ⟨rfl, (by repeat (first | exact bz0 _ _ | refine bz1 ?_ | refine bz2 ?_ _ | refine bz3 ?_ _ | refine bz4 ?_ hb3 | refine bz4 ?_ hb2 | refine bz4 ?_ hb1 | refine bz5 ?_ _ | refine bz6 ?_ _ | refine bz7 ?_ hb3 | refine bz7 ?_ hb2 | refine bz7 ?_ hb1))⟩
    · rw [ord_neg h k]
      go_enter Tryz.func130, Tryz.ntmps130
      go_wp2_with fail
      refine (impl_ok fm x _ hT h0 h1).mono ?_
      rintro e w1 ⟨rfl, hb1⟩
      have hT1 := hT.below hb1
      go_wp2_with fail
      refine (impl_abs fm x _ hT1 h0 h1).mono ?_
      rintro e w2 ⟨rfl, hb2⟩
      have hT2 := hT1.below hb2
      go_wp2_with fail
      refine (impl_sig fm x _ hT2 h0 h1).mono ?_
      rintro e w3 ⟨rfl, hb3⟩
      go_wp2
      go_ret2
      exact ⟨rfl, (by repeat (first | exact bz0 _ _ | refine bz1 ?_ | refine bz2 ?_ _ | refine bz3 ?_ _ | refine bz4 ?_ hb3 | refine bz4 ?_ hb2 | refine bz4 ?_ hb1 | refine bz5 ?_ _ | refine bz6 ?_ _ | refine bz7 ?_ hb3 | refine bz7 ?_ hb2 | refine bz7 ?_ hb1))⟩

theorem impl_num (fm x : Int) (w : World) (hT : Tab w) (h0 : 0 ≤ x) (h1 : x < 18446744073709551616) :
    Calls Tryz.prog 129 #[.int .i64 fm, .int .u64 x] w fun e w' => e = .returned (.bool (numB fm x)) ∧ Below w.heap.size w w' := by
  have ⟨r0, r1⟩ := cls_rng fm x
  cases hf : finB fm x
  · have hn : numB fm x = (cls fm x == 3) := by
      unfold finB at hf; unfold numB
      simp at hf
      rw [Bool.eq_iff_iff]; simp; omega
    have HR := hid hn
    clear hn
    go_enter Tryz.func129, Tryz.ntmps129
    go_wp2_with fail
    refine (impl_fin fm x _ hT h0 h1).mono ?_
    rintro e w1 ⟨rfl, hb1⟩
    go_wp2_with fail
    refine (impl_cls fm x _ (hT.below hb1) h0 h1).mono ?_
    rintro e w2 ⟨rfl, hb2⟩
    go_wp2
    go_ret
    exact ⟨ret_bool HR.out.symm, (by repeat (first | exact bz0 _ _ | refine bz1 ?_ | refine bz2 ?_ _ | refine bz3 ?_ _ | refine bz4 ?_ hb2 | refine bz4 ?_ hb1 | refine bz5 ?_ _ | refine bz6 ?_ _ | refine bz7 ?_ hb2 | refine bz7 ?_ hb1))⟩
  · have HR : Hid (numB fm x = true) := hid (by unfold finB at hf; unfold numB; simp at hf ⊢; omega)
    go_enter Tryz.func129, Tryz.ntmps129
    go_wp2_with fail
    refine (impl_fin fm x _ hT h0 h1).mono ?_
    rintro e w1 ⟨rfl, hb1⟩
    go_wp2
    go_ret
    exact ⟨ret_bool HR.out.symm, (by repeat (first | exact bz0 _ _ | refine bz1 ?_ | refine bz2 ?_ _ | refine bz3 ?_ _ | refine bz4 ?_ hb1 | refine bz5 ?_ _ | refine bz6 ?_ _ | refine bz7 ?_ hb1))⟩

theorem cmp_no1 {fm a b : Int} (h : numB fm a = false) : cmpF fm a b = 2 := by unfold cmpF; rw [h]; rfl
theorem cmp_no2 {fm a b : Int} (h : numB fm b = false) : cmpF fm a b = 2 := by unfold cmpF; rw [h]; simp
theorem cmp_zero {fm a b : Int} (h : numB fm a = true) (k : numB fm b = true) (h0 : (cls fm a == 0) = true) (k0 : (cls fm b == 0) = true) : cmpF fm a b = 0 := by unfold cmpF; rw [h, k, h0, k0]; rfl
theorem cmp_else {fm a b : Int} (h : numB fm a = true) (k : numB fm b = true) (h0 : (cls fm a == 0 && cls fm b == 0) = false) : cmpF fm a b = cmpI (ordI fm a) (ordI fm b) := by unfold cmpF; rw [h, k, h0]; rfl

theorem impl_cmp (fm a b : Int) (w : World) (hT : Tab w) (a0 : 0 ≤ a) (a1 : a < 18446744073709551616) (b0 : 0 ≤ b) (b1 : b < 18446744073709551616) :
    Calls Tryz.prog 52 #[.int .i64 fm, .int .u64 a, .int .u64 b] w fun e w' => e = .returned (.int .i64 (cmpF fm a b)) ∧ Below w.heap.size w w' := by
  have ⟨m0, m1⟩ := cmpI_rng (ordI fm a) (ordI fm b)
  cases hna : numB fm a
  · have HR := hid (cmp_no1 (b := b) hna)
    go_enter Tryz.func52, Tryz.ntmps52
    go_wp2_with fail
    refine (impl_num fm a _ hT a0 a1).mono ?_
    rintro e w1 ⟨rfl, hb1⟩
    go_wp2
    go_ret
    exact ⟨ret_int HR.out.symm, (by repeat (first | exact bz0 _ _ | refine bz1 ?_ | refine bz2 ?_ _ | refine bz3 ?_ _ | refine bz4 ?_ hb1 | refine bz5 ?_ _ | refine bz6 ?_ _ | refine bz7 ?_ hb1))⟩
  cases hnb : numB fm b
  · have HR := hid (cmp_no2 (a := a) hnb)
    go_enter Tryz.func52, Tryz.ntmps52
    go_wp2_with fail
    refine (impl_num fm a _ hT a0 a1).mono ?_
    rintro e w1 ⟨rfl, hb1⟩
    have hT1 := hT.below hb1
    go_wp2_with fail
    refine (impl_num fm b _ hT1 b0 b1).mono ?_
    rintro e w2 ⟨rfl, hb2⟩
    go_wp2
    go_ret
    exact ⟨ret_int HR.out.symm, (by repeat (first | exact bz0 _ _ | refine bz1 ?_ | refine bz2 ?_ _ | refine bz3 ?_ _ | refine bz4 ?_ hb2 | refine bz4 ?_ hb1 | refine bz5 ?_ _ | refine bz6 ?_ _ | refine bz7 ?_ hb2 | refine bz7 ?_ hb1))⟩
  cases hza : (cls fm a == 0)
  · have HR := hid (cmp_else hna hnb (by rw [hza]; rfl))
    go_enter Tryz.func52, Tryz.ntmps52
    go_wp2_with fail
    refine (impl_num fm a _ hT a0 a1).mono ?_
    rintro e w1 ⟨rfl, hb1⟩
    have hT1 := hT.below hb1
    go_wp2_with fail
    refine (impl_num fm b _ hT1 b0 b1).mono ?_
    rintro e w2 ⟨rfl, hb2⟩
    have hT2 := hT1.below hb2
    go_wp2_with fail
    refine (impl_cls fm a _ hT2 a0 a1).mono ?_
    rintro e w3 ⟨rfl, hb3⟩
    have hT3 := hT2.below hb3
    go_wp2_with fail
    refine (impl_ord fm a _ hT3 a0 a1).mono ?_
    rintro e w4 ⟨rfl, hb4⟩
    have hT4 := hT3.below hb4
    go_wp2_with fail
    refine (impl_ord fm b _ hT4 b0 b1).mono ?_
    rintro e w5 ⟨rfl, hb5⟩
    go_wp2_with fail
    refine (compare_int64 _ _ _).mono ?_
    rintro e w6 ⟨rfl, hb6⟩
    go_wp2
    go_ret
    exact ⟨ret_int HR.out.symm, (by repeat (first | exact bz0 _ _ | refine bz1 ?_ | refine bz2 ?_ _ | refine bz3 ?_ _ | refine bz4 ?_ hb6 | refine bz4 ?_ hb5 | refine bz4 ?_ hb4 | refine bz4 ?_ hb3 | refine bz4 ?_ hb2 | refine bz4 ?_ hb1 | refine bz5 ?_ _ | refine bz6 ?_ _ | refine bz7 ?_ hb6 | refine bz7 ?_ hb5 | refine bz7 ?_ hb4 | refine bz7 ?_ hb3 | refine bz7 ?_ hb2 | refine bz7 ?_ hb1))⟩
  cases hzb : (cls fm b == 0)
  · have HR := hid (cmp_else hna hnb (by rw [hza, hzb]; rfl))
    go_enter Tryz.func52, Tryz.ntmps52
    go_wp2_with fail
    refine (impl_num fm a _ hT a0 a1).mono ?_
    rintro e w1 ⟨rfl, hb1⟩
    have hT1 := hT.below hb1
    go_wp2_with fail
    refine (impl_num fm b _ hT1 b0 b1).mono ?_
    rintro e w2 ⟨rfl, hb2⟩
    have hT2 := hT1.below hb2
    go_wp2_with fail
    refine (impl_cls fm a _ hT2 a0 a1).mono ?_
    rintro e w3 ⟨rfl, hb3⟩
    have hT3 := hT2.below hb3
    go_wp2_with fail
    refine (impl_cls fm b _ hT3 b0 b1).mono ?_
    rintro e w4' ⟨rfl, hb4'⟩
    have hT3' := hT3.below hb4'
    go_wp2_with fail
    refine (impl_ord fm a _ hT3' a0 a1).mono ?_
    rintro e w4 ⟨rfl, hb4⟩
    have hT4 := hT3'.below hb4
    go_wp2_with fail
    refine (impl_ord fm b _ hT4 b0 b1).mono ?_
    rintro e w5 ⟨rfl, hb5⟩
    go_wp2_with fail
    refine (compare_int64 _ _ _).mono ?_
    rintro e w6 ⟨rfl, hb6⟩
    go_wp2
    go_ret
    exact ⟨ret_int HR.out.symm, (by repeat (first | exact bz0 _ _ | refine bz1 ?_ | refine bz2 ?_ _ | refine bz3 ?_ _ | refine bz4 ?_ hb6 | refine bz4 ?_ hb5 | refine bz4 ?_ hb4 | refine bz4 ?_ hb4' | refine bz4 ?_ hb3 | refine bz4 ?_ hb2 | refine bz4 ?_ hb1 | refine bz5 ?_ _ | refine bz6 ?_ _ | refine bz7 ?_ hb6 | refine bz7 ?_ hb5 | refine bz7 ?_ hb4 | refine bz7 ?_ hb4' | refine bz7 ?_ hb3 | refine bz7 ?_ hb2 | refine bz7 ?_ hb1))⟩
  · have HR := hid (cmp_zero hna hnb hza hzb)
    go_enter Tryz.func52, Tryz.ntmps52
    go_wp2_with fail
    refine (impl_num fm a _ hT a0 a1).mono ?_
    rintro e w1 ⟨rfl, hb1⟩
    have hT1 := hT.below hb1
    go_wp2_with fail
    refine (impl_num fm b _ hT1 b0 b1).mono ?_
    rintro e w2 ⟨rfl, hb2⟩
    have hT2 := hT1.below hb2
    go_wp2_with fail
    refine (impl_cls fm a _ hT2 a0 a1).mono ?_
    rintro e w3 ⟨rfl, hb3⟩
    have hT3 := hT2.below hb3
    go_wp2_with fail
    refine (impl_cls fm b _ hT3 b0 b1).mono ?_
    rintro e w4 ⟨rfl, hb4⟩
    go_wp2
    go_ret
    exact ⟨ret_int HR.out.symm, (by repeat (first | exact bz0 _ _ | refine bz1 ?_ | refine bz2 ?_ _ | refine bz3 ?_ _ | refine bz4 ?_ hb4 | refine bz4 ?_ hb3 | refine bz4 ?_ hb2 | refine bz4 ?_ hb1 | refine bz5 ?_ _ | refine bz6 ?_ _ | refine bz7 ?_ hb4 | refine bz7 ?_ hb3 | refine bz7 ?_ hb2 | refine bz7 ?_ hb1))⟩
end Go.Proofs.YtbhfbaogmkgmiaaGreatDoor
namespace Go.Proofs.YtbhfbaogmkgmiaaGreatDoor
set_option linter.unusedVariables false
set_option linter.unusedSimpArgs false
open Go.RowKit Go.Deep
theorem exact_impl (fm : Int) (ng : Bool) (zs : List Int) (e : Int) (p : Option Addr) (c : Nat) (w : World) (hT : T3 w) (hs : Sl .u32 w (.slice p zs.length c) zs) (hz : Nm.Dg zs) (hl : zs.length ≤ 1048576) :
    Calls Tryz.prog 49 #[.int .i64 fm, .agg #[.bool ng, .slice p zs.length c], .int .i64 e] w fun x w' => x = .returned (.tuple #[.int .u64 (EfB fm ng zs e), .bool (EfO fm ng zs e)]) ∧ Below w.heap.size w w' := by
  obtain ⟨b, hb⟩ : ∃ b, b = RdB fm 1 ng zs e := ⟨_, rfl⟩
  obtain ⟨f, hf⟩ : ∃ f, f = RdF fm 1 ng zs e := ⟨_, rfl⟩
  obtain ⟨o, ho⟩ : ∃ o, o = RdO fm 1 ng zs e := ⟨_, rfl⟩
  have C := hid (rounded_impl fm 1 ng zs e p c (w.alloc (.cells #[.bool ng, .slice p zs.length c] 26)) (hT.al _) (hs.alloc _) hz hl)
  rw [← hb, ← hf, ← ho] at C
  have HO : Hid (EfO fm ng zs e = (o && decide (f = 0))) := hid (by unfold EfO; rw [← ho, ← hf])
  have HB : Hid (EfB fm ng zs e = if (o && decide (f = 0)) then b else 0) := hid (by unfold EfB; rw [HO.out, ← hb])
  clear hb hf ho
  cases o with
  | false =>
    go_enter Tryz.func49, Tryz.ntmps49
    go_wp2_with fail
    refine C.out.mono ?_
    rintro x w1 ⟨rfl, hb1⟩
    go_wp2
    go_ret2
    exact ⟨ret_ub (by rw [HB.out]; rfl) (by rw [HO.out]; rfl), (by repeat (first | exact bz0 _ _ | refine bz1 ?_ | refine bz2 ?_ _ | refine bz3 ?_ _ | refine bz4 ?_ hb1 | refine bz5 ?_ _ | refine bz6 ?_ _ | refine bz7 ?_ hb1))⟩
  | true =>
    by_cases h0 : f = 0
    · subst h0
      go_enter Tryz.func49, Tryz.ntmps49
      go_wp2_with fail
      refine C.out.mono ?_
      rintro x w1 ⟨rfl, hb1⟩
      go_wp2
      go_ret2
      exact ⟨ret_ub (by rw [HB.out]; rfl) (by rw [HO.out]; rfl), (by repeat (first | exact bz0 _ _ | refine bz1 ?_ | refine bz2 ?_ _ | refine bz3 ?_ _ | refine bz4 ?_ hb1 | refine bz5 ?_ _ | refine bz6 ?_ _ | refine bz7 ?_ hb1))⟩
    · have hne : (f != 0) = true := by rw [bne_iff_ne]; exact h0
      have HD : Hid (decide (f = 0) = false) := hid (decide_eq_false h0)
      clear h0
      go_enter Tryz.func49, Tryz.ntmps49
      go_wp2_with fail
      refine C.out.mono ?_
      rintro x w1 ⟨rfl, hb1⟩
      go_wp2
      go_ret2
      exact ⟨ret_ub (by rw [HB.out, HD.out]; rfl) (by rw [HO.out, HD.out]; rfl), (by repeat (first | exact bz0 _ _ | refine bz1 ?_ | refine bz2 ?_ _ | refine bz3 ?_ _ | refine bz4 ?_ hb1 | refine bz5 ?_ _ | refine bz6 ?_ _ | refine bz7 ?_ hb1))⟩
theorem parts_impl (fm : Int) (ng : Bool) (M E : Int) (w : World) (hT : Ts w) (m1 : M < 9223372036854775808) :
    Calls Tryz.prog 102 #[.int .i64 fm, .agg #[.bool ng, .int .i64 M, .int .i64 E]] w fun x w' => x = .returned (.tuple #[.int .u64 (FpB fm ng M E), .bool (FpO fm M E)]) ∧ Below w.heap.size w w' := by
  cases h : fmtB fm
  · obtain ⟨h1, h2⟩ := fmt_no h
    have HO : Hid (FpO fm M E = false) := hid (by unfold FpO; rw [if_neg h1, if_neg h2])
    have HB : Hid (FpB fm ng M E = 0) := hid (by unfold FpB; rw [if_neg h1, if_neg h2])
    clear h
    go_enter Tryz.func102, Tryz.ntmps102
    go_wp2_with fail
    refine (sizes0 fm _ (hT.f.al _) h1 h2).mono ?_
    rintro x w1 ⟨rfl, hb1⟩
    go_wp2
    go_ret2
    exact ⟨ret_ub HB.out.symm HO.out.symm, (by repeat (first | exact bz0 _ _ | refine bz1 ?_ | refine bz2 ?_ _ | refine bz3 ?_ _ | refine bz4 ?_ hb1 | refine bz5 ?_ _ | refine bz6 ?_ _ | refine bz7 ?_ hb1))⟩
  · rcases fmt_cases h with rfl | rfl
    · exact fp_32 ng M E w hT m1
    · exact fp_64 ng M E w hT m1
/-- A finite float is zero just where its M is. -/
theorem pM_zero {fm x : Int} (hx : okF fm x = true) (hf : finB fm x = true) : (absF fm x == 0) = decide (pM fm x = 0) := by
  rw [← cls_zero hx, Bool.eq_iff_iff, beq_iff_eq, decide_eq_true_eq]
  constructor
  · intro h
    have ha : (absF fm x == 0) = true := by rw [← cls_zero hx, h]; rfl
    have ha' : absF fm x = 0 := by simpa using ha
    unfold pM; rw [hf, if_pos rfl]
    rcases okF_cases hx with ⟨rfl, hx'⟩ | rfl
    · rw [abs32 hx'] at ha'
      rw [if_pos rfl, ha']; rfl
    · rw [abs64] at ha'
      rw [if_neg (by decide), ha']; rfl
  · intro h
    have hc : 0 ≤ cls fm x ∧ cls fm x ≤ 2 := by simpa [finB] using hf
    by_cases h12 : cls fm x = 1 ∨ cls fm x = 2
    · have := (pM_pos h12).2; omega
    · omega
/-- What the specification rounds exactly is what parts make. -/
theorem ef_fp {fm : Int} (hf : fmtB fm = true) (ng : Bool) {m : Nat} (hm0 : m ≠ 0) (hm1 : m < 9223372036854775808) {E : Int} (e0 : -5000 ≤ E) (e1 : E ≤ 5000) :
    EfB fm ng (Nm.lim m) E = FpB fm ng m E ∧ EfO fm ng (Nm.lim m) E = FpO fm m E := by
  have hbl : bitLen m ≤ 64 := (Nm.bl_le_iff m 64).2 (by omega)
  have hokl := ok_lim hm0 (show bitLen m ≤ 6400 by omega) ng
  have hlen : (Nm.lim m).length ≠ 0 := fun h => hm0 ((Nm.lim_length_zero m).1 h)
  have hz : ¬ ((m : Nat) : Int) = 0 := by omega
  rcases fmt_cases hf with rfl | rfl
  · have hef := fp_ef (P := 24) (I := 2139095040) (q := (-149)) (ones := 255) (S := 2147483648) (ng := ng) (e := E) hm0 (by decide) (by decide) (by decide) (by decide)
    have HO0 : FpO 32 m E = Nm.stOk 24 (-149) 255 m E := by
      show fpO 24 (-149) 255 m E = _
      unfold fpO; rw [decide_eq_true (show (0 : Int) ≤ (m : Nat) by omega), decide_eq_true e0, decide_eq_true e1, decide_eq_false hz, Int.toNat_natCast]; rfl
    have hRO : RdO 32 1 ng (Nm.lim m) E = true := by
      unfold RdO; rw [hokl]
      have : inZ E (-10000) 10000 = true := by simp [inZ]; omega
      rw [this]; rfl
    have hRF : RdF 32 1 ng (Nm.lim m) E = rdF 24 (-149) 2139095040 1 ng m E := by
      unfold RdF; rw [hRO, if_pos rfl, if_neg hlen, Nm.lim_val, Int.toNat_natCast]; rfl
    have hRB : RdB 32 1 ng (Nm.lim m) E = rdB 24 (-149) 2139095040 2147483648 1 ng m E := by
      unfold RdB; rw [hRO, if_pos rfl, if_neg hlen, Nm.lim_val, Int.toNat_natCast]; rfl
    have HEO : EfO 32 ng (Nm.lim m) E = FpO 32 m E := by
      unfold EfO; rw [hRO, hRF, ← hef.1, HO0]; simp
    refine ⟨?_, HEO⟩
    unfold EfB; rw [HEO]
    show _ = fpB 24 (-149) 255 2147483648 ng m E
    unfold fpB
    have e1 : fpO 24 (-149) 255 m E = Nm.stOk 24 (-149) 255 m E := HO0
    rw [e1, HO0, if_neg hz]
    cases hst : Nm.stOk 24 (-149) 255 m E
    · rfl
    · rw [if_pos rfl, if_pos rfl, hRB, ← hef.2 hst, Int.toNat_natCast]
  · have hef := fp_ef (P := 53) (I := 9218868437227405312) (q := (-1074)) (ones := 2047) (S := 9223372036854775808) (ng := ng) (e := E) hm0 (by decide) (by decide) (by decide) (by decide)
    have HO0 : FpO 64 m E = Nm.stOk 53 (-1074) 2047 m E := by
      show fpO 53 (-1074) 2047 m E = _
      unfold fpO; rw [decide_eq_true (show (0 : Int) ≤ (m : Nat) by omega), decide_eq_true e0, decide_eq_true e1, decide_eq_false hz, Int.toNat_natCast]; rfl
    have hRO : RdO 64 1 ng (Nm.lim m) E = true := by
      unfold RdO; rw [hokl]
      have : inZ E (-10000) 10000 = true := by simp [inZ]; omega
      rw [this]; rfl
    have hRF : RdF 64 1 ng (Nm.lim m) E = rdF 53 (-1074) 9218868437227405312 1 ng m E := by
      unfold RdF; rw [hRO, if_pos rfl, if_neg hlen, Nm.lim_val, Int.toNat_natCast]; rfl
    have hRB : RdB 64 1 ng (Nm.lim m) E = rdB 53 (-1074) 9218868437227405312 9223372036854775808 1 ng m E := by
      unfold RdB; rw [hRO, if_pos rfl, if_neg hlen, Nm.lim_val, Int.toNat_natCast]; rfl
    have HEO : EfO 64 ng (Nm.lim m) E = FpO 64 m E := by
      unfold EfO; rw [hRO, hRF, ← hef.1, HO0]; simp
    refine ⟨?_, HEO⟩
    unfold EfB; rw [HEO]
    show _ = fpB 53 (-1074) 2047 9223372036854775808 ng m E
    unfold fpB
    have e1 : fpO 53 (-1074) 2047 m E = Nm.stOk 53 (-1074) 2047 m E := HO0
    rw [e1, HO0, if_neg hz]
    cases hst : Nm.stOk 53 (-1074) 2047 m E
    · rfl
    · rw [if_pos rfl, if_pos rfl, hRB, ← hef.2 hst, Int.toNat_natCast]
/-- Whether a float has a scale. -/
def spO (fm x : Int) : Bool := finB fm x && !decide (pM fm x = 0)
def spN (fm x : Int) : Int := (bitLen (pM fm x).toNat : Nat) - 1
def spB (fm x : Int) : Int := if spO fm x then FpB fm (pS fm x) (pM fm x) (-spN fm x) else 0
def spE (fm x : Int) : Int := if spO fm x then pE fm x + spN fm x else 0
theorem spN_bd {fm x : Int} (h : pM fm x ≠ 0) : 0 ≤ spN fm x ∧ spN fm x ≤ 52 := by
  obtain ⟨h0, h1⟩ := pM_bd fm x
  have a : bitLen (pM fm x).toNat ≤ 53 := (Nm.bl_le_iff _ 53).2 (by omega)
  have b : ¬ bitLen (pM fm x).toNat ≤ 0 := by rw [Nm.bl_le_iff]; simp; omega
  unfold spN; omega
theorem topBit_any (M : Int) (w : World) (h0 : 0 < M) (h1 : M < 9223372036854775808) :
    Calls Tryz.prog 126 #[.int .i64 M] w fun e w' => e = .returned (.int .i64 ((bitLen M.toNat : Nat) - 1)) ∧ w' = w := by
  have hw : IntKind.u64.wrap M = M := by rw [IntKind.wrap_u64]; omega
  have C := hid (fun w => len64_any M w (by omega) (by omega))
  have a : bitLen M.toNat ≤ 64 := (Nm.bl_le_iff _ 64).2 (by omega)
  obtain ⟨n, hn⟩ : ∃ n : Int, n = (bitLen M.toNat : Nat) := ⟨_, rfl⟩
  rw [← hn] at C ⊢
  have n0 : 0 ≤ n := by omega
  have n1 : n ≤ 64 := by omega
  clear hn a
  go_enter Tryz.func126, Tryz.ntmps126
  go_wp2_with fail
  refine (C.out _).mono ?_
  rintro e w1 ⟨rfl, rfl⟩
  go_wp2
  go_ret
  exact ⟨rfl, rfl⟩
theorem zS (fm x : Int) (w : World) (h : okF fm x = true) (h0 : 0 ≤ x) (h1 : x < 18446744073709551616) :
    Calls Tryz.prog 119 #[.int .i64 fm, .int .u64 x] w fun e w' => e = .returned (.bool (absF fm x == 0)) ∧ Below w.heap.size w w' := by
  have C := hid (fun w' => spec_l2abs fm x w' h h0 h1)
  obtain ⟨a, ha⟩ : ∃ a, a = absF fm x := ⟨_, rfl⟩
  rw [← ha] at C ⊢
  clear ha
  go_enter Tryz.func119, Tryz.ntmps119
  go_wp2_with fail
  refine (C.out _).mono ?_
  rintro r w1 ⟨rfl, hb1⟩
  go_wp2
  go_ret
  exact ⟨rfl, (by repeat (first | exact bz0 _ _ | refine bz1 ?_ | refine bz2 ?_ _ | refine bz3 ?_ _ | refine bz4 ?_ hb1 | refine bz5 ?_ _ | refine bz6 ?_ _ | refine bz7 ?_ hb1))⟩
theorem sp_no {fm x : Int} (h : spO fm x = false) : spB fm x = 0 ∧ spE fm x = 0 := by unfold spB spE; rw [h]; exact ⟨rfl, rfl⟩
theorem ret_uib3 {a a' b b' : Int} {c c' : Bool} (h : a = a') (k : b = b') (l : c = c') : Ending.returned (.tuple #[.int .u64 a, .int .i64 b, .bool c]) = .returned (.tuple #[.int .u64 a', .int .i64 b', .bool c']) := by rw [h, k, l]
theorem split_impl (fm x : Int) (w : World) (hT : Ts w) (x0 : 0 ≤ x) (x1 : x < 18446744073709551616) :
    Calls Tryz.prog 47 #[.int .i64 fm, .int .u64 x] w fun e w' => e = .returned (.tuple #[.int .u64 (spB fm x), .int .i64 (spE fm x), .bool (spO fm x)]) ∧ Below w.heap.size w w' := by
  have CP := hid (fun w' h => impl_parts fm x w' h x0 x1)
  have bM := pM_bd fm x
  have bE := pE_bd fm x
  by_cases hz : pM fm x = 0
  · have HO : Hid (spO fm x = false) := hid (by unfold spO; rw [decide_eq_true hz]; simp)
    have HN := hid (sp_no HO.out)
    rw [hz] at CP
    clear hz bM bE
    obtain ⟨S, hS⟩ : ∃ S, S = pS fm x := ⟨_, rfl⟩
    obtain ⟨E, hE⟩ : ∃ S, S = pE fm x := ⟨_, rfl⟩
    obtain ⟨O, hO⟩ : ∃ S, S = finB fm x := ⟨_, rfl⟩
    simp only [← hS, ← hE, ← hO] at CP
    clear hS hE hO
    cases O
    · go_enter Tryz.func47, Tryz.ntmps47
      go_wp2_with fail
      refine (CP.out _ hT.f).mono ?_
      rintro e w1 ⟨rfl, hb1⟩
      go_wp2
      go_ret3
      exact ⟨ret_uib3 HN.out.1.symm HN.out.2.symm HO.out.symm, (by repeat (first | exact bz0 _ _ | refine bz1 ?_ | refine bz2 ?_ _ | refine bz3 ?_ _ | refine bz4 ?_ hb1 | refine bz5 ?_ _ | refine bz6 ?_ _ | refine bz7 ?_ hb1))⟩
    · go_enter Tryz.func47, Tryz.ntmps47
      go_wp2_with fail
      refine (CP.out _ hT.f).mono ?_
      rintro e w1 ⟨rfl, hb1⟩
      go_wp2
      go_ret3
      exact ⟨ret_uib3 HN.out.1.symm HN.out.2.symm HO.out.symm, (by repeat (first | exact bz0 _ _ | refine bz1 ?_ | refine bz2 ?_ _ | refine bz3 ?_ _ | refine bz4 ?_ hb1 | refine bz5 ?_ _ | refine bz6 ?_ _ | refine bz7 ?_ hb1))⟩
  · cases hf : finB fm x
    · have HO : Hid (spO fm x = false) := hid (by unfold spO; rw [hf]; rfl)
      have HN := hid (sp_no HO.out)
      rw [hf] at CP
      clear hf hz bM bE
      obtain ⟨S, hS⟩ : ∃ S, S = pS fm x := ⟨_, rfl⟩
      obtain ⟨M, hM⟩ : ∃ S, S = pM fm x := ⟨_, rfl⟩
      obtain ⟨E, hE⟩ : ∃ S, S = pE fm x := ⟨_, rfl⟩
      simp only [← hS, ← hE, ← hM] at CP
      clear hS hE hM
      go_enter Tryz.func47, Tryz.ntmps47
      go_wp2_with fail
      refine (CP.out _ hT.f).mono ?_
      rintro e w1 ⟨rfl, hb1⟩
      go_wp2
      go_ret3
      exact ⟨ret_uib3 HN.out.1.symm HN.out.2.symm HO.out.symm, (by repeat (first | exact bz0 _ _ | refine bz1 ?_ | refine bz2 ?_ _ | refine bz3 ?_ _ | refine bz4 ?_ hb1 | refine bz5 ?_ _ | refine bz6 ?_ _ | refine bz7 ?_ hb1))⟩
    · have HO : Hid (spO fm x = true) := hid (by unfold spO; rw [hf, decide_eq_false hz]; rfl)
      have HB : Hid (spB fm x = FpB fm (pS fm x) (pM fm x) (-spN fm x)) := hid (by unfold spB; rw [HO.out]; rfl)
      have HE : Hid (spE fm x = pE fm x + spN fm x) := hid (by unfold spE; rw [HO.out]; rfl)
      have bN := spN_bd hz
      have CT := hid (fun w' => topBit_any (pM fm x) w' (by omega) (by omega))
      have CF := hid (fun w' h => parts_impl fm (pS fm x) (pM fm x) (-spN fm x) w' h (by omega))
      rw [← HB.out] at CF
      rw [hf] at CP
      have eN : ((bitLen (pM fm x).toNat : Nat) : Int) - 1 = spN fm x := rfl
      rw [eN] at CT
      clear eN HB
      obtain ⟨S, hS⟩ : ∃ S, S = pS fm x := ⟨_, rfl⟩
      obtain ⟨M, hM⟩ : ∃ S, S = pM fm x := ⟨_, rfl⟩
      obtain ⟨E, hE⟩ : ∃ S, S = pE fm x := ⟨_, rfl⟩
      obtain ⟨N, hN⟩ : ∃ S, S = spN fm x := ⟨_, rfl⟩
      obtain ⟨B, hB⟩ : ∃ S, S = spB fm x := ⟨_, rfl⟩
      obtain ⟨O, hO⟩ : ∃ S, S = FpO fm (pM fm x) (-spN fm x) := ⟨_, rfl⟩
      simp only [← hS, ← hE, ← hM] at CP
      simp only [← hM, ← hN] at CT
      rw [← hO] at CF
      simp only [← hB, ← hS, ← hM, ← hN] at CF
      rw [← hE, ← hN] at HE
      rw [← hM] at hz bM
      rw [← hN] at bN
      have hz' : (M == 0) = false := by simpa using hz
      rw [← hE] at bE
      have HB := hid hB
      have hwE : wrap64 (E + N) = E + N := by unfold wrap64; omega
      clear hS hM hE hN hB hO hf hz
      go_enter Tryz.func47, Tryz.ntmps47
      go_wp2_with fail
      refine (CP.out _ hT.f).mono ?_
      rintro e w1 ⟨rfl, hb1⟩
      have hT1 := hT.below hb1
      have R := R3.new w1 (.bool S) (.int .i64 M) (.int .i64 E) 112
      have bel := bel_al hb1 (.cells #[.bool S, .int .i64 M, .int .i64 E] 112)
      have hT2 := hT1.al (.cells #[.bool S, .int .i64 M, .int .i64 E] 112)
      clear hb1 hT1
      obtain ⟨c0, c1, c2, d0, d1, d2⟩ := R
      go_wp2_with fail
      refine (CT.out _).mono ?_
      rintro e w2 ⟨rfl, rfl⟩
      go_wp2_with fail
      refine (CF.out _ hT2).mono ?_
      rintro e w3 ⟨rfl, hb3⟩
      obtain ⟨c0', c1', c2', d0', d1', d2'⟩ := R3.below ⟨c0, c1, c2, d0, d1, d2⟩ hb3
      have bel3 := bel_go bel hb3
      clear c0 c1 c2 d0 d1 d2 hb3 bel
      go_wp2_with fail
      go_quiet (fail)
      go_wp2
      go_ret3
      exact ⟨ret_uib3 HB.out HE.out.symm HO.out.symm, by first | exact bel3 | exact bel_dn bel3 _ | exact (by repeat (first | exact bz0 _ _ | refine bz1 ?_ | refine bz2 ?_ _ | refine bz3 ?_ _ | refine bz4 ?_ bel3 | refine bz5 ?_ _ | refine bz6 ?_ _ | refine bz7 ?_ bel3))⟩
theorem split_spec (fm x : Int) (w : World) (x0 : 0 ≤ x) (x1 : x < 18446744073709551616) :
    Calls Tryz.prog 48 #[.int .i64 fm, .int .u64 x] w fun e w' => e = .returned (.tuple #[.int .u64 (spB fm x), .int .i64 (spE fm x), .bool (spO fm x)]) ∧ Below w.heap.size w w' := by
  have CF := hid (fun w' => spec_fin fm x w' x0 x1)
  cases hf : finB fm x
  · have HO : Hid (spO fm x = false) := hid (by unfold spO; rw [hf]; rfl)
    have HN := hid (sp_no HO.out)
    rw [hf] at CF
    clear hf
    go_enter Tryz.func48, Tryz.ntmps48
    go_wp2_with fail
    refine (CF.out _).mono ?_
    rintro e w1 ⟨rfl, hb1⟩
    go_wp2
    go_ret3
    exact ⟨ret_uib3 HN.out.1.symm HN.out.2.symm HO.out.symm, (by repeat (first | exact bz0 _ _ | refine bz1 ?_ | refine bz2 ?_ _ | refine bz3 ?_ _ | refine bz4 ?_ hb1 | refine bz5 ?_ _ | refine bz6 ?_ _ | refine bz7 ?_ hb1))⟩
  rw [hf] at CF
  have hx := fin_ok hf
  have CZ := hid (fun w' => zS fm x w' hx x0 x1)
  rw [pM_zero hx hf] at CZ
  by_cases hz : pM fm x = 0
  · have HO : Hid (spO fm x = false) := hid (by unfold spO; rw [decide_eq_true hz]; simp)
    have HN := hid (sp_no HO.out)
    rw [decide_eq_true hz] at CZ
    clear hf hx hz
    go_enter Tryz.func48, Tryz.ntmps48
    go_wp2_with fail
    refine (CF.out _).mono ?_
    rintro e w1 ⟨rfl, hb1⟩
    go_wp2_with fail
    refine (CZ.out _).mono ?_
    rintro e w2 ⟨rfl, hb2⟩
    go_wp2
    go_ret3
    exact ⟨ret_uib3 HN.out.1.symm HN.out.2.symm HO.out.symm, (by repeat (first | exact bz0 _ _ | refine bz1 ?_ | refine bz2 ?_ _ | refine bz3 ?_ _ | refine bz4 ?_ hb2 | refine bz4 ?_ hb1 | refine bz5 ?_ _ | refine bz6 ?_ _ | refine bz7 ?_ hb2 | refine bz7 ?_ hb1))⟩
  · rw [decide_eq_false hz] at CZ
    have HO : Hid (spO fm x = true) := hid (by unfold spO; rw [hf, decide_eq_false hz]; rfl)
    have HE : Hid (spE fm x = pE fm x + spN fm x) := hid (by unfold spE; rw [HO.out]; rfl)
    have bM := pM_bd fm x
    have bE := pE_bd fm x
    have bN := spN_bd hz
    have hm0 : (pM fm x).toNat ≠ 0 := by omega
    have hm1 : (pM fm x).toNat < 9223372036854775808 := by omega
    have eM : ((pM fm x).toNat : Int) = pM fm x := by omega
    have CP := hid (fun w' => sparts_any fm x w' hf x0 x1)
    have CU := hid (fun w' => uint_n (pM fm x).toNat (pS fm x) w' hm0 (by omega))
    have CB := hid (fun a c w' h => bits_n (pM fm x).toNat (pS fm x) a c w' h (by have := (Nm.bl_le_iff (pM fm x).toNat 64).2 (by omega); omega))
    have CE := hid (fun a c w' h => exact_spec fm (pS fm x) (Nm.lim (pM fm x).toNat) (-spN fm x) a c w' h (Nm.lim_dg _) (by have := lim_len (x := (pM fm x).toNat) (k := 2) (by have := (Nm.bl_le_iff (pM fm x).toNat 64).2 (by omega); omega); omega))
    have hef := ef_fp (fin_fmt hf) (pS fm x) hm0 hm1 (E := -spN fm x) (by omega) (by omega)
    have HB : Hid (spB fm x = EfB fm (pS fm x) (Nm.lim (pM fm x).toNat) (-spN fm x)) := hid (by rw [hef.1, eM]; unfold spB; rw [HO.out]; rfl)
    rw [← HB.out] at CE
    rw [eM] at CU
    have eN : ((bitLen (pM fm x).toNat : Nat) : Int) = spN fm x + 1 := by unfold spN; omega
    rw [eN] at CB
    clear HB hef eN
    obtain ⟨S, hS⟩ : ∃ S, S = pS fm x := ⟨_, rfl⟩
    obtain ⟨M, hM⟩ : ∃ S, S = pM fm x := ⟨_, rfl⟩
    obtain ⟨E, hE⟩ : ∃ S, S = pE fm x := ⟨_, rfl⟩
    obtain ⟨N, hN⟩ : ∃ S, S = spN fm x := ⟨_, rfl⟩
    obtain ⟨B, hB⟩ : ∃ S, S = spB fm x := ⟨_, rfl⟩
    obtain ⟨O, hO⟩ : ∃ S, S = EfO fm (pS fm x) (Nm.lim (pM fm x).toNat) (-spN fm x) := ⟨_, rfl⟩
    obtain ⟨L, hL⟩ : ∃ S, S = Nm.lim (pM fm x).toNat := ⟨_, rfl⟩
    rw [← hO] at CE
    simp only [← hS, ← hE, ← hM] at CP
    simp only [← hS, ← hL] at CU
    rw [← hM] at CU
    simp only [← hS, ← hL, ← hN] at CB
    simp only [← hS, ← hL, ← hN, ← hB] at CE
    rw [← hE, ← hN] at HE
    rw [← hM] at bM
    rw [← hN] at bN
    rw [← hE] at bE
    have HB := hid hB
    have hwE : wrap64 (E + N) = E + N := by unfold wrap64; omega
    have hwN : wrap64 (N + 1 - 1) = N := by unfold wrap64; omega
    have hwM : IntKind.u64.wrap M = M := by rw [IntKind.wrap_u64]; omega
    clear hS hM hE hN hB hO hL hf hz eM hm0 hm1 hx
    go_enter Tryz.func48, Tryz.ntmps48
    go_wp2_with fail
    refine (CF.out _).mono ?_
    rintro e w1 ⟨rfl, hb1⟩
    go_wp2_with fail
    refine (CZ.out _).mono ?_
    rintro e w2 ⟨rfl, hb2⟩
    go_wp2_with fail
    refine (CP.out _).mono ?_
    rintro e w3 ⟨rfl, hb3⟩
    have R := R3.new w3 (.bool S) (.int .i64 M) (.int .i64 E) 112
    have bel := bel_al (bel_go (bel_go hb1 hb2) hb3) (.cells #[.bool S, .int .i64 M, .int .i64 E] 112)
    clear hb1 hb2 hb3
    obtain ⟨c0, c1, c2, d0, d1, d2⟩ := R
    go_wp2_with fail
    refine (CU.out _).mono ?_
    rintro e w4 ⟨a4, k4, rfl, o4, hb4⟩
    have R := (R3.below ⟨c0, c1, c2, d0, d1, d2⟩ hb4).below ((Below.refl _ _).alloc (Nat.le_refl _) (.cells #[.bool S, .slice a4 L.length k4] 26))
    have X := R2.new w4 (.bool S) (.slice a4 L.length k4) 26
    have o5 := o4.alloc (.cells #[.bool S, .slice a4 L.length k4] 26)
    have bel4 := bel_al (bel_go bel hb4) (.cells #[.bool S, .slice a4 L.length k4] 26)
    clear c0 c1 c2 d0 d1 d2 hb4 bel o4
    have X' := X
    obtain ⟨x0', x1', -, -⟩ := X'
    go_wp2_with fail
    refine (CB.out a4 k4 _ o5.sl).mono ?_
    rintro e w5 ⟨rfl, hb5⟩
    clear x0' x1'
    replace X := X.below hb5
    replace R := R.below hb5
    replace o5 := o5.below hb5
    have bel5 := bel_go bel4 hb5
    clear hb5 bel4
    have X' := X
    obtain ⟨x0', x1', -, -⟩ := X'
    go_wp2_with fail
    refine (CE.out a4 k4 _ o5.sl).mono ?_
    rintro e w6 ⟨rfl, hb6⟩
    clear x0' x1'
    obtain ⟨c0, c1, c2, d0, d1, d2⟩ := R.below hb6
    have bel6 := bel_go bel5 hb6
    clear hb6 bel5 X o5
    go_wp2_with fail
    go_quiet (fail)
    go_wp2
    go_ret3
    exact ⟨ret_uib3 HB.out HE.out.symm HO.out.symm, by first | exact bel6 | exact bel_dn bel6 _ | exact (by repeat (first | exact bz0 _ _ | refine bz1 ?_ | refine bz2 ?_ _ | refine bz3 ?_ _ | refine bz4 ?_ bel6 | refine bz5 ?_ _ | refine bz6 ?_ _ | refine bz7 ?_ bel6))⟩
end Go.Proofs.YtbhfbaogmkgmiaaGreatDoor
