/-
  What is needed of ModeA, WideG, FloatE.
-/
import Derived.Test.YtpalbhkihheogaaDoorC06
import Derived.Test.YtpalbhkihheogaaDoorC20
import Derived.Test.YtpalbhkihheogaaDoorC21
set_option maxHeartbeats 16000000
set_option maxRecDepth 1000000
namespace Go.Proofs.YtpalbhkihheogaaDoor
set_option linter.unusedVariables false
set_option linter.unusedSimpArgs false
open Go.RowKit
theorem mode_impl (m : Int) (w : World) :
    Calls Tryd.prog 89 #[.int .i64 m] w fun e w' => e = .returned (.bool (modeB m)) ∧ w' = w := by
  by_cases h1 : 0 ≤ m
  · by_cases h2 : m ≤ 5
    · have HR : Hid (modeB m = true) := hid (by simp [modeB, h1, h2])
      go_enter Tryd.func89, Tryd.ntmps89
      go_wp2
      go_ret
      exact ⟨ret_bool HR.out.symm, rfl⟩
    · have HR : Hid (modeB m = false) := hid (by simp [modeB, h1, h2])
      go_enter Tryd.func89, Tryd.ntmps89
      go_wp2
      go_ret
      exact ⟨ret_bool HR.out.symm, rfl⟩
  · have HR : Hid (modeB m = false) := hid (by simp [modeB, h1])
    go_enter Tryd.func89, Tryd.ntmps89
    go_wp2
    go_ret
    exact ⟨ret_bool HR.out.symm, rfl⟩
end Go.Proofs.YtpalbhkihheogaaDoor
namespace Go.Proofs.YtpalbhkihheogaaDoor
set_option linter.unusedVariables false
set_option linter.unusedSimpArgs false
open Go.RowKit Go.Deep
def blW (ng : Bool) (zs : List Int) : Int := if okB ng zs then blL zs else -1
theorem bl_impl (ng : Bool) (a : Option Addr) (cap : Nat) (zs : List Int) (w : World) (hs : Sl .u32 w (.slice a zs.length cap) zs) (hz : Nm.Dg zs) (hl : zs.length ≤ 1048576) :
    Calls Tryd.prog 112 #[.agg #[.bool ng, .slice a zs.length cap]] w fun e w' => e = .returned (.int .i64 (blW ng zs)) ∧ Below w.heap.size w w' := by
  have hl' : zs.length ≤ 140737488355328 := by omega
  cases h1 : okB ng zs
  · have HR : Hid (blW ng zs = -1) := hid (by unfold blW; rw [h1]; rfl)
    go_enter Tryd.func112, Tryd.ntmps112
    go_wp2_with fail
    refine (ok_impl ng a cap zs _ (hs.alloc _) hl').mono ?_
    rintro e w1 ⟨rfl, hb1⟩
    go_wp2
    go_ret
    exact ⟨ret_int HR.out.symm, (by repeat (first | exact bz0 _ _ | refine bz1 ?_ | refine bz2 ?_ _ | refine bz3 ?_ _ | refine bz4 ?_ hb1 | refine bz5 ?_ _ | refine bz6 ?_ _ | refine bz7 ?_ hb1))⟩
  have HW : Hid (blW ng zs = blL zs) := hid (by unfold blW; rw [h1]; rfl)
  by_cases h0 : zs.length = 0
  · have HR : Hid (blW ng zs = 0) := hid (by rw [HW.out]; unfold blL; rw [if_pos h0])
    have hb0 : ((zs.length : Int) == 0) = true := by rw [beq_iff_eq]; omega
    clear h0
    go_enter Tryd.func112, Tryd.ntmps112
    go_wp2_with fail
    refine (ok_impl ng a cap zs _ (hs.alloc _) hl').mono ?_
    rintro e w1 ⟨rfl, hb1⟩
    obtain ⟨x10, x11⟩ := (Box.new w (.bool ng) (.slice a zs.length cap) 30).below hb1
    go_wp2
    go_ret
    exact ⟨ret_int HR.out.symm, (by repeat (first | exact bz0 _ _ | refine bz1 ?_ | refine bz2 ?_ _ | refine bz3 ?_ _ | refine bz4 ?_ hb1 | refine bz5 ?_ _ | refine bz6 ?_ _ | refine bz7 ?_ hb1))⟩
  · have hb0 : ((zs.length : Int) == 0) = false := by rw [beq_eq_false_iff_ne]; omega
    obtain ⟨z, hzk⟩ : ∃ z, z = zs.getD (zs.length - 1) 0 := ⟨_, rfl⟩
    have HR : Hid (blW ng zs = 32 * ((zs.length : Int) - 1) + bitLen z.toNat) := hid (by rw [HW.out]; unfold blL; rw [if_neg h0, hzk])
    have hd := hz.getD (zs.length - 1)
    have hb32 := bitLen_le32 z (by rw [hzk]; exact hd.1) (by rw [hzk]; exact hd.2)
    rw [← hzk] at hd
    have HZ := hid hzk
    clear hzk
    go_enter Tryd.func112, Tryd.ntmps112
    go_wp2_with fail
    refine (ok_impl ng a cap zs _ (hs.alloc _) hl').mono ?_
    rintro e w1 ⟨rfl, hb1⟩
    obtain ⟨x10, x11⟩ := (Box.new w (.bool ng) (.slice a zs.length cap) 30).below hb1
    have s1 := (hs.alloc _).below hb1
    obtain ⟨-, _, _, hc3⟩ := s1.cells
    obtain ⟨b, off, rfl, hcell⟩ := hc3 (by omega)
    have hc := hcell (zs.length - 1) (by omega)
    rw [← HZ.out] at hc
    clear hcell hc3
    go_wp2_with fail
    refine (len32_any z _ hd.1 hd.2).mono ?_
    rintro e w2 ⟨rfl, rfl⟩
    go_wp2
    go_ret
    exact ⟨ret_int HR.out.symm, (by repeat (first | exact bz0 _ _ | refine bz1 ?_ | refine bz2 ?_ _ | refine bz3 ?_ _ | refine bz4 ?_ hb1 | refine bz5 ?_ _ | refine bz6 ?_ _ | refine bz7 ?_ hb1))⟩

end Go.Proofs.YtpalbhkihheogaaDoor
namespace Go.Proofs.YtpalbhkihheogaaDoor
set_option linter.unusedVariables false
set_option linter.unusedSimpArgs false
open Go.RowKit
theorem spec_cls32 (x : Int) (w : World) (h0 : 0 ≤ x) (h1 : x < 4294967296) :
    Calls Tryd.prog 93 #[.int .i64 32, .int .u64 x] w fun e w' => e = .returned (.int .i64 (clsY 8388608 2139095040 4194304 (x % 2147483648))) ∧ Below w.heap.size w w' := by
  have hok : okF 32 x = true := by simp [okF, h1]
  obtain ⟨y, hy⟩ : ∃ y, y = x % 2147483648 := ⟨_, rfl⟩
  have e : bits .andNot .u64 x 2147483648 = y := by rw [Bt.andNot31 x h0 (by omega)]; omega
  have y0 : 0 ≤ y := by omega
  have y1 : y < 2147483648 := by omega
  have eb := Bt.bit22 y y0 (by omega)
  rw [← hy]
  clear hy
  by_cases c0 : y = 0
  · have t0 : (y == 0) = true := by simpa using c0
    have HR : Hid (clsY 8388608 2139095040 4194304 y = 0) := hid (by unfold clsY; rw [if_pos c0])
    clear c0 eb
    go_enter Tryd.func93, Tryd.ntmps93
    go_wp2_with (first | (go_at_call 58; refine (spec_ok 32 x _).mono ?_; rintro e w1 ⟨rfl, hb1⟩) | go_in)
    go_ret
    exact ⟨ret_int HR.out.symm, (by repeat (first | exact bz0 _ _ | refine bz1 ?_ | refine bz2 ?_ _ | refine bz3 ?_ _ | refine bz4 ?_ hb1 | refine bz5 ?_ _ | refine bz6 ?_ _ | refine bz7 ?_ hb1))⟩
  have t0 : (y == 0) = false := by simpa using c0
  have p0 : 0 < y := by omega
  by_cases c1 : y < 8388608
  · have HR : Hid (clsY 8388608 2139095040 4194304 y = 1) := hid (by unfold clsY; rw [if_neg c0, if_pos c1])
    clear c0 eb
    go_enter Tryd.func93, Tryd.ntmps93
    go_wp2_with (first | (go_at_call 58; refine (spec_ok 32 x _).mono ?_; rintro e w1 ⟨rfl, hb1⟩) | go_in)
    go_ret
    exact ⟨ret_int HR.out.symm, (by repeat (first | exact bz0 _ _ | refine bz1 ?_ | refine bz2 ?_ _ | refine bz3 ?_ _ | refine bz4 ?_ hb1 | refine bz5 ?_ _ | refine bz6 ?_ _ | refine bz7 ?_ hb1))⟩
  by_cases c2 : y < 2139095040
  · have HR : Hid (clsY 8388608 2139095040 4194304 y = 2) := hid (by unfold clsY; rw [if_neg c0, if_neg c1, if_pos c2])
    clear c0 eb
    go_enter Tryd.func93, Tryd.ntmps93
    go_wp2_with (first | (go_at_call 58; refine (spec_ok 32 x _).mono ?_; rintro e w1 ⟨rfl, hb1⟩) | go_in)
    go_ret
    exact ⟨ret_int HR.out.symm, (by repeat (first | exact bz0 _ _ | refine bz1 ?_ | refine bz2 ?_ _ | refine bz3 ?_ _ | refine bz4 ?_ hb1 | refine bz5 ?_ _ | refine bz6 ?_ _ | refine bz7 ?_ hb1))⟩
  by_cases c3 : y = 2139095040
  · have t3 : (y == 2139095040) = true := by simpa using c3
    have HR : Hid (clsY 8388608 2139095040 4194304 y = 3) := hid (by unfold clsY; rw [if_neg c0, if_neg c1, if_neg c2, if_pos c3])
    clear c0 eb c3
    go_enter Tryd.func93, Tryd.ntmps93
    go_wp2_with (first | (go_at_call 58; refine (spec_ok 32 x _).mono ?_; rintro e w1 ⟨rfl, hb1⟩) | go_in)
    go_ret
    exact ⟨ret_int HR.out.symm, (by repeat (first | exact bz0 _ _ | refine bz1 ?_ | refine bz2 ?_ _ | refine bz3 ?_ _ | refine bz4 ?_ hb1 | refine bz5 ?_ _ | refine bz6 ?_ _ | refine bz7 ?_ hb1))⟩
  have t3 : (y == 2139095040) = false := by simpa using c3
  have p3 : 2139095040 < y := by omega
  by_cases c4 : y / 4194304 % 2 = 1
  · have t4 : (bits .and .u64 y 4194304 != 0) = true := by rw [eb, c4]; decide
    have HR : Hid (clsY 8388608 2139095040 4194304 y = 4) := hid (by unfold clsY; rw [if_neg c0, if_neg c1, if_neg c2, if_neg c3, if_pos c4])
    clear c0 eb c3 c4
    go_enter Tryd.func93, Tryd.ntmps93
    go_wp2_with (first | (go_at_call 58; refine (spec_ok 32 x _).mono ?_; rintro e w1 ⟨rfl, hb1⟩) | go_in)
    go_ret
    exact ⟨ret_int HR.out.symm, (by repeat (first | exact bz0 _ _ | refine bz1 ?_ | refine bz2 ?_ _ | refine bz3 ?_ _ | refine bz4 ?_ hb1 | refine bz5 ?_ _ | refine bz6 ?_ _ | refine bz7 ?_ hb1))⟩
  · have t4 : (bits .and .u64 y 4194304 != 0) = false := by rw [eb, show y / 4194304 % 2 = 0 by omega]; decide
    have HR : Hid (clsY 8388608 2139095040 4194304 y = 5) := hid (by unfold clsY; rw [if_neg c0, if_neg c1, if_neg c2, if_neg c3, if_neg c4])
    clear c0 eb c3 c4
    go_enter Tryd.func93, Tryd.ntmps93
    go_wp2_with (first | (go_at_call 58; refine (spec_ok 32 x _).mono ?_; rintro e w1 ⟨rfl, hb1⟩) | go_in)
    go_ret
    exact ⟨ret_int HR.out.symm, (by repeat (first | exact bz0 _ _ | refine bz1 ?_ | refine bz2 ?_ _ | refine bz3 ?_ _ | refine bz4 ?_ hb1 | refine bz5 ?_ _ | refine bz6 ?_ _ | refine bz7 ?_ hb1))⟩
theorem spec_cls64 (x : Int) (w : World) (h0 : 0 ≤ x) (h1 : x < 18446744073709551616) :
    Calls Tryd.prog 93 #[.int .i64 64, .int .u64 x] w fun e w' => e = .returned (.int .i64 (clsY 4503599627370496 9218868437227405312 2251799813685248 (x % 9223372036854775808))) ∧ Below w.heap.size w w' := by
  have hok : okF 64 x = true := by simp [okF, h1]
  obtain ⟨y, hy⟩ : ∃ y, y = x % 9223372036854775808 := ⟨_, rfl⟩
  have e : bits .andNot .u64 x 9223372036854775808 = y := by rw [Bt.andNot63 x h0 (by omega)]; omega
  have y0 : 0 ≤ y := by omega
  have y1 : y < 9223372036854775808 := by omega
  have eb := Bt.bit51 y y0 (by omega)
  rw [← hy]
  clear hy
  by_cases c0 : y = 0
  · have t0 : (y == 0) = true := by simpa using c0
    have HR : Hid (clsY 4503599627370496 9218868437227405312 2251799813685248 y = 0) := hid (by unfold clsY; rw [if_pos c0])
    clear c0 eb
    go_enter Tryd.func93, Tryd.ntmps93
    go_wp2_with (first | (go_at_call 58; refine (spec_ok 64 x _).mono ?_; rintro e w1 ⟨rfl, hb1⟩) | go_in)
    go_ret
    exact ⟨ret_int HR.out.symm, (by repeat (first | exact bz0 _ _ | refine bz1 ?_ | refine bz2 ?_ _ | refine bz3 ?_ _ | refine bz4 ?_ hb1 | refine bz5 ?_ _ | refine bz6 ?_ _ | refine bz7 ?_ hb1))⟩
  have t0 : (y == 0) = false := by simpa using c0
  have p0 : 0 < y := by omega
  by_cases c1 : y < 4503599627370496
  · have HR : Hid (clsY 4503599627370496 9218868437227405312 2251799813685248 y = 1) := hid (by unfold clsY; rw [if_neg c0, if_pos c1])
    clear c0 eb
    go_enter Tryd.func93, Tryd.ntmps93
    go_wp2_with (first | (go_at_call 58; refine (spec_ok 64 x _).mono ?_; rintro e w1 ⟨rfl, hb1⟩) | go_in)
    go_ret
    exact ⟨ret_int HR.out.symm, (by repeat (first | exact bz0 _ _ | refine bz1 ?_ | refine bz2 ?_ _ | refine bz3 ?_ _ | refine bz4 ?_ hb1 | refine bz5 ?_ _ | refine bz6 ?_ _ | refine bz7 ?_ hb1))⟩
  by_cases c2 : y < 9218868437227405312
  · have HR : Hid (clsY 4503599627370496 9218868437227405312 2251799813685248 y = 2) := hid (by unfold clsY; rw [if_neg c0, if_neg c1, if_pos c2])
    clear c0 eb
    go_enter Tryd.func93, Tryd.ntmps93
    go_wp2_with (first | (go_at_call 58; refine (spec_ok 64 x _).mono ?_; rintro e w1 ⟨rfl, hb1⟩) | go_in)
    go_ret
    exact ⟨ret_int HR.out.symm, (by repeat (first | exact bz0 _ _ | refine bz1 ?_ | refine bz2 ?_ _ | refine bz3 ?_ _ | refine bz4 ?_ hb1 | refine bz5 ?_ _ | refine bz6 ?_ _ | refine bz7 ?_ hb1))⟩
  by_cases c3 : y = 9218868437227405312
  · have t3 : (y == 9218868437227405312) = true := by simpa using c3
    have HR : Hid (clsY 4503599627370496 9218868437227405312 2251799813685248 y = 3) := hid (by unfold clsY; rw [if_neg c0, if_neg c1, if_neg c2, if_pos c3])
    clear c0 eb c3
    go_enter Tryd.func93, Tryd.ntmps93
    go_wp2_with (first | (go_at_call 58; refine (spec_ok 64 x _).mono ?_; rintro e w1 ⟨rfl, hb1⟩) | go_in)
    go_ret
    exact ⟨ret_int HR.out.symm, (by repeat (first | exact bz0 _ _ | refine bz1 ?_ | refine bz2 ?_ _ | refine bz3 ?_ _ | refine bz4 ?_ hb1 | refine bz5 ?_ _ | refine bz6 ?_ _ | refine bz7 ?_ hb1))⟩
  have t3 : (y == 9218868437227405312) = false := by simpa using c3
  have p3 : 9218868437227405312 < y := by omega
  by_cases c4 : y / 2251799813685248 % 2 = 1
  · have t4 : (bits .and .u64 y 2251799813685248 != 0) = true := by rw [eb, c4]; decide
    have HR : Hid (clsY 4503599627370496 9218868437227405312 2251799813685248 y = 4) := hid (by unfold clsY; rw [if_neg c0, if_neg c1, if_neg c2, if_neg c3, if_pos c4])
    clear c0 eb c3 c4
    go_enter Tryd.func93, Tryd.ntmps93
    go_wp2_with (first | (go_at_call 58; refine (spec_ok 64 x _).mono ?_; rintro e w1 ⟨rfl, hb1⟩) | go_in)
    go_ret
    exact ⟨ret_int HR.out.symm, (by repeat (first | exact bz0 _ _ | refine bz1 ?_ | refine bz2 ?_ _ | refine bz3 ?_ _ | refine bz4 ?_ hb1 | refine bz5 ?_ _ | refine bz6 ?_ _ | refine bz7 ?_ hb1))⟩
  · have t4 : (bits .and .u64 y 2251799813685248 != 0) = false := by rw [eb, show y / 2251799813685248 % 2 = 0 by omega]; decide
    have HR : Hid (clsY 4503599627370496 9218868437227405312 2251799813685248 y = 5) := hid (by unfold clsY; rw [if_neg c0, if_neg c1, if_neg c2, if_neg c3, if_neg c4])
    clear c0 eb c3 c4
    go_enter Tryd.func93, Tryd.ntmps93
    go_wp2_with (first | (go_at_call 58; refine (spec_ok 64 x _).mono ?_; rintro e w1 ⟨rfl, hb1⟩) | go_in)
    go_ret
    exact ⟨ret_int HR.out.symm, (by repeat (first | exact bz0 _ _ | refine bz1 ?_ | refine bz2 ?_ _ | refine bz3 ?_ _ | refine bz4 ?_ hb1 | refine bz5 ?_ _ | refine bz6 ?_ _ | refine bz7 ?_ hb1))⟩

theorem spec_clsNo (fm x : Int) (w : World) (h : okF fm x = false) :
    Calls Tryd.prog 93 #[.int .i64 fm, .int .u64 x] w fun e w' => e = .returned (.int .i64 (-1)) ∧ Below w.heap.size w w' := by
  go_enter Tryd.func93, Tryd.ntmps93
  go_wp2_with (go_at_call 58; refine (spec_ok fm x _).mono ?_; rintro e w1 ⟨rfl, hb1⟩)
  go_ret
  exact ⟨rfl, (by repeat (first | exact bz0 _ _ | refine bz1 ?_ | refine bz2 ?_ _ | refine bz3 ?_ _ | refine bz4 ?_ hb1 | refine bz5 ?_ _ | refine bz6 ?_ _ | refine bz7 ?_ hb1))⟩
theorem spec_cls (fm x : Int) (w : World) (h0 : 0 ≤ x) (h1 : x < 18446744073709551616) :
    Calls Tryd.prog 93 #[.int .i64 fm, .int .u64 x] w fun e w' => e = .returned (.int .i64 (cls fm x)) ∧ Below w.heap.size w w' := by
  cases h : okF fm x
  · rw [cls_no h]; exact spec_clsNo fm x w h
  · rcases okF_cases h with ⟨rfl, hx⟩ | rfl
    · rw [cls32 hx]; exact spec_cls32 x w h0 hx
    · rw [cls64]; exact spec_cls64 x w h0 h1
end Go.Proofs.YtpalbhkihheogaaDoor
