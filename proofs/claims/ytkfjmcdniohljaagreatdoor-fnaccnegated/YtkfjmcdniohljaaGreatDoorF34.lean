/-
  What is needed of AccG.
-/
import Derived.Test.YtkfjmcdniohljaaGreatDoorF32
set_option maxHeartbeats 16000000
set_option maxRecDepth 1000000
namespace Go.Proofs.YtkfjmcdniohljaaGreatDoor
set_option linter.unusedVariables false
set_option linter.unusedSimpArgs false
open Go.RowKit Go.Deep
def clB (nan inf sg mode T : Int) (nn bd pl mi am z : Bool) (rb : Int) : Int := if bd || (pl && mi) || nn then nan else if pl || mi then sgn sg inf mi else if z then sgn sg 0 (am || (decide (mode = 3) && decide (0 < T))) else rb
def clF (nn bd pl mi z : Bool) (rf : Int) : Int := if bd || (pl && mi) then 8 else if nn || pl || mi || z then 0 else rf
theorem cl_bd (nan inf sg mode T : Int) (nn pl mi am z : Bool) (rb rf : Int) : clB nan inf sg mode T nn true pl mi am z rb = nan ∧ clF nn true pl mi z rf = 8 := ⟨rfl, rfl⟩
theorem cl_pm (nan inf sg mode T : Int) (nn bd am z : Bool) (rb rf : Int) : clB nan inf sg mode T nn bd true true am z rb = nan ∧ clF nn bd true true z rf = 8 := by cases bd <;> exact ⟨rfl, rfl⟩
theorem cl_nn (nan inf sg mode T : Int) (pl mi am z : Bool) (h : (pl && mi) = false) (rb rf : Int) : clB nan inf sg mode T true false pl mi am z rb = nan ∧ clF true false pl mi z rf = 0 := by cases pl <;> cases mi <;> first | exact ⟨rfl, rfl⟩ | cases h
theorem cl_pl (nan inf sg mode T : Int) (am z : Bool) (rb rf : Int) : clB nan inf sg mode T false false true false am z rb = sgn sg inf false ∧ clF false false true false z rf = 0 := ⟨rfl, rfl⟩
theorem cl_mi (nan inf sg mode T : Int) (am z : Bool) (rb rf : Int) : clB nan inf sg mode T false false false true am z rb = sgn sg inf true ∧ clF false false false true z rf = 0 := ⟨rfl, rfl⟩
theorem cl_z (nan inf sg mode T : Int) (am : Bool) (rb rf : Int) : clB nan inf sg mode T false false false false am true rb = sgn sg 0 (am || (decide (mode = 3) && decide (0 < T))) ∧ clF false false false false true rf = 0 := ⟨rfl, rfl⟩
theorem cl_r (nan inf sg mode T : Int) (am : Bool) (rb rf : Int) : clB nan inf sg mode T false false false false am false rb = rb ∧ clF false false false false false rf = rf := ⟨rfl, rfl⟩
theorem mrd_32 (T : Int) (nn bd pl mi am : Bool) (mode : Int) (ng : Bool) (zs : List Int) (e : Int) (p : Option Addr) (cap : Nat) (w : World) (hT : T3 w) (hs : Sl .u32 w (.slice p zs.length cap) zs) (hz : Nm.Dg zs) (hl : zs.length ≤ 1048576) (rb rf : Int) (hrb : rb = RdB 32 mode ng zs e) (hrf : rf = RdF 32 mode ng zs e) (hro : RdO 32 mode ng zs e = true) :
  Calls Tryz.prog 146 #[.agg #[.int .i64 T, .bool nn, .bool bd, .bool pl, .bool mi, .bool am], .int .i64 32, .int .i64 mode, .agg #[.bool ng, .slice p zs.length cap], .int .i64 e] w fun x w' => x = .returned (.tuple #[.int .u64 (clB 2143289344 2139095040 2147483648 mode T nn bd pl mi am (decide (zs.length = 0)) rb), .int .i64 (clF nn bd pl mi (decide (zs.length = 0)) rf), .bool true]) ∧ Below w.heap.size w w' := by
 have CR := hid (fun w' h h' => rounded_impl 32 mode ng zs e p cap w' h h' hz hl)
 rw [← hrb, ← hrf, hro] at CR
 clear hrb hrf hro
 obtain ⟨z, hz0⟩ : ∃ z, z = decide (zs.length = 0) := ⟨_, rfl⟩
 rw [← hz0]
 have hb0 : ((zs.length : Int) == 0) = z := by rw [hz0, Bool.eq_iff_iff, beq_iff_eq, decide_eq_true_eq]; omega
 clear hz0 hz
 cases bd with
 | true =>
  have HR := hid (cl_bd 2143289344 2139095040 2147483648 mode T nn pl mi am z rb rf)
  clear CR
  go_enter Tryz.func146, Tryz.ntmps146
  go_wp2_with fail
  refine (impl_nan32 _ ((hT.s.f.al _).al _)).mono ?_
  rintro x w1 ⟨rfl, hb1⟩
  go_wp2
  go_ret3
  exact ⟨ret_uib2 HR.out.1.symm HR.out.2.symm rfl, (by repeat (first | exact bz0 _ _ | refine bz1 ?_ | refine bz2 ?_ _ | refine bz3 ?_ _ | refine bz4 ?_ hb1 | refine bz5 ?_ _ | refine bz6 ?_ _ | refine bz7 ?_ hb1))⟩
 | false =>
 cases hpm : (pl && mi) with
 | true =>
  obtain ⟨rfl, rfl⟩ : pl = true ∧ mi = true := by simpa using hpm
  have HR := hid (cl_pm 2143289344 2139095040 2147483648 mode T nn false am z rb rf)
  clear CR hpm
  go_enter Tryz.func146, Tryz.ntmps146
  go_wp2_with fail
  refine (impl_nan32 _ ((hT.s.f.al _).al _)).mono ?_
  rintro x w1 ⟨rfl, hb1⟩
  go_wp2
  go_ret3
  exact ⟨ret_uib2 HR.out.1.symm HR.out.2.symm rfl, (by repeat (first | exact bz0 _ _ | refine bz1 ?_ | refine bz2 ?_ _ | refine bz3 ?_ _ | refine bz4 ?_ hb1 | refine bz5 ?_ _ | refine bz6 ?_ _ | refine bz7 ?_ hb1))⟩
 | false =>
 cases nn with
 | true =>
  have HR := hid (cl_nn 2143289344 2139095040 2147483648 mode T pl mi am z hpm rb rf)
  clear CR
  cases pl with
  | false =>
   clear hpm
   go_enter Tryz.func146, Tryz.ntmps146
   go_wp2_with fail
   refine (impl_nan32 _ ((hT.s.f.al _).al _)).mono ?_
   rintro x w1 ⟨rfl, hb1⟩
   go_wp2
   go_ret3
   exact ⟨ret_uib2 HR.out.1.symm HR.out.2.symm rfl, (by repeat (first | exact bz0 _ _ | refine bz1 ?_ | refine bz2 ?_ _ | refine bz3 ?_ _ | refine bz4 ?_ hb1 | refine bz5 ?_ _ | refine bz6 ?_ _ | refine bz7 ?_ hb1))⟩
  | true =>
   obtain rfl : mi = false := by simpa using hpm
   clear hpm
   go_enter Tryz.func146, Tryz.ntmps146
   go_wp2_with fail
   refine (impl_nan32 _ ((hT.s.f.al _).al _)).mono ?_
   rintro x w1 ⟨rfl, hb1⟩
   go_wp2
   go_ret3
   exact ⟨ret_uib2 HR.out.1.symm HR.out.2.symm rfl, (by repeat (first | exact bz0 _ _ | refine bz1 ?_ | refine bz2 ?_ _ | refine bz3 ?_ _ | refine bz4 ?_ hb1 | refine bz5 ?_ _ | refine bz6 ?_ _ | refine bz7 ?_ hb1))⟩
 | false =>
 cases pl with
 | true =>
  obtain rfl : mi = false := by simpa using hpm
  have HR := hid (cl_pl 2143289344 2139095040 2147483648 mode T am z rb rf)
  clear CR hpm
  go_enter Tryz.func146, Tryz.ntmps146
  go_wp2_with fail
  refine (impl_Inf32 false _ ((hT.s.f.al _).al _)).mono ?_
  rintro x w1 ⟨rfl, hb1⟩
  go_wp2
  go_ret3
  exact ⟨ret_uib2 HR.out.1.symm HR.out.2.symm rfl, (by repeat (first | exact bz0 _ _ | refine bz1 ?_ | refine bz2 ?_ _ | refine bz3 ?_ _ | refine bz4 ?_ hb1 | refine bz5 ?_ _ | refine bz6 ?_ _ | refine bz7 ?_ hb1))⟩
 | false =>
 clear hpm
 cases mi with
 | true =>
  have HR := hid (cl_mi 2143289344 2139095040 2147483648 mode T am z rb rf)
  clear CR
  go_enter Tryz.func146, Tryz.ntmps146
  go_wp2_with fail
  refine (impl_Inf32 true _ ((hT.s.f.al _).al _)).mono ?_
  rintro x w1 ⟨rfl, hb1⟩
  go_wp2
  go_ret3
  exact ⟨ret_uib2 HR.out.1.symm HR.out.2.symm rfl, (by repeat (first | exact bz0 _ _ | refine bz1 ?_ | refine bz2 ?_ _ | refine bz3 ?_ _ | refine bz4 ?_ hb1 | refine bz5 ?_ _ | refine bz6 ?_ _ | refine bz7 ?_ hb1))⟩
 | false =>
 cases z with
 | false =>
  have HR := hid (cl_r 2143289344 2139095040 2147483648 mode T am rb rf)
  go_enter Tryz.func146, Tryz.ntmps146
  go_wp2_with fail
  refine (CR.out _ ((hT.al _).al _) ((hs.alloc _).alloc _)).mono ?_
  rintro x w1 ⟨rfl, hb1⟩
  go_wp2
  go_ret3
  exact ⟨ret_uib2 HR.out.1.symm HR.out.2.symm rfl, (by repeat (first | exact bz0 _ _ | refine bz1 ?_ | refine bz2 ?_ _ | refine bz3 ?_ _ | refine bz4 ?_ hb1 | refine bz5 ?_ _ | refine bz6 ?_ _ | refine bz7 ?_ hb1))⟩
 | true =>
  have HR := hid (cl_z 2143289344 2139095040 2147483648 mode T am rb rf)
  clear CR
  cases am with
  | true =>
   go_enter Tryz.func146, Tryz.ntmps146
   go_wp2_with fail
   refine (impl_Zero32 true _ ((hT.s.f.al _).al _)).mono ?_
   rintro x w1 ⟨rfl, hb1⟩
   go_wp2
   go_ret3
   exact ⟨ret_uib2 HR.out.1.symm HR.out.2.symm rfl, (by repeat (first | exact bz0 _ _ | refine bz1 ?_ | refine bz2 ?_ _ | refine bz3 ?_ _ | refine bz4 ?_ hb1 | refine bz5 ?_ _ | refine bz6 ?_ _ | refine bz7 ?_ hb1))⟩
  | false =>
   by_cases hm3 : mode = 3
   ·subst hm3
    by_cases ht : 0 < T
    ·rw [decide_eq_true ht] at HR
     go_enter Tryz.func146, Tryz.ntmps146
     go_wp2_with fail
     refine (impl_Zero32 true _ ((hT.s.f.al _).al _)).mono ?_
     rintro x w1 ⟨rfl, hb1⟩
     go_wp2
     go_ret3
     exact ⟨ret_uib2 HR.out.1.symm HR.out.2.symm rfl, (by repeat (first | exact bz0 _ _ | refine bz1 ?_ | refine bz2 ?_ _ | refine bz3 ?_ _ | refine bz4 ?_ hb1 | refine bz5 ?_ _ | refine bz6 ?_ _ | refine bz7 ?_ hb1))⟩
    ·rw [decide_eq_false ht] at HR
     go_enter Tryz.func146, Tryz.ntmps146
     go_wp2_with fail
     refine (impl_Zero32 false _ ((hT.s.f.al _).al _)).mono ?_
     rintro x w1 ⟨rfl, hb1⟩
     go_wp2
     go_ret3
     exact ⟨ret_uib2 HR.out.1.symm HR.out.2.symm rfl, (by repeat (first | exact bz0 _ _ | refine bz1 ?_ | refine bz2 ?_ _ | refine bz3 ?_ _ | refine bz4 ?_ hb1 | refine bz5 ?_ _ | refine bz6 ?_ _ | refine bz7 ?_ hb1))⟩
   ·have hm3' : (mode == 3) = false := by simpa using hm3
    rw [decide_eq_false hm3] at HR
    clear hm3
    go_enter Tryz.func146, Tryz.ntmps146
    go_wp2_with fail
    refine (impl_Zero32 false _ ((hT.s.f.al _).al _)).mono ?_
    rintro x w1 ⟨rfl, hb1⟩
    go_wp2
    go_ret3
    exact ⟨ret_uib2 HR.out.1.symm HR.out.2.symm rfl, (by repeat (first | exact bz0 _ _ | refine bz1 ?_ | refine bz2 ?_ _ | refine bz3 ?_ _ | refine bz4 ?_ hb1 | refine bz5 ?_ _ | refine bz6 ?_ _ | refine bz7 ?_ hb1))⟩
theorem mrd_64 (T : Int) (nn bd pl mi am : Bool) (mode : Int) (ng : Bool) (zs : List Int) (e : Int) (p : Option Addr) (cap : Nat) (w : World) (hT : T3 w) (hs : Sl .u32 w (.slice p zs.length cap) zs) (hz : Nm.Dg zs) (hl : zs.length ≤ 1048576) (rb rf : Int) (hrb : rb = RdB 64 mode ng zs e) (hrf : rf = RdF 64 mode ng zs e) (hro : RdO 64 mode ng zs e = true) :
  Calls Tryz.prog 146 #[.agg #[.int .i64 T, .bool nn, .bool bd, .bool pl, .bool mi, .bool am], .int .i64 64, .int .i64 mode, .agg #[.bool ng, .slice p zs.length cap], .int .i64 e] w fun x w' => x = .returned (.tuple #[.int .u64 (clB 9221120237041090560 9218868437227405312 9223372036854775808 mode T nn bd pl mi am (decide (zs.length = 0)) rb), .int .i64 (clF nn bd pl mi (decide (zs.length = 0)) rf), .bool true]) ∧ Below w.heap.size w w' := by
 have CR := hid (fun w' h h' => rounded_impl 64 mode ng zs e p cap w' h h' hz hl)
 rw [← hrb, ← hrf, hro] at CR
 clear hrb hrf hro
 obtain ⟨z, hz0⟩ : ∃ z, z = decide (zs.length = 0) := ⟨_, rfl⟩
 rw [← hz0]
 have hb0 : ((zs.length : Int) == 0) = z := by rw [hz0, Bool.eq_iff_iff, beq_iff_eq, decide_eq_true_eq]; omega
 clear hz0 hz
 cases bd with
 | true =>
  have HR := hid (cl_bd 9221120237041090560 9218868437227405312 9223372036854775808 mode T nn pl mi am z rb rf)
  clear CR
  go_enter Tryz.func146, Tryz.ntmps146
  go_wp2_with fail
  refine (impl_nan64 _ ((hT.s.f.al _).al _)).mono ?_
  rintro x w1 ⟨rfl, hb1⟩
  go_wp2
  go_ret3
  exact ⟨ret_uib2 HR.out.1.symm HR.out.2.symm rfl, (by repeat (first | exact bz0 _ _ | refine bz1 ?_ | refine bz2 ?_ _ | refine bz3 ?_ _ | refine bz4 ?_ hb1 | refine bz5 ?_ _ | refine bz6 ?_ _ | refine bz7 ?_ hb1))⟩
 | false =>
 cases hpm : (pl && mi) with
 | true =>
  obtain ⟨rfl, rfl⟩ : pl = true ∧ mi = true := by simpa using hpm
  have HR := hid (cl_pm 9221120237041090560 9218868437227405312 9223372036854775808 mode T nn false am z rb rf)
  clear CR hpm
  go_enter Tryz.func146, Tryz.ntmps146
  go_wp2_with fail
  refine (impl_nan64 _ ((hT.s.f.al _).al _)).mono ?_
  rintro x w1 ⟨rfl, hb1⟩
  go_wp2
  go_ret3
  exact ⟨ret_uib2 HR.out.1.symm HR.out.2.symm rfl, (by repeat (first | exact bz0 _ _ | refine bz1 ?_ | refine bz2 ?_ _ | refine bz3 ?_ _ | refine bz4 ?_ hb1 | refine bz5 ?_ _ | refine bz6 ?_ _ | refine bz7 ?_ hb1))⟩
 | false =>
 cases nn with
 | true =>
  have HR := hid (cl_nn 9221120237041090560 9218868437227405312 9223372036854775808 mode T pl mi am z hpm rb rf)
  clear CR
  cases pl with
  | false =>
   clear hpm
   go_enter Tryz.func146, Tryz.ntmps146
   go_wp2_with fail
   refine (impl_nan64 _ ((hT.s.f.al _).al _)).mono ?_
   rintro x w1 ⟨rfl, hb1⟩
   go_wp2
   go_ret3
   exact ⟨ret_uib2 HR.out.1.symm HR.out.2.symm rfl, (by repeat (first | exact bz0 _ _ | refine bz1 ?_ | refine bz2 ?_ _ | refine bz3 ?_ _ | refine bz4 ?_ hb1 | refine bz5 ?_ _ | refine bz6 ?_ _ | refine bz7 ?_ hb1))⟩
  | true =>
   obtain rfl : mi = false := by simpa using hpm
   clear hpm
   go_enter Tryz.func146, Tryz.ntmps146
   go_wp2_with fail
   refine (impl_nan64 _ ((hT.s.f.al _).al _)).mono ?_
   rintro x w1 ⟨rfl, hb1⟩
   go_wp2
   go_ret3
   exact ⟨ret_uib2 HR.out.1.symm HR.out.2.symm rfl, (by repeat (first | exact bz0 _ _ | refine bz1 ?_ | refine bz2 ?_ _ | refine bz3 ?_ _ | refine bz4 ?_ hb1 | refine bz5 ?_ _ | refine bz6 ?_ _ | refine bz7 ?_ hb1))⟩
 | false =>
 cases pl with
 | true =>
  obtain rfl : mi = false := by simpa using hpm
  have HR := hid (cl_pl 9221120237041090560 9218868437227405312 9223372036854775808 mode T am z rb rf)
  clear CR hpm
  go_enter Tryz.func146, Tryz.ntmps146
  go_wp2_with fail
  refine (impl_Inf64 false _ ((hT.s.f.al _).al _)).mono ?_
  rintro x w1 ⟨rfl, hb1⟩
  go_wp2
  go_ret3
  exact ⟨ret_uib2 HR.out.1.symm HR.out.2.symm rfl, (by repeat (first | exact bz0 _ _ | refine bz1 ?_ | refine bz2 ?_ _ | refine bz3 ?_ _ | refine bz4 ?_ hb1 | refine bz5 ?_ _ | refine bz6 ?_ _ | refine bz7 ?_ hb1))⟩
 | false =>
 clear hpm
 cases mi with
 | true =>
  have HR := hid (cl_mi 9221120237041090560 9218868437227405312 9223372036854775808 mode T am z rb rf)
  clear CR
  go_enter Tryz.func146, Tryz.ntmps146
  go_wp2_with fail
  refine (impl_Inf64 true _ ((hT.s.f.al _).al _)).mono ?_
  rintro x w1 ⟨rfl, hb1⟩
  go_wp2
  go_ret3
  exact ⟨ret_uib2 HR.out.1.symm HR.out.2.symm rfl, (by repeat (first | exact bz0 _ _ | refine bz1 ?_ | refine bz2 ?_ _ | refine bz3 ?_ _ | refine bz4 ?_ hb1 | refine bz5 ?_ _ | refine bz6 ?_ _ | refine bz7 ?_ hb1))⟩
 | false =>
 cases z with
 | false =>
  have HR := hid (cl_r 9221120237041090560 9218868437227405312 9223372036854775808 mode T am rb rf)
  go_enter Tryz.func146, Tryz.ntmps146
  go_wp2_with fail
  refine (CR.out _ ((hT.al _).al _) ((hs.alloc _).alloc _)).mono ?_
  rintro x w1 ⟨rfl, hb1⟩
  go_wp2
  go_ret3
  exact ⟨ret_uib2 HR.out.1.symm HR.out.2.symm rfl, (by repeat (first | exact bz0 _ _ | refine bz1 ?_ | refine bz2 ?_ _ | refine bz3 ?_ _ | refine bz4 ?_ hb1 | refine bz5 ?_ _ | refine bz6 ?_ _ | refine bz7 ?_ hb1))⟩
 | true =>
  have HR := hid (cl_z 9221120237041090560 9218868437227405312 9223372036854775808 mode T am rb rf)
  clear CR
  cases am with
  | true =>
   go_enter Tryz.func146, Tryz.ntmps146
   go_wp2_with fail
   refine (impl_Zero64 true _ ((hT.s.f.al _).al _)).mono ?_
   rintro x w1 ⟨rfl, hb1⟩
   go_wp2
   go_ret3
   exact ⟨ret_uib2 HR.out.1.symm HR.out.2.symm rfl, (by repeat (first | exact bz0 _ _ | refine bz1 ?_ | refine bz2 ?_ _ | refine bz3 ?_ _ | refine bz4 ?_ hb1 | refine bz5 ?_ _ | refine bz6 ?_ _ | refine bz7 ?_ hb1))⟩
  | false =>
   by_cases hm3 : mode = 3
   ·subst hm3
    by_cases ht : 0 < T
    ·rw [decide_eq_true ht] at HR
     go_enter Tryz.func146, Tryz.ntmps146
     go_wp2_with fail
     refine (impl_Zero64 true _ ((hT.s.f.al _).al _)).mono ?_
     rintro x w1 ⟨rfl, hb1⟩
     go_wp2
     go_ret3
     exact ⟨ret_uib2 HR.out.1.symm HR.out.2.symm rfl, (by repeat (first | exact bz0 _ _ | refine bz1 ?_ | refine bz2 ?_ _ | refine bz3 ?_ _ | refine bz4 ?_ hb1 | refine bz5 ?_ _ | refine bz6 ?_ _ | refine bz7 ?_ hb1))⟩
    ·rw [decide_eq_false ht] at HR
     go_enter Tryz.func146, Tryz.ntmps146
     go_wp2_with fail
     refine (impl_Zero64 false _ ((hT.s.f.al _).al _)).mono ?_
     rintro x w1 ⟨rfl, hb1⟩
     go_wp2
     go_ret3
     exact ⟨ret_uib2 HR.out.1.symm HR.out.2.symm rfl, (by repeat (first | exact bz0 _ _ | refine bz1 ?_ | refine bz2 ?_ _ | refine bz3 ?_ _ | refine bz4 ?_ hb1 | refine bz5 ?_ _ | refine bz6 ?_ _ | refine bz7 ?_ hb1))⟩
   ·have hm3' : (mode == 3) = false := by simpa using hm3
    rw [decide_eq_false hm3] at HR
    clear hm3
    go_enter Tryz.func146, Tryz.ntmps146
    go_wp2_with fail
    refine (impl_Zero64 false _ ((hT.s.f.al _).al _)).mono ?_
    rintro x w1 ⟨rfl, hb1⟩
    go_wp2
    go_ret3
    exact ⟨ret_uib2 HR.out.1.symm HR.out.2.symm rfl, (by repeat (first | exact bz0 _ _ | refine bz1 ?_ | refine bz2 ?_ _ | refine bz3 ?_ _ | refine bz4 ?_ hb1 | refine bz5 ?_ _ | refine bz6 ?_ _ | refine bz7 ?_ hb1))⟩
end Go.Proofs.YtkfjmcdniohljaaGreatDoor
