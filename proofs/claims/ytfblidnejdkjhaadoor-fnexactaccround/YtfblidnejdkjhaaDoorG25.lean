/-
  Several texts in one: AccG, AccI, AccJ, AccK.
-/
import Derived.Test.YtfblidnejdkjhaaDoorG22
/-
  An accumulator rounded: by the program and by the specification.
-/
namespace Go.Proofs.YtfblidnejdkjhaaDoor
set_option linter.unusedVariables false
set_option linter.unusedSimpArgs false
open Go.RowKit Go.Deep
/-- What comes of terms with these marks: nan, inf, sg: the format's; z: their sum is 0; rb, rf: else that. -/
def clB (nan inf sg mode T : Int) (nn bd pl mi am z : Bool) (rb : Int) : Int := if bd || (pl && mi) || nn then nan else if pl || mi then sgn sg inf mi else if z then sgn sg 0 (am || (decide (mode = 3) && decide (0 < T))) else rb
def clF (nn bd pl mi z : Bool) (rf : Int) : Int := if bd || (pl && mi) then 8 else if nn || pl || mi || z then 0 else rf
theorem cl_bd (nan inf sg mode T : Int) (nn pl mi am z : Bool) (rb rf : Int) : clB nan inf sg mode T nn true pl mi am z rb = nan ∧ clF nn true pl mi z rf = 8 := ⟨rfl, rfl⟩
theorem cl_pm (nan inf sg mode T : Int) (nn bd am z : Bool) (rb rf : Int) : clB nan inf sg mode T nn bd true true am z rb = nan ∧ clF nn bd true true z rf = 8 := by cases bd <;> exact ⟨rfl, rfl⟩
theorem cl_nn (nan inf sg mode T : Int) (pl mi am z : Bool) (h : (pl && mi) = false) (rb rf : Int) : clB nan inf sg mode T true false pl mi am z rb = nan ∧ clF true false pl mi z rf = 0 := by cases pl <;> cases mi <;> first | exact ⟨rfl, rfl⟩ | cases h
theorem cl_pl (nan inf sg mode T : Int) (am z : Bool) (rb rf : Int) : clB nan inf sg mode T false false true false am z rb = sgn sg inf false ∧ clF false false true false z rf = 0 := ⟨rfl, rfl⟩
theorem cl_mi (nan inf sg mode T : Int) (am z : Bool) (rb rf : Int) : clB nan inf sg mode T false false false true am z rb = sgn sg inf true ∧ clF false false false true z rf = 0 := ⟨rfl, rfl⟩
theorem cl_z (nan inf sg mode T : Int) (am : Bool) (rb rf : Int) : clB nan inf sg mode T false false false false am true rb = sgn sg 0 (am || (decide (mode = 3) && decide (0 < T))) ∧ clF false false false false true rf = 0 := ⟨rfl, rfl⟩
theorem cl_r (nan inf sg mode T : Int) (am : Bool) (rb rf : Int) : clB nan inf sg mode T false false false false am false rb = rb ∧ clF false false false false false rf = rf := ⟨rfl, rfl⟩
set_option maxHeartbeats 4000000 in
set_option maxRecDepth 100000 in
theorem mrd_32 (T : Int) (nn bd pl mi am : Bool) (mode : Int) (ng : Bool) (zs : List Int) (e : Int) (p : Option Addr) (cap : Nat) (w : World) (hT : T3 w) (hs : Sl .u32 w (.slice p zs.length cap) zs) (hz : Nm.Dg zs) (hl : zs.length ≤ 1048576) (rb rf : Int) (hrb : rb = RdB 32 mode ng zs e) (hrf : rf = RdF 32 mode ng zs e) (hro : RdO 32 mode ng zs e = true) :
    Calls Tryd.prog 50 #[.agg #[.int .i64 T, .bool nn, .bool bd, .bool pl, .bool mi, .bool am], .int .i64 32, .int .i64 mode, .agg #[.bool ng, .slice p zs.length cap], .int .i64 e] w fun x w' => x = .returned (.tuple #[.int .u64 (clB 2143289344 2139095040 2147483648 mode T nn bd pl mi am (decide (zs.length = 0)) rb), .int .i64 (clF nn bd pl mi (decide (zs.length = 0)) rf), .bool true]) ∧ Below w.heap.size w w' := by
  have CR := hid (fun w' h h' => rounded_impl 32 mode ng zs e p cap w' h h' hz hl)
  rw [← hrb, ← hrf, hro] at CR
  clear hrb hrf hro
  obtain ⟨z, hz0⟩ : ∃ z, z = decide (zs.length = 0) := ⟨_, rfl⟩
  rw [← hz0]
  have hb0 : ((zs.length : Int) == 0) = z := by rw [hz0, Bool.eq_iff_iff, beq_iff_eq, decide_eq_true_eq]; omega
  clear hz0 hz
  cases bd with
  | true =>
    have HR := hid (cl_bd 2143289344 2139095040 2147483648 mode T nn pl mi am z rb rf)
    clear CR
    go_enter Tryd.func50, Tryd.ntmps50
    go_wp2_with fail
    refine (impl_nan32 _ ((hT.s.f.al _).al _)).mono ?_
    rintro x w1 ⟨rfl, hb1⟩
    go_wp2
    go_ret3
    exact ⟨ret_uib2 HR.out.1.symm HR.out.2.symm rfl, (by repeat (first | exact Below.refl _ _ | refine Below.drew ?_ | refine bel_dn ?_ _ | refine bel_al ?_ _ | refine bel_go ?_ hb1 | refine Below.setCell ?_ (by first | omega | (simp; done) | (simp; omega)) _ | refine Below.alloc ?_ (by first | omega | (simp; done) | (simp; omega)) _ | refine Below.trans ?_ (Below.mono hb1 (by first | omega | (simp; done) | (simp; omega)))))⟩
  | false =>
  cases hpm : (pl && mi) with
  | true =>
    obtain ⟨rfl, rfl⟩ : pl = true ∧ mi = true := by simpa using hpm
    have HR := hid (cl_pm 2143289344 2139095040 2147483648 mode T nn false am z rb rf)
    clear CR hpm
    go_enter Tryd.func50, Tryd.ntmps50
    go_wp2_with fail
    refine (impl_nan32 _ ((hT.s.f.al _).al _)).mono ?_
    rintro x w1 ⟨rfl, hb1⟩
    go_wp2
    go_ret3
    exact ⟨ret_uib2 HR.out.1.symm HR.out.2.symm rfl, (by repeat (first | exact Below.refl _ _ | refine Below.drew ?_ | refine bel_dn ?_ _ | refine bel_al ?_ _ | refine bel_go ?_ hb1 | refine Below.setCell ?_ (by first | omega | (simp; done) | (simp; omega)) _ | refine Below.alloc ?_ (by first | omega | (simp; done) | (simp; omega)) _ | refine Below.trans ?_ (Below.mono hb1 (by first | omega | (simp; done) | (simp; omega)))))⟩
  | false =>
  cases nn with
  | true =>
    have HR := hid (cl_nn 2143289344 2139095040 2147483648 mode T pl mi am z hpm rb rf)
    clear CR
    cases pl with
    | false =>
      clear hpm
      go_enter Tryd.func50, Tryd.ntmps50
      go_wp2_with fail
      refine (impl_nan32 _ ((hT.s.f.al _).al _)).mono ?_
      rintro x w1 ⟨rfl, hb1⟩
      go_wp2
      go_ret3
      exact ⟨ret_uib2 HR.out.1.symm HR.out.2.symm rfl, (by repeat (first | exact Below.refl _ _ | refine Below.drew ?_ | refine bel_dn ?_ _ | refine bel_al ?_ _ | refine bel_go ?_ hb1 | refine Below.setCell ?_ (by first | omega | (simp; done) | (simp; omega)) _ | refine Below.alloc ?_ (by first | omega | (simp; done) | (simp; omega)) _ | refine Below.trans ?_ (Below.mono hb1 (by first | omega | (simp; done) | (simp; omega)))))⟩
    | true =>
      obtain rfl : mi = false := by simpa using hpm
      clear hpm
      go_enter Tryd.func50, Tryd.ntmps50
      go_wp2_with fail
      refine (impl_nan32 _ ((hT.s.f.al _).al _)).mono ?_
      rintro x w1 ⟨rfl, hb1⟩
      go_wp2
      go_ret3
      exact ⟨ret_uib2 HR.out.1.symm HR.out.2.symm rfl, (by repeat (first | exact Below.refl _ _ | refine Below.drew ?_ | refine bel_dn ?_ _ | refine bel_al ?_ _ | refine bel_go ?_ hb1 | refine Below.setCell ?_ (by first | omega | (simp; done) | (simp; omega)) _ | refine Below.alloc ?_ (by first | omega | (simp; done) | (simp; omega)) _ | refine Below.trans ?_ (Below.mono hb1 (by first | omega | (simp; done) | (simp; omega)))))⟩
  | false =>
  cases pl with
  | true =>
    obtain rfl : mi = false := by simpa using hpm
    have HR := hid (cl_pl 2143289344 2139095040 2147483648 mode T am z rb rf)
    clear CR hpm
    go_enter Tryd.func50, Tryd.ntmps50
    go_wp2_with fail
    refine (impl_Inf32 false _ ((hT.s.f.al _).al _)).mono ?_
    rintro x w1 ⟨rfl, hb1⟩
    go_wp2
    go_ret3
    exact ⟨ret_uib2 HR.out.1.symm HR.out.2.symm rfl, (by repeat (first | exact Below.refl _ _ | refine Below.drew ?_ | refine bel_dn ?_ _ | refine bel_al ?_ _ | refine bel_go ?_ hb1 | refine Below.setCell ?_ (by first | omega | (simp; done) | (simp; omega)) _ | refine Below.alloc ?_ (by first | omega | (simp; done) | (simp; omega)) _ | refine Below.trans ?_ (Below.mono hb1 (by first | omega | (simp; done) | (simp; omega)))))⟩
  | false =>
  clear hpm
  cases mi with
  | true =>
    have HR := hid (cl_mi 2143289344 2139095040 2147483648 mode T am z rb rf)
    clear CR
    go_enter Tryd.func50, Tryd.ntmps50
    go_wp2_with fail
    refine (impl_Inf32 true _ ((hT.s.f.al _).al _)).mono ?_
    rintro x w1 ⟨rfl, hb1⟩
    go_wp2
    go_ret3
    exact ⟨ret_uib2 HR.out.1.symm HR.out.2.symm rfl, (by repeat (first | exact Below.refl _ _ | refine Below.drew ?_ | refine bel_dn ?_ _ | refine bel_al ?_ _ | refine bel_go ?_ hb1 | refine Below.setCell ?_ (by first | omega | (simp; done) | (simp; omega)) _ | refine Below.alloc ?_ (by first | omega | (simp; done) | (simp; omega)) _ | refine Below.trans ?_ (Below.mono hb1 (by first | omega | (simp; done) | (simp; omega)))))⟩
  | false =>
  cases z with
  | false =>
    have HR := hid (cl_r 2143289344 2139095040 2147483648 mode T am rb rf)
    go_enter Tryd.func50, Tryd.ntmps50
    go_wp2_with fail
    refine (CR.out _ ((hT.al _).al _) ((hs.alloc _).alloc _)).mono ?_
    rintro x w1 ⟨rfl, hb1⟩
    go_wp2
    go_ret3
    exact ⟨ret_uib2 HR.out.1.symm HR.out.2.symm rfl, (by repeat (first | exact Below.refl _ _ | refine Below.drew ?_ | refine bel_dn ?_ _ | refine bel_al ?_ _ | refine bel_go ?_ hb1 | refine Below.setCell ?_ (by first | omega | (simp; done) | (simp; omega)) _ | refine Below.alloc ?_ (by first | omega | (simp; done) | (simp; omega)) _ | refine Below.trans ?_ (Below.mono hb1 (by first | omega | (simp; done) | (simp; omega)))))⟩
  | true =>
    have HR := hid (cl_z 2143289344 2139095040 2147483648 mode T am rb rf)
    clear CR
    cases am with
    | true =>
      go_enter Tryd.func50, Tryd.ntmps50
      go_wp2_with fail
      refine (impl_Zero32 true _ ((hT.s.f.al _).al _)).mono ?_
      rintro x w1 ⟨rfl, hb1⟩
      go_wp2
      go_ret3
      exact ⟨ret_uib2 HR.out.1.symm HR.out.2.symm rfl, (by repeat (first | exact Below.refl _ _ | refine Below.drew ?_ | refine bel_dn ?_ _ | refine bel_al ?_ _ | refine bel_go ?_ hb1 | refine Below.setCell ?_ (by first | omega | (simp; done) | (simp; omega)) _ | refine Below.alloc ?_ (by first | omega | (simp; done) | (simp; omega)) _ | refine Below.trans ?_ (Below.mono hb1 (by first | omega | (simp; done) | (simp; omega)))))⟩
    | false =>
      by_cases hm3 : mode = 3
      · subst hm3
        by_cases ht : 0 < T
        · rw [decide_eq_true ht] at HR
          go_enter Tryd.func50, Tryd.ntmps50
          go_wp2_with fail
          refine (impl_Zero32 true _ ((hT.s.f.al _).al _)).mono ?_
          rintro x w1 ⟨rfl, hb1⟩
          go_wp2
          go_ret3
          exact ⟨ret_uib2 HR.out.1.symm HR.out.2.symm rfl, (by repeat (first | exact Below.refl _ _ | refine Below.drew ?_ | refine bel_dn ?_ _ | refine bel_al ?_ _ | refine bel_go ?_ hb1 | refine Below.setCell ?_ (by first | omega | (simp; done) | (simp; omega)) _ | refine Below.alloc ?_ (by first | omega | (simp; done) | (simp; omega)) _ | refine Below.trans ?_ (Below.mono hb1 (by first | omega | (simp; done) | (simp; omega)))))⟩
        · rw [decide_eq_false ht] at HR
          go_enter Tryd.func50, Tryd.ntmps50
          go_wp2_with fail
          refine (impl_Zero32 false _ ((hT.s.f.al _).al _)).mono ?_
          rintro x w1 ⟨rfl, hb1⟩
          go_wp2
          go_ret3
          exact ⟨ret_uib2 HR.out.1.symm HR.out.2.symm rfl, (by repeat (first | exact Below.refl _ _ | refine Below.drew ?_ | refine bel_dn ?_ _ | refine bel_al ?_ _ | refine bel_go ?_ hb1 | refine Below.setCell ?_ (by first | omega | (simp; done) | (simp; omega)) _ | refine Below.alloc ?_ (by first | omega | (simp; done) | (simp; omega)) _ | refine Below.trans ?_ (Below.mono hb1 (by first | omega | (simp; done) | (simp; omega)))))⟩
      · have hm3' : (mode == 3) = false := by simpa using hm3
        rw [decide_eq_false hm3] at HR
        clear hm3
        go_enter Tryd.func50, Tryd.ntmps50
        go_wp2_with fail
        refine (impl_Zero32 false _ ((hT.s.f.al _).al _)).mono ?_
        rintro x w1 ⟨rfl, hb1⟩
        go_wp2
        go_ret3
        exact ⟨ret_uib2 HR.out.1.symm HR.out.2.symm rfl, (by repeat (first | exact Below.refl _ _ | refine Below.drew ?_ | refine bel_dn ?_ _ | refine bel_al ?_ _ | refine bel_go ?_ hb1 | refine Below.setCell ?_ (by first | omega | (simp; done) | (simp; omega)) _ | refine Below.alloc ?_ (by first | omega | (simp; done) | (simp; omega)) _ | refine Below.trans ?_ (Below.mono hb1 (by first | omega | (simp; done) | (simp; omega)))))⟩
set_option maxHeartbeats 4000000 in
set_option maxRecDepth 100000 in
theorem mrd_64 (T : Int) (nn bd pl mi am : Bool) (mode : Int) (ng : Bool) (zs : List Int) (e : Int) (p : Option Addr) (cap : Nat) (w : World) (hT : T3 w) (hs : Sl .u32 w (.slice p zs.length cap) zs) (hz : Nm.Dg zs) (hl : zs.length ≤ 1048576) (rb rf : Int) (hrb : rb = RdB 64 mode ng zs e) (hrf : rf = RdF 64 mode ng zs e) (hro : RdO 64 mode ng zs e = true) :
    Calls Tryd.prog 50 #[.agg #[.int .i64 T, .bool nn, .bool bd, .bool pl, .bool mi, .bool am], .int .i64 64, .int .i64 mode, .agg #[.bool ng, .slice p zs.length cap], .int .i64 e] w fun x w' => x = .returned (.tuple #[.int .u64 (clB 9221120237041090560 9218868437227405312 9223372036854775808 mode T nn bd pl mi am (decide (zs.length = 0)) rb), .int .i64 (clF nn bd pl mi (decide (zs.length = 0)) rf), .bool true]) ∧ Below w.heap.size w w' := by
  have CR := hid (fun w' h h' => rounded_impl 64 mode ng zs e p cap w' h h' hz hl)
  rw [← hrb, ← hrf, hro] at CR
  clear hrb hrf hro
  obtain ⟨z, hz0⟩ : ∃ z, z = decide (zs.length = 0) := ⟨_, rfl⟩
  rw [← hz0]
  have hb0 : ((zs.length : Int) == 0) = z := by rw [hz0, Bool.eq_iff_iff, beq_iff_eq, decide_eq_true_eq]; omega
  clear hz0 hz
  cases bd with
  | true =>
    have HR := hid (cl_bd 9221120237041090560 9218868437227405312 9223372036854775808 mode T nn pl mi am z rb rf)
    clear CR
    go_enter Tryd.func50, Tryd.ntmps50
    go_wp2_with fail
    refine (impl_nan64 _ ((hT.s.f.al _).al _)).mono ?_
    rintro x w1 ⟨rfl, hb1⟩
    go_wp2
    go_ret3
    exact ⟨ret_uib2 HR.out.1.symm HR.out.2.symm rfl, (by repeat (first | exact Below.refl _ _ | refine Below.drew ?_ | refine bel_dn ?_ _ | refine bel_al ?_ _ | refine bel_go ?_ hb1 | refine Below.setCell ?_ (by first | omega | (simp; done) | (simp; omega)) _ | refine Below.alloc ?_ (by first | omega | (simp; done) | (simp; omega)) _ | refine Below.trans ?_ (Below.mono hb1 (by first | omega | (simp; done) | (simp; omega)))))⟩
  | false =>
  cases hpm : (pl && mi) with
  | true =>
    obtain ⟨rfl, rfl⟩ : pl = true ∧ mi = true := by simpa using hpm
    have HR := hid (cl_pm 9221120237041090560 9218868437227405312 9223372036854775808 mode T nn false am z rb rf)
    clear CR hpm
    go_enter Tryd.func50, Tryd.ntmps50
    go_wp2_with fail
    refine (impl_nan64 _ ((hT.s.f.al _).al _)).mono ?_
    rintro x w1 ⟨rfl, hb1⟩
    go_wp2
    go_ret3
    exact ⟨ret_uib2 HR.out.1.symm HR.out.2.symm rfl, (by repeat (first | exact Below.refl _ _ | refine Below.drew ?_ | refine bel_dn ?_ _ | refine bel_al ?_ _ | refine bel_go ?_ hb1 | refine Below.setCell ?_ (by first | omega | (simp; done) | (simp; omega)) _ | refine Below.alloc ?_ (by first | omega | (simp; done) | (simp; omega)) _ | refine Below.trans ?_ (Below.mono hb1 (by first | omega | (simp; done) | (simp; omega)))))⟩
  | false =>
  cases nn with
  | true =>
    have HR := hid (cl_nn 9221120237041090560 9218868437227405312 9223372036854775808 mode T pl mi am z hpm rb rf)
    clear CR
    cases pl with
    | false =>
      clear hpm
      go_enter Tryd.func50, Tryd.ntmps50
      go_wp2_with fail
      refine (impl_nan64 _ ((hT.s.f.al _).al _)).mono ?_
      rintro x w1 ⟨rfl, hb1⟩
      go_wp2
      go_ret3
      exact ⟨ret_uib2 HR.out.1.symm HR.out.2.symm rfl, (by repeat (first | exact Below.refl _ _ | refine Below.drew ?_ | refine bel_dn ?_ _ | refine bel_al ?_ _ | refine bel_go ?_ hb1 | refine Below.setCell ?_ (by first | omega | (simp; done) | (simp; omega)) _ | refine Below.alloc ?_ (by first | omega | (simp; done) | (simp; omega)) _ | refine Below.trans ?_ (Below.mono hb1 (by first | omega | (simp; done) | (simp; omega)))))⟩
    | true =>
      obtain rfl : mi = false := by simpa using hpm
      clear hpm
      go_enter Tryd.func50, Tryd.ntmps50
      go_wp2_with fail
      refine (impl_nan64 _ ((hT.s.f.al _).al _)).mono ?_
      rintro x w1 ⟨rfl, hb1⟩
      go_wp2
      go_ret3
      exact ⟨ret_uib2 HR.out.1.symm HR.out.2.symm rfl, (by repeat (first | exact Below.refl _ _ | refine Below.drew ?_ | refine bel_dn ?_ _ | refine bel_al ?_ _ | refine bel_go ?_ hb1 | refine Below.setCell ?_ (by first | omega | (simp; done) | (simp; omega)) _ | refine Below.alloc ?_ (by first | omega | (simp; done) | (simp; omega)) _ | refine Below.trans ?_ (Below.mono hb1 (by first | omega | (simp; done) | (simp; omega)))))⟩
  | false =>
  cases pl with
  | true =>
    obtain rfl : mi = false := by simpa using hpm
    have HR := hid (cl_pl 9221120237041090560 9218868437227405312 9223372036854775808 mode T am z rb rf)
    clear CR hpm
    go_enter Tryd.func50, Tryd.ntmps50
    go_wp2_with fail
    refine (impl_Inf64 false _ ((hT.s.f.al _).al _)).mono ?_
    rintro x w1 ⟨rfl, hb1⟩
    go_wp2
    go_ret3
    exact ⟨ret_uib2 HR.out.1.symm HR.out.2.symm rfl, (by repeat (first | exact Below.refl _ _ | refine Below.drew ?_ | refine bel_dn ?_ _ | refine bel_al ?_ _ | refine bel_go ?_ hb1 | refine Below.setCell ?_ (by first | omega | (simp; done) | (simp; omega)) _ | refine Below.alloc ?_ (by first | omega | (simp; done) | (simp; omega)) _ | refine Below.trans ?_ (Below.mono hb1 (by first | omega | (simp; done) | (simp; omega)))))⟩
  | false =>
  clear hpm
  cases mi with
  | true =>
    have HR := hid (cl_mi 9221120237041090560 9218868437227405312 9223372036854775808 mode T am z rb rf)
    clear CR
    go_enter Tryd.func50, Tryd.ntmps50
    go_wp2_with fail
    refine (impl_Inf64 true _ ((hT.s.f.al _).al _)).mono ?_
    rintro x w1 ⟨rfl, hb1⟩
    go_wp2
    go_ret3
    exact ⟨ret_uib2 HR.out.1.symm HR.out.2.symm rfl, (by repeat (first | exact Below.refl _ _ | refine Below.drew ?_ | refine bel_dn ?_ _ | refine bel_al ?_ _ | refine bel_go ?_ hb1 | refine Below.setCell ?_ (by first | omega | (simp; done) | (simp; omega)) _ | refine Below.alloc ?_ (by first | omega | (simp; done) | (simp; omega)) _ | refine Below.trans ?_ (Below.mono hb1 (by first | omega | (simp; done) | (simp; omega)))))⟩
  | false =>
  cases z with
  | false =>
    have HR := hid (cl_r 9221120237041090560 9218868437227405312 9223372036854775808 mode T am rb rf)
    go_enter Tryd.func50, Tryd.ntmps50
    go_wp2_with fail
    refine (CR.out _ ((hT.al _).al _) ((hs.alloc _).alloc _)).mono ?_
    rintro x w1 ⟨rfl, hb1⟩
    go_wp2
    go_ret3
    exact ⟨ret_uib2 HR.out.1.symm HR.out.2.symm rfl, (by repeat (first | exact Below.refl _ _ | refine Below.drew ?_ | refine bel_dn ?_ _ | refine bel_al ?_ _ | refine bel_go ?_ hb1 | refine Below.setCell ?_ (by first | omega | (simp; done) | (simp; omega)) _ | refine Below.alloc ?_ (by first | omega | (simp; done) | (simp; omega)) _ | refine Below.trans ?_ (Below.mono hb1 (by first | omega | (simp; done) | (simp; omega)))))⟩
  | true =>
    have HR := hid (cl_z 9221120237041090560 9218868437227405312 9223372036854775808 mode T am rb rf)
    clear CR
    cases am with
    | true =>
      go_enter Tryd.func50, Tryd.ntmps50
      go_wp2_with fail
      refine (impl_Zero64 true _ ((hT.s.f.al _).al _)).mono ?_
      rintro x w1 ⟨rfl, hb1⟩
      go_wp2
      go_ret3
      exact ⟨ret_uib2 HR.out.1.symm HR.out.2.symm rfl, (by repeat (first | exact Below.refl _ _ | refine Below.drew ?_ | refine bel_dn ?_ _ | refine bel_al ?_ _ | refine bel_go ?_ hb1 | refine Below.setCell ?_ (by first | omega | (simp; done) | (simp; omega)) _ | refine Below.alloc ?_ (by first | omega | (simp; done) | (simp; omega)) _ | refine Below.trans ?_ (Below.mono hb1 (by first | omega | (simp; done) | (simp; omega)))))⟩
    | false =>
      by_cases hm3 : mode = 3
      · subst hm3
        by_cases ht : 0 < T
        · rw [decide_eq_true ht] at HR
          go_enter Tryd.func50, Tryd.ntmps50
          go_wp2_with fail
          refine (impl_Zero64 true _ ((hT.s.f.al _).al _)).mono ?_
          rintro x w1 ⟨rfl, hb1⟩
          go_wp2
          go_ret3
          exact ⟨ret_uib2 HR.out.1.symm HR.out.2.symm rfl, (by repeat (first | exact Below.refl _ _ | refine Below.drew ?_ | refine bel_dn ?_ _ | refine bel_al ?_ _ | refine bel_go ?_ hb1 | refine Below.setCell ?_ (by first | omega | (simp; done) | (simp; omega)) _ | refine Below.alloc ?_ (by first | omega | (simp; done) | (simp; omega)) _ | refine Below.trans ?_ (Below.mono hb1 (by first | omega | (simp; done) | (simp; omega)))))⟩
        · rw [decide_eq_false ht] at HR
          go_enter Tryd.func50, Tryd.ntmps50
          go_wp2_with fail
          refine (impl_Zero64 false _ ((hT.s.f.al _).al _)).mono ?_
          rintro x w1 ⟨rfl, hb1⟩
          go_wp2
          go_ret3
          exact ⟨ret_uib2 HR.out.1.symm HR.out.2.symm rfl, (by repeat (first | exact Below.refl _ _ | refine Below.drew ?_ | refine bel_dn ?_ _ | refine bel_al ?_ _ | refine bel_go ?_ hb1 | refine Below.setCell ?_ (by first | omega | (simp; done) | (simp; omega)) _ | refine Below.alloc ?_ (by first | omega | (simp; done) | (simp; omega)) _ | refine Below.trans ?_ (Below.mono hb1 (by first | omega | (simp; done) | (simp; omega)))))⟩
      · have hm3' : (mode == 3) = false := by simpa using hm3
        rw [decide_eq_false hm3] at HR
        clear hm3
        go_enter Tryd.func50, Tryd.ntmps50
        go_wp2_with fail
        refine (impl_Zero64 false _ ((hT.s.f.al _).al _)).mono ?_
        rintro x w1 ⟨rfl, hb1⟩
        go_wp2
        go_ret3
        exact ⟨ret_uib2 HR.out.1.symm HR.out.2.symm rfl, (by repeat (first | exact Below.refl _ _ | refine Below.drew ?_ | refine bel_dn ?_ _ | refine bel_al ?_ _ | refine bel_go ?_ hb1 | refine Below.setCell ?_ (by first | omega | (simp; done) | (simp; omega)) _ | refine Below.alloc ?_ (by first | omega | (simp; done) | (simp; omega)) _ | refine Below.trans ?_ (Below.mono hb1 (by first | omega | (simp; done) | (simp; omega)))))⟩
end Go.Proofs.YtfblidnejdkjhaaDoor
/-
  An accumulator rounded: by the specification; at every argument, by both; the law.
-/
namespace Go.Proofs.YtfblidnejdkjhaaDoor
set_option linter.unusedVariables false
set_option linter.unusedSimpArgs false
open Go.RowKit Go.Deep
theorem bad_nn {fm : Int} {ng : Bool} {zs : List Int} {T : Int} {nn bd pl mi am : Bool} (h : accB fm ng zs T nn bd pl mi am = true) : bd = true → nn = true := by
  unfold accB mkB at h
  simp only [Bool.and_eq_true] at h
  have h1 := h.1.1.1.2.1.1.2
  cases bd <;> cases nn <;> simp at h1 ⊢
theorem acc_ok {fm : Int} {ng : Bool} {zs : List Int} {T : Int} {nn bd pl mi am : Bool} (h : accB fm ng zs T nn bd pl mi am = true) : okB ng zs = true := by
  cases ho : okB ng zs
  · rw [acc_no ho] at h; exact h
  · rfl
theorem acc_fm {fm : Int} {ng : Bool} {zs : List Int} {T : Int} {nn bd pl mi am : Bool} (h : accB fm ng zs T nn bd pl mi am = true) : fm = 32 ∨ fm = 64 := by
  cases hf : fmtB fm
  · rw [acc_nf hf] at h; cases h
  · exact fmt_cases hf
theorem nanS32 (w : World) :
    Calls Tryd.prog 71 #[.int .i64 32] w fun e w' => e = .returned (.int .u64 2143289344) ∧ Below w.heap.size w w' := by
  go_enter Tryd.func71, Tryd.ntmps71
  go_wp2
  go_ret
  exact ⟨rfl, (by repeat (first | exact Below.refl _ _ | refine Below.drew ?_ | refine bel_dn ?_ _ | refine bel_al ?_ _ | refine Below.setCell ?_ (by first | omega | (simp; done) | (simp; omega)) _ | refine Below.alloc ?_ (by first | omega | (simp; done) | (simp; omega)) _))⟩
theorem infS32 (w : World) :
    Calls Tryd.prog 73 #[.int .i64 32] w fun e w' => e = .returned (.int .u64 2139095040) ∧ Below w.heap.size w w' := by
  go_enter Tryd.func73, Tryd.ntmps73
  go_wp2
  go_ret
  exact ⟨rfl, (by repeat (first | exact Below.refl _ _ | refine Below.drew ?_ | refine bel_dn ?_ _ | refine bel_al ?_ _ | refine Below.setCell ?_ (by first | omega | (simp; done) | (simp; omega)) _ | refine Below.alloc ?_ (by first | omega | (simp; done) | (simp; omega)) _))⟩
theorem l3r_at32 (mode : Int) (ng : Bool) (zs : List Int) (e : Int) (p : Option Addr) (cap : Nat) (w : World) (hs : Sl .u32 w (.slice p zs.length cap) zs) (hz : Nm.Dg zs) (h0 : zs.length ≠ 0) (ho : RdO 32 mode ng zs e = true) :
    Calls Tryd.prog 74 #[.int .i64 32, .int .i64 mode, .agg #[.bool ng, .slice p zs.length cap], .int .i64 e] w fun x w' => x = .returned (.tuple #[.int .u64 (RdB 32 mode ng zs e), .int .i64 (RdF 32 mode ng zs e)]) ∧ Below w.heap.size w w' := by
  have hk := ho
  unfold RdO at hk
  simp only [Bool.and_eq_true] at hk
  obtain ⟨⟨⟨k1, k2⟩, k3⟩, k4⟩ := hk
  have k5 := inZ_yes k4
  obtain ⟨hzl, hbl⟩ := lim_ok hz k3
  have ha : (Nm.val zs).toNat ≠ 0 := by
    intro h; rw [h, Nm.lim_zero] at hzl; rw [hzl] at h0; exact h0 rfl
  have hB : RdB 32 mode ng zs e = rdB 24 (-149) 2139095040 2147483648 mode ng (Nm.val zs).toNat e := by unfold RdB; rw [ho, if_pos rfl, if_neg h0]; rfl
  have hF : RdF 32 mode ng zs e = rdF 24 (-149) 2139095040 mode ng (Nm.val zs).toNat e := by unfold RdF; rw [ho, if_pos rfl, if_neg h0]; rfl
  rw [hB, hF]
  obtain ⟨a, haz⟩ : ∃ a, a = (Nm.val zs).toNat := ⟨_, rfl⟩
  rw [← haz] at hzl hbl ha ⊢
  clear hB hF haz ho k3 hz h0
  subst hzl
  exact l3r_32 mode ng a e p cap w hs k2 ha (by omega) (by omega) (by omega)
set_option maxHeartbeats 4000000 in
set_option maxRecDepth 100000 in
theorem close_32 (fm : Int) (hf : fm = 32) (ng0 : Bool) (p0 : Option Addr) (n0 cap0 : Nat) (T : Int) (nn bd pl mi am : Bool) (mode : Int) (ng : Bool) (zs : List Int) (e : Int) (p : Option Addr) (cap : Nat) (w : World) (hs : Sl .u32 w (.slice p zs.length cap) zs) (hz : Nm.Dg zs) (hl : zs.length ≤ 1048576) (rb rf : Int) (hrb : rb = RdB 32 mode ng zs e) (hrf : rf = RdF 32 mode ng zs e) (hro : RdO 32 mode ng zs e = true) (hbn : bd = true → nn = true) :
    Calls Tryd.prog 46 #[.agg #[.int .i64 fm, .bool ng0, .slice p0 n0 cap0, .int .i64 T, .bool nn, .bool bd, .bool pl, .bool mi, .bool am], .int .i64 mode, .agg #[.bool ng, .slice p zs.length cap], .int .i64 e] w fun x w' => x = .returned (.tuple #[.int .u64 (clB 2143289344 2139095040 2147483648 mode T nn bd pl mi am (decide (zs.length = 0)) rb), .int .i64 (clF nn bd pl mi (decide (zs.length = 0)) rf)]) ∧ Below w.heap.size w w' := by
  subst hf
  have CR := hid (fun h0 w' h => l3r_at32 mode ng zs e p cap w' h hz h0 hro)
  rw [← hrb, ← hrf] at CR
  clear hrb hrf hro hz
  obtain ⟨z, hz0⟩ : ∃ z, z = decide (zs.length = 0) := ⟨_, rfl⟩
  rw [← hz0]
  have hb0 : ((zs.length : Int) == 0) = z := by rw [hz0, Bool.eq_iff_iff, beq_iff_eq, decide_eq_true_eq]; omega
  have HZ : Hid (z = false → zs.length ≠ 0) := hid (fun h => by rw [h] at hz0; exact of_decide_eq_false hz0.symm)
  clear hz0
  cases hpm : (pl && mi) with
  | true =>
    obtain ⟨rfl, rfl⟩ : pl = true ∧ mi = true := by simpa using hpm
    have HR := hid (cl_pm 2143289344 2139095040 2147483648 mode T nn bd am z rb rf)
    clear CR hpm hbn HZ
    cases nn <;> cases bd <;>
    · go_enter Tryd.func46, Tryd.ntmps46
      go_wp2_with fail
      refine (nanS32 _).mono ?_
      rintro x w1 ⟨rfl, hb1⟩
      go_wp2
      go_ret2
      exact ⟨ret_ui HR.out.1.symm HR.out.2.symm, (by repeat (first | exact Below.refl _ _ | refine Below.drew ?_ | refine bel_dn ?_ _ | refine bel_al ?_ _ | refine bel_go ?_ hb1 | refine Below.setCell ?_ (by first | omega | (simp; done) | (simp; omega)) _ | refine Below.alloc ?_ (by first | omega | (simp; done) | (simp; omega)) _ | refine Below.trans ?_ (Below.mono hb1 (by first | omega | (simp; done) | (simp; omega)))))⟩
  | false =>
  cases nn with
  | true =>
    clear CR hbn HZ
    cases bd with
    | true =>
      have HR := hid (cl_bd 2143289344 2139095040 2147483648 mode T true pl mi am z rb rf)
      clear hpm
      go_enter Tryd.func46, Tryd.ntmps46
      go_wp2_with fail
      refine (nanS32 _).mono ?_
      rintro x w1 ⟨rfl, hb1⟩
      go_wp2
      go_ret2
      exact ⟨ret_ui HR.out.1.symm HR.out.2.symm, (by repeat (first | exact Below.refl _ _ | refine Below.drew ?_ | refine bel_dn ?_ _ | refine bel_al ?_ _ | refine bel_go ?_ hb1 | refine Below.setCell ?_ (by first | omega | (simp; done) | (simp; omega)) _ | refine Below.alloc ?_ (by first | omega | (simp; done) | (simp; omega)) _ | refine Below.trans ?_ (Below.mono hb1 (by first | omega | (simp; done) | (simp; omega)))))⟩
    | false =>
      have HR := hid (cl_nn 2143289344 2139095040 2147483648 mode T pl mi am z hpm rb rf)
      cases pl with
      | false =>
        clear hpm
        go_enter Tryd.func46, Tryd.ntmps46
        go_wp2_with fail
        refine (nanS32 _).mono ?_
        rintro x w1 ⟨rfl, hb1⟩
        go_wp2
        go_ret2
        exact ⟨ret_ui HR.out.1.symm HR.out.2.symm, (by repeat (first | exact Below.refl _ _ | refine Below.drew ?_ | refine bel_dn ?_ _ | refine bel_al ?_ _ | refine bel_go ?_ hb1 | refine Below.setCell ?_ (by first | omega | (simp; done) | (simp; omega)) _ | refine Below.alloc ?_ (by first | omega | (simp; done) | (simp; omega)) _ | refine Below.trans ?_ (Below.mono hb1 (by first | omega | (simp; done) | (simp; omega)))))⟩
      | true =>
        obtain rfl : mi = false := by simpa using hpm
        clear hpm
        go_enter Tryd.func46, Tryd.ntmps46
        go_wp2_with fail
        refine (nanS32 _).mono ?_
        rintro x w1 ⟨rfl, hb1⟩
        go_wp2
        go_ret2
        exact ⟨ret_ui HR.out.1.symm HR.out.2.symm, (by repeat (first | exact Below.refl _ _ | refine Below.drew ?_ | refine bel_dn ?_ _ | refine bel_al ?_ _ | refine bel_go ?_ hb1 | refine Below.setCell ?_ (by first | omega | (simp; done) | (simp; omega)) _ | refine Below.alloc ?_ (by first | omega | (simp; done) | (simp; omega)) _ | refine Below.trans ?_ (Below.mono hb1 (by first | omega | (simp; done) | (simp; omega)))))⟩
  | false =>
  cases bd with
  | true => exact absurd (hbn rfl) (by decide)
  | false =>
  clear hbn
  cases hq : (pl || mi) with
  | true =>
    have HR : Hid (clB 2143289344 2139095040 2147483648 mode T false false pl mi am z rb = sgn 2147483648 2139095040 mi ∧ clF false false pl mi z rf = 0) := hid (by cases pl <;> cases mi <;> first | exact ⟨rfl, rfl⟩ | (exfalso; revert hpm; decide) | (exfalso; revert hq; decide))
    clear CR HZ
    cases pl with
    | true =>
      obtain rfl : mi = false := by simpa using hpm
      clear hpm hq
      go_enter Tryd.func46, Tryd.ntmps46
      go_wp2_with fail
      have X := (Q9.new w (.int .i64 32) (.bool ng0) (.slice p0 n0 cap0) (.int .i64 T) (.bool false) (.bool false) (.bool true) (.bool false) (.bool am) 31).alloc (.cells #[.bool ng, .slice p zs.length cap] 29)
      have c0 := X.c0
      have c7 := X.c7
      go_region_held3 (fun w' => w'.cell? ⟨w.heap.size, 0, none⟩ = some (.int .i64 32) ∧ w'.cell? ⟨w.heap.size, 7, none⟩ = some (.bool false)) (first | assumption | exact ⟨c0, c7⟩)
        (first
          | (go_at_call 73; refine (infS32 _).mono ?_; rintro x q1 ⟨rfl, hq1⟩; have f1 := And.intro (X.drew.below hq1).c0 (X.drew.below hq1).c7)
          | (go_at_call 72; refine (with_32 2139095040 false _ (fun _ => by decide)).mono ?_; rintro x q2 ⟨rfl, hq2⟩; have f2 := And.intro ((X.drew.below hq1).below hq2).c0 ((X.drew.below hq1).below hq2).c7))
      go_wp2
      go_ret2
      exact ⟨ret_ui HR.out.1.symm HR.out.2.symm, (by repeat (first | exact Below.refl _ _ | refine Below.drew ?_ | refine bel_dn ?_ _ | refine bel_al ?_ _ | refine bel_go ?_ hq2 | refine bel_go ?_ hq1 | refine Below.setCell ?_ (by first | omega | (simp; done) | (simp; omega)) _ | refine Below.alloc ?_ (by first | omega | (simp; done) | (simp; omega)) _ | refine Below.trans ?_ (Below.mono hq2 (by first | omega | (simp; done) | (simp; omega))) | refine Below.trans ?_ (Below.mono hq1 (by first | omega | (simp; done) | (simp; omega)))))⟩
    | false =>
      obtain rfl : mi = true := by simpa using hq
      clear hpm hq
      go_enter Tryd.func46, Tryd.ntmps46
      go_wp2_with fail
      have X := (Q9.new w (.int .i64 32) (.bool ng0) (.slice p0 n0 cap0) (.int .i64 T) (.bool false) (.bool false) (.bool false) (.bool true) (.bool am) 31).alloc (.cells #[.bool ng, .slice p zs.length cap] 29)
      have c0 := X.c0
      have c7 := X.c7
      go_region_held3 (fun w' => w'.cell? ⟨w.heap.size, 0, none⟩ = some (.int .i64 32) ∧ w'.cell? ⟨w.heap.size, 7, none⟩ = some (.bool true)) (first | assumption | exact ⟨c0, c7⟩)
        (first
          | (go_at_call 73; refine (infS32 _).mono ?_; rintro x q1 ⟨rfl, hq1⟩; have f1 := And.intro (X.drew.below hq1).c0 (X.drew.below hq1).c7)
          | (go_at_call 72; refine (with_32 2139095040 true _ (fun _ => by decide)).mono ?_; rintro x q2 ⟨rfl, hq2⟩; have f2 := And.intro ((X.drew.below hq1).below hq2).c0 ((X.drew.below hq1).below hq2).c7))
      go_wp2
      go_ret2
      exact ⟨ret_ui HR.out.1.symm HR.out.2.symm, (by repeat (first | exact Below.refl _ _ | refine Below.drew ?_ | refine bel_dn ?_ _ | refine bel_al ?_ _ | refine bel_go ?_ hq2 | refine bel_go ?_ hq1 | refine Below.setCell ?_ (by first | omega | (simp; done) | (simp; omega)) _ | refine Below.alloc ?_ (by first | omega | (simp; done) | (simp; omega)) _ | refine Below.trans ?_ (Below.mono hq2 (by first | omega | (simp; done) | (simp; omega))) | refine Below.trans ?_ (Below.mono hq1 (by first | omega | (simp; done) | (simp; omega)))))⟩
  | false =>
  obtain ⟨rfl, rfl⟩ : pl = false ∧ mi = false := by simpa using hq
  clear hpm hq
  cases z with
  | false =>
    have HR := hid (cl_r 2143289344 2139095040 2147483648 mode T am rb rf)
    have hz1 := HZ.out rfl
    have CR := hid (CR.out hz1)
    clear HZ hz1
    go_enter Tryd.func46, Tryd.ntmps46
    go_wp2_with fail
    refine (CR.out _ ((hs.alloc _).alloc _)).mono ?_
    rintro x w1 ⟨rfl, hb1⟩
    go_wp2
    go_ret2
    exact ⟨ret_ui HR.out.1.symm HR.out.2.symm, (by repeat (first | exact Below.refl _ _ | refine Below.drew ?_ | refine bel_dn ?_ _ | refine bel_al ?_ _ | refine bel_go ?_ hb1 | refine Below.setCell ?_ (by first | omega | (simp; done) | (simp; omega)) _ | refine Below.alloc ?_ (by first | omega | (simp; done) | (simp; omega)) _ | refine Below.trans ?_ (Below.mono hb1 (by first | omega | (simp; done) | (simp; omega)))))⟩
  | true =>
    have HR := hid (cl_z 2143289344 2139095040 2147483648 mode T am rb rf)
    clear CR HZ
    cases am with
    | true =>
      go_enter Tryd.func46, Tryd.ntmps46
      go_wp2_with fail
      refine (with_32 0 true _ (fun _ => by decide)).mono ?_
      rintro x w1 ⟨rfl, hb1⟩
      go_wp2
      go_ret2
      exact ⟨ret_ui HR.out.1.symm HR.out.2.symm, (by repeat (first | exact Below.refl _ _ | refine Below.drew ?_ | refine bel_dn ?_ _ | refine bel_al ?_ _ | refine bel_go ?_ hb1 | refine Below.setCell ?_ (by first | omega | (simp; done) | (simp; omega)) _ | refine Below.alloc ?_ (by first | omega | (simp; done) | (simp; omega)) _ | refine Below.trans ?_ (Below.mono hb1 (by first | omega | (simp; done) | (simp; omega)))))⟩
    | false =>
      by_cases hm3 : mode = 3
      · subst hm3
        by_cases ht : 0 < T
        · rw [decide_eq_true ht] at HR
          go_enter Tryd.func46, Tryd.ntmps46
          go_wp2_with fail
          refine (with_32 0 true _ (fun _ => by decide)).mono ?_
          rintro x w1 ⟨rfl, hb1⟩
          go_wp2
          go_ret2
          exact ⟨ret_ui HR.out.1.symm HR.out.2.symm, (by repeat (first | exact Below.refl _ _ | refine Below.drew ?_ | refine bel_dn ?_ _ | refine bel_al ?_ _ | refine bel_go ?_ hb1 | refine Below.setCell ?_ (by first | omega | (simp; done) | (simp; omega)) _ | refine Below.alloc ?_ (by first | omega | (simp; done) | (simp; omega)) _ | refine Below.trans ?_ (Below.mono hb1 (by first | omega | (simp; done) | (simp; omega)))))⟩
        · rw [decide_eq_false ht] at HR
          go_enter Tryd.func46, Tryd.ntmps46
          go_wp2_with fail
          refine (with_32 0 false _ (fun h => by cases h)).mono ?_
          rintro x w1 ⟨rfl, hb1⟩
          go_wp2
          go_ret2
          exact ⟨ret_ui HR.out.1.symm HR.out.2.symm, (by repeat (first | exact Below.refl _ _ | refine Below.drew ?_ | refine bel_dn ?_ _ | refine bel_al ?_ _ | refine bel_go ?_ hb1 | refine Below.setCell ?_ (by first | omega | (simp; done) | (simp; omega)) _ | refine Below.alloc ?_ (by first | omega | (simp; done) | (simp; omega)) _ | refine Below.trans ?_ (Below.mono hb1 (by first | omega | (simp; done) | (simp; omega)))))⟩
      · have hm3' : (mode == 3) = false := by simpa using hm3
        rw [decide_eq_false hm3] at HR
        clear hm3
        go_enter Tryd.func46, Tryd.ntmps46
        go_wp2_with fail
        refine (with_32 0 false _ (fun h => by cases h)).mono ?_
        rintro x w1 ⟨rfl, hb1⟩
        go_wp2
        go_ret2
        exact ⟨ret_ui HR.out.1.symm HR.out.2.symm, (by repeat (first | exact Below.refl _ _ | refine Below.drew ?_ | refine bel_dn ?_ _ | refine bel_al ?_ _ | refine bel_go ?_ hb1 | refine Below.setCell ?_ (by first | omega | (simp; done) | (simp; omega)) _ | refine Below.alloc ?_ (by first | omega | (simp; done) | (simp; omega)) _ | refine Below.trans ?_ (Below.mono hb1 (by first | omega | (simp; done) | (simp; omega)))))⟩
theorem nanS64 (w : World) :
    Calls Tryd.prog 71 #[.int .i64 64] w fun e w' => e = .returned (.int .u64 9221120237041090560) ∧ Below w.heap.size w w' := by
  go_enter Tryd.func71, Tryd.ntmps71
  go_wp2
  go_ret
  exact ⟨rfl, (by repeat (first | exact Below.refl _ _ | refine Below.drew ?_ | refine bel_dn ?_ _ | refine bel_al ?_ _ | refine Below.setCell ?_ (by first | omega | (simp; done) | (simp; omega)) _ | refine Below.alloc ?_ (by first | omega | (simp; done) | (simp; omega)) _))⟩
theorem infS64 (w : World) :
    Calls Tryd.prog 73 #[.int .i64 64] w fun e w' => e = .returned (.int .u64 9218868437227405312) ∧ Below w.heap.size w w' := by
  go_enter Tryd.func73, Tryd.ntmps73
  go_wp2
  go_ret
  exact ⟨rfl, (by repeat (first | exact Below.refl _ _ | refine Below.drew ?_ | refine bel_dn ?_ _ | refine bel_al ?_ _ | refine Below.setCell ?_ (by first | omega | (simp; done) | (simp; omega)) _ | refine Below.alloc ?_ (by first | omega | (simp; done) | (simp; omega)) _))⟩
theorem l3r_at64 (mode : Int) (ng : Bool) (zs : List Int) (e : Int) (p : Option Addr) (cap : Nat) (w : World) (hs : Sl .u32 w (.slice p zs.length cap) zs) (hz : Nm.Dg zs) (h0 : zs.length ≠ 0) (ho : RdO 64 mode ng zs e = true) :
    Calls Tryd.prog 74 #[.int .i64 64, .int .i64 mode, .agg #[.bool ng, .slice p zs.length cap], .int .i64 e] w fun x w' => x = .returned (.tuple #[.int .u64 (RdB 64 mode ng zs e), .int .i64 (RdF 64 mode ng zs e)]) ∧ Below w.heap.size w w' := by
  have hk := ho
  unfold RdO at hk
  simp only [Bool.and_eq_true] at hk
  obtain ⟨⟨⟨k1, k2⟩, k3⟩, k4⟩ := hk
  have k5 := inZ_yes k4
  obtain ⟨hzl, hbl⟩ := lim_ok hz k3
  have ha : (Nm.val zs).toNat ≠ 0 := by
    intro h; rw [h, Nm.lim_zero] at hzl; rw [hzl] at h0; exact h0 rfl
  have hB : RdB 64 mode ng zs e = rdB 53 (-1074) 9218868437227405312 9223372036854775808 mode ng (Nm.val zs).toNat e := by unfold RdB; rw [ho, if_pos rfl, if_neg h0]; rfl
  have hF : RdF 64 mode ng zs e = rdF 53 (-1074) 9218868437227405312 mode ng (Nm.val zs).toNat e := by unfold RdF; rw [ho, if_pos rfl, if_neg h0]; rfl
  rw [hB, hF]
  obtain ⟨a, haz⟩ : ∃ a, a = (Nm.val zs).toNat := ⟨_, rfl⟩
  rw [← haz] at hzl hbl ha ⊢
  clear hB hF haz ho k3 hz h0
  subst hzl
  exact l3r_64 mode ng a e p cap w hs k2 ha (by omega) (by omega) (by omega)
set_option maxHeartbeats 4000000 in
set_option maxRecDepth 100000 in
theorem close_64 (fm : Int) (hf : fm = 64) (ng0 : Bool) (p0 : Option Addr) (n0 cap0 : Nat) (T : Int) (nn bd pl mi am : Bool) (mode : Int) (ng : Bool) (zs : List Int) (e : Int) (p : Option Addr) (cap : Nat) (w : World) (hs : Sl .u32 w (.slice p zs.length cap) zs) (hz : Nm.Dg zs) (hl : zs.length ≤ 1048576) (rb rf : Int) (hrb : rb = RdB 64 mode ng zs e) (hrf : rf = RdF 64 mode ng zs e) (hro : RdO 64 mode ng zs e = true) (hbn : bd = true → nn = true) :
    Calls Tryd.prog 46 #[.agg #[.int .i64 fm, .bool ng0, .slice p0 n0 cap0, .int .i64 T, .bool nn, .bool bd, .bool pl, .bool mi, .bool am], .int .i64 mode, .agg #[.bool ng, .slice p zs.length cap], .int .i64 e] w fun x w' => x = .returned (.tuple #[.int .u64 (clB 9221120237041090560 9218868437227405312 9223372036854775808 mode T nn bd pl mi am (decide (zs.length = 0)) rb), .int .i64 (clF nn bd pl mi (decide (zs.length = 0)) rf)]) ∧ Below w.heap.size w w' := by
  subst hf
  have CR := hid (fun h0 w' h => l3r_at64 mode ng zs e p cap w' h hz h0 hro)
  rw [← hrb, ← hrf] at CR
  clear hrb hrf hro hz
  obtain ⟨z, hz0⟩ : ∃ z, z = decide (zs.length = 0) := ⟨_, rfl⟩
  rw [← hz0]
  have hb0 : ((zs.length : Int) == 0) = z := by rw [hz0, Bool.eq_iff_iff, beq_iff_eq, decide_eq_true_eq]; omega
  have HZ : Hid (z = false → zs.length ≠ 0) := hid (fun h => by rw [h] at hz0; exact of_decide_eq_false hz0.symm)
  clear hz0
  cases hpm : (pl && mi) with
  | true =>
    obtain ⟨rfl, rfl⟩ : pl = true ∧ mi = true := by simpa using hpm
    have HR := hid (cl_pm 9221120237041090560 9218868437227405312 9223372036854775808 mode T nn bd am z rb rf)
    clear CR hpm hbn HZ
    cases nn <;> cases bd <;>
    · go_enter Tryd.func46, Tryd.ntmps46
      go_wp2_with fail
      refine (nanS64 _).mono ?_
      rintro x w1 ⟨rfl, hb1⟩
      go_wp2
      go_ret2
      exact ⟨ret_ui HR.out.1.symm HR.out.2.symm, (by repeat (first | exact Below.refl _ _ | refine Below.drew ?_ | refine bel_dn ?_ _ | refine bel_al ?_ _ | refine bel_go ?_ hb1 | refine Below.setCell ?_ (by first | omega | (simp; done) | (simp; omega)) _ | refine Below.alloc ?_ (by first | omega | (simp; done) | (simp; omega)) _ | refine Below.trans ?_ (Below.mono hb1 (by first | omega | (simp; done) | (simp; omega)))))⟩
  | false =>
  cases nn with
  | true =>
    clear CR hbn HZ
    cases bd with
    | true =>
      have HR := hid (cl_bd 9221120237041090560 9218868437227405312 9223372036854775808 mode T true pl mi am z rb rf)
      clear hpm
      go_enter Tryd.func46, Tryd.ntmps46
      go_wp2_with fail
      refine (nanS64 _).mono ?_
      rintro x w1 ⟨rfl, hb1⟩
      go_wp2
      go_ret2
      exact ⟨ret_ui HR.out.1.symm HR.out.2.symm, (by repeat (first | exact Below.refl _ _ | refine Below.drew ?_ | refine bel_dn ?_ _ | refine bel_al ?_ _ | refine bel_go ?_ hb1 | refine Below.setCell ?_ (by first | omega | (simp; done) | (simp; omega)) _ | refine Below.alloc ?_ (by first | omega | (simp; done) | (simp; omega)) _ | refine Below.trans ?_ (Below.mono hb1 (by first | omega | (simp; done) | (simp; omega)))))⟩
    | false =>
      have HR := hid (cl_nn 9221120237041090560 9218868437227405312 9223372036854775808 mode T pl mi am z hpm rb rf)
      cases pl with
      | false =>
        clear hpm
        go_enter Tryd.func46, Tryd.ntmps46
        go_wp2_with fail
        refine (nanS64 _).mono ?_
        rintro x w1 ⟨rfl, hb1⟩
        go_wp2
        go_ret2
        exact ⟨ret_ui HR.out.1.symm HR.out.2.symm, (by repeat (first | exact Below.refl _ _ | refine Below.drew ?_ | refine bel_dn ?_ _ | refine bel_al ?_ _ | refine bel_go ?_ hb1 | refine Below.setCell ?_ (by first | omega | (simp; done) | (simp; omega)) _ | refine Below.alloc ?_ (by first | omega | (simp; done) | (simp; omega)) _ | refine Below.trans ?_ (Below.mono hb1 (by first | omega | (simp; done) | (simp; omega)))))⟩
      | true =>
        obtain rfl : mi = false := by simpa using hpm
        clear hpm
        go_enter Tryd.func46, Tryd.ntmps46
        go_wp2_with fail
        refine (nanS64 _).mono ?_
        rintro x w1 ⟨rfl, hb1⟩
        go_wp2
        go_ret2
        exact ⟨ret_ui HR.out.1.symm HR.out.2.symm, (by repeat (first | exact Below.refl _ _ | refine Below.drew ?_ | refine bel_dn ?_ _ | refine bel_al ?_ _ | refine bel_go ?_ hb1 | refine Below.setCell ?_ (by first | omega | (simp; done) | (simp; omega)) _ | refine Below.alloc ?_ (by first | omega | (simp; done) | (simp; omega)) _ | refine Below.trans ?_ (Below.mono hb1 (by first | omega | (simp; done) | (simp; omega)))))⟩
  | false =>
  cases bd with
  | true => exact absurd (hbn rfl) (by decide)
  | false =>
  clear hbn
  cases hq : (pl || mi) with
  | true =>
    have HR : Hid (clB 9221120237041090560 9218868437227405312 9223372036854775808 mode T false false pl mi am z rb = sgn 9223372036854775808 9218868437227405312 mi ∧ clF false false pl mi z rf = 0) := hid (by cases pl <;> cases mi <;> first | exact ⟨rfl, rfl⟩ | (exfalso; revert hpm; decide) | (exfalso; revert hq; decide))
    clear CR HZ
    cases pl with
    | true =>
      obtain rfl : mi = false := by simpa using hpm
      clear hpm hq
      go_enter Tryd.func46, Tryd.ntmps46
      go_wp2_with fail
      have X := (Q9.new w (.int .i64 64) (.bool ng0) (.slice p0 n0 cap0) (.int .i64 T) (.bool false) (.bool false) (.bool true) (.bool false) (.bool am) 31).alloc (.cells #[.bool ng, .slice p zs.length cap] 29)
      have c0 := X.c0
      have c7 := X.c7
      go_region_held3 (fun w' => w'.cell? ⟨w.heap.size, 0, none⟩ = some (.int .i64 64) ∧ w'.cell? ⟨w.heap.size, 7, none⟩ = some (.bool false)) (first | assumption | exact ⟨c0, c7⟩)
        (first
          | (go_at_call 73; refine (infS64 _).mono ?_; rintro x q1 ⟨rfl, hq1⟩; have f1 := And.intro (X.drew.below hq1).c0 (X.drew.below hq1).c7)
          | (go_at_call 72; refine (with_64 9218868437227405312 false _ (fun _ => by decide)).mono ?_; rintro x q2 ⟨rfl, hq2⟩; have f2 := And.intro ((X.drew.below hq1).below hq2).c0 ((X.drew.below hq1).below hq2).c7))
      go_wp2
      go_ret2
      exact ⟨ret_ui HR.out.1.symm HR.out.2.symm, (by repeat (first | exact Below.refl _ _ | refine Below.drew ?_ | refine bel_dn ?_ _ | refine bel_al ?_ _ | refine bel_go ?_ hq2 | refine bel_go ?_ hq1 | refine Below.setCell ?_ (by first | omega | (simp; done) | (simp; omega)) _ | refine Below.alloc ?_ (by first | omega | (simp; done) | (simp; omega)) _ | refine Below.trans ?_ (Below.mono hq2 (by first | omega | (simp; done) | (simp; omega))) | refine Below.trans ?_ (Below.mono hq1 (by first | omega | (simp; done) | (simp; omega)))))⟩
    | false =>
      obtain rfl : mi = true := by simpa using hq
      clear hpm hq
      go_enter Tryd.func46, Tryd.ntmps46
      go_wp2_with fail
      have X := (Q9.new w (.int .i64 64) (.bool ng0) (.slice p0 n0 cap0) (.int .i64 T) (.bool false) (.bool false) (.bool false) (.bool true) (.bool am) 31).alloc (.cells #[.bool ng, .slice p zs.length cap] 29)
      have c0 := X.c0
      have c7 := X.c7
      go_region_held3 (fun w' => w'.cell? ⟨w.heap.size, 0, none⟩ = some (.int .i64 64) ∧ w'.cell? ⟨w.heap.size, 7, none⟩ = some (.bool true)) (first | assumption | exact ⟨c0, c7⟩)
        (first
          | (go_at_call 73; refine (infS64 _).mono ?_; rintro x q1 ⟨rfl, hq1⟩; have f1 := And.intro (X.drew.below hq1).c0 (X.drew.below hq1).c7)
          | (go_at_call 72; refine (with_64 9218868437227405312 true _ (fun _ => by decide)).mono ?_; rintro x q2 ⟨rfl, hq2⟩; have f2 := And.intro ((X.drew.below hq1).below hq2).c0 ((X.drew.below hq1).below hq2).c7))
      go_wp2
      go_ret2
      exact ⟨ret_ui HR.out.1.symm HR.out.2.symm, (by repeat (first | exact Below.refl _ _ | refine Below.drew ?_ | refine bel_dn ?_ _ | refine bel_al ?_ _ | refine bel_go ?_ hq2 | refine bel_go ?_ hq1 | refine Below.setCell ?_ (by first | omega | (simp; done) | (simp; omega)) _ | refine Below.alloc ?_ (by first | omega | (simp; done) | (simp; omega)) _ | refine Below.trans ?_ (Below.mono hq2 (by first | omega | (simp; done) | (simp; omega))) | refine Below.trans ?_ (Below.mono hq1 (by first | omega | (simp; done) | (simp; omega)))))⟩
  | false =>
  obtain ⟨rfl, rfl⟩ : pl = false ∧ mi = false := by simpa using hq
  clear hpm hq
  cases z with
  | false =>
    have HR := hid (cl_r 9221120237041090560 9218868437227405312 9223372036854775808 mode T am rb rf)
    have hz1 := HZ.out rfl
    have CR := hid (CR.out hz1)
    clear HZ hz1
    go_enter Tryd.func46, Tryd.ntmps46
    go_wp2_with fail
    refine (CR.out _ ((hs.alloc _).alloc _)).mono ?_
    rintro x w1 ⟨rfl, hb1⟩
    go_wp2
    go_ret2
    exact ⟨ret_ui HR.out.1.symm HR.out.2.symm, (by repeat (first | exact Below.refl _ _ | refine Below.drew ?_ | refine bel_dn ?_ _ | refine bel_al ?_ _ | refine bel_go ?_ hb1 | refine Below.setCell ?_ (by first | omega | (simp; done) | (simp; omega)) _ | refine Below.alloc ?_ (by first | omega | (simp; done) | (simp; omega)) _ | refine Below.trans ?_ (Below.mono hb1 (by first | omega | (simp; done) | (simp; omega)))))⟩
  | true =>
    have HR := hid (cl_z 9221120237041090560 9218868437227405312 9223372036854775808 mode T am rb rf)
    clear CR HZ
    cases am with
    | true =>
      go_enter Tryd.func46, Tryd.ntmps46
      go_wp2_with fail
      refine (with_64 0 true _ (fun _ => by decide)).mono ?_
      rintro x w1 ⟨rfl, hb1⟩
      go_wp2
      go_ret2
      exact ⟨ret_ui HR.out.1.symm HR.out.2.symm, (by repeat (first | exact Below.refl _ _ | refine Below.drew ?_ | refine bel_dn ?_ _ | refine bel_al ?_ _ | refine bel_go ?_ hb1 | refine Below.setCell ?_ (by first | omega | (simp; done) | (simp; omega)) _ | refine Below.alloc ?_ (by first | omega | (simp; done) | (simp; omega)) _ | refine Below.trans ?_ (Below.mono hb1 (by first | omega | (simp; done) | (simp; omega)))))⟩
    | false =>
      by_cases hm3 : mode = 3
      · subst hm3
        by_cases ht : 0 < T
        · rw [decide_eq_true ht] at HR
          go_enter Tryd.func46, Tryd.ntmps46
          go_wp2_with fail
          refine (with_64 0 true _ (fun _ => by decide)).mono ?_
          rintro x w1 ⟨rfl, hb1⟩
          go_wp2
          go_ret2
          exact ⟨ret_ui HR.out.1.symm HR.out.2.symm, (by repeat (first | exact Below.refl _ _ | refine Below.drew ?_ | refine bel_dn ?_ _ | refine bel_al ?_ _ | refine bel_go ?_ hb1 | refine Below.setCell ?_ (by first | omega | (simp; done) | (simp; omega)) _ | refine Below.alloc ?_ (by first | omega | (simp; done) | (simp; omega)) _ | refine Below.trans ?_ (Below.mono hb1 (by first | omega | (simp; done) | (simp; omega)))))⟩
        · rw [decide_eq_false ht] at HR
          go_enter Tryd.func46, Tryd.ntmps46
          go_wp2_with fail
          refine (with_64 0 false _ (fun h => by cases h)).mono ?_
          rintro x w1 ⟨rfl, hb1⟩
          go_wp2
          go_ret2
          exact ⟨ret_ui HR.out.1.symm HR.out.2.symm, (by repeat (first | exact Below.refl _ _ | refine Below.drew ?_ | refine bel_dn ?_ _ | refine bel_al ?_ _ | refine bel_go ?_ hb1 | refine Below.setCell ?_ (by first | omega | (simp; done) | (simp; omega)) _ | refine Below.alloc ?_ (by first | omega | (simp; done) | (simp; omega)) _ | refine Below.trans ?_ (Below.mono hb1 (by first | omega | (simp; done) | (simp; omega)))))⟩
      · have hm3' : (mode == 3) = false := by simpa using hm3
        rw [decide_eq_false hm3] at HR
        clear hm3
        go_enter Tryd.func46, Tryd.ntmps46
        go_wp2_with fail
        refine (with_64 0 false _ (fun h => by cases h)).mono ?_
        rintro x w1 ⟨rfl, hb1⟩
        go_wp2
        go_ret2
        exact ⟨ret_ui HR.out.1.symm HR.out.2.symm, (by repeat (first | exact Below.refl _ _ | refine Below.drew ?_ | refine bel_dn ?_ _ | refine bel_al ?_ _ | refine bel_go ?_ hb1 | refine Below.setCell ?_ (by first | omega | (simp; done) | (simp; omega)) _ | refine Below.alloc ?_ (by first | omega | (simp; done) | (simp; omega)) _ | refine Below.trans ?_ (Below.mono hb1 (by first | omega | (simp; done) | (simp; omega)))))⟩
end Go.Proofs.YtfblidnejdkjhaaDoor
/-
  An accumulator rounded, at every argument, by both; the law.
-/
namespace Go.Proofs.YtfblidnejdkjhaaDoor
set_option linter.unusedVariables false
set_option linter.unusedSimpArgs false
open Go.RowKit Go.Deep
def arO (fm : Int) (ng : Bool) (zs : List Int) (T : Int) (nn bd pl mi am : Bool) (mode : Int) : Bool := accB fm ng zs T nn bd pl mi am && modeB mode
def arE (fm : Int) : Int := if fm = 32 then -298 else -2148
def arB (fm : Int) (ng : Bool) (zs : List Int) (T : Int) (nn bd pl mi am : Bool) (mode : Int) : Int :=
  if arO fm ng zs T nn bd pl mi am mode then (if fm = 32 then clB 2143289344 2139095040 2147483648 mode T nn bd pl mi am (decide (zs.length = 0)) (RdB 32 mode ng zs (-298)) else clB 9221120237041090560 9218868437227405312 9223372036854775808 mode T nn bd pl mi am (decide (zs.length = 0)) (RdB 64 mode ng zs (-2148))) else 0
def arF (fm : Int) (ng : Bool) (zs : List Int) (T : Int) (nn bd pl mi am : Bool) (mode : Int) : Int :=
  if arO fm ng zs T nn bd pl mi am mode then clF nn bd pl mi (decide (zs.length = 0)) (RdF fm mode ng zs (arE fm)) else 0
theorem ar_no {fm : Int} {ng : Bool} {zs : List Int} {T : Int} {nn bd pl mi am : Bool} {mode : Int} (h : arO fm ng zs T nn bd pl mi am mode = false) : arB fm ng zs T nn bd pl mi am mode = 0 ∧ arF fm ng zs T nn bd pl mi am mode = 0 := by unfold arB arF; rw [h]; exact ⟨rfl, rfl⟩
set_option maxHeartbeats 4000000 in
set_option maxRecDepth 100000 in
theorem round_spec_no (fm : Int) (ng : Bool) (T : Int) (nn bd pl mi am : Bool) (p : Option Addr) (cap : Nat) (zs : List Int) (mode : Int) (w : World) (hs : Sl .u32 w (.slice p zs.length cap) zs) (hl : zs.length ≤ 1048576) (hk : arO fm ng zs T nn bd pl mi am mode = false) :
    Calls Tryd.prog 19 #[.agg #[.int .i64 fm, .bool ng, .slice p zs.length cap, .int .i64 T, .bool nn, .bool bd, .bool pl, .bool mi, .bool am], .int .i64 mode] w fun e w' => e = .returned (.tuple #[.int .u64 0, .int .i64 0, .bool false]) ∧ Below w.heap.size w w' := by
  have C := hid (accok_spec fm ng T nn bd pl mi am p cap zs (w.alloc (.cells #[.int .i64 fm, .bool ng, .slice p zs.length cap, .int .i64 T, .bool nn, .bool bd, .bool pl, .bool mi, .bool am] 31)) (hs.alloc _) hl)
  have CM := hid (fun w' => mode_spec mode w')
  unfold arO at hk
  cases hb : accB fm ng zs T nn bd pl mi am
  · rw [hb] at C
    clear hb hk
    go_enter Tryd.func19, Tryd.ntmps19
    go_wp2_with fail
    refine C.out.mono ?_
    rintro e w1 ⟨rfl, hb1⟩
    go_wp2
    go_ret3
    exact ⟨rfl, (by repeat (first | exact Below.refl _ _ | refine Below.drew ?_ | refine bel_dn ?_ _ | refine bel_al ?_ _ | refine bel_go ?_ hb1 | refine Below.setCell ?_ (by first | omega | (simp; done) | (simp; omega)) _ | refine Below.alloc ?_ (by first | omega | (simp; done) | (simp; omega)) _ | refine Below.trans ?_ (Below.mono hb1 (by first | omega | (simp; done) | (simp; omega)))))⟩
  · have hm : modeB mode = false := by rw [hb] at hk; simpa using hk
    rw [hb] at C
    rw [hm] at CM
    clear hb hk hm
    go_enter Tryd.func19, Tryd.ntmps19
    go_wp2_with fail
    refine C.out.mono ?_
    rintro e w1 ⟨rfl, hb1⟩
    go_wp2_with fail
    refine (CM.out _).mono ?_
    rintro e w2 ⟨rfl, rfl⟩
    go_wp2
    go_ret3
    exact ⟨rfl, (by repeat (first | exact Below.refl _ _ | refine Below.drew ?_ | refine bel_dn ?_ _ | refine bel_al ?_ _ | refine bel_go ?_ hb1 | refine Below.setCell ?_ (by first | omega | (simp; done) | (simp; omega)) _ | refine Below.alloc ?_ (by first | omega | (simp; done) | (simp; omega)) _ | refine Below.trans ?_ (Below.mono hb1 (by first | omega | (simp; done) | (simp; omega)))))⟩
set_option maxHeartbeats 4000000 in
set_option maxRecDepth 100000 in
theorem round_impl_no (fm : Int) (ng : Bool) (T : Int) (nn bd pl mi am : Bool) (p : Option Addr) (cap : Nat) (zs : List Int) (mode : Int) (w : World) (hT : T3 w) (hs : Sl .u32 w (.slice p zs.length cap) zs) (hl : zs.length ≤ 1048576) (hk : arO fm ng zs T nn bd pl mi am mode = false) :
    Calls Tryd.prog 20 #[.agg #[.int .i64 fm, .bool ng, .slice p zs.length cap, .int .i64 T, .bool nn, .bool bd, .bool pl, .bool mi, .bool am], .int .i64 mode] w fun e w' => e = .returned (.tuple #[.int .u64 0, .int .i64 0, .bool false]) ∧ Below w.heap.size w w' := by
  have C := hid (accok_impl fm ng T nn bd pl mi am p cap zs (w.alloc (.cells #[.int .i64 fm, .bool ng, .slice p zs.length cap, .int .i64 T, .bool nn, .bool bd, .bool pl, .bool mi, .bool am] 31)) ((hT.s.f.al _)) (hs.alloc _) hl)
  have CM := hid (fun w' => mode_impl mode w')
  unfold arO at hk
  cases hb : accB fm ng zs T nn bd pl mi am
  · rw [hb] at C
    clear hb hk
    go_enter Tryd.func20, Tryd.ntmps20
    go_wp2_with fail
    refine C.out.mono ?_
    rintro e w1 ⟨rfl, hb1⟩
    go_wp2
    go_ret3
    exact ⟨rfl, (by repeat (first | exact Below.refl _ _ | refine Below.drew ?_ | refine bel_dn ?_ _ | refine bel_al ?_ _ | refine bel_go ?_ hb1 | refine Below.setCell ?_ (by first | omega | (simp; done) | (simp; omega)) _ | refine Below.alloc ?_ (by first | omega | (simp; done) | (simp; omega)) _ | refine Below.trans ?_ (Below.mono hb1 (by first | omega | (simp; done) | (simp; omega)))))⟩
  · have hm : modeB mode = false := by rw [hb] at hk; simpa using hk
    rw [hb] at C
    rw [hm] at CM
    clear hb hk hm
    go_enter Tryd.func20, Tryd.ntmps20
    go_wp2_with fail
    refine C.out.mono ?_
    rintro e w1 ⟨rfl, hb1⟩
    go_wp2_with fail
    refine (CM.out _).mono ?_
    rintro e w2 ⟨rfl, rfl⟩
    go_wp2
    go_ret3
    exact ⟨rfl, (by repeat (first | exact Below.refl _ _ | refine Below.drew ?_ | refine bel_dn ?_ _ | refine bel_al ?_ _ | refine bel_go ?_ hb1 | refine Below.setCell ?_ (by first | omega | (simp; done) | (simp; omega)) _ | refine Below.alloc ?_ (by first | omega | (simp; done) | (simp; omega)) _ | refine Below.trans ?_ (Below.mono hb1 (by first | omega | (simp; done) | (simp; omega)))))⟩
theorem sQB_32 (w : World) : Calls Tryd.prog 47 #[.int .i64 32] w fun e w' => e = .returned (.int .i64 (-149)) ∧ Below w.heap.size w w' :=
  (sQ_32 w).mono fun e w' ⟨h, h'⟩ => ⟨h, h' ▸ Below.refl _ _⟩
theorem rdo_32 {ng : Bool} {zs : List Int} {mode : Int} (hm : modeB mode = true) (ho : okB ng zs = true) : RdO 32 mode ng zs (-298) = true := by unfold RdO; rw [hm, ho]; rfl
set_option maxHeartbeats 4000000 in
set_option maxRecDepth 100000 in
theorem round_impl_32 (fm : Int) (ng : Bool) (T : Int) (nn bd pl mi am : Bool) (p : Option Addr) (cap : Nat) (zs : List Int) (mode : Int) (w : World) (hT : T3 w) (hs : Sl .u32 w (.slice p zs.length cap) zs) (hz : Nm.Dg zs) (hl : zs.length ≤ 1048576) (hf : fm = 32) (hk : accB fm ng zs T nn bd pl mi am = true) (hm : modeB mode = true) (X Y : Int) (hX : X = clB 2143289344 2139095040 2147483648 mode T nn bd pl mi am (decide (zs.length = 0)) (RdB 32 mode ng zs (-298))) (hY : Y = clF nn bd pl mi (decide (zs.length = 0)) (RdF 32 mode ng zs (-298))) :
    Calls Tryd.prog 20 #[.agg #[.int .i64 fm, .bool ng, .slice p zs.length cap, .int .i64 T, .bool nn, .bool bd, .bool pl, .bool mi, .bool am], .int .i64 mode] w fun e w' => e = .returned (.tuple #[.int .u64 X, .int .i64 Y, .bool true]) ∧ Below w.heap.size w w' := by
  have C := hid (accok_impl fm ng T nn bd pl mi am p cap zs (w.alloc (.cells #[.int .i64 fm, .bool ng, .slice p zs.length cap, .int .i64 T, .bool nn, .bool bd, .bool pl, .bool mi, .bool am] 31)) (hT.s.f.al _) (hs.alloc _) hl)
  have CM := hid (fun w' => mode_impl mode w')
  have CR := hid (fun w' h h' => mrd_32 T nn bd pl mi am mode ng zs (-298) p cap w' h h' hz hl _ _ rfl rfl (rdo_32 hm (acc_ok hk)))
  have CT := hid (fun w' => tally_any fm ng T nn bd pl mi am p zs.length cap w')
  rw [hk] at C
  rw [hm] at CM
  rw [← hX, ← hY] at CR
  clear hX hY hk hm hz
  subst hf
  go_enter Tryd.func20, Tryd.ntmps20
  go_wp2_with fail
  refine C.out.mono ?_
  rintro e w1 ⟨rfl, hb1⟩
  have q1 := (Q9.new w (.int .i64 32) (.bool ng) (.slice p zs.length cap) (.int .i64 T) (.bool nn) (.bool bd) (.bool pl) (.bool mi) (.bool am) 31).below hb1
  have s1 := (hs.alloc _).below hb1
  have bel1 : Below w.heap.size w w1 := (by repeat (first | exact Below.refl _ _ | refine Below.drew ?_ | refine bel_dn ?_ _ | refine bel_al ?_ _ | refine bel_go ?_ hb1 | refine Below.setCell ?_ (by first | omega | (simp; done) | (simp; omega)) _ | refine Below.alloc ?_ (by first | omega | (simp; done) | (simp; omega)) _ | refine Below.trans ?_ (Below.mono hb1 (by first | omega | (simp; done) | (simp; omega)))))
  clear hb1 C
  go_wp2_with fail
  refine (CM.out _).mono ?_
  rintro e w2 ⟨rfl, rfl⟩
  obtain ⟨c0, c1, c2, c3, c4, c5, c6, c7, c8⟩ := q1.cs
  go_wp2_with fail
  refine (sizes32 _ (hT.below bel1).s.f).mono ?_
  rintro e w3 ⟨rfl, hb3⟩
  clear c0 c1 c2 c3 c4 c5 c6 c7 c8
  have q3 := (q1.below hb3).alloc (.cells #[.int .u64 23, .int .u64 255, .int .i64 (-149)] 72)
  have s3 := (s1.below hb3).alloc (.cells #[.int .u64 23, .int .u64 255, .int .i64 (-149)] 72)
  have z3 := Z3.new w3 (.int .u64 23) (.int .u64 255) (.int .i64 (-149)) 72
  have bel3 := bel_al (bel_go bel1 hb3) (.cells #[.int .u64 23, .int .u64 255, .int .i64 (-149)] 72)
  clear q1 s1 hb3 bel1
  obtain ⟨c0, c1, c2, c3, c4, c5, c6, c7, c8⟩ := q3.cs
  go_wp2_with fail
  refine (CT.out _).mono ?_
  rintro e w4 ⟨rfl, hb4⟩
  clear c0 c1 c2 c3 c4 c5 c6 c7 c8
  have q4 := (q3.below hb4).alloc (.cells #[.int .i64 T, .bool nn, .bool bd, .bool pl, .bool mi, .bool am, .int .i64 32, .bool ng, .slice p zs.length cap] 60)
  have s4 := (s3.below hb4).alloc (.cells #[.int .i64 T, .bool nn, .bool bd, .bool pl, .bool mi, .bool am, .int .i64 32, .bool ng, .slice p zs.length cap] 60)
  have t4 := Q9.new w4 (.int .i64 T) (.bool nn) (.bool bd) (.bool pl) (.bool mi) (.bool am) (.int .i64 32) (.bool ng) (.slice p zs.length cap) 60
  have z4 := Z3.below (Z3.below z3 hb4) ((Below.refl w4.heap.size w4).alloc (Nat.le_refl _) (.cells #[.int .i64 T, .bool nn, .bool bd, .bool pl, .bool mi, .bool am, .int .i64 32, .bool ng, .slice p zs.length cap] 60))
  have bel4 := bel_al (bel_go bel3 hb4) (.cells #[.int .i64 T, .bool nn, .bool bd, .bool pl, .bool mi, .bool am, .int .i64 32, .bool ng, .slice p zs.length cap] 60)
  clear q3 s3 z3 bel3 hb4
  have c0 := q4.c0
  obtain ⟨t0, t1, t2, t3, t4, t5, t6, t7, t8⟩ := t4.cs
  obtain ⟨z0, z1, z2⟩ := z4
  go_wp2_with fail
  refine (CR.out _ (hT.below bel4) s4).mono ?_
  rintro e w5 ⟨rfl, hb5⟩
  go_wp2
  go_ret3
  exact ⟨rfl, bel_go bel4 hb5⟩
set_option maxHeartbeats 4000000 in
set_option maxRecDepth 100000 in
theorem round_spec_32 (fm : Int) (ng : Bool) (T : Int) (nn bd pl mi am : Bool) (p : Option Addr) (cap : Nat) (zs : List Int) (mode : Int) (w : World) (hs : Sl .u32 w (.slice p zs.length cap) zs) (hz : Nm.Dg zs) (hl : zs.length ≤ 1048576) (hf : fm = 32) (hk : accB fm ng zs T nn bd pl mi am = true) (hm : modeB mode = true) (X Y : Int) (hX : X = clB 2143289344 2139095040 2147483648 mode T nn bd pl mi am (decide (zs.length = 0)) (RdB 32 mode ng zs (-298))) (hY : Y = clF nn bd pl mi (decide (zs.length = 0)) (RdF 32 mode ng zs (-298))) :
    Calls Tryd.prog 19 #[.agg #[.int .i64 fm, .bool ng, .slice p zs.length cap, .int .i64 T, .bool nn, .bool bd, .bool pl, .bool mi, .bool am], .int .i64 mode] w fun e w' => e = .returned (.tuple #[.int .u64 X, .int .i64 Y, .bool true]) ∧ Below w.heap.size w w' := by
  have C := hid (accok_spec fm ng T nn bd pl mi am p cap zs (w.alloc (.cells #[.int .i64 fm, .bool ng, .slice p zs.length cap, .int .i64 T, .bool nn, .bool bd, .bool pl, .bool mi, .bool am] 31)) (hs.alloc _) hl)
  have CM := hid (fun w' => mode_spec mode w')
  have CR := hid (fun w' h => close_32 fm hf ng p zs.length cap T nn bd pl mi am mode ng zs (-298) p cap w' h hz hl _ _ rfl rfl (rdo_32 hm (acc_ok hk)) (bad_nn hk))
  rw [hk] at C
  rw [hm] at CM
  rw [← hX, ← hY] at CR
  clear hX hY hk hm hz
  subst hf
  go_enter Tryd.func19, Tryd.ntmps19
  go_wp2_with fail
  refine C.out.mono ?_
  rintro e w1 ⟨rfl, hb1⟩
  have q1 := (Q9.new w (.int .i64 32) (.bool ng) (.slice p zs.length cap) (.int .i64 T) (.bool nn) (.bool bd) (.bool pl) (.bool mi) (.bool am) 31).below hb1
  have s1 := (hs.alloc _).below hb1
  have bel1 : Below w.heap.size w w1 := (by repeat (first | exact Below.refl _ _ | refine Below.drew ?_ | refine bel_dn ?_ _ | refine bel_al ?_ _ | refine bel_go ?_ hb1 | refine Below.setCell ?_ (by first | omega | (simp; done) | (simp; omega)) _ | refine Below.alloc ?_ (by first | omega | (simp; done) | (simp; omega)) _ | refine Below.trans ?_ (Below.mono hb1 (by first | omega | (simp; done) | (simp; omega)))))
  clear hb1 C
  go_wp2_with fail
  refine (CM.out _).mono ?_
  rintro e w2 ⟨rfl, rfl⟩
  have cx := q1.cs
  go_wp2_with fail
  go_region_held3 (fun w' => w'.cell? ⟨w.heap.size, 0, none⟩ = some (.int .i64 32) ∧ w'.cell? ⟨w.heap.size, 1, none⟩ = some (.bool ng) ∧ w'.cell? ⟨w.heap.size, 2, none⟩ = some (.slice p zs.length cap) ∧ w'.cell? ⟨w.heap.size, 3, none⟩ = some (.int .i64 T) ∧ w'.cell? ⟨w.heap.size, 4, none⟩ = some (.bool nn) ∧ w'.cell? ⟨w.heap.size, 5, none⟩ = some (.bool bd) ∧ w'.cell? ⟨w.heap.size, 6, none⟩ = some (.bool pl) ∧ w'.cell? ⟨w.heap.size, 7, none⟩ = some (.bool mi) ∧ w'.cell? ⟨w.heap.size, 8, none⟩ = some (.bool am)) (first | assumption | exact cx)
    (first
      | (go_at_call 47; refine (sQB_32 _).mono ?_; rintro e q0 ⟨rfl, hq0⟩; have hb2 : Below w2.heap.size w2 q0 := bel_go (Below.drew (Below.refl _ _)) hq0; have f1 := (q1.below hb2).cs)
      | (go_at_call 46; refine (CR.out _ (s1.below hb2)).mono ?_; rintro e w3 ⟨rfl, hb3⟩; have f2 := ((q1.below hb2).below hb3).cs))
  go_wp2
  go_ret3
  exact ⟨rfl, bel_go (bel_go bel1 hb2) hb3⟩
theorem sQB_64 (w : World) : Calls Tryd.prog 47 #[.int .i64 64] w fun e w' => e = .returned (.int .i64 (-1074)) ∧ Below w.heap.size w w' :=
  (sQ_64 w).mono fun e w' ⟨h, h'⟩ => ⟨h, h' ▸ Below.refl _ _⟩
theorem rdo_64 {ng : Bool} {zs : List Int} {mode : Int} (hm : modeB mode = true) (ho : okB ng zs = true) : RdO 64 mode ng zs (-2148) = true := by unfold RdO; rw [hm, ho]; rfl
set_option maxHeartbeats 4000000 in
set_option maxRecDepth 100000 in
theorem round_impl_64 (fm : Int) (ng : Bool) (T : Int) (nn bd pl mi am : Bool) (p : Option Addr) (cap : Nat) (zs : List Int) (mode : Int) (w : World) (hT : T3 w) (hs : Sl .u32 w (.slice p zs.length cap) zs) (hz : Nm.Dg zs) (hl : zs.length ≤ 1048576) (hf : fm = 64) (hk : accB fm ng zs T nn bd pl mi am = true) (hm : modeB mode = true) (X Y : Int) (hX : X = clB 9221120237041090560 9218868437227405312 9223372036854775808 mode T nn bd pl mi am (decide (zs.length = 0)) (RdB 64 mode ng zs (-2148))) (hY : Y = clF nn bd pl mi (decide (zs.length = 0)) (RdF 64 mode ng zs (-2148))) :
    Calls Tryd.prog 20 #[.agg #[.int .i64 fm, .bool ng, .slice p zs.length cap, .int .i64 T, .bool nn, .bool bd, .bool pl, .bool mi, .bool am], .int .i64 mode] w fun e w' => e = .returned (.tuple #[.int .u64 X, .int .i64 Y, .bool true]) ∧ Below w.heap.size w w' := by
  have C := hid (accok_impl fm ng T nn bd pl mi am p cap zs (w.alloc (.cells #[.int .i64 fm, .bool ng, .slice p zs.length cap, .int .i64 T, .bool nn, .bool bd, .bool pl, .bool mi, .bool am] 31)) (hT.s.f.al _) (hs.alloc _) hl)
  have CM := hid (fun w' => mode_impl mode w')
  have CR := hid (fun w' h h' => mrd_64 T nn bd pl mi am mode ng zs (-2148) p cap w' h h' hz hl _ _ rfl rfl (rdo_64 hm (acc_ok hk)))
  have CT := hid (fun w' => tally_any fm ng T nn bd pl mi am p zs.length cap w')
  rw [hk] at C
  rw [hm] at CM
  rw [← hX, ← hY] at CR
  clear hX hY hk hm hz
  subst hf
  go_enter Tryd.func20, Tryd.ntmps20
  go_wp2_with fail
  refine C.out.mono ?_
  rintro e w1 ⟨rfl, hb1⟩
  have q1 := (Q9.new w (.int .i64 64) (.bool ng) (.slice p zs.length cap) (.int .i64 T) (.bool nn) (.bool bd) (.bool pl) (.bool mi) (.bool am) 31).below hb1
  have s1 := (hs.alloc _).below hb1
  have bel1 : Below w.heap.size w w1 := (by repeat (first | exact Below.refl _ _ | refine Below.drew ?_ | refine bel_dn ?_ _ | refine bel_al ?_ _ | refine bel_go ?_ hb1 | refine Below.setCell ?_ (by first | omega | (simp; done) | (simp; omega)) _ | refine Below.alloc ?_ (by first | omega | (simp; done) | (simp; omega)) _ | refine Below.trans ?_ (Below.mono hb1 (by first | omega | (simp; done) | (simp; omega)))))
  clear hb1 C
  go_wp2_with fail
  refine (CM.out _).mono ?_
  rintro e w2 ⟨rfl, rfl⟩
  obtain ⟨c0, c1, c2, c3, c4, c5, c6, c7, c8⟩ := q1.cs
  go_wp2_with fail
  refine (sizes64 _ (hT.below bel1).s.f).mono ?_
  rintro e w3 ⟨rfl, hb3⟩
  clear c0 c1 c2 c3 c4 c5 c6 c7 c8
  have q3 := (q1.below hb3).alloc (.cells #[.int .u64 52, .int .u64 2047, .int .i64 (-1074)] 72)
  have s3 := (s1.below hb3).alloc (.cells #[.int .u64 52, .int .u64 2047, .int .i64 (-1074)] 72)
  have z3 := Z3.new w3 (.int .u64 52) (.int .u64 2047) (.int .i64 (-1074)) 72
  have bel3 := bel_al (bel_go bel1 hb3) (.cells #[.int .u64 52, .int .u64 2047, .int .i64 (-1074)] 72)
  clear q1 s1 hb3 bel1
  obtain ⟨c0, c1, c2, c3, c4, c5, c6, c7, c8⟩ := q3.cs
  go_wp2_with fail
  refine (CT.out _).mono ?_
  rintro e w4 ⟨rfl, hb4⟩
  clear c0 c1 c2 c3 c4 c5 c6 c7 c8
  have q4 := (q3.below hb4).alloc (.cells #[.int .i64 T, .bool nn, .bool bd, .bool pl, .bool mi, .bool am, .int .i64 64, .bool ng, .slice p zs.length cap] 60)
  have s4 := (s3.below hb4).alloc (.cells #[.int .i64 T, .bool nn, .bool bd, .bool pl, .bool mi, .bool am, .int .i64 64, .bool ng, .slice p zs.length cap] 60)
  have t4 := Q9.new w4 (.int .i64 T) (.bool nn) (.bool bd) (.bool pl) (.bool mi) (.bool am) (.int .i64 64) (.bool ng) (.slice p zs.length cap) 60
  have z4 := Z3.below (Z3.below z3 hb4) ((Below.refl w4.heap.size w4).alloc (Nat.le_refl _) (.cells #[.int .i64 T, .bool nn, .bool bd, .bool pl, .bool mi, .bool am, .int .i64 64, .bool ng, .slice p zs.length cap] 60))
  have bel4 := bel_al (bel_go bel3 hb4) (.cells #[.int .i64 T, .bool nn, .bool bd, .bool pl, .bool mi, .bool am, .int .i64 64, .bool ng, .slice p zs.length cap] 60)
  clear q3 s3 z3 bel3 hb4
  have c0 := q4.c0
  obtain ⟨t0, t1, t2, t3, t4, t5, t6, t7, t8⟩ := t4.cs
  obtain ⟨z0, z1, z2⟩ := z4
  go_wp2_with fail
  refine (CR.out _ (hT.below bel4) s4).mono ?_
  rintro e w5 ⟨rfl, hb5⟩
  go_wp2
  go_ret3
  exact ⟨rfl, bel_go bel4 hb5⟩
set_option maxHeartbeats 4000000 in
set_option maxRecDepth 100000 in
theorem round_spec_64 (fm : Int) (ng : Bool) (T : Int) (nn bd pl mi am : Bool) (p : Option Addr) (cap : Nat) (zs : List Int) (mode : Int) (w : World) (hs : Sl .u32 w (.slice p zs.length cap) zs) (hz : Nm.Dg zs) (hl : zs.length ≤ 1048576) (hf : fm = 64) (hk : accB fm ng zs T nn bd pl mi am = true) (hm : modeB mode = true) (X Y : Int) (hX : X = clB 9221120237041090560 9218868437227405312 9223372036854775808 mode T nn bd pl mi am (decide (zs.length = 0)) (RdB 64 mode ng zs (-2148))) (hY : Y = clF nn bd pl mi (decide (zs.length = 0)) (RdF 64 mode ng zs (-2148))) :
    Calls Tryd.prog 19 #[.agg #[.int .i64 fm, .bool ng, .slice p zs.length cap, .int .i64 T, .bool nn, .bool bd, .bool pl, .bool mi, .bool am], .int .i64 mode] w fun e w' => e = .returned (.tuple #[.int .u64 X, .int .i64 Y, .bool true]) ∧ Below w.heap.size w w' := by
  have C := hid (accok_spec fm ng T nn bd pl mi am p cap zs (w.alloc (.cells #[.int .i64 fm, .bool ng, .slice p zs.length cap, .int .i64 T, .bool nn, .bool bd, .bool pl, .bool mi, .bool am] 31)) (hs.alloc _) hl)
  have CM := hid (fun w' => mode_spec mode w')
  have CR := hid (fun w' h => close_64 fm hf ng p zs.length cap T nn bd pl mi am mode ng zs (-2148) p cap w' h hz hl _ _ rfl rfl (rdo_64 hm (acc_ok hk)) (bad_nn hk))
  rw [hk] at C
  rw [hm] at CM
  rw [← hX, ← hY] at CR
  clear hX hY hk hm hz
  subst hf
  go_enter Tryd.func19, Tryd.ntmps19
  go_wp2_with fail
  refine C.out.mono ?_
  rintro e w1 ⟨rfl, hb1⟩
  have q1 := (Q9.new w (.int .i64 64) (.bool ng) (.slice p zs.length cap) (.int .i64 T) (.bool nn) (.bool bd) (.bool pl) (.bool mi) (.bool am) 31).below hb1
  have s1 := (hs.alloc _).below hb1
  have bel1 : Below w.heap.size w w1 := (by repeat (first | exact Below.refl _ _ | refine Below.drew ?_ | refine bel_dn ?_ _ | refine bel_al ?_ _ | refine bel_go ?_ hb1 | refine Below.setCell ?_ (by first | omega | (simp; done) | (simp; omega)) _ | refine Below.alloc ?_ (by first | omega | (simp; done) | (simp; omega)) _ | refine Below.trans ?_ (Below.mono hb1 (by first | omega | (simp; done) | (simp; omega)))))
  clear hb1 C
  go_wp2_with fail
  refine (CM.out _).mono ?_
  rintro e w2 ⟨rfl, rfl⟩
  have cx := q1.cs
  go_wp2_with fail
  go_region_held3 (fun w' => w'.cell? ⟨w.heap.size, 0, none⟩ = some (.int .i64 64) ∧ w'.cell? ⟨w.heap.size, 1, none⟩ = some (.bool ng) ∧ w'.cell? ⟨w.heap.size, 2, none⟩ = some (.slice p zs.length cap) ∧ w'.cell? ⟨w.heap.size, 3, none⟩ = some (.int .i64 T) ∧ w'.cell? ⟨w.heap.size, 4, none⟩ = some (.bool nn) ∧ w'.cell? ⟨w.heap.size, 5, none⟩ = some (.bool bd) ∧ w'.cell? ⟨w.heap.size, 6, none⟩ = some (.bool pl) ∧ w'.cell? ⟨w.heap.size, 7, none⟩ = some (.bool mi) ∧ w'.cell? ⟨w.heap.size, 8, none⟩ = some (.bool am)) (first | assumption | exact cx)
    (first
      | (go_at_call 47; refine (sQB_64 _).mono ?_; rintro e q0 ⟨rfl, hq0⟩; have hb2 : Below w2.heap.size w2 q0 := bel_go (Below.drew (Below.refl _ _)) hq0; have f1 := (q1.below hb2).cs)
      | (go_at_call 46; refine (CR.out _ (s1.below hb2)).mono ?_; rintro e w3 ⟨rfl, hb3⟩; have f2 := ((q1.below hb2).below hb3).cs))
  go_wp2
  go_ret3
  exact ⟨rfl, bel_go (bel_go bel1 hb2) hb3⟩
theorem ar_yes32 {fm : Int} {ng : Bool} {zs : List Int} {T : Int} {nn bd pl mi am : Bool} {mode : Int} (h : arO fm ng zs T nn bd pl mi am mode = true) (hf : fm = 32) :
    arB fm ng zs T nn bd pl mi am mode = clB 2143289344 2139095040 2147483648 mode T nn bd pl mi am (decide (zs.length = 0)) (RdB 32 mode ng zs (-298)) ∧ arF fm ng zs T nn bd pl mi am mode = clF nn bd pl mi (decide (zs.length = 0)) (RdF 32 mode ng zs (-298)) := by
  unfold arB arF arE; rw [h, if_pos rfl, if_pos rfl, if_pos hf, if_pos hf, hf]; exact ⟨rfl, rfl⟩
theorem ar_yes64 {fm : Int} {ng : Bool} {zs : List Int} {T : Int} {nn bd pl mi am : Bool} {mode : Int} (h : arO fm ng zs T nn bd pl mi am mode = true) (hf : fm = 64) :
    arB fm ng zs T nn bd pl mi am mode = clB 9221120237041090560 9218868437227405312 9223372036854775808 mode T nn bd pl mi am (decide (zs.length = 0)) (RdB 64 mode ng zs (-2148)) ∧ arF fm ng zs T nn bd pl mi am mode = clF nn bd pl mi (decide (zs.length = 0)) (RdF 64 mode ng zs (-2148)) := by
  have h32 : fm ≠ 32 := by omega
  unfold arB arF arE; rw [h, if_pos rfl, if_pos rfl, if_neg h32, if_neg h32, hf]; exact ⟨rfl, rfl⟩
theorem round_impl (fm : Int) (ng : Bool) (T : Int) (nn bd pl mi am : Bool) (p : Option Addr) (cap : Nat) (zs : List Int) (mode : Int) (w : World) (hT : T3 w) (hs : Sl .u32 w (.slice p zs.length cap) zs) (hz : Nm.Dg zs) (hl : zs.length ≤ 1048576) :
    Calls Tryd.prog 20 #[.agg #[.int .i64 fm, .bool ng, .slice p zs.length cap, .int .i64 T, .bool nn, .bool bd, .bool pl, .bool mi, .bool am], .int .i64 mode] w fun e w' => e = .returned (.tuple #[.int .u64 (arB fm ng zs T nn bd pl mi am mode), .int .i64 (arF fm ng zs T nn bd pl mi am mode), .bool (arO fm ng zs T nn bd pl mi am mode)]) ∧ Below w.heap.size w w' := by
  cases hk : arO fm ng zs T nn bd pl mi am mode
  · rw [(ar_no hk).1, (ar_no hk).2]; exact round_impl_no fm ng T nn bd pl mi am p cap zs mode w hT hs hl hk
  · have hk' := hk
    unfold arO at hk'
    simp only [Bool.and_eq_true] at hk'
    rcases acc_fm hk'.1 with hf | hf
    · exact round_impl_32 fm ng T nn bd pl mi am p cap zs mode w hT hs hz hl hf hk'.1 hk'.2 _ _ (ar_yes32 hk hf).1 (ar_yes32 hk hf).2
    · exact round_impl_64 fm ng T nn bd pl mi am p cap zs mode w hT hs hz hl hf hk'.1 hk'.2 _ _ (ar_yes64 hk hf).1 (ar_yes64 hk hf).2
theorem round_spec (fm : Int) (ng : Bool) (T : Int) (nn bd pl mi am : Bool) (p : Option Addr) (cap : Nat) (zs : List Int) (mode : Int) (w : World) (hs : Sl .u32 w (.slice p zs.length cap) zs) (hz : Nm.Dg zs) (hl : zs.length ≤ 1048576) :
    Calls Tryd.prog 19 #[.agg #[.int .i64 fm, .bool ng, .slice p zs.length cap, .int .i64 T, .bool nn, .bool bd, .bool pl, .bool mi, .bool am], .int .i64 mode] w fun e w' => e = .returned (.tuple #[.int .u64 (arB fm ng zs T nn bd pl mi am mode), .int .i64 (arF fm ng zs T nn bd pl mi am mode), .bool (arO fm ng zs T nn bd pl mi am mode)]) ∧ Below w.heap.size w w' := by
  cases hk : arO fm ng zs T nn bd pl mi am mode
  · rw [(ar_no hk).1, (ar_no hk).2]; exact round_spec_no fm ng T nn bd pl mi am p cap zs mode w hs hl hk
  · have hk' := hk
    unfold arO at hk'
    simp only [Bool.and_eq_true] at hk'
    rcases acc_fm hk'.1 with hf | hf
    · exact round_spec_32 fm ng T nn bd pl mi am p cap zs mode w hs hz hl hf hk'.1 hk'.2 _ _ (ar_yes32 hk hf).1 (ar_yes32 hk hf).2
    · exact round_spec_64 fm ng T nn bd pl mi am p cap zs mode w hs hz hl hf hk'.1 hk'.2 _ _ (ar_yes64 hk hf).1 (ar_yes64 hk hf).2
end Go.Proofs.YtfblidnejdkjhaaDoor
/-
  The law on accumulators rounded: the walk.
-/
namespace Go.Proofs.YtfblidnejdkjhaaDoor
set_option linter.unusedVariables false
set_option linter.unusedSimpArgs false
open Go.RowKit Go.Deep
attribute [local go_sem ↓] Go.wp_at_zero Go.wp_at_succ
set_option maxHeartbeats 4000000 in
set_option maxRecDepth 100000 in
theorem law_AccRound (fm : Int) (ng : Bool) (T : Int) (nn bd pl mi am : Bool) (a : Option Addr) (cap : Nat) (zs : List Int) (mode : Int) (w : World) (hT : T3 w) (hs : Sl .u32 w (.slice a zs.length cap) zs) (hz : Nm.Dg zs) :
    Calls Tryd.prog 6 #[.agg #[.int .i64 fm, .bool ng, .slice a zs.length cap, .int .i64 T, .bool nn, .bool bd, .bool pl, .bool mi, .bool am], .int .i64 mode] w fun e w' => e = .returned (.bool true) ∧ Below w.heap.size w w' := by
  have hlm : zs.length ≤ 9223372036854775807 := by obtain ⟨_, h1, h2, _⟩ := hs.cells; unfold maxLen at h2; omega
  by_cases hn : zs.length ≤ 1048576
  · have hl : zs.length ≤ 140737488355328 := by omega
    have hr' : ¬ szR 1048576 zs.length < 0 := by unfold szR; rw [if_neg (by omega)]; omega
    obtain ⟨b, hb⟩ : ∃ b, b = arB fm ng zs T nn bd pl mi am mode := ⟨_, rfl⟩
    obtain ⟨f, hf⟩ : ∃ f, f = arF fm ng zs T nn bd pl mi am mode := ⟨_, rfl⟩
    obtain ⟨o, ho⟩ : ∃ o, o = arO fm ng zs T nn bd pl mi am mode := ⟨_, rfl⟩
    have CS := hid (fun a c w' h => round_spec fm ng T nn bd pl mi am a c zs mode w' h hz hn)
    have CI := hid (fun a c w' h h' => round_impl fm ng T nn bd pl mi am a c zs mode w' h h' hz hn)
    rw [← hb, ← hf, ← ho] at CS CI
    clear hb hf ho
    have q1 : (b != b) = false := by simp
    have q2 : (f != f) = false := by simp
    have q3 : (o != o) = false := by simp
    go_enter Tryd.func6, Tryd.ntmps6
    go_wp2_with fail
    refine (szA_any fm ng T nn bd pl mi am a zs.length cap 1048576 _ hlm (by decide) (by decide)).mono ?_
    rintro x w1 ⟨rfl, hb1⟩
    have x1 := (Q9.new w (.int .i64 fm) (.bool ng) (.slice a zs.length cap) (.int .i64 T) (.bool nn) (.bool bd) (.bool pl) (.bool mi) (.bool am) 26).below hb1
    have hs1 := (hs.alloc _).below hb1
    have x1' := x1
    obtain ⟨c0, c1, c2, c3, c4, c5, c6, c7, c8⟩ := x1'.cs
    go_wp2_with fail
    refine (toA_any fm ng T nn bd pl mi am _ zs _ hs1 hn).mono ?_
    rintro x w2 ⟨a2, c2', rfl, ho2, hb2⟩
    have x2 := x1.below hb2
    have hs2 := hs1.below hb2
    clear c0 c1 c2 c3 c4 c5 c6 c7 c8 x1
    go_wp2_with fail
    refine (CS.out a2 c2' _ ho2.sl).mono ?_
    rintro x w3 ⟨rfl, hb3⟩
    have x3 := x2.below hb3
    have hs3 := hs2.below hb3
    have bel3 : Below w.heap.size w w3 := (by repeat (first | exact Below.refl _ _ | refine Below.drew ?_ | refine bel_dn ?_ _ | refine bel_al ?_ _ | refine bel_go ?_ hb3 | refine bel_go ?_ hb2 | refine bel_go ?_ hb1 | refine Below.setCell ?_ (by first | omega | (simp; done) | (simp; omega)) _ | refine Below.alloc ?_ (by first | omega | (simp; done) | (simp; omega)) _ | refine Below.trans ?_ (Below.mono hb3 (by first | omega | (simp; done) | (simp; omega))) | refine Below.trans ?_ (Below.mono hb2 (by first | omega | (simp; done) | (simp; omega))) | refine Below.trans ?_ (Below.mono hb1 (by first | omega | (simp; done) | (simp; omega)))))
    clear hb1 hb2 hb3 x2 hs1 hs2 ho2
    have x3' := x3
    obtain ⟨c0, c1, c2, c3, c4, c5, c6, c7, c8⟩ := x3'.cs
    go_wp2_with fail
    refine (toA_any fm ng T nn bd pl mi am _ zs _ hs3 hn).mono ?_
    rintro x w4 ⟨a4, c4', rfl, ho4, hb4⟩
    have x4 := (x3.below hb4).alloc (.cells #[.int .i64 fm, .bool ng, .slice a4 zs.length c4', .int .i64 T, .bool nn, .bool bd, .bool pl, .bool mi, .bool am] 31)
    have hs4 := (hs3.below hb4).alloc (.cells #[.int .i64 fm, .bool ng, .slice a4 zs.length c4', .int .i64 T, .bool nn, .bool bd, .bool pl, .bool mi, .bool am] 31)
    have y4 := Q9.new w4 (.int .i64 fm) (.bool ng) (.slice a4 zs.length c4') (.int .i64 T) (.bool nn) (.bool bd) (.bool pl) (.bool mi) (.bool am) 31
    have o4 := ho4.sl.alloc (.cells #[.int .i64 fm, .bool ng, .slice a4 zs.length c4', .int .i64 T, .bool nn, .bool bd, .bool pl, .bool mi, .bool am] 31)
    have bel4 : Below w.heap.size w (w4.alloc (.cells #[.int .i64 fm, .bool ng, .slice a4 zs.length c4', .int .i64 T, .bool nn, .bool bd, .bool pl, .bool mi, .bool am] 31)) := bel_al (bel_go bel3 hb4) _
    have T4 := hT.below bel4
    clear c0 c1 c2 c3 c4 c5 c6 c7 c8 x3 hs3 bel3 hb4 ho4
    have y4' := y4
    obtain ⟨d0, d1, d2, d3, d4, d5, d6, d7, d8⟩ := y4'.cs
    go_wp2_with fail
    refine (CI.out a4 c4' _ T4 o4).mono ?_
    rintro x w5 ⟨rfl, hb5⟩
    have x5 := x4.below hb5
    have y5 := y4.below hb5
    have hs5 := hs4.below hb5
    have o5 := o4.below hb5
    have bel5 := bel_go bel4 hb5
    clear d0 d1 d2 d3 d4 d5 d6 d7 d8 x4 y4 hs4 o4 bel4 T4 hb5
    have cx := x5.cs
    have cy := y5.cs
    go_wp2_with fail
    go_region_held3 (fun w' => (w'.cell? ⟨w.heap.size, 0, none⟩ = some (.int .i64 fm) ∧ w'.cell? ⟨w.heap.size, 1, none⟩ = some (.bool ng) ∧ w'.cell? ⟨w.heap.size, 2, none⟩ = some (.slice a zs.length cap) ∧ w'.cell? ⟨w.heap.size, 3, none⟩ = some (.int .i64 T) ∧ w'.cell? ⟨w.heap.size, 4, none⟩ = some (.bool nn) ∧ w'.cell? ⟨w.heap.size, 5, none⟩ = some (.bool bd) ∧ w'.cell? ⟨w.heap.size, 6, none⟩ = some (.bool pl) ∧ w'.cell? ⟨w.heap.size, 7, none⟩ = some (.bool mi) ∧ w'.cell? ⟨w.heap.size, 8, none⟩ = some (.bool am)) ∧ (w'.cell? ⟨w4.heap.size, 0, none⟩ = some (.int .i64 fm) ∧ w'.cell? ⟨w4.heap.size, 1, none⟩ = some (.bool ng) ∧ w'.cell? ⟨w4.heap.size, 2, none⟩ = some (.slice a4 zs.length c4') ∧ w'.cell? ⟨w4.heap.size, 3, none⟩ = some (.int .i64 T) ∧ w'.cell? ⟨w4.heap.size, 4, none⟩ = some (.bool nn) ∧ w'.cell? ⟨w4.heap.size, 5, none⟩ = some (.bool bd) ∧ w'.cell? ⟨w4.heap.size, 6, none⟩ = some (.bool pl) ∧ w'.cell? ⟨w4.heap.size, 7, none⟩ = some (.bool mi) ∧ w'.cell? ⟨w4.heap.size, 8, none⟩ = some (.bool am))) (first | assumption | exact ⟨cx, cy⟩)
      (first
        | (go_at_call 10; refine (toA_any fm ng T nn bd pl mi am (.slice a zs.length cap) zs _ hs5.drew hn).mono ?_; rintro x w6 ⟨a6, c6, rfl, ho6, hb6⟩; have four := And.intro (x5.drew.below hb6).cs (y5.drew.below hb6).cs; have o6 := (o5.drew).below hb6)
        | (go_at_call 12; refine (eqA_same fm ng T nn bd pl mi am a4 a6 c4' c6 zs _ o6 ho6.sl hl).mono ?_; rintro x w7 ⟨rfl, hb7⟩; have f7 := And.intro ((x5.drew.below hb6).below hb7).cs ((y5.drew.below hb6).below hb7).cs))
    go_wp2
    go_ret
    exact ⟨rfl, (by repeat (first | exact Below.refl _ _ | refine Below.drew ?_ | refine bel_dn ?_ _ | refine bel_al ?_ _ | refine bel_go ?_ hb7 | refine bel_go ?_ hb6 | refine bel_go ?_ bel5 | refine Below.setCell ?_ (by first | omega | (simp; done) | (simp; omega)) _ | refine Below.alloc ?_ (by first | omega | (simp; done) | (simp; omega)) _ | refine Below.trans ?_ (Below.mono hb7 (by first | omega | (simp; done) | (simp; omega))) | refine Below.trans ?_ (Below.mono hb6 (by first | omega | (simp; done) | (simp; omega))) | refine Below.trans ?_ (Below.mono bel5 (by first | omega | (simp; done) | (simp; omega)))))⟩
  · have hr' : szR 1048576 zs.length < 0 := by unfold szR; rw [if_pos (by omega)]; decide
    go_enter Tryd.func6, Tryd.ntmps6
    go_wp2_with fail
    refine (szA_any fm ng T nn bd pl mi am a zs.length cap 1048576 _ hlm (by decide) (by decide)).mono ?_
    rintro x w1 ⟨rfl, hb1⟩
    go_wp2
    go_ret
    exact ⟨rfl, (by repeat (first | exact Below.refl _ _ | refine Below.drew ?_ | refine bel_dn ?_ _ | refine bel_al ?_ _ | refine bel_go ?_ hb1 | refine Below.setCell ?_ (by first | omega | (simp; done) | (simp; omega)) _ | refine Below.alloc ?_ (by first | omega | (simp; done) | (simp; omega)) _ | refine Below.trans ?_ (Below.mono hb1 (by first | omega | (simp; done) | (simp; omega)))))⟩
end Go.Proofs.YtfblidnejdkjhaaDoor
