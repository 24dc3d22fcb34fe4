/-
  Several texts in one: WideC, Bits, FloatA, FloatB.
-/
import Derived.Test.YtpoojmheegncfaaGreatDoorG04
import Derived.WalkKit
import Derived.Test.YtpoojmheegncfaaGreatDoorRows
import Derived.WalkSpells
import Derived.WalkLawsBesides
import Derived.Test.YtpoojmheegncfaaGreatDoorG00
import Derived.Deep.RegionHeld3
/-
  Wides compared, by the program and by the specification.
-/
namespace Go.Proofs.YtpoojmheegncfaaGreatDoor
set_option linter.unusedVariables false
set_option linter.unusedSimpArgs false
open Go.RowKit Go.Deep
/-- How two wides compare. -/
def wcmp (na nb : Bool) (xs ys : List Int) : Int := if okB na xs && okB nb ys then (if na && nb then cmpL ys xs else if na then -1 else if nb then 1 else cmpL xs ys) else 2
theorem wcmp_no1 {na nb : Bool} {xs ys : List Int} (h : okB na xs = false) : wcmp na nb xs ys = 2 := by unfold wcmp; rw [h]; rfl
theorem wcmp_no2 {na nb : Bool} {xs ys : List Int} (h : okB nb ys = false) : wcmp na nb xs ys = 2 := by unfold wcmp; rw [h]; simp
theorem wcmp_yes {na nb : Bool} {xs ys : List Int} (h : okB na xs = true) (k : okB nb ys = true) : wcmp na nb xs ys = if na && nb then cmpL ys xs else if na then -1 else if nb then 1 else cmpL xs ys := by unfold wcmp; rw [h, k]; rfl
theorem cmpL_rng (xs ys : List Int) : -1 ≤ cmpL xs ys ∧ cmpL xs ys ≤ 1 := by
  have := cmpFrom_rng xs ys xs.length
  unfold cmpL
  split
  · omega
  · split <;> omega

set_option maxHeartbeats 2000000 in
theorem wcmp_impl (na nb : Bool) (a a' : Option Addr) (cap cap' : Nat) (xs ys : List Int) (w : World) (hx : Sl .u32 w (.slice a xs.length cap) xs) (hy : Sl .u32 w (.slice a' ys.length cap') ys) (hl : xs.length ≤ 140737488355328) (hl' : ys.length ≤ 140737488355328) :
    Calls Tryz.prog 169 #[.agg #[.bool na, .slice a xs.length cap], .agg #[.bool nb, .slice a' ys.length cap']] w fun e w' => e = .returned (.int .i64 (wcmp na nb xs ys)) ∧ Below w.heap.size w w' := by
  have hx1 : ∀ o o', Sl .u32 ((w.alloc o).alloc o') (.slice a xs.length cap) xs := fun o o' => (hx.alloc o).alloc o'
  have hy1 : ∀ o o', Sl .u32 ((w.alloc o).alloc o') (.slice a' ys.length cap') ys := fun o o' => (hy.alloc o).alloc o'
  have HX := hid hx1; have HY := hid hy1
  clear hx1 hy1
  cases h1 : okB na xs
  · have HR := hid (wcmp_no1 (nb := nb) (ys := ys) h1)
    go_enter Tryz.func169, Tryz.ntmps169
    go_wp2_with fail
    refine (ok_impl na a cap xs _ (HX.out _ _) hl).mono ?_
    rintro e w1 ⟨rfl, hb1⟩
    go_wp2
    go_ret
    exact ⟨ret_int HR.out.symm, (by repeat (first | exact Below.refl _ _ | refine Below.drew ?_ | refine bel_dn ?_ _ | refine bel_al ?_ _ | refine bel_go ?_ hb1 | refine Below.setCell ?_ (by first | omega | (simp; done) | (simp; omega)) _ | refine Below.alloc ?_ (by first | omega | (simp; done) | (simp; omega)) _ | refine Below.trans ?_ (Below.mono hb1 (by first | omega | (simp; done) | (simp; omega)))))⟩
  cases h2 : okB nb ys
  · have HR := hid (wcmp_no2 (na := na) (xs := xs) h2)
    go_enter Tryz.func169, Tryz.ntmps169
    go_wp2_with fail
    refine (ok_impl na a cap xs _ (HX.out _ _) hl).mono ?_
    rintro e w1 ⟨rfl, hb1⟩
    obtain ⟨x10, x11⟩ := ((Box.new w (.bool na) (.slice a xs.length cap) 35).alloc _).below hb1
    obtain ⟨y10, y11⟩ := (Box.new2 w _ (.bool nb) (.slice a' ys.length cap') 35).below hb1
    have HX1 := (HX.out _ _).below hb1; have HY1 := (HY.out _ _).below hb1
    go_wp2_with fail
    refine (ok_impl nb a' cap' ys _ HY1 hl').mono ?_
    rintro e w2 ⟨rfl, hb2⟩
    obtain ⟨x20, x21⟩ := Box.below ⟨x10, x11⟩ hb2
    obtain ⟨y20, y21⟩ := Box.below ⟨y10, y11⟩ hb2
    have HX2 := HX1.below hb2; have HY2 := HY1.below hb2
    go_wp2
    go_ret
    exact ⟨ret_int HR.out.symm, (by repeat (first | exact Below.refl _ _ | refine Below.drew ?_ | refine bel_dn ?_ _ | refine bel_al ?_ _ | refine bel_go ?_ hb2 | refine bel_go ?_ hb1 | refine Below.setCell ?_ (by first | omega | (simp; done) | (simp; omega)) _ | refine Below.alloc ?_ (by first | omega | (simp; done) | (simp; omega)) _ | refine Below.trans ?_ (Below.mono hb2 (by first | omega | (simp; done) | (simp; omega))) | refine Below.trans ?_ (Below.mono hb1 (by first | omega | (simp; done) | (simp; omega)))))⟩
  have HW := hid (wcmp_yes h1 h2)
  cases na <;> cases nb
  · have HR : Hid (wcmp false false xs ys = cmpL xs ys) := hid (by rw [HW.out]; rfl)
    go_enter Tryz.func169, Tryz.ntmps169
    go_wp2_with fail
    refine (ok_impl false a cap xs _ (HX.out _ _) hl).mono ?_
    rintro e w1 ⟨rfl, hb1⟩
    obtain ⟨x10, x11⟩ := ((Box.new w (.bool false) (.slice a xs.length cap) 35).alloc _).below hb1
    obtain ⟨y10, y11⟩ := (Box.new2 w _ (.bool false) (.slice a' ys.length cap') 35).below hb1
    have HX1 := (HX.out _ _).below hb1; have HY1 := (HY.out _ _).below hb1
    go_wp2_with fail
    refine (ok_impl false a' cap' ys _ HY1 hl').mono ?_
    rintro e w2 ⟨rfl, hb2⟩
    obtain ⟨x20, x21⟩ := Box.below ⟨x10, x11⟩ hb2
    obtain ⟨y20, y21⟩ := Box.below ⟨y10, y11⟩ hb2
    have HX2 := HX1.below hb2; have HY2 := HY1.below hb2
    go_wp2_with fail
    refine (cmpLimbs_any a a' cap cap' xs ys _ HX2 HY2 hl hl').mono ?_
    rintro e w3 ⟨rfl, hb3⟩
    go_wp2
    go_ret
    exact ⟨ret_int HR.out.symm, (by repeat (first | exact Below.refl _ _ | refine Below.drew ?_ | refine bel_dn ?_ _ | refine bel_al ?_ _ | refine bel_go ?_ hb3 | refine bel_go ?_ hb2 | refine bel_go ?_ hb1 | refine Below.setCell ?_ (by first | omega | (simp; done) | (simp; omega)) _ | refine Below.alloc ?_ (by first | omega | (simp; done) | (simp; omega)) _ | refine Below.trans ?_ (Below.mono hb3 (by first | omega | (simp; done) | (simp; omega))) | refine Below.trans ?_ (Below.mono hb2 (by first | omega | (simp; done) | (simp; omega))) | refine Below.trans ?_ (Below.mono hb1 (by first | omega | (simp; done) | (simp; omega)))))⟩
  · have HR : Hid (wcmp false true xs ys = 1) := hid (by rw [HW.out]; rfl)
    go_enter Tryz.func169, Tryz.ntmps169
    go_wp2_with fail
    refine (ok_impl false a cap xs _ (HX.out _ _) hl).mono ?_
    rintro e w1 ⟨rfl, hb1⟩
    obtain ⟨x10, x11⟩ := ((Box.new w (.bool false) (.slice a xs.length cap) 35).alloc _).below hb1
    obtain ⟨y10, y11⟩ := (Box.new2 w _ (.bool true) (.slice a' ys.length cap') 35).below hb1
    have HX1 := (HX.out _ _).below hb1; have HY1 := (HY.out _ _).below hb1
    go_wp2_with fail
    refine (ok_impl true a' cap' ys _ HY1 hl').mono ?_
    rintro e w2 ⟨rfl, hb2⟩
    obtain ⟨x20, x21⟩ := Box.below ⟨x10, x11⟩ hb2
    obtain ⟨y20, y21⟩ := Box.below ⟨y10, y11⟩ hb2
    have HX2 := HX1.below hb2; have HY2 := HY1.below hb2
    go_wp2
    go_ret
    exact ⟨ret_int HR.out.symm, (by repeat (first | exact Below.refl _ _ | refine Below.drew ?_ | refine bel_dn ?_ _ | refine bel_al ?_ _ | refine bel_go ?_ hb2 | refine bel_go ?_ hb1 | refine Below.setCell ?_ (by first | omega | (simp; done) | (simp; omega)) _ | refine Below.alloc ?_ (by first | omega | (simp; done) | (simp; omega)) _ | refine Below.trans ?_ (Below.mono hb2 (by first | omega | (simp; done) | (simp; omega))) | refine Below.trans ?_ (Below.mono hb1 (by first | omega | (simp; done) | (simp; omega)))))⟩
  · have HR : Hid (wcmp true false xs ys = -1) := hid (by rw [HW.out]; rfl)
    go_enter Tryz.func169, Tryz.ntmps169
    go_wp2_with fail
    refine (ok_impl true a cap xs _ (HX.out _ _) hl).mono ?_
    rintro e w1 ⟨rfl, hb1⟩
    obtain ⟨x10, x11⟩ := ((Box.new w (.bool true) (.slice a xs.length cap) 35).alloc _).below hb1
    obtain ⟨y10, y11⟩ := (Box.new2 w _ (.bool false) (.slice a' ys.length cap') 35).below hb1
    have HX1 := (HX.out _ _).below hb1; have HY1 := (HY.out _ _).below hb1
    go_wp2_with fail
    refine (ok_impl false a' cap' ys _ HY1 hl').mono ?_
    rintro e w2 ⟨rfl, hb2⟩
    obtain ⟨x20, x21⟩ := Box.below ⟨x10, x11⟩ hb2
    obtain ⟨y20, y21⟩ := Box.below ⟨y10, y11⟩ hb2
    have HX2 := HX1.below hb2; have HY2 := HY1.below hb2
    go_wp2
    go_ret
    exact ⟨ret_int HR.out.symm, (by repeat (first | exact Below.refl _ _ | refine Below.drew ?_ | refine bel_dn ?_ _ | refine bel_al ?_ _ | refine bel_go ?_ hb2 | refine bel_go ?_ hb1 | refine Below.setCell ?_ (by first | omega | (simp; done) | (simp; omega)) _ | refine Below.alloc ?_ (by first | omega | (simp; done) | (simp; omega)) _ | refine Below.trans ?_ (Below.mono hb2 (by first | omega | (simp; done) | (simp; omega))) | refine Below.trans ?_ (Below.mono hb1 (by first | omega | (simp; done) | (simp; omega)))))⟩
  · have HR : Hid (wcmp true true xs ys = cmpL ys xs) := hid (by rw [HW.out]; rfl)
    go_enter Tryz.func169, Tryz.ntmps169
    go_wp2_with fail
    refine (ok_impl true a cap xs _ (HX.out _ _) hl).mono ?_
    rintro e w1 ⟨rfl, hb1⟩
    obtain ⟨x10, x11⟩ := ((Box.new w (.bool true) (.slice a xs.length cap) 35).alloc _).below hb1
    obtain ⟨y10, y11⟩ := (Box.new2 w _ (.bool true) (.slice a' ys.length cap') 35).below hb1
    have HX1 := (HX.out _ _).below hb1; have HY1 := (HY.out _ _).below hb1
    go_wp2_with fail
    refine (ok_impl true a' cap' ys _ HY1 hl').mono ?_
    rintro e w2 ⟨rfl, hb2⟩
    obtain ⟨x20, x21⟩ := Box.below ⟨x10, x11⟩ hb2
    obtain ⟨y20, y21⟩ := Box.below ⟨y10, y11⟩ hb2
    have HX2 := HX1.below hb2; have HY2 := HY1.below hb2
    go_wp2_with fail
    refine (cmpLimbs_any a' a cap' cap ys xs _ HY2 HX2 hl' hl).mono ?_
    rintro e w3 ⟨rfl, hb3⟩
    go_wp2
    go_ret
    exact ⟨ret_int HR.out.symm, (by repeat (first | exact Below.refl _ _ | refine Below.drew ?_ | refine bel_dn ?_ _ | refine bel_al ?_ _ | refine bel_go ?_ hb3 | refine bel_go ?_ hb2 | refine bel_go ?_ hb1 | refine Below.setCell ?_ (by first | omega | (simp; done) | (simp; omega)) _ | refine Below.alloc ?_ (by first | omega | (simp; done) | (simp; omega)) _ | refine Below.trans ?_ (Below.mono hb3 (by first | omega | (simp; done) | (simp; omega))) | refine Below.trans ?_ (Below.mono hb2 (by first | omega | (simp; done) | (simp; omega))) | refine Below.trans ?_ (Below.mono hb1 (by first | omega | (simp; done) | (simp; omega)))))⟩

/-- How right wides compare. -/
def lcmp (na nb : Bool) (xs ys : List Int) : Int := if na && nb then cmpL ys xs else if na then -1 else if nb then 1 else cmpL xs ys
set_option maxHeartbeats 2000000 in
theorem l1Cmp_any (na nb : Bool) (a a' : Option Addr) (cap cap' : Nat) (xs ys : List Int) (w : World) (hx : Sl .u32 w (.slice a xs.length cap) xs) (hy : Sl .u32 w (.slice a' ys.length cap') ys) (hl : xs.length ≤ 140737488355328) (hl' : ys.length ≤ 140737488355328) :
    Calls Tryz.prog 129 #[.agg #[.bool na, .slice a xs.length cap], .agg #[.bool nb, .slice a' ys.length cap']] w fun e w' => e = .returned (.int .i64 (lcmp na nb xs ys)) ∧ Below w.heap.size w w' := by
  cases na <;> cases nb
  · have HR : Hid (lcmp false false xs ys = cmpL xs ys) := hid rfl
    go_enter Tryz.func129, Tryz.ntmps129
    go_wp2_with fail
    refine (mag_any a a' cap cap' xs ys _ ((hx.alloc _).alloc _) ((hy.alloc _).alloc _) hl hl').mono ?_
    rintro e w1 ⟨rfl, hb1⟩
    go_wp2
    go_ret
    exact ⟨ret_int HR.out.symm, (by repeat (first | exact Below.refl _ _ | refine Below.drew ?_ | refine bel_dn ?_ _ | refine bel_al ?_ _ | refine bel_go ?_ hb1 | refine Below.setCell ?_ (by first | omega | (simp; done) | (simp; omega)) _ | refine Below.alloc ?_ (by first | omega | (simp; done) | (simp; omega)) _ | refine Below.trans ?_ (Below.mono hb1 (by first | omega | (simp; done) | (simp; omega)))))⟩
  · have HR : Hid (lcmp false true xs ys = 1) := hid rfl
    go_enter Tryz.func129, Tryz.ntmps129
    go_wp2
    go_ret
    exact ⟨ret_int HR.out.symm, (by repeat (first | exact Below.refl _ _ | refine Below.drew ?_ | refine bel_dn ?_ _ | refine bel_al ?_ _ | refine Below.setCell ?_ (by first | omega | (simp; done) | (simp; omega)) _ | refine Below.alloc ?_ (by first | omega | (simp; done) | (simp; omega)) _))⟩
  · have HR : Hid (lcmp true false xs ys = -1) := hid rfl
    go_enter Tryz.func129, Tryz.ntmps129
    go_wp2
    go_ret
    exact ⟨ret_int HR.out.symm, (by repeat (first | exact Below.refl _ _ | refine Below.drew ?_ | refine bel_dn ?_ _ | refine bel_al ?_ _ | refine Below.setCell ?_ (by first | omega | (simp; done) | (simp; omega)) _ | refine Below.alloc ?_ (by first | omega | (simp; done) | (simp; omega)) _))⟩
  · have HR : Hid (lcmp true true xs ys = cmpL ys xs) := hid rfl
    go_enter Tryz.func129, Tryz.ntmps129
    go_wp2_with fail
    refine (mag_any a' a cap' cap ys xs _ ((hy.alloc _).alloc _) ((hx.alloc _).alloc _) hl' hl).mono ?_
    rintro e w1 ⟨rfl, hb1⟩
    go_wp2
    go_ret
    exact ⟨ret_int HR.out.symm, (by repeat (first | exact Below.refl _ _ | refine Below.drew ?_ | refine bel_dn ?_ _ | refine bel_al ?_ _ | refine bel_go ?_ hb1 | refine Below.setCell ?_ (by first | omega | (simp; done) | (simp; omega)) _ | refine Below.alloc ?_ (by first | omega | (simp; done) | (simp; omega)) _ | refine Below.trans ?_ (Below.mono hb1 (by first | omega | (simp; done) | (simp; omega)))))⟩

end Go.Proofs.YtpoojmheegncfaaGreatDoor
/-
  Plain mathematics: single bits of a number of 64 bits, by quotients and rests.
-/
namespace Go.Proofs.YtpoojmheegncfaaGreatDoor
set_option linter.unusedVariables false
set_option linter.unusedSimpArgs false
namespace Bt

theorem xor_one (q : Nat) : (q ^^^ 1) = if q % 2 = 0 then q + 1 else q - 1 := by
  have h1 : (q ^^^ 1) % 2 = (q % 2) ^^^ 1 := by have := Nat.xor_mod_two_pow (a := q) (b := 1) (n := 1); simpa using this
  have h2 : (q ^^^ 1) / 2 = q / 2 := by have := Nat.xor_div_two_pow (a := q) (b := 1) (n := 1); simpa using this
  rcases Nat.mod_two_eq_zero_or_one q with h | h
  · have h3 : (q ^^^ 1) % 2 = 1 := by rw [h1, h]; rfl
    rw [if_pos h]; omega
  · have h3 : (q ^^^ 1) % 2 = 0 := by rw [h1, h]; rfl
    rw [if_neg (by omega)]; omega

theorem nxor31 (x : Nat) : x ^^^ 2147483648 = if x / 2147483648 % 2 = 0 then x + 2147483648 else x - 2147483648 := by
  have h1 : (x ^^^ 2147483648) % 2147483648 = x % 2147483648 := by have := Nat.xor_mod_two_pow (a := x) (b := 2147483648) (n := 31); simpa using this
  have h2 : (x ^^^ 2147483648) / 2147483648 = (x / 2147483648) ^^^ 1 := by have := Nat.xor_div_two_pow (a := x) (b := 2147483648) (n := 31); simpa using this
  have h3 := xor_one (x / 2147483648)
  rw [h3] at h2
  split at h2
  · rename_i h; rw [if_pos h]; omega
  · rename_i h; rw [if_neg h]; omega

theorem nand31 (x : Nat) (h : x < 18446744073709551616) : x &&& (18446744073709551615 - 2147483648) = x - x / 2147483648 % 2 * 2147483648 := by
  have e : (18446744073709551615 - 2147483648 : Nat) = 18446744073709551615 ^^^ 2147483648 := by decide
  have hm : x &&& 18446744073709551615 = x := by have := Nat.and_two_pow_sub_one_eq_mod x 64; simp at this; rw [this]; omega
  have hb : x &&& 2147483648 = x / 2147483648 % 2 * 2147483648 := nat_bit 31 x
  rw [e, Nat.and_xor_distrib_left, hm, hb]
  rcases Nat.mod_two_eq_zero_or_one (x / 2147483648) with h0 | h0
  · rw [h0]; simp
  · rw [h0, Nat.one_mul, nxor31, if_neg (by omega)]

theorem nor31 (x : Nat) (h : x < 2147483648) : x ||| 2147483648 = x + 2147483648 := by
  rw [Nat.or_comm, nat_join 31 2147483648 x (by decide) h]; omega

theorem xor31 (x : Int) (h0 : 0 ≤ x) (h1 : x < 18446744073709551616) : bits .xor .u64 x 2147483648 = if x / 2147483648 % 2 = 0 then x + 2147483648 else x - 2147483648 := by
  obtain ⟨n, rfl⟩ := Int.eq_ofNat_of_zero_le h0
  have := u64_xor_nat n 2147483648 (by omega) (by decide)
  rw [show ((2147483648 : Nat) : Int) = 2147483648 from rfl] at this
  rw [this, nxor31]
  split <;> split <;> omega

theorem andNot31 (x : Int) (h0 : 0 ≤ x) (h1 : x < 18446744073709551616) : bits .andNot .u64 x 2147483648 = x - x / 2147483648 % 2 * 2147483648 := by
  obtain ⟨n, rfl⟩ := Int.eq_ofNat_of_zero_le h0
  have := u64_andNot_nat n 2147483648 (by omega) (by decide)
  rw [show ((2147483648 : Nat) : Int) = 2147483648 from rfl] at this
  rw [this, nand31 n (by omega)]
  omega

theorem and31 (x : Int) (h0 : 0 ≤ x) (h1 : x < 18446744073709551616) : bits .and .u64 x 2147483648 = x / 2147483648 % 2 * 2147483648 := by
  obtain ⟨n, rfl⟩ := Int.eq_ofNat_of_zero_le h0
  have := u64_and_nat n 2147483648 (by omega) (by decide)
  rw [show ((2147483648 : Nat) : Int) = 2147483648 from rfl] at this
  rw [this, show n &&& 2147483648 = n / 2147483648 % 2 * 2147483648 from nat_bit 31 n]
  omega

theorem or31 (x : Int) (h0 : 0 ≤ x) (h1 : x < 2147483648) : bits .or .u64 x 2147483648 = x + 2147483648 := by
  obtain ⟨n, rfl⟩ := Int.eq_ofNat_of_zero_le h0
  have := u64_or_nat n 2147483648 (by omega) (by decide)
  rw [show ((2147483648 : Nat) : Int) = 2147483648 from rfl] at this
  rw [this, nor31 n (by omega)]
  omega
theorem nxor63 (x : Nat) : x ^^^ 9223372036854775808 = if x / 9223372036854775808 % 2 = 0 then x + 9223372036854775808 else x - 9223372036854775808 := by
  have h1 : (x ^^^ 9223372036854775808) % 9223372036854775808 = x % 9223372036854775808 := by have := Nat.xor_mod_two_pow (a := x) (b := 9223372036854775808) (n := 63); simpa using this
  have h2 : (x ^^^ 9223372036854775808) / 9223372036854775808 = (x / 9223372036854775808) ^^^ 1 := by have := Nat.xor_div_two_pow (a := x) (b := 9223372036854775808) (n := 63); simpa using this
  have h3 := xor_one (x / 9223372036854775808)
  rw [h3] at h2
  split at h2
  · rename_i h; rw [if_pos h]; omega
  · rename_i h; rw [if_neg h]; omega

theorem nand63 (x : Nat) (h : x < 18446744073709551616) : x &&& (18446744073709551615 - 9223372036854775808) = x - x / 9223372036854775808 % 2 * 9223372036854775808 := by
  have e : (18446744073709551615 - 9223372036854775808 : Nat) = 18446744073709551615 ^^^ 9223372036854775808 := by decide
  have hm : x &&& 18446744073709551615 = x := by have := Nat.and_two_pow_sub_one_eq_mod x 64; simp at this; rw [this]; omega
  have hb : x &&& 9223372036854775808 = x / 9223372036854775808 % 2 * 9223372036854775808 := nat_bit 63 x
  rw [e, Nat.and_xor_distrib_left, hm, hb]
  rcases Nat.mod_two_eq_zero_or_one (x / 9223372036854775808) with h0 | h0
  · rw [h0]; simp
  · rw [h0, Nat.one_mul, nxor63, if_neg (by omega)]

theorem nor63 (x : Nat) (h : x < 9223372036854775808) : x ||| 9223372036854775808 = x + 9223372036854775808 := by
  rw [Nat.or_comm, nat_join 63 9223372036854775808 x (by decide) h]; omega

theorem xor63 (x : Int) (h0 : 0 ≤ x) (h1 : x < 18446744073709551616) : bits .xor .u64 x 9223372036854775808 = if x / 9223372036854775808 % 2 = 0 then x + 9223372036854775808 else x - 9223372036854775808 := by
  obtain ⟨n, rfl⟩ := Int.eq_ofNat_of_zero_le h0
  have := u64_xor_nat n 9223372036854775808 (by omega) (by decide)
  rw [show ((9223372036854775808 : Nat) : Int) = 9223372036854775808 from rfl] at this
  rw [this, nxor63]
  split <;> split <;> omega

theorem andNot63 (x : Int) (h0 : 0 ≤ x) (h1 : x < 18446744073709551616) : bits .andNot .u64 x 9223372036854775808 = x - x / 9223372036854775808 % 2 * 9223372036854775808 := by
  obtain ⟨n, rfl⟩ := Int.eq_ofNat_of_zero_le h0
  have := u64_andNot_nat n 9223372036854775808 (by omega) (by decide)
  rw [show ((9223372036854775808 : Nat) : Int) = 9223372036854775808 from rfl] at this
  rw [this, nand63 n (by omega)]
  omega

theorem and63 (x : Int) (h0 : 0 ≤ x) (h1 : x < 18446744073709551616) : bits .and .u64 x 9223372036854775808 = x / 9223372036854775808 % 2 * 9223372036854775808 := by
  obtain ⟨n, rfl⟩ := Int.eq_ofNat_of_zero_le h0
  have := u64_and_nat n 9223372036854775808 (by omega) (by decide)
  rw [show ((9223372036854775808 : Nat) : Int) = 9223372036854775808 from rfl] at this
  rw [this, show n &&& 9223372036854775808 = n / 9223372036854775808 % 2 * 9223372036854775808 from nat_bit 63 n]
  omega

theorem or63 (x : Int) (h0 : 0 ≤ x) (h1 : x < 9223372036854775808) : bits .or .u64 x 9223372036854775808 = x + 9223372036854775808 := by
  obtain ⟨n, rfl⟩ := Int.eq_ofNat_of_zero_le h0
  have := u64_or_nat n 9223372036854775808 (by omega) (by decide)
  rw [show ((9223372036854775808 : Nat) : Int) = 9223372036854775808 from rfl] at this
  rw [this, nor63 n (by omega)]
  omega

theorem bit22 (x : Int) (h0 : 0 ≤ x) (h1 : x < 18446744073709551616) : bits .and .u64 x 4194304 = x / 4194304 % 2 * 4194304 := by
  obtain ⟨n, rfl⟩ := Int.eq_ofNat_of_zero_le h0
  have := u64_and_nat n 4194304 (by omega) (by decide)
  rw [show ((4194304 : Nat) : Int) = 4194304 from rfl] at this
  rw [this, show n &&& 4194304 = n / 4194304 % 2 * 4194304 from nat_bit 22 n]
  omega
theorem bit51 (x : Int) (h0 : 0 ≤ x) (h1 : x < 18446744073709551616) : bits .and .u64 x 2251799813685248 = x / 2251799813685248 % 2 * 2251799813685248 := by
  obtain ⟨n, rfl⟩ := Int.eq_ofNat_of_zero_le h0
  have := u64_and_nat n 2251799813685248 (by omega) (by decide)
  rw [show ((2251799813685248 : Nat) : Int) = 2251799813685248 from rfl] at this
  rw [this, show n &&& 2251799813685248 = n / 2251799813685248 % 2 * 2251799813685248 from nat_bit 51 n]
  omega

theorem mask8 (x : Int) (h0 : 0 ≤ x) (h1 : x < 18446744073709551616) : bits .and .u64 x 255 = x % 256 := by
  obtain ⟨n, rfl⟩ := Int.eq_ofNat_of_zero_le h0
  have := u64_and_nat n 255 (by omega) (by decide)
  rw [show ((255 : Nat) : Int) = 255 from rfl] at this
  rw [this, show n &&& 255 = n % 256 from Nat.and_two_pow_sub_one_eq_mod n 8]
  omega
theorem mask11 (x : Int) (h0 : 0 ≤ x) (h1 : x < 18446744073709551616) : bits .and .u64 x 2047 = x % 2048 := by
  obtain ⟨n, rfl⟩ := Int.eq_ofNat_of_zero_le h0
  have := u64_and_nat n 2047 (by omega) (by decide)
  rw [show ((2047 : Nat) : Int) = 2047 from rfl] at this
  rw [this, show n &&& 2047 = n % 2048 from Nat.and_two_pow_sub_one_eq_mod n 11]
  omega
theorem mask23 (x : Int) (h0 : 0 ≤ x) (h1 : x < 18446744073709551616) : bits .and .u64 x 8388607 = x % 8388608 := by
  obtain ⟨n, rfl⟩ := Int.eq_ofNat_of_zero_le h0
  have := u64_and_nat n 8388607 (by omega) (by decide)
  rw [show ((8388607 : Nat) : Int) = 8388607 from rfl] at this
  rw [this, show n &&& 8388607 = n % 8388608 from Nat.and_two_pow_sub_one_eq_mod n 23]
  omega
theorem mask52 (x : Int) (h0 : 0 ≤ x) (h1 : x < 18446744073709551616) : bits .and .u64 x 4503599627370495 = x % 4503599627370496 := by
  obtain ⟨n, rfl⟩ := Int.eq_ofNat_of_zero_le h0
  have := u64_and_nat n 4503599627370495 (by omega) (by decide)
  rw [show ((4503599627370495 : Nat) : Int) = 4503599627370495 from rfl] at this
  rw [this, show n &&& 4503599627370495 = n % 4503599627370496 from Nat.and_two_pow_sub_one_eq_mod n 52]
  omega
end Bt
end Go.Proofs.YtpoojmheegncfaaGreatDoor
/-
  Floats: the table of sizes, and what the program's own methods on it answer.
-/
namespace Go.Proofs.YtpoojmheegncfaaGreatDoor
set_option linter.unusedVariables false
set_option linter.unusedSimpArgs false
open Go.RowKit

/-- The table of the formats' sizes, as it lies. -/
structure Tab (w : World) : Prop where
  c0 : w.cell? ⟨1, 0, none⟩ = some (.int .u64 0)
  c1 : w.cell? ⟨1, 1, none⟩ = some (.int .u64 0)
  c2 : w.cell? ⟨1, 2, none⟩ = some (.int .i64 0)
  c3 : w.cell? ⟨1, 3, none⟩ = some (.int .u64 23)
  c4 : w.cell? ⟨1, 4, none⟩ = some (.int .u64 255)
  c5 : w.cell? ⟨1, 5, none⟩ = some (.int .i64 (-149))
  c6 : w.cell? ⟨1, 6, none⟩ = some (.int .u64 52)
  c7 : w.cell? ⟨1, 7, none⟩ = some (.int .u64 2047)
  c8 : w.cell? ⟨1, 8, none⟩ = some (.int .i64 (-1074))
theorem Tab.below {w w' : World} (h : Tab w) (hb : Below w.heap.size w w') : Tab w' := by
  have hlt := World.block_lt_of_cell? w _ h.c0
  have e : ∀ i, w'.cell? ⟨1, i, none⟩ = w.cell? ⟨1, i, none⟩ := fun i => hb.cell (p := ⟨1, i, none⟩) hlt
  exact ⟨(e 0).trans h.c0, (e 1).trans h.c1, (e 2).trans h.c2, (e 3).trans h.c3, (e 4).trans h.c4, (e 5).trans h.c5, (e 6).trans h.c6, (e 7).trans h.c7, (e 8).trans h.c8⟩

/-- With the sign S, where there is one. -/
def sgn (S x : Int) (ng : Bool) : Int := if ng then x + S else x
/-- A format's sizes. -/
def sz32 : Value := .agg #[.int .u64 23, .int .u64 255, .int .i64 (-149)]
def sz64 : Value := .agg #[.int .u64 52, .int .u64 2047, .int .i64 (-1074)]
def sz0 : Value := .agg #[.int .u64 0, .int .u64 0, .int .i64 0]

theorem Tab.pos {w : World} (h : Tab w) : 1 < w.heap.size := World.block_lt_of_cell? w _ h.c0

set_option maxHeartbeats 1000000 in
theorem sizes32 (w : World) (h : Tab w) :
    Calls Tryz.prog 93 #[.int .i64 32] w fun e w' => e = .returned (.tuple #[.agg #[.int .u64 23, .int .u64 255, .int .i64 (-149)], .bool true]) ∧ Below w.heap.size w w' := by
  have hp := h.pos
  obtain ⟨h0, h1, h2, h3, h4, h5, h6, h7, h8⟩ := h
  go_enter Tryz.func93, Tryz.ntmps93
  go_wp2
  exact bodyPost_ret (v := .tuple #[.agg #[.int .u64 23, .int .u64 255, .int .i64 (-149)], .bool true]) (by simp [results, Tryz.results93, go_sem]) rfl ⟨rfl, (by repeat (first | exact Below.refl _ _ | refine Below.drew ?_ | refine bel_dn ?_ _ | refine bel_al ?_ _ | refine Below.setCell ?_ (by first | omega | (simp; done) | (simp; omega)) _ | refine Below.alloc ?_ (by first | omega | (simp; done) | (simp; omega)) _))⟩
set_option maxHeartbeats 1000000 in
theorem sizes64 (w : World) (h : Tab w) :
    Calls Tryz.prog 93 #[.int .i64 64] w fun e w' => e = .returned (.tuple #[.agg #[.int .u64 52, .int .u64 2047, .int .i64 (-1074)], .bool true]) ∧ Below w.heap.size w w' := by
  have hp := h.pos
  obtain ⟨h0, h1, h2, h3, h4, h5, h6, h7, h8⟩ := h
  go_enter Tryz.func93, Tryz.ntmps93
  go_wp2
  exact bodyPost_ret (v := .tuple #[.agg #[.int .u64 52, .int .u64 2047, .int .i64 (-1074)], .bool true]) (by simp [results, Tryz.results93, go_sem]) rfl ⟨rfl, (by repeat (first | exact Below.refl _ _ | refine Below.drew ?_ | refine bel_dn ?_ _ | refine bel_al ?_ _ | refine Below.setCell ?_ (by first | omega | (simp; done) | (simp; omega)) _ | refine Below.alloc ?_ (by first | omega | (simp; done) | (simp; omega)) _))⟩
theorem sizes0 (fm : Int) (w : World) (h : Tab w) (h32 : fm ≠ 32) (h64 : fm ≠ 64) :
    Calls Tryz.prog 93 #[.int .i64 fm] w fun e w' => e = .returned (.tuple #[.agg #[.int .u64 0, .int .u64 0, .int .i64 0], .bool false]) ∧ Below w.heap.size w w' := by
  have hp := h.pos
  obtain ⟨h0, h1, h2, h3, h4, h5, h6, h7, h8⟩ := h
  have e1 : (fm == 32) = false := by simpa using h32
  have e2 : (fm == 64) = false := by simpa using h64
  clear h32 h64
  go_enter Tryz.func93, Tryz.ntmps93
  go_wp2
  exact bodyPost_ret (v := .tuple #[.agg #[.int .u64 0, .int .u64 0, .int .i64 0], .bool false]) (by simp [results, Tryz.results93, go_sem]) rfl ⟨rfl, (by repeat (first | exact Below.refl _ _ | refine Below.drew ?_ | refine bel_dn ?_ _ | refine bel_al ?_ _ | refine Below.setCell ?_ (by first | omega | (simp; done) | (simp; omega)) _ | refine Below.alloc ?_ (by first | omega | (simp; done) | (simp; omega)) _))⟩

set_option maxHeartbeats 1000000 in
theorem sign32 (w : World) :
    Calls Tryz.prog 94 #[.agg #[.int .u64 23, .int .u64 255, .int .i64 (-149)]] w fun e w' => e = .returned (.int .u64 2147483648) ∧ Below w.heap.size w w' := by
  go_enter Tryz.func94, Tryz.ntmps94
  go_wp2
  all_goals go_ret
  all_goals exact ⟨rfl, (by repeat (first | exact Below.refl _ _ | refine Below.drew ?_ | refine bel_dn ?_ _ | refine bel_al ?_ _ | refine Below.setCell ?_ (by first | omega | (simp; done) | (simp; omega)) _ | refine Below.alloc ?_ (by first | omega | (simp; done) | (simp; omega)) _))⟩
set_option maxHeartbeats 1000000 in
theorem infinity32 (w : World) :
    Calls Tryz.prog 158 #[.agg #[.int .u64 23, .int .u64 255, .int .i64 (-149)]] w fun e w' => e = .returned (.int .u64 2139095040) ∧ Below w.heap.size w w' := by
  go_enter Tryz.func158, Tryz.ntmps158
  go_wp2
  all_goals go_ret
  all_goals exact ⟨rfl, (by repeat (first | exact Below.refl _ _ | refine Below.drew ?_ | refine bel_dn ?_ _ | refine bel_al ?_ _ | refine Below.setCell ?_ (by first | omega | (simp; done) | (simp; omega)) _ | refine Below.alloc ?_ (by first | omega | (simp; done) | (simp; omega)) _))⟩
set_option maxHeartbeats 1000000 in
theorem quiet32 (w : World) :
    Calls Tryz.prog 145 #[.agg #[.int .u64 23, .int .u64 255, .int .i64 (-149)]] w fun e w' => e = .returned (.int .u64 4194304) ∧ Below w.heap.size w w' := by
  go_enter Tryz.func145, Tryz.ntmps145
  go_wp2
  all_goals go_ret
  all_goals exact ⟨rfl, (by repeat (first | exact Below.refl _ _ | refine Below.drew ?_ | refine bel_dn ?_ _ | refine bel_al ?_ _ | refine Below.setCell ?_ (by first | omega | (simp; done) | (simp; omega)) _ | refine Below.alloc ?_ (by first | omega | (simp; done) | (simp; omega)) _))⟩
set_option maxHeartbeats 1000000 in
theorem sign64 (w : World) :
    Calls Tryz.prog 94 #[.agg #[.int .u64 52, .int .u64 2047, .int .i64 (-1074)]] w fun e w' => e = .returned (.int .u64 9223372036854775808) ∧ Below w.heap.size w w' := by
  go_enter Tryz.func94, Tryz.ntmps94
  go_wp2
  all_goals go_ret
  all_goals exact ⟨rfl, (by repeat (first | exact Below.refl _ _ | refine Below.drew ?_ | refine bel_dn ?_ _ | refine bel_al ?_ _ | refine Below.setCell ?_ (by first | omega | (simp; done) | (simp; omega)) _ | refine Below.alloc ?_ (by first | omega | (simp; done) | (simp; omega)) _))⟩
set_option maxHeartbeats 1000000 in
theorem infinity64 (w : World) :
    Calls Tryz.prog 158 #[.agg #[.int .u64 52, .int .u64 2047, .int .i64 (-1074)]] w fun e w' => e = .returned (.int .u64 9218868437227405312) ∧ Below w.heap.size w w' := by
  go_enter Tryz.func158, Tryz.ntmps158
  go_wp2
  all_goals go_ret
  all_goals exact ⟨rfl, (by repeat (first | exact Below.refl _ _ | refine Below.drew ?_ | refine bel_dn ?_ _ | refine bel_al ?_ _ | refine Below.setCell ?_ (by first | omega | (simp; done) | (simp; omega)) _ | refine Below.alloc ?_ (by first | omega | (simp; done) | (simp; omega)) _))⟩
set_option maxHeartbeats 1000000 in
theorem quiet64 (w : World) :
    Calls Tryz.prog 145 #[.agg #[.int .u64 52, .int .u64 2047, .int .i64 (-1074)]] w fun e w' => e = .returned (.int .u64 2251799813685248) ∧ Below w.heap.size w w' := by
  go_enter Tryz.func145, Tryz.ntmps145
  go_wp2
  all_goals go_ret
  all_goals exact ⟨rfl, (by repeat (first | exact Below.refl _ _ | refine Below.drew ?_ | refine bel_dn ?_ _ | refine bel_al ?_ _ | refine Below.setCell ?_ (by first | omega | (simp; done) | (simp; omega)) _ | refine Below.alloc ?_ (by first | omega | (simp; done) | (simp; omega)) _))⟩
set_option maxHeartbeats 1000000 in
theorem signed32 (x : Int) (ng : Bool) (w : World) (h0 : 0 ≤ x) (h1 : x < 2147483648) :
    Calls Tryz.prog 159 #[.agg #[.int .u64 23, .int .u64 255, .int .i64 (-149)], .int .u64 x, .bool ng] w fun e w' => e = .returned (.int .u64 (sgn 2147483648 x ng)) ∧ Below w.heap.size w w' := by
  have e := Bt.or31 x h0 h1
  cases ng
  · have HR : Hid (x = sgn 2147483648 x false) := hid rfl
    go_enter Tryz.func159, Tryz.ntmps159
    go_wp2
    go_ret
    exact ⟨ret_int HR.out, (by repeat (first | exact Below.refl _ _ | refine Below.drew ?_ | refine bel_dn ?_ _ | refine bel_al ?_ _ | refine Below.setCell ?_ (by first | omega | (simp; done) | (simp; omega)) _ | refine Below.alloc ?_ (by first | omega | (simp; done) | (simp; omega)) _))⟩
  · have HR : Hid (x + 2147483648 = sgn 2147483648 x true) := hid rfl
    go_enter Tryz.func159, Tryz.ntmps159
    go_wp2
    go_ret
    exact ⟨ret_int HR.out, (by repeat (first | exact Below.refl _ _ | refine Below.drew ?_ | refine bel_dn ?_ _ | refine bel_al ?_ _ | refine Below.setCell ?_ (by first | omega | (simp; done) | (simp; omega)) _ | refine Below.alloc ?_ (by first | omega | (simp; done) | (simp; omega)) _))⟩
set_option maxHeartbeats 1000000 in
theorem parted32 (x : Int) (w : World) (h0 : 0 ≤ x) (h1 : x < 18446744073709551616) :
    Calls Tryz.prog 144 #[.agg #[.int .u64 23, .int .u64 255, .int .i64 (-149)], .int .u64 x] w fun e w' => e = .returned (.tuple #[.int .u64 (x / 8388608 % 256), .int .u64 (x % 8388608)]) ∧ Below w.heap.size w w' := by
  have e1 := Bt.mask8 (x / 8388608) (by omega) (by omega)
  have e2 := Bt.mask23 x h0 h1
  go_enter Tryz.func144, Tryz.ntmps144
  go_wp2
  go_region
  all_goals go_wp2
  all_goals go_ret2
  all_goals exact ⟨rfl, (by repeat (first | exact Below.refl _ _ | refine Below.drew ?_ | refine bel_dn ?_ _ | refine bel_al ?_ _ | refine Below.setCell ?_ (by first | omega | (simp; done) | (simp; omega)) _ | refine Below.alloc ?_ (by first | omega | (simp; done) | (simp; omega)) _))⟩
set_option maxHeartbeats 1000000 in
theorem signed64 (x : Int) (ng : Bool) (w : World) (h0 : 0 ≤ x) (h1 : x < 9223372036854775808) :
    Calls Tryz.prog 159 #[.agg #[.int .u64 52, .int .u64 2047, .int .i64 (-1074)], .int .u64 x, .bool ng] w fun e w' => e = .returned (.int .u64 (sgn 9223372036854775808 x ng)) ∧ Below w.heap.size w w' := by
  have e := Bt.or63 x h0 h1
  cases ng
  · have HR : Hid (x = sgn 9223372036854775808 x false) := hid rfl
    go_enter Tryz.func159, Tryz.ntmps159
    go_wp2
    go_ret
    exact ⟨ret_int HR.out, (by repeat (first | exact Below.refl _ _ | refine Below.drew ?_ | refine bel_dn ?_ _ | refine bel_al ?_ _ | refine Below.setCell ?_ (by first | omega | (simp; done) | (simp; omega)) _ | refine Below.alloc ?_ (by first | omega | (simp; done) | (simp; omega)) _))⟩
  · have HR : Hid (x + 9223372036854775808 = sgn 9223372036854775808 x true) := hid rfl
    go_enter Tryz.func159, Tryz.ntmps159
    go_wp2
    go_ret
    exact ⟨ret_int HR.out, (by repeat (first | exact Below.refl _ _ | refine Below.drew ?_ | refine bel_dn ?_ _ | refine bel_al ?_ _ | refine Below.setCell ?_ (by first | omega | (simp; done) | (simp; omega)) _ | refine Below.alloc ?_ (by first | omega | (simp; done) | (simp; omega)) _))⟩
set_option maxHeartbeats 1000000 in
theorem parted64 (x : Int) (w : World) (h0 : 0 ≤ x) (h1 : x < 18446744073709551616) :
    Calls Tryz.prog 144 #[.agg #[.int .u64 52, .int .u64 2047, .int .i64 (-1074)], .int .u64 x] w fun e w' => e = .returned (.tuple #[.int .u64 (x / 4503599627370496 % 2048), .int .u64 (x % 4503599627370496)]) ∧ Below w.heap.size w w' := by
  have e1 := Bt.mask11 (x / 4503599627370496) (by omega) (by omega)
  have e2 := Bt.mask52 x h0 h1
  go_enter Tryz.func144, Tryz.ntmps144
  go_wp2
  go_region
  all_goals go_wp2
  all_goals go_ret2
  all_goals exact ⟨rfl, (by repeat (first | exact Below.refl _ _ | refine Below.drew ?_ | refine bel_dn ?_ _ | refine bel_al ?_ _ | refine Below.setCell ?_ (by first | omega | (simp; done) | (simp; omega)) _ | refine Below.alloc ?_ (by first | omega | (simp; done) | (simp; omega)) _))⟩
end Go.Proofs.YtpoojmheegncfaaGreatDoor
/-
  Floats: what the program's functions for floats with a name answer.
-/
namespace Go.Proofs.YtpoojmheegncfaaGreatDoor
set_option linter.unusedVariables false
set_option linter.unusedSimpArgs false
open Go.RowKit

/-- The three cells of a format's sizes. -/
def Z3 (w : World) (b : Nat) (v0 v1 v2 : Value) : Prop := w.cell? ⟨b, 0, none⟩ = some v0 ∧ w.cell? ⟨b, 1, none⟩ = some v1 ∧ w.cell? ⟨b, 2, none⟩ = some v2
theorem Z3.below {w w' : World} {b : Nat} {v0 v1 v2 : Value} (h : Z3 w b v0 v1 v2) (hb : Below w.heap.size w w') : w'.cell? ⟨b, 0, none⟩ = some v0 ∧ w'.cell? ⟨b, 1, none⟩ = some v1 ∧ w'.cell? ⟨b, 2, none⟩ = some v2 := by
  have hlt := World.block_lt_of_cell? w _ h.1
  exact ⟨(hb.cell (p := ⟨b, 0, none⟩) hlt).trans h.1, (hb.cell (p := ⟨b, 1, none⟩) hlt).trans h.2.1, (hb.cell (p := ⟨b, 2, none⟩) hlt).trans h.2.2⟩
theorem Z3.new (w : World) (v0 v1 v2 : Value) (t : TypeId) : Z3 (w.alloc (.cells #[v0, v1, v2] t)) w.heap.size v0 v1 v2 := ⟨by simp, by simp, by simp⟩
theorem Z3.drew {w : World} {b : Nat} {v0 v1 v2 : Value} (h : Z3 w b v0 v1 v2) : Z3 w.drew b v0 v1 v2 := h

set_option maxHeartbeats 1000000 in
theorem impl_nan32 (w : World) (h : Tab w) :
    Calls Tryz.prog 137 #[.int .i64 32] w fun e w' => e = .returned (.int .u64 2143289344) ∧ Below w.heap.size w w' := by
  have hor : bits .or .u64 2139095040 4194304 = 2143289344 := by decide +kernel
  go_enter Tryz.func137, Tryz.ntmps137
  go_wp2_with fail
  refine (sizes32 _ h).mono ?_
  rintro e w1 ⟨rfl, hb1⟩
  go_wp2_with fail
  have z1 := Z3.new w1 (.int .u64 23) (.int .u64 255) (.int .i64 (-149)) 122
  go_region_held3 (fun w' => w'.cell? ⟨w1.heap.size, 0, none⟩ = some (.int .u64 23) ∧ w'.cell? ⟨w1.heap.size, 1, none⟩ = some (.int .u64 255) ∧ w'.cell? ⟨w1.heap.size, 2, none⟩ = some (.int .i64 (-149))) (first | assumption | exact z1.drew)
    (first
      | (go_at_call 158; refine (infinity32 _).mono ?_; rintro e w2 ⟨rfl, hb2⟩; have z2 := Z3.below (Z3.drew z1) hb2)
      | (go_at_call 145; refine (quiet32 _).mono ?_; rintro e w3 ⟨rfl, hb3⟩; have z3 := Z3.below z2 hb3))
  go_wp2
  go_ret
  exact ⟨rfl, (by repeat (first | exact Below.refl _ _ | refine Below.drew ?_ | refine bel_dn ?_ _ | refine bel_al ?_ _ | refine bel_go ?_ hb3 | refine bel_go ?_ hb2 | refine bel_go ?_ hb1 | refine Below.setCell ?_ (by first | omega | (simp; done) | (simp; omega)) _ | refine Below.alloc ?_ (by first | omega | (simp; done) | (simp; omega)) _ | refine Below.trans ?_ (Below.mono hb3 (by first | omega | (simp; done) | (simp; omega))) | refine Below.trans ?_ (Below.mono hb2 (by first | omega | (simp; done) | (simp; omega))) | refine Below.trans ?_ (Below.mono hb1 (by first | omega | (simp; done) | (simp; omega)))))⟩

set_option maxHeartbeats 1000000 in
theorem impl_nan64 (w : World) (h : Tab w) :
    Calls Tryz.prog 137 #[.int .i64 64] w fun e w' => e = .returned (.int .u64 9221120237041090560) ∧ Below w.heap.size w w' := by
  have hor : bits .or .u64 9218868437227405312 2251799813685248 = 9221120237041090560 := by decide +kernel
  go_enter Tryz.func137, Tryz.ntmps137
  go_wp2_with fail
  refine (sizes64 _ h).mono ?_
  rintro e w1 ⟨rfl, hb1⟩
  go_wp2_with fail
  have z1 := Z3.new w1 (.int .u64 52) (.int .u64 2047) (.int .i64 (-1074)) 122
  go_region_held3 (fun w' => w'.cell? ⟨w1.heap.size, 0, none⟩ = some (.int .u64 52) ∧ w'.cell? ⟨w1.heap.size, 1, none⟩ = some (.int .u64 2047) ∧ w'.cell? ⟨w1.heap.size, 2, none⟩ = some (.int .i64 (-1074))) (first | assumption | exact z1.drew)
    (first
      | (go_at_call 158; refine (infinity64 _).mono ?_; rintro e w2 ⟨rfl, hb2⟩; have z2 := Z3.below (Z3.drew z1) hb2)
      | (go_at_call 145; refine (quiet64 _).mono ?_; rintro e w3 ⟨rfl, hb3⟩; have z3 := Z3.below z2 hb3))
  go_wp2
  go_ret
  exact ⟨rfl, (by repeat (first | exact Below.refl _ _ | refine Below.drew ?_ | refine bel_dn ?_ _ | refine bel_al ?_ _ | refine bel_go ?_ hb3 | refine bel_go ?_ hb2 | refine bel_go ?_ hb1 | refine Below.setCell ?_ (by first | omega | (simp; done) | (simp; omega)) _ | refine Below.alloc ?_ (by first | omega | (simp; done) | (simp; omega)) _ | refine Below.trans ?_ (Below.mono hb3 (by first | omega | (simp; done) | (simp; omega))) | refine Below.trans ?_ (Below.mono hb2 (by first | omega | (simp; done) | (simp; omega))) | refine Below.trans ?_ (Below.mono hb1 (by first | omega | (simp; done) | (simp; omega)))))⟩

theorem impl_nan0 (fm : Int) (w : World) (h : Tab w) (h32 : fm ≠ 32) (h64 : fm ≠ 64) :
    Calls Tryz.prog 137 #[.int .i64 fm] w fun e w' => e = .returned (.int .u64 0) ∧ Below w.heap.size w w' := by
  go_enter Tryz.func137, Tryz.ntmps137
  go_wp2_with fail
  refine (sizes0 fm _ h h32 h64).mono ?_
  rintro e w1 ⟨rfl, hb1⟩
  go_wp2
  go_ret
  exact ⟨rfl, (by repeat (first | exact Below.refl _ _ | refine Below.drew ?_ | refine bel_dn ?_ _ | refine bel_al ?_ _ | refine bel_go ?_ hb1 | refine Below.setCell ?_ (by first | omega | (simp; done) | (simp; omega)) _ | refine Below.alloc ?_ (by first | omega | (simp; done) | (simp; omega)) _ | refine Below.trans ?_ (Below.mono hb1 (by first | omega | (simp; done) | (simp; omega)))))⟩
set_option maxHeartbeats 1000000 in
theorem impl_Inf32 (ng : Bool) (w : World) (h : Tab w) :
    Calls Tryz.prog 138 #[.int .i64 32, .bool ng] w fun e w' => e = .returned (.int .u64 (sgn 2147483648 2139095040 ng)) ∧ Below w.heap.size w w' := by
  go_enter Tryz.func138, Tryz.ntmps138
  go_wp2_with fail
  refine (sizes32 _ h).mono ?_
  rintro e w1 ⟨rfl, hb1⟩
  go_wp2_with fail
  have z1 := Z3.new w1 (.int .u64 23) (.int .u64 255) (.int .i64 (-149)) 122
  go_region_held3 (fun w' => w'.cell? ⟨w1.heap.size, 0, none⟩ = some (.int .u64 23) ∧ w'.cell? ⟨w1.heap.size, 1, none⟩ = some (.int .u64 255) ∧ w'.cell? ⟨w1.heap.size, 2, none⟩ = some (.int .i64 (-149))) (first | assumption | exact z1.drew)
    (first
      | (go_at_call 158; refine (infinity32 _).mono ?_; rintro e w2 ⟨rfl, hb2⟩; have z2 := Z3.below (Z3.drew z1) hb2)
      | (go_at_call 159; refine (signed32 2139095040 ng _ (by decide) (by decide)).mono ?_; rintro e w3 ⟨rfl, hb3⟩; have z3 := Z3.below z2 hb3))
  go_wp2
  go_ret
  exact ⟨rfl, (by repeat (first | exact Below.refl _ _ | refine Below.drew ?_ | refine bel_dn ?_ _ | refine bel_al ?_ _ | refine bel_go ?_ hb3 | refine bel_go ?_ hb2 | refine bel_go ?_ hb1 | refine Below.setCell ?_ (by first | omega | (simp; done) | (simp; omega)) _ | refine Below.alloc ?_ (by first | omega | (simp; done) | (simp; omega)) _ | refine Below.trans ?_ (Below.mono hb3 (by first | omega | (simp; done) | (simp; omega))) | refine Below.trans ?_ (Below.mono hb2 (by first | omega | (simp; done) | (simp; omega))) | refine Below.trans ?_ (Below.mono hb1 (by first | omega | (simp; done) | (simp; omega)))))⟩
set_option maxHeartbeats 1000000 in
theorem impl_Inf64 (ng : Bool) (w : World) (h : Tab w) :
    Calls Tryz.prog 138 #[.int .i64 64, .bool ng] w fun e w' => e = .returned (.int .u64 (sgn 9223372036854775808 9218868437227405312 ng)) ∧ Below w.heap.size w w' := by
  go_enter Tryz.func138, Tryz.ntmps138
  go_wp2_with fail
  refine (sizes64 _ h).mono ?_
  rintro e w1 ⟨rfl, hb1⟩
  go_wp2_with fail
  have z1 := Z3.new w1 (.int .u64 52) (.int .u64 2047) (.int .i64 (-1074)) 122
  go_region_held3 (fun w' => w'.cell? ⟨w1.heap.size, 0, none⟩ = some (.int .u64 52) ∧ w'.cell? ⟨w1.heap.size, 1, none⟩ = some (.int .u64 2047) ∧ w'.cell? ⟨w1.heap.size, 2, none⟩ = some (.int .i64 (-1074))) (first | assumption | exact z1.drew)
    (first
      | (go_at_call 158; refine (infinity64 _).mono ?_; rintro e w2 ⟨rfl, hb2⟩; have z2 := Z3.below (Z3.drew z1) hb2)
      | (go_at_call 159; refine (signed64 9218868437227405312 ng _ (by decide) (by decide)).mono ?_; rintro e w3 ⟨rfl, hb3⟩; have z3 := Z3.below z2 hb3))
  go_wp2
  go_ret
  exact ⟨rfl, (by repeat (first | exact Below.refl _ _ | refine Below.drew ?_ | refine bel_dn ?_ _ | refine bel_al ?_ _ | refine bel_go ?_ hb3 | refine bel_go ?_ hb2 | refine bel_go ?_ hb1 | refine Below.setCell ?_ (by first | omega | (simp; done) | (simp; omega)) _ | refine Below.alloc ?_ (by first | omega | (simp; done) | (simp; omega)) _ | refine Below.trans ?_ (Below.mono hb3 (by first | omega | (simp; done) | (simp; omega))) | refine Below.trans ?_ (Below.mono hb2 (by first | omega | (simp; done) | (simp; omega))) | refine Below.trans ?_ (Below.mono hb1 (by first | omega | (simp; done) | (simp; omega)))))⟩

set_option maxHeartbeats 1000000 in
theorem impl_Greatest32 (ng : Bool) (w : World) (h : Tab w) :
    Calls Tryz.prog 190 #[.int .i64 32, .bool ng] w fun e w' => e = .returned (.int .u64 (sgn 2147483648 2139095039 ng)) ∧ Below w.heap.size w w' := by
  go_enter Tryz.func190, Tryz.ntmps190
  go_wp2_with fail
  refine (sizes32 _ h).mono ?_
  rintro e w1 ⟨rfl, hb1⟩
  go_wp2_with fail
  have z1 := Z3.new w1 (.int .u64 23) (.int .u64 255) (.int .i64 (-149)) 122
  go_region_held3 (fun w' => w'.cell? ⟨w1.heap.size, 0, none⟩ = some (.int .u64 23) ∧ w'.cell? ⟨w1.heap.size, 1, none⟩ = some (.int .u64 255) ∧ w'.cell? ⟨w1.heap.size, 2, none⟩ = some (.int .i64 (-149))) (first | assumption | exact z1.drew)
    (first
      | (go_at_call 158; refine (infinity32 _).mono ?_; rintro e w2 ⟨rfl, hb2⟩; have z2 := Z3.below (Z3.drew z1) hb2)
      | (go_at_call 159; refine (signed32 2139095039 ng _ (by decide) (by decide)).mono ?_; rintro e w3 ⟨rfl, hb3⟩; have z3 := Z3.below z2 hb3))
  go_wp2
  go_ret
  exact ⟨rfl, (by repeat (first | exact Below.refl _ _ | refine Below.drew ?_ | refine bel_dn ?_ _ | refine bel_al ?_ _ | refine bel_go ?_ hb3 | refine bel_go ?_ hb2 | refine bel_go ?_ hb1 | refine Below.setCell ?_ (by first | omega | (simp; done) | (simp; omega)) _ | refine Below.alloc ?_ (by first | omega | (simp; done) | (simp; omega)) _ | refine Below.trans ?_ (Below.mono hb3 (by first | omega | (simp; done) | (simp; omega))) | refine Below.trans ?_ (Below.mono hb2 (by first | omega | (simp; done) | (simp; omega))) | refine Below.trans ?_ (Below.mono hb1 (by first | omega | (simp; done) | (simp; omega)))))⟩
set_option maxHeartbeats 1000000 in
theorem impl_Greatest64 (ng : Bool) (w : World) (h : Tab w) :
    Calls Tryz.prog 190 #[.int .i64 64, .bool ng] w fun e w' => e = .returned (.int .u64 (sgn 9223372036854775808 9218868437227405311 ng)) ∧ Below w.heap.size w w' := by
  go_enter Tryz.func190, Tryz.ntmps190
  go_wp2_with fail
  refine (sizes64 _ h).mono ?_
  rintro e w1 ⟨rfl, hb1⟩
  go_wp2_with fail
  have z1 := Z3.new w1 (.int .u64 52) (.int .u64 2047) (.int .i64 (-1074)) 122
  go_region_held3 (fun w' => w'.cell? ⟨w1.heap.size, 0, none⟩ = some (.int .u64 52) ∧ w'.cell? ⟨w1.heap.size, 1, none⟩ = some (.int .u64 2047) ∧ w'.cell? ⟨w1.heap.size, 2, none⟩ = some (.int .i64 (-1074))) (first | assumption | exact z1.drew)
    (first
      | (go_at_call 158; refine (infinity64 _).mono ?_; rintro e w2 ⟨rfl, hb2⟩; have z2 := Z3.below (Z3.drew z1) hb2)
      | (go_at_call 159; refine (signed64 9218868437227405311 ng _ (by decide) (by decide)).mono ?_; rintro e w3 ⟨rfl, hb3⟩; have z3 := Z3.below z2 hb3))
  go_wp2
  go_ret
  exact ⟨rfl, (by repeat (first | exact Below.refl _ _ | refine Below.drew ?_ | refine bel_dn ?_ _ | refine bel_al ?_ _ | refine bel_go ?_ hb3 | refine bel_go ?_ hb2 | refine bel_go ?_ hb1 | refine Below.setCell ?_ (by first | omega | (simp; done) | (simp; omega)) _ | refine Below.alloc ?_ (by first | omega | (simp; done) | (simp; omega)) _ | refine Below.trans ?_ (Below.mono hb3 (by first | omega | (simp; done) | (simp; omega))) | refine Below.trans ?_ (Below.mono hb2 (by first | omega | (simp; done) | (simp; omega))) | refine Below.trans ?_ (Below.mono hb1 (by first | omega | (simp; done) | (simp; omega)))))⟩


set_option maxHeartbeats 1000000 in
theorem impl_Zero32 (ng : Bool) (w : World) (h : Tab w) :
    Calls Tryz.prog 139 #[.int .i64 32, .bool ng] w fun e w' => e = .returned (.int .u64 (sgn 2147483648 0 ng)) ∧ Below w.heap.size w w' := by
  go_enter Tryz.func139, Tryz.ntmps139
  go_wp2_with fail
  refine (sizes32 _ h).mono ?_
  rintro e w1 ⟨rfl, hb1⟩
  go_wp2_with (go_at_call 159; refine (signed32 0 ng _ (by decide) (by decide)).mono ?_; rintro e w3 ⟨rfl, hb3⟩)
  go_ret
  exact ⟨rfl, (by repeat (first | exact Below.refl _ _ | refine Below.drew ?_ | refine bel_dn ?_ _ | refine bel_al ?_ _ | refine bel_go ?_ hb3 | refine bel_go ?_ hb1 | refine Below.setCell ?_ (by first | omega | (simp; done) | (simp; omega)) _ | refine Below.alloc ?_ (by first | omega | (simp; done) | (simp; omega)) _ | refine Below.trans ?_ (Below.mono hb3 (by first | omega | (simp; done) | (simp; omega))) | refine Below.trans ?_ (Below.mono hb1 (by first | omega | (simp; done) | (simp; omega)))))⟩
set_option maxHeartbeats 1000000 in
theorem impl_Zero64 (ng : Bool) (w : World) (h : Tab w) :
    Calls Tryz.prog 139 #[.int .i64 64, .bool ng] w fun e w' => e = .returned (.int .u64 (sgn 9223372036854775808 0 ng)) ∧ Below w.heap.size w w' := by
  go_enter Tryz.func139, Tryz.ntmps139
  go_wp2_with fail
  refine (sizes64 _ h).mono ?_
  rintro e w1 ⟨rfl, hb1⟩
  go_wp2_with (go_at_call 159; refine (signed64 0 ng _ (by decide) (by decide)).mono ?_; rintro e w3 ⟨rfl, hb3⟩)
  go_ret
  exact ⟨rfl, (by repeat (first | exact Below.refl _ _ | refine Below.drew ?_ | refine bel_dn ?_ _ | refine bel_al ?_ _ | refine bel_go ?_ hb3 | refine bel_go ?_ hb1 | refine Below.setCell ?_ (by first | omega | (simp; done) | (simp; omega)) _ | refine Below.alloc ?_ (by first | omega | (simp; done) | (simp; omega)) _ | refine Below.trans ?_ (Below.mono hb3 (by first | omega | (simp; done) | (simp; omega))) | refine Below.trans ?_ (Below.mono hb1 (by first | omega | (simp; done) | (simp; omega)))))⟩
theorem impl_Inf0 (fm : Int) (ng : Bool) (w : World) (h : Tab w) (h32 : fm ≠ 32) (h64 : fm ≠ 64) :
    Calls Tryz.prog 138 #[.int .i64 fm, .bool ng] w fun e w' => e = .returned (.int .u64 0) ∧ Below w.heap.size w w' := by
  go_enter Tryz.func138, Tryz.ntmps138
  go_wp2_with fail
  refine (sizes0 fm _ h h32 h64).mono ?_
  rintro e w1 ⟨rfl, hb1⟩
  go_wp2
  go_ret
  exact ⟨rfl, (by repeat (first | exact Below.refl _ _ | refine Below.drew ?_ | refine bel_dn ?_ _ | refine bel_al ?_ _ | refine bel_go ?_ hb1 | refine Below.setCell ?_ (by first | omega | (simp; done) | (simp; omega)) _ | refine Below.alloc ?_ (by first | omega | (simp; done) | (simp; omega)) _ | refine Below.trans ?_ (Below.mono hb1 (by first | omega | (simp; done) | (simp; omega)))))⟩
theorem impl_Greatest0 (fm : Int) (ng : Bool) (w : World) (h : Tab w) (h32 : fm ≠ 32) (h64 : fm ≠ 64) :
    Calls Tryz.prog 190 #[.int .i64 fm, .bool ng] w fun e w' => e = .returned (.int .u64 0) ∧ Below w.heap.size w w' := by
  go_enter Tryz.func190, Tryz.ntmps190
  go_wp2_with fail
  refine (sizes0 fm _ h h32 h64).mono ?_
  rintro e w1 ⟨rfl, hb1⟩
  go_wp2
  go_ret
  exact ⟨rfl, (by repeat (first | exact Below.refl _ _ | refine Below.drew ?_ | refine bel_dn ?_ _ | refine bel_al ?_ _ | refine bel_go ?_ hb1 | refine Below.setCell ?_ (by first | omega | (simp; done) | (simp; omega)) _ | refine Below.alloc ?_ (by first | omega | (simp; done) | (simp; omega)) _ | refine Below.trans ?_ (Below.mono hb1 (by first | omega | (simp; done) | (simp; omega)))))⟩
theorem impl_Zero0 (fm : Int) (ng : Bool) (w : World) (h : Tab w) (h32 : fm ≠ 32) (h64 : fm ≠ 64) :
    Calls Tryz.prog 139 #[.int .i64 fm, .bool ng] w fun e w' => e = .returned (.int .u64 0) ∧ Below w.heap.size w w' := by
  go_enter Tryz.func139, Tryz.ntmps139
  go_wp2_with fail
  refine (sizes0 fm _ h h32 h64).mono ?_
  rintro e w1 ⟨rfl, hb1⟩
  go_wp2
  go_ret
  exact ⟨rfl, (by repeat (first | exact Below.refl _ _ | refine Below.drew ?_ | refine bel_dn ?_ _ | refine bel_al ?_ _ | refine bel_go ?_ hb1 | refine Below.setCell ?_ (by first | omega | (simp; done) | (simp; omega)) _ | refine Below.alloc ?_ (by first | omega | (simp; done) | (simp; omega)) _ | refine Below.trans ?_ (Below.mono hb1 (by first | omega | (simp; done) | (simp; omega)))))⟩
end Go.Proofs.YtpoojmheegncfaaGreatDoor
