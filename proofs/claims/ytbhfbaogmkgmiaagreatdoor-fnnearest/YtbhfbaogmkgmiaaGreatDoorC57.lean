/-
  What is needed of WideC, CU, WI.
-/
import Derived.Test.YtbhfbaogmkgmiaaGreatDoorC53
set_option maxHeartbeats 16000000
set_option maxRecDepth 1000000
namespace Go.Proofs.YtbhfbaogmkgmiaaGreatDoor
set_option linter.unusedVariables false
set_option linter.unusedSimpArgs false
open Go.RowKit Go.Deep
/-- How two wides compare. -/
def wcmp (na nb : Bool) (xs ys : List Int) : Int := if okB na xs && okB nb ys then (if na && nb then cmpL ys xs else if na then -1 else if nb then 1 else cmpL xs ys) else 2
theorem wcmp_no1 {na nb : Bool} {xs ys : List Int} (h : okB na xs = false) : wcmp na nb xs ys = 2 := by unfold wcmp; rw [h]; rfl
theorem wcmp_no2 {na nb : Bool} {xs ys : List Int} (h : okB nb ys = false) : wcmp na nb xs ys = 2 := by unfold wcmp; rw [h]; simp
theorem wcmp_yes {na nb : Bool} {xs ys : List Int} (h : okB na xs = true) (k : okB nb ys = true) : wcmp na nb xs ys = if na && nb then cmpL ys xs else if na then -1 else if nb then 1 else cmpL xs ys := by unfold wcmp; rw [h, k]; rfl
theorem wcmp_impl (na nb : Bool) (a a' : Option Addr) (cap cap' : Nat) (xs ys : List Int) (w : World) (hx : Sl .u32 w (.slice a xs.length cap) xs) (hy : Sl .u32 w (.slice a' ys.length cap') ys) (hl : xs.length ≤ 140737488355328) (hl' : ys.length ≤ 140737488355328) :
    Calls Tryz.prog 24 #[.agg #[.bool na, .slice a xs.length cap], .agg #[.bool nb, .slice a' ys.length cap']] w fun e w' => e = .returned (.int .i64 (wcmp na nb xs ys)) ∧ Below w.heap.size w w' := by
  have hx1 : ∀ o o', Sl .u32 ((w.alloc o).alloc o') (.slice a xs.length cap) xs := fun o o' => (hx.alloc o).alloc o'
  have hy1 : ∀ o o', Sl .u32 ((w.alloc o).alloc o') (.slice a' ys.length cap') ys := fun o o' => (hy.alloc o).alloc o'
  have HX := hid hx1; have HY := hid hy1
  clear hx1 hy1
  cases h1 : okB na xs
  · have HR := hid (wcmp_no1 (nb := nb) (ys := ys) h1)
    go_enter Tryz.func24, Tryz.ntmps24
    go_wp2_with fail
    refine (ok_impl na a cap xs _ (HX.out _ _) hl).mono ?_
    rintro e w1 ⟨rfl, hb1⟩
    go_wp2
    go_ret
    exact ⟨ret_int HR.out.symm, (by repeat (first | exact bz0 _ _ | refine bz1 ?_ | refine bz2 ?_ _ | refine bz3 ?_ _ | refine bz4 ?_ hb1 | refine bz5 ?_ _ | refine bz6 ?_ _ | refine bz7 ?_ hb1))⟩
  cases h2 : okB nb ys
  · have HR := hid (wcmp_no2 (na := na) (xs := xs) h2)
    go_enter Tryz.func24, Tryz.ntmps24
    go_wp2_with fail
    refine (ok_impl na a cap xs _ (HX.out _ _) hl).mono ?_
    rintro e w1 ⟨rfl, hb1⟩
    obtain ⟨x10, x11⟩ := ((Box.new w (.bool na) (.slice a xs.length cap) 26).alloc _).below hb1
    obtain ⟨y10, y11⟩ := (Box.new2 w _ (.bool nb) (.slice a' ys.length cap') 26).below hb1
    have HX1 := (HX.out _ _).below hb1; have HY1 := (HY.out _ _).below hb1
    go_wp2_with fail
    refine (ok_impl nb a' cap' ys _ HY1 hl').mono ?_
    rintro e w2 ⟨rfl, hb2⟩
    obtain ⟨x20, x21⟩ := Box.below ⟨x10, x11⟩ hb2
    obtain ⟨y20, y21⟩ := Box.below ⟨y10, y11⟩ hb2
    have HX2 := HX1.below hb2; have HY2 := HY1.below hb2
    go_wp2
    go_ret
    exact ⟨ret_int HR.out.symm, (by repeat (first | exact bz0 _ _ | refine bz1 ?_ | refine bz2 ?_ _ | refine bz3 ?_ _ | refine bz4 ?_ hb2 | refine bz4 ?_ hb1 | refine bz5 ?_ _ | refine bz6 ?_ _ | refine bz7 ?_ hb2 | refine bz7 ?_ hb1))⟩
  have HW := hid (wcmp_yes h1 h2)
  cases na <;> cases nb
  · have HR : Hid (wcmp false false xs ys = cmpL xs ys) := hid (by rw [HW.out]; rfl)
    go_enter Tryz.func24, Tryz.ntmps24
    go_wp2_with fail
    refine (ok_impl false a cap xs _ (HX.out _ _) hl).mono ?_
    rintro e w1 ⟨rfl, hb1⟩
    obtain ⟨x10, x11⟩ := ((Box.new w (.bool false) (.slice a xs.length cap) 26).alloc _).below hb1
    obtain ⟨y10, y11⟩ := (Box.new2 w _ (.bool false) (.slice a' ys.length cap') 26).below hb1
    have HX1 := (HX.out _ _).below hb1; have HY1 := (HY.out _ _).below hb1
    go_wp2_with fail
    refine (ok_impl false a' cap' ys _ HY1 hl').mono ?_
    rintro e w2 ⟨rfl, hb2⟩
    obtain ⟨x20, x21⟩ := Box.below ⟨x10, x11⟩ hb2
    obtain ⟨y20, y21⟩ := Box.below ⟨y10, y11⟩ hb2
    have HX2 := HX1.below hb2; have HY2 := HY1.below hb2
    go_wp2_with fail
    refine (cmpLimbs_any a a' cap cap' xs ys _ HX2 HY2 hl hl').mono ?_
    rintro e w3 ⟨rfl, hb3⟩
    go_wp2
    go_ret
    exact ⟨ret_int HR.out.symm, (by repeat (first | exact bz0 _ _ | refine bz1 ?_ | refine bz2 ?_ _ | refine bz3 ?_ _ | refine bz4 ?_ hb3 | refine bz4 ?_ hb2 | refine bz4 ?_ hb1 | refine bz5 ?_ _ | refine bz6 ?_ _ | refine bz7 ?_ hb3 | refine bz7 ?_ hb2 | refine bz7 ?_ hb1))⟩
  · have HR : Hid (wcmp false true xs ys = 1) := hid (by rw [HW.out]; rfl)
    go_enter Tryz.func24, Tryz.ntmps24
    go_wp2_with fail
    refine (ok_impl false a cap xs _ (HX.out _ _) hl).mono ?_
    rintro e w1 ⟨rfl, hb1⟩
    obtain ⟨x10, x11⟩ := ((Box.new w (.bool false) (.slice a xs.length cap) 26).alloc _).below hb1
    obtain ⟨y10, y11⟩ := (Box.new2 w _ (.bool true) (.slice a' ys.length cap') 26).below hb1
    have HX1 := (HX.out _ _).below hb1; have HY1 := (HY.out _ _).below hb1
    go_wp2_with fail
    refine (ok_impl true a' cap' ys _ HY1 hl').mono ?_
    rintro e w2 ⟨rfl, hb2⟩
    obtain ⟨x20, x21⟩ := Box.below ⟨x10, x11⟩ hb2
    obtain ⟨y20, y21⟩ := Box.below ⟨y10, y11⟩ hb2
    have HX2 := HX1.below hb2; have HY2 := HY1.below hb2
    go_wp2
    go_ret
    exact ⟨ret_int HR.out.symm, (by repeat (first | exact bz0 _ _ | refine bz1 ?_ | refine bz2 ?_ _ | refine bz3 ?_ _ | refine bz4 ?_ hb2 | refine bz4 ?_ hb1 | refine bz5 ?_ _ | refine bz6 ?_ _ | refine bz7 ?_ hb2 | refine bz7 ?_ hb1))⟩
  · have HR : Hid (wcmp true false xs ys = -1) := hid (by rw [HW.out]; rfl)
    go_enter Tryz.func24, Tryz.ntmps24
    go_wp2_with fail
    refine (ok_impl true a cap xs _ (HX.out _ _) hl).mono ?_
    rintro e w1 ⟨rfl, hb1⟩
    obtain ⟨x10, x11⟩ := ((Box.new w (.bool true) (.slice a xs.length cap) 26).alloc _).below hb1
    obtain ⟨y10, y11⟩ := (Box.new2 w _ (.bool false) (.slice a' ys.length cap') 26).below hb1
    have HX1 := (HX.out _ _).below hb1; have HY1 := (HY.out _ _).below hb1
    go_wp2_with fail
    refine (ok_impl false a' cap' ys _ HY1 hl').mono ?_
    rintro e w2 ⟨rfl, hb2⟩
    obtain ⟨x20, x21⟩ := Box.below ⟨x10, x11⟩ hb2
    obtain ⟨y20, y21⟩ := Box.below ⟨y10, y11⟩ hb2
    have HX2 := HX1.below hb2; have HY2 := HY1.below hb2
    go_wp2
    go_ret
    exact ⟨ret_int HR.out.symm, (by repeat (first | exact bz0 _ _ | refine bz1 ?_ | refine bz2 ?_ _ | refine bz3 ?_ _ | refine bz4 ?_ hb2 | refine bz4 ?_ hb1 | refine bz5 ?_ _ | refine bz6 ?_ _ | refine bz7 ?_ hb2 | refine bz7 ?_ hb1))⟩
  · have HR : Hid (wcmp true true xs ys = cmpL ys xs) := hid (by rw [HW.out]; rfl)
    go_enter Tryz.func24, Tryz.ntmps24
    go_wp2_with fail
    refine (ok_impl true a cap xs _ (HX.out _ _) hl).mono ?_
    rintro e w1 ⟨rfl, hb1⟩
    obtain ⟨x10, x11⟩ := ((Box.new w (.bool true) (.slice a xs.length cap) 26).alloc _).below hb1
    obtain ⟨y10, y11⟩ := (Box.new2 w _ (.bool true) (.slice a' ys.length cap') 26).below hb1
    have HX1 := (HX.out _ _).below hb1; have HY1 := (HY.out _ _).below hb1
    go_wp2_with fail
    refine (ok_impl true a' cap' ys _ HY1 hl').mono ?_
    rintro e w2 ⟨rfl, hb2⟩
    obtain ⟨x20, x21⟩ := Box.below ⟨x10, x11⟩ hb2
    obtain ⟨y20, y21⟩ := Box.below ⟨y10, y11⟩ hb2
    have HX2 := HX1.below hb2; have HY2 := HY1.below hb2
    go_wp2_with fail
    refine (cmpLimbs_any a' a cap' cap ys xs _ HY2 HX2 hl' hl).mono ?_
    rintro e w3 ⟨rfl, hb3⟩
    go_wp2
    go_ret
    exact ⟨ret_int HR.out.symm, (by repeat (first | exact bz0 _ _ | refine bz1 ?_ | refine bz2 ?_ _ | refine bz3 ?_ _ | refine bz4 ?_ hb3 | refine bz4 ?_ hb2 | refine bz4 ?_ hb1 | refine bz5 ?_ _ | refine bz6 ?_ _ | refine bz7 ?_ hb3 | refine bz7 ?_ hb2 | refine bz7 ?_ hb1))⟩

namespace Fd
theorem wcmp_int {x y : Int} (hx : (Nm.wl x).length ≤ 200) (hy : (Nm.wl y).length ≤ 200) : wcmp (Nm.wn x) (Nm.wn y) (Nm.wl x) (Nm.wl y) = cmpI x y := by
  rw [wcmp_yes (okB_wl hx) (okB_wl hy)]
  unfold Nm.wl Nm.wn
  rw [cmpL_nat, cmpL_nat]
  unfold Nm.cmp2 cmpI
  by_cases h1 : x < 0 <;> by_cases h2 : y < 0 <;> simp only [h1, h2, decide_true, decide_false, Bool.and_true, Bool.and_false, Bool.and_self, if_true, if_false, Bool.false_eq_true] <;> (repeat' split) <;> omega
theorem wl_abs (x : Int) : Nm.wl ((x.natAbs : Nat) : Int) = Nm.wl x := by unfold Nm.wl; rw [Int.natAbs_natCast]
theorem wn_abs (x : Int) : Nm.wn ((x.natAbs : Nat) : Int) = false := by unfold Nm.wn; exact decide_eq_false (by omega)
theorem cmp_w (x y : Int) (a b : Option Addr) (c d : Nat) (w : World) (hx : Sl .u32 w (.slice a (Nm.wl x).length c) (Nm.wl x)) (hy : Sl .u32 w (.slice b (Nm.wl y).length d) (Nm.wl y)) (lx : (Nm.wl x).length ≤ 200) (ly : (Nm.wl y).length ≤ 200) :
    Calls Tryz.prog 24 #[.agg #[.bool false, .slice a (Nm.wl x).length c], .agg #[.bool false, .slice b (Nm.wl y).length d]] w fun e w' => e = .returned (.int .i64 (cmpI (x.natAbs : Nat) (y.natAbs : Nat))) ∧ Below w.heap.size w w' := by
  have h := wcmp_impl (Nm.wn ((x.natAbs : Nat) : Int)) (Nm.wn ((y.natAbs : Nat) : Int)) a b c d (Nm.wl ((x.natAbs : Nat) : Int)) (Nm.wl ((y.natAbs : Nat) : Int)) w (by rw [wl_abs]; exact hx) (by rw [wl_abs]; exact hy) (by rw [wl_abs]; omega) (by rw [wl_abs]; omega)
  rw [wcmp_int (by rw [wl_abs]; exact lx) (by rw [wl_abs]; exact ly)] at h
  rw [wn_abs, wn_abs, wl_abs, wl_abs] at h
  exact h
end Fd
end Go.Proofs.YtbhfbaogmkgmiaaGreatDoor
