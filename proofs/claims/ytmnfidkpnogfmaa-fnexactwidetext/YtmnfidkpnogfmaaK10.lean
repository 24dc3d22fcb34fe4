/-
  What is needed of FloatD, FloatE, Mini, WideC, Facts.
-/
import Derived.Deep.QuietTactic
import Derived.BigQuiet
import Derived.Deep.RegionHeldLaw
import Derived.Lib.SmallJoins
import Derived.ProofKit
import Derived.Test.YtmnfidkpnogfmaaK07
set_option maxHeartbeats 16000000
set_option maxRecDepth 1000000
namespace Go.Proofs.Ytmnfidkpnogfmaa
set_option linter.unusedVariables false
set_option linter.unusedSimpArgs false
open Go.RowKit
/-- Whether it is a float of the format. -/
def okF (fm x : Int) : Bool := fm == 64 || (fm == 32 && decide (x < 4294967296))
/-- The class of a float whose bits without sign are y. -/
def clsY (L I Q y : Int) : Int := if y = 0 then 0 else if y < L then 1 else if y < I then 2 else if y = I then 3 else if y / Q % 2 = 1 then 4 else 5
/-- The class of bits of a format; -1 when they are no float. -/
def cls (fm x : Int) : Int := if okF fm x then (if fm = 32 then clsY 8388608 2139095040 4194304 (x % 2147483648) else clsY 4503599627370496 9218868437227405312 2251799813685248 (x % 9223372036854775808)) else -1
end Go.Proofs.Ytmnfidkpnogfmaa
namespace Go.Proofs.Ytmnfidkpnogfmaa
set_option linter.unusedVariables false
set_option linter.unusedSimpArgs false
open Go.RowKit Go.Deep
theorem Ls {α : Type} : (∀ (xs : List α) (i : Nat) (v : α), xs.toArray.setIfInBounds i v = (xs.set i v).toArray) ∧ (∀ (a b : α) (xs : List α), (a :: xs).set 0 b = b :: xs) ∧ (∀ (a b : α) (i : Nat) (xs : List α), (a :: xs).set (i + 1) b = a :: xs.set i b) ∧ (∀ (xs : List α) (i : Nat) (h : i < xs.toArray.size), xs.toArray[i]'h = xs[i]'(by simpa using h)) ∧ (∀ (a : α) (xs : List α) (h : 0 < (a :: xs).length), (a :: xs)[0]'h = a) ∧ (∀ (a : α) (xs : List α) (i : Nat) (h : i + 1 < (a :: xs).length), (a :: xs)[i + 1]'h = xs[i]'(Nat.lt_of_succ_lt_succ h)) :=
  ⟨fun _ _ _ => by simp, fun _ _ _ => rfl, fun _ _ _ _ => rfl, fun _ _ _ => rfl, fun _ _ _ => rfl, fun _ _ _ _ => rfl⟩
theorem tk {P : Program} {ops : Array Oper} {Q : Exit → Act → World → Prop} {md : Region.Mode} {S : World → Prop} (i : Nat) {oi : Oper} (v : Value) {fuel : Nat} {listed : Array Bool} {a : Act} {w : World} (h1 : ops[i]? = some oi) (h4 : YieldsIf P ops S oi v a) (h6 : wpAnyH P md ops Q S fuel (listed.setIfInBounds i true) (a.put oi.dst v) w) (h2 : (Region.noSelect ops && Region.free md ops listed i && (Region.ready md ops listed).contains i) = true := by kernel_rfl) (h3 : ∀ (c : List PanicEntry) (a : Act) (w : World), Q (Exit.panic c) (a.put oi.dst v) w → Q (Exit.panic c) a w := by exact fun _ _ _ h => h) (h5 : S w := by assumption) : wpAnyH P md ops Q S (fuel + 1) listed a w := by
  simp only [Bool.and_eq_true] at h2
  exact wpAnyH_take h1 h2.1.1 h2.1.2 h2.2 h3 h4 h5 h6
theorem rdy {P : Program} {ops : Array Oper} {Q : Exit → Act → World → Prop} {md : Region.Mode} {S : World → Prop} (i : Nat) {o : Oper} {fuel : Nat} {listed : Array Bool} {a : Act} {w : World} (h2 : ops[i]? = some o) (h3 : ∀ (K' : Act → World → Prop), Shut (∀ (a : Act) (w : World), S w → (S w → wpAnyH P md ops Q S fuel (listed.setIfInBounds i true) a w) → K' a w) → if Region.wanted o (yielded ops a.tmps) = true then Oper.wp P o a w K' Q else K' (a.put o.dst undef) w) (h1 : Region.ready md ops listed = [i] := by kernel_rfl) : wpAnyH P md ops Q S (fuel + 1) listed a w :=
  wpAnyH_ready h1 (by simp) (AllReadyH.cons h2 h3 AllReadyH.nil)
/-- How two wides compare. -/
def wcmp (na nb : Bool) (xs ys : List Int) : Int := if okB na xs && okB nb ys then (if na && nb then cmpL ys xs else if na then -1 else if nb then 1 else cmpL xs ys) else 2
theorem wcmp_no1 {na nb : Bool} {xs ys : List Int} (h : okB na xs = false) : wcmp na nb xs ys = 2 := by unfold wcmp; rw [h]; rfl
theorem wcmp_no2 {na nb : Bool} {xs ys : List Int} (h : okB nb ys = false) : wcmp na nb xs ys = 2 := by unfold wcmp; rw [h]; simp
theorem wcmp_yes {na nb : Bool} {xs ys : List Int} (h : okB na xs = true) (k : okB nb ys = true) : wcmp na nb xs ys = if na && nb then cmpL ys xs else if na then -1 else if nb then 1 else cmpL xs ys := by unfold wcmp; rw [h, k]; rfl
theorem cmpL_rng (xs ys : List Int) : -1 ≤ cmpL xs ys ∧ cmpL xs ys ≤ 1 := by
  have := cmpFrom_rng xs ys xs.length
  unfold cmpL
  split
  · omega
  · split <;> omega

theorem wcmp_impl (na nb : Bool) (a a' : Option Addr) (cap cap' : Nat) (xs ys : List Int) (w : World) (hx : Sl .u32 w (.slice a xs.length cap) xs) (hy : Sl .u32 w (.slice a' ys.length cap') ys) (hl : xs.length ≤ 140737488355328) (hl' : ys.length ≤ 140737488355328) :
    Calls Try.prog 59 #[.agg #[.bool na, .slice a xs.length cap], .agg #[.bool nb, .slice a' ys.length cap']] w fun e w' => e = .returned (.int .i64 (wcmp na nb xs ys)) ∧ Below w.heap.size w w' := by
  have hx1 : ∀ o o', Sl .u32 ((w.alloc o).alloc o') (.slice a xs.length cap) xs := fun o o' => (hx.alloc o).alloc o'
  have hy1 : ∀ o o', Sl .u32 ((w.alloc o).alloc o') (.slice a' ys.length cap') ys := fun o o' => (hy.alloc o).alloc o'
  have HX := hid hx1; have HY := hid hy1
  clear hx1 hy1
  cases h1 : okB na xs
  · have HR := hid (wcmp_no1 (nb := nb) (ys := ys) h1)
    go_enter Try.func59, Try.ntmps59
    go_wp2_with fail
    refine (ok_impl na a cap xs _ (HX.out _ _) hl).mono ?_
    rintro e w1 ⟨rfl, hb1⟩
    go_wp2
    go_ret
    exact ⟨ret_int HR.out.symm, (by repeat (first | exact bz0 _ _ | refine bz1 ?_ | refine bz2 ?_ _ | refine bz3 ?_ _ | refine bz4 ?_ hb1 | refine bz5 ?_ _ | refine bz6 ?_ _ | refine bz7 ?_ hb1))⟩
  cases h2 : okB nb ys
  · have HR := hid (wcmp_no2 (na := na) (xs := xs) h2)
    go_enter Try.func59, Try.ntmps59
    go_wp2_with fail
    refine (ok_impl na a cap xs _ (HX.out _ _) hl).mono ?_
    rintro e w1 ⟨rfl, hb1⟩
    obtain ⟨x10, x11⟩ := ((Box.new w (.bool na) (.slice a xs.length cap) 65).alloc _).below hb1
    obtain ⟨y10, y11⟩ := (Box.new2 w _ (.bool nb) (.slice a' ys.length cap') 65).below hb1
    have HX1 := (HX.out _ _).below hb1; have HY1 := (HY.out _ _).below hb1
    go_wp2_with fail
    refine (ok_impl nb a' cap' ys _ HY1 hl').mono ?_
    rintro e w2 ⟨rfl, hb2⟩
    obtain ⟨x20, x21⟩ := Box.below ⟨x10, x11⟩ hb2
    obtain ⟨y20, y21⟩ := Box.below ⟨y10, y11⟩ hb2
    have HX2 := HX1.below hb2; have HY2 := HY1.below hb2
    go_wp2
    go_ret
    exact ⟨ret_int HR.out.symm, (by repeat (first | exact bz0 _ _ | refine bz1 ?_ | refine bz2 ?_ _ | refine bz3 ?_ _ | refine bz4 ?_ hb2 | refine bz4 ?_ hb1 | refine bz5 ?_ _ | refine bz6 ?_ _ | refine bz7 ?_ hb2 | refine bz7 ?_ hb1))⟩
  have HW := hid (wcmp_yes h1 h2)
  cases na <;> cases nb
  · have HR : Hid (wcmp false false xs ys = cmpL xs ys) := hid (by rw [HW.out]; rfl)
    go_enter Try.func59, Try.ntmps59
    go_wp2_with fail
    refine (ok_impl false a cap xs _ (HX.out _ _) hl).mono ?_
    rintro e w1 ⟨rfl, hb1⟩
    obtain ⟨x10, x11⟩ := ((Box.new w (.bool false) (.slice a xs.length cap) 65).alloc _).below hb1
    obtain ⟨y10, y11⟩ := (Box.new2 w _ (.bool false) (.slice a' ys.length cap') 65).below hb1
    have HX1 := (HX.out _ _).below hb1; have HY1 := (HY.out _ _).below hb1
    go_wp2_with fail
    refine (ok_impl false a' cap' ys _ HY1 hl').mono ?_
    rintro e w2 ⟨rfl, hb2⟩
    obtain ⟨x20, x21⟩ := Box.below ⟨x10, x11⟩ hb2
    obtain ⟨y20, y21⟩ := Box.below ⟨y10, y11⟩ hb2
    have HX2 := HX1.below hb2; have HY2 := HY1.below hb2
    go_wp2_with fail
    refine (cmpLimbs_any a a' cap cap' xs ys _ HX2 HY2 hl hl').mono ?_
    rintro e w3 ⟨rfl, hb3⟩
    go_wp2
    go_ret
    exact ⟨ret_int HR.out.symm, (by repeat (first | exact bz0 _ _ | refine bz1 ?_ | refine bz2 ?_ _ | refine bz3 ?_ _ | refine bz4 ?_ hb3 | refine bz4 ?_ hb2 | refine bz4 ?_ hb1 | refine bz5 ?_ _ | refine bz6 ?_ _ | refine bz7 ?_ hb3 | refine bz7 ?_ hb2 | refine bz7 ?_ hb1))⟩
  · have HR : Hid (wcmp false true xs ys = 1) := hid (by rw [HW.out]; rfl)
    go_enter Try.func59, Try.ntmps59
    go_wp2_with fail
    refine (ok_impl false a cap xs _ (HX.out _ _) hl).mono ?_
    rintro e w1 ⟨rfl, hb1⟩
    obtain ⟨x10, x11⟩ := ((Box.new w (.bool false) (.slice a xs.length cap) 65).alloc _).below hb1
    obtain ⟨y10, y11⟩ := (Box.new2 w _ (.bool true) (.slice a' ys.length cap') 65).below hb1
    have HX1 := (HX.out _ _).below hb1; have HY1 := (HY.out _ _).below hb1
    go_wp2_with fail
    refine (ok_impl true a' cap' ys _ HY1 hl').mono ?_
    rintro e w2 ⟨rfl, hb2⟩
    obtain ⟨x20, x21⟩ := Box.below ⟨x10, x11⟩ hb2
    obtain ⟨y20, y21⟩ := Box.below ⟨y10, y11⟩ hb2
    have HX2 := HX1.below hb2; have HY2 := HY1.below hb2
    go_wp2
    go_ret
    exact ⟨ret_int HR.out.symm, (by repeat (first | exact bz0 _ _ | refine bz1 ?_ | refine bz2 ?_ _ | refine bz3 ?_ _ | refine bz4 ?_ hb2 | refine bz4 ?_ hb1 | refine bz5 ?_ _ | refine bz6 ?_ _ | refine bz7 ?_ hb2 | refine bz7 ?_ hb1))⟩
  · have HR : Hid (wcmp true false xs ys = -1) := hid (by rw [HW.out]; rfl)
    go_enter Try.func59, Try.ntmps59
    go_wp2_with fail
    refine (ok_impl true a cap xs _ (HX.out _ _) hl).mono ?_
    rintro e w1 ⟨rfl, hb1⟩
    obtain ⟨x10, x11⟩ := ((Box.new w (.bool true) (.slice a xs.length cap) 65).alloc _).below hb1
    obtain ⟨y10, y11⟩ := (Box.new2 w _ (.bool false) (.slice a' ys.length cap') 65).below hb1
    have HX1 := (HX.out _ _).below hb1; have HY1 := (HY.out _ _).below hb1
    go_wp2_with fail
    refine (ok_impl false a' cap' ys _ HY1 hl').mono ?_
    rintro e w2 ⟨rfl, hb2⟩
    obtain ⟨x20, x21⟩ := Box.below ⟨x10, x11⟩ hb2
    obtain ⟨y20, y21⟩ := Box.below ⟨y10, y11⟩ hb2
    have HX2 := HX1.below hb2; have HY2 := HY1.below hb2
    go_wp2
    go_ret
    exact ⟨ret_int HR.out.symm, (by repeat (first | exact bz0 _ _ | refine bz1 ?_ | refine bz2 ?_ _ | refine bz3 ?_ _ | refine bz4 ?_ hb2 | refine bz4 ?_ hb1 | refine bz5 ?_ _ | refine bz6 ?_ _ | refine bz7 ?_ hb2 | refine bz7 ?_ hb1))⟩
  · have HR : Hid (wcmp true true xs ys = cmpL ys xs) := hid (by rw [HW.out]; rfl)
    go_enter Try.func59, Try.ntmps59
    go_wp2_with fail
    refine (ok_impl true a cap xs _ (HX.out _ _) hl).mono ?_
    rintro e w1 ⟨rfl, hb1⟩
    obtain ⟨x10, x11⟩ := ((Box.new w (.bool true) (.slice a xs.length cap) 65).alloc _).below hb1
    obtain ⟨y10, y11⟩ := (Box.new2 w _ (.bool true) (.slice a' ys.length cap') 65).below hb1
    have HX1 := (HX.out _ _).below hb1; have HY1 := (HY.out _ _).below hb1
    go_wp2_with fail
    refine (ok_impl true a' cap' ys _ HY1 hl').mono ?_
    rintro e w2 ⟨rfl, hb2⟩
    obtain ⟨x20, x21⟩ := Box.below ⟨x10, x11⟩ hb2
    obtain ⟨y20, y21⟩ := Box.below ⟨y10, y11⟩ hb2
    have HX2 := HX1.below hb2; have HY2 := HY1.below hb2
    go_wp2_with fail
    refine (cmpLimbs_any a' a cap' cap ys xs _ HY2 HX2 hl' hl).mono ?_
    rintro e w3 ⟨rfl, hb3⟩
    go_wp2
    go_ret
    exact ⟨ret_int HR.out.symm, (by repeat (first | exact bz0 _ _ | refine bz1 ?_ | refine bz2 ?_ _ | refine bz3 ?_ _ | refine bz4 ?_ hb3 | refine bz4 ?_ hb2 | refine bz4 ?_ hb1 | refine bz5 ?_ _ | refine bz6 ?_ _ | refine bz7 ?_ hb3 | refine bz7 ?_ hb2 | refine bz7 ?_ hb1))⟩

/-- How right wides compare. -/
def lcmp (na nb : Bool) (xs ys : List Int) : Int := if na && nb then cmpL ys xs else if na then -1 else if nb then 1 else cmpL xs ys
theorem l1Cmp_any (na nb : Bool) (a a' : Option Addr) (cap cap' : Nat) (xs ys : List Int) (w : World) (hx : Sl .u32 w (.slice a xs.length cap) xs) (hy : Sl .u32 w (.slice a' ys.length cap') ys) (hl : xs.length ≤ 140737488355328) (hl' : ys.length ≤ 140737488355328) :
    Calls Try.prog 119 #[.agg #[.bool na, .slice a xs.length cap], .agg #[.bool nb, .slice a' ys.length cap']] w fun e w' => e = .returned (.int .i64 (lcmp na nb xs ys)) ∧ Below w.heap.size w w' := by
  cases na <;> cases nb
  · have HR : Hid (lcmp false false xs ys = cmpL xs ys) := hid rfl
    go_enter Try.func119, Try.ntmps119
    go_wp2_with fail
    refine (mag_any a a' cap cap' xs ys _ ((hx.alloc _).alloc _) ((hy.alloc _).alloc _) hl hl').mono ?_
    rintro e w1 ⟨rfl, hb1⟩
    go_wp2
    go_ret
    exact ⟨ret_int HR.out.symm, (by repeat (first | exact bz0 _ _ | refine bz1 ?_ | refine bz2 ?_ _ | refine bz3 ?_ _ | refine bz4 ?_ hb1 | refine bz5 ?_ _ | refine bz6 ?_ _ | refine bz7 ?_ hb1))⟩
  · have HR : Hid (lcmp false true xs ys = 1) := hid rfl
    go_enter Try.func119, Try.ntmps119
    go_wp2
    go_ret
    exact ⟨ret_int HR.out.symm, (by repeat (first | exact bz0 _ _ | refine bz1 ?_ | refine bz2 ?_ _ | refine bz3 ?_ _ | refine bz5 ?_ _ | refine bz6 ?_ _))⟩
  · have HR : Hid (lcmp true false xs ys = -1) := hid rfl
    go_enter Try.func119, Try.ntmps119
    go_wp2
    go_ret
    exact ⟨ret_int HR.out.symm, (by repeat (first | exact bz0 _ _ | refine bz1 ?_ | refine bz2 ?_ _ | refine bz3 ?_ _ | refine bz5 ?_ _ | refine bz6 ?_ _))⟩
  · have HR : Hid (lcmp true true xs ys = cmpL ys xs) := hid rfl
    go_enter Try.func119, Try.ntmps119
    go_wp2_with fail
    refine (mag_any a' a cap' cap ys xs _ ((hy.alloc _).alloc _) ((hx.alloc _).alloc _) hl' hl).mono ?_
    rintro e w1 ⟨rfl, hb1⟩
    go_wp2
    go_ret
    exact ⟨ret_int HR.out.symm, (by repeat (first | exact bz0 _ _ | refine bz1 ?_ | refine bz2 ?_ _ | refine bz3 ?_ _ | refine bz4 ?_ hb1 | refine bz5 ?_ _ | refine bz6 ?_ _ | refine bz7 ?_ hb1))⟩

theorem wcmp_spec (na nb : Bool) (a a' : Option Addr) (cap cap' : Nat) (xs ys : List Int) (w : World) (hx : Sl .u32 w (.slice a xs.length cap) xs) (hy : Sl .u32 w (.slice a' ys.length cap') ys) (hl : xs.length ≤ 140737488355328) (hl' : ys.length ≤ 140737488355328) :
    Calls Try.prog 62 #[.agg #[.bool na, .slice a xs.length cap], .agg #[.bool nb, .slice a' ys.length cap']] w fun e w' => e = .returned (.int .i64 (wcmp na nb xs ys)) ∧ Below w.heap.size w w' := by
  have hx1 : ∀ o o', Sl .u32 ((w.alloc o).alloc o') (.slice a xs.length cap) xs := fun o o' => (hx.alloc o).alloc o'
  have hy1 : ∀ o o', Sl .u32 ((w.alloc o).alloc o') (.slice a' ys.length cap') ys := fun o o' => (hy.alloc o).alloc o'
  have HX := hid hx1; have HY := hid hy1
  clear hx1 hy1
  cases h1 : okB na xs
  · have HR := hid (wcmp_no1 (nb := nb) (ys := ys) h1)
    go_enter Try.func62, Try.ntmps62
    go_wp2_with fail
    refine (ok_spec na a cap xs _ (HX.out _ _) hl).mono ?_
    rintro e w1 ⟨rfl, hb1⟩
    go_wp2
    go_ret
    exact ⟨ret_int HR.out.symm, (by repeat (first | exact bz0 _ _ | refine bz1 ?_ | refine bz2 ?_ _ | refine bz3 ?_ _ | refine bz4 ?_ hb1 | refine bz5 ?_ _ | refine bz6 ?_ _ | refine bz7 ?_ hb1))⟩
  cases h2 : okB nb ys
  · have HR := hid (wcmp_no2 (na := na) (xs := xs) h2)
    go_enter Try.func62, Try.ntmps62
    go_wp2_with fail
    refine (ok_spec na a cap xs _ (HX.out _ _) hl).mono ?_
    rintro e w1 ⟨rfl, hb1⟩
    obtain ⟨x10, x11⟩ := ((Box.new w (.bool na) (.slice a xs.length cap) 65).alloc _).below hb1
    obtain ⟨y10, y11⟩ := (Box.new2 w _ (.bool nb) (.slice a' ys.length cap') 65).below hb1
    have HX1 := (HX.out _ _).below hb1; have HY1 := (HY.out _ _).below hb1
    go_wp2_with fail
    refine (ok_spec nb a' cap' ys _ HY1 hl').mono ?_
    rintro e w2 ⟨rfl, hb2⟩
    obtain ⟨x20, x21⟩ := Box.below ⟨x10, x11⟩ hb2
    obtain ⟨y20, y21⟩ := Box.below ⟨y10, y11⟩ hb2
    have HX2 := HX1.below hb2; have HY2 := HY1.below hb2
    go_wp2
    go_ret
    exact ⟨ret_int HR.out.symm, (by repeat (first | exact bz0 _ _ | refine bz1 ?_ | refine bz2 ?_ _ | refine bz3 ?_ _ | refine bz4 ?_ hb2 | refine bz4 ?_ hb1 | refine bz5 ?_ _ | refine bz6 ?_ _ | refine bz7 ?_ hb2 | refine bz7 ?_ hb1))⟩
  · have HR : Hid (wcmp na nb xs ys = lcmp na nb xs ys) := hid (wcmp_yes h1 h2)
    go_enter Try.func62, Try.ntmps62
    go_wp2_with fail
    refine (ok_spec na a cap xs _ (HX.out _ _) hl).mono ?_
    rintro e w1 ⟨rfl, hb1⟩
    obtain ⟨x10, x11⟩ := ((Box.new w (.bool na) (.slice a xs.length cap) 65).alloc _).below hb1
    obtain ⟨y10, y11⟩ := (Box.new2 w _ (.bool nb) (.slice a' ys.length cap') 65).below hb1
    have HX1 := (HX.out _ _).below hb1; have HY1 := (HY.out _ _).below hb1
    go_wp2_with fail
    refine (ok_spec nb a' cap' ys _ HY1 hl').mono ?_
    rintro e w2 ⟨rfl, hb2⟩
    obtain ⟨x20, x21⟩ := Box.below ⟨x10, x11⟩ hb2
    obtain ⟨y20, y21⟩ := Box.below ⟨y10, y11⟩ hb2
    have HX2 := HX1.below hb2; have HY2 := HY1.below hb2
    go_wp2_with fail
    refine (l1Cmp_any na nb a a' cap cap' xs ys _ HX2 HY2 hl hl').mono ?_
    rintro e w3 ⟨rfl, hb3⟩
    go_wp2
    go_ret
    exact ⟨ret_int HR.out.symm, (by repeat (first | exact bz0 _ _ | refine bz1 ?_ | refine bz2 ?_ _ | refine bz3 ?_ _ | refine bz4 ?_ hb3 | refine bz4 ?_ hb2 | refine bz4 ?_ hb1 | refine bz5 ?_ _ | refine bz6 ?_ _ | refine bz7 ?_ hb3 | refine bz7 ?_ hb2 | refine bz7 ?_ hb1))⟩
end Go.Proofs.Ytmnfidkpnogfmaa
namespace Go.Proofs.Ytmnfidkpnogfmaa
namespace Fc
theorem own : ownKnob Try.prog.godebug = none := by kernel_rfl
theorem laidOut : laidOutB Try.prog = true := by kernel_rfl
theorem mapsRowed : Go.mapsRowed Try.prog = true := by kernel_rfl
theorem heard : Try.prog.stopsHeard = true := by kernel_rfl
theorem enter : Try.prog.mayEnter = true := by kernel_rfl
theorem lifts : (Rows.fnExactTurnedRow.lifted == Try.prog.liftsFinal) = true := by kernel_rfl
theorem lifts_of (l : _) (h : l = Rows.fnExactTurnedRow.lifted) : (l == Try.prog.liftsFinal) = true := by
  rw [h]; exact lifts
end Fc
end Go.Proofs.Ytmnfidkpnogfmaa
