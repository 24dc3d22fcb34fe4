/-
  The exact product: the numbers; where it is refused.
-/
import Derived.Test.YtdjfajjlmjkpdaaDoorER
import Derived.Test.YtdjfajjlmjkpdaaDoorWideY
namespace Go.Proofs.YtdjfajjlmjkpdaaDoor
set_option linter.unusedVariables false
set_option linter.unusedSimpArgs false
open Go.RowKit Go.Deep
/-- M with its sign. -/
def pmZ (fm x : Int) : Int := if pS fm x then -(pM fm x) else pM fm x
def qK (fm : Int) (xs : List Int) : Nat → Int
  | 0 => 1
  | k + 1 => qK fm xs k * pmZ fm (xs.getD k 0)
def sK (fm : Int) (xs : List Int) : Nat → Int
  | 0 => 0
  | k + 1 => sK fm xs k + pE fm (xs.getD k 0)
theorem pmZ_abs (fm x : Int) : (pmZ fm x).natAbs = (pM fm x).toNat := by
  obtain ⟨h0, h1⟩ := pM_bd fm x
  unfold pmZ; cases pS fm x <;> simp <;> omega
theorem pmZ_lt (fm x : Int) : (pmZ fm x).natAbs < 2 ^ 53 := by
  obtain ⟨h0, h1⟩ := pM_bd fm x
  rw [pmZ_abs]; omega
theorem pmZ_len (fm x : Int) : (Nm.wl (pmZ fm x)).length ≤ 200 := by
  unfold Nm.wl
  exact lim_len (k := 200) (by have := (Nm.bl_le_iff _ 53).2 (pmZ_lt fm x); omega)
theorem sK_bd (fm : Int) (xs : List Int) (k : Nat) : -1074 * (k : Int) ≤ sK fm xs k ∧ sK fm xs k ≤ 2000 * (k : Int) := by
  induction k with
  | zero => exact ⟨by show (-1074 : Int) * (0 : Nat) ≤ 0; omega, by show (0 : Int) ≤ 2000 * (0 : Nat); omega⟩
  | succ k ih =>
    have h := pE_bd fm (xs.getD k 0)
    have e : sK fm xs (k + 1) = sK fm xs k + pE fm (xs.getD k 0) := rfl
    rw [e]; push_cast; omega
theorem qK_lt (fm : Int) (xs : List Int) (k : Nat) : (qK fm xs k).natAbs < 2 ^ (53 * k + 1) := by
  induction k with
  | zero => show (1 : Int).natAbs < 2 ^ 1; decide
  | succ k ih =>
    have e : qK fm xs (k + 1) = qK fm xs k * pmZ fm (xs.getD k 0) := rfl
    rw [e, Int.natAbs_mul, show 53 * (k + 1) + 1 = (53 * k + 1) + 53 by omega, Nat.pow_add]
    exact Nat.mul_lt_mul'' ih (pmZ_lt fm _)
theorem qK_len (fm : Int) (xs : List Int) (k : Nat) (hk : k ≤ 300) : (Nm.wl (qK fm xs k)).length ≤ 600 := by
  unfold Nm.wl
  exact lim_len (k := 600) (by have := (Nm.bl_le_iff _ (53 * k + 1)).2 (qK_lt fm xs k); omega)
theorem qK_grow (fm : Int) (xs : List Int) (k : Nat) (h : pM fm (xs.getD k 0) ≠ 0) : (Nm.wl (qK fm xs k)).length ≤ (Nm.wl (qK fm xs (k + 1))).length := by
  have e : qK fm xs (k + 1) = qK fm xs k * pmZ fm (xs.getD k 0) := rfl
  have h1 : (qK fm xs k).natAbs ≤ (qK fm xs (k + 1)).natAbs := by
    rw [e, Int.natAbs_mul, pmZ_abs]
    have := (pM_bd fm (xs.getD k 0)).1
    exact Nat.le_mul_of_pos_right _ (by omega)
  unfold Nm.wl
  rw [Nm.lim_length]
  have h2 := (Nm.lim_length (qK fm xs (k + 1)).natAbs _).1 (Nat.le_refl _)
  omega
/-- What the program holds: the product, 0 where it does not fit. -/
def zK (fm : Int) (xs : List Int) (k : Nat) : Int := if Nm.fits (qK fm xs k) then qK fm xs k else 0
theorem wl_zero : Nm.wl 0 = [] := Nm.lim_zero
theorem wn_zero : Nm.wn 0 = false := by decide
theorem fits_zero : Nm.fits 0 = true := by unfold Nm.fits; rw [wl_zero]; rfl
theorem fits_one : Nm.fits 1 = true := by
  unfold Nm.fits Nm.wl
  exact decide_eq_true (lim_len (k := 200) (by have := (Nm.bl_le_iff (1 : Int).natAbs 1).2 (by decide); omega))
theorem zK_len (fm : Int) (xs : List Int) (k : Nat) : (Nm.wl (zK fm xs k)).length ≤ 200 := by
  unfold zK
  cases h : Nm.fits (qK fm xs k)
  · rw [if_neg (by decide), wl_zero]; simp
  · rw [if_pos rfl]; unfold Nm.fits at h; exact of_decide_eq_true h
theorem zK_zero (fm : Int) (xs : List Int) (k : Nat) (h : pM fm (xs.getD k 0) = 0) : zK fm xs (k + 1) = 0 ∧ Nm.fits (qK fm xs (k + 1)) = true := by
  have e : qK fm xs (k + 1) = 0 := by
    show qK fm xs k * pmZ fm (xs.getD k 0) = 0
    have : pmZ fm (xs.getD k 0) = 0 := by unfold pmZ; rw [h]; simp
    rw [this, Int.mul_zero]
  unfold zK; rw [e, fits_zero]; exact ⟨rfl, rfl⟩
theorem zK_not (fm : Int) (xs : List Int) (k : Nat) (h : pM fm (xs.getD k 0) ≠ 0) (hf : Nm.fits (qK fm xs k) = false) : zK fm xs (k + 1) = zK fm xs k ∧ Nm.fits (qK fm xs (k + 1)) = false := by
  have hg := qK_grow fm xs k h
  have h2 : Nm.fits (qK fm xs (k + 1)) = false := by
    unfold Nm.fits at hf ⊢
    have := of_decide_eq_false hf
    exact decide_eq_false (by omega)
  unfold zK; rw [hf, h2]; exact ⟨rfl, rfl⟩
def prO (fm : Int) (xs : List Int) : Bool := (vecC fm 0 xs == 0) && finA fm xs && Nm.fits (qK fm xs xs.length)
def prV (fm : Int) (xs : List Int) : Int := if prO fm xs then qK fm xs xs.length else 0
def prS (fm : Int) (xs : List Int) : Int := if prO fm xs then sK fm xs xs.length else 0
theorem prV_len (fm : Int) (xs : List Int) : (Nm.wl (prV fm xs)).length ≤ 200 := by
  unfold prV
  cases h : prO fm xs
  · rw [if_neg (by decide), wl_zero]; simp
  · rw [if_pos rfl]; unfold prO at h; simp only [Bool.and_eq_true] at h
    have := h.2; unfold Nm.fits at this; exact of_decide_eq_true this
def AnsP (w w' : World) (r : Ending) (fm : Int) (xs : List Int) : Prop := ∃ a' c', r = .returned (.tuple #[.agg #[.bool (Nm.wn (prV fm xs)), .slice a' (Nm.wl (prV fm xs)).length c'], .int .i64 (prS fm xs), .bool (prO fm xs)]) ∧ Own w' w.heap.size a' c' (Nm.wl (prV fm xs)) ∧ Below w.heap.size w w'
theorem ansP_no {w w' : World} {fm : Int} {xs : List Int} (h : prO fm xs = false) (hb : Below w.heap.size w w') : AnsP w w' (.returned (.tuple #[.agg #[.bool false, .slice none 0 0], .int .i64 0, .bool false])) fm xs := by
  have e : prV fm xs = 0 := by unfold prV; rw [h]; rfl
  have e2 : prS fm xs = 0 := by unfold prS; rw [h]; rfl
  refine ⟨none, 0, ?_, ?_, hb⟩
  · rw [e, e2, h, wn_zero, wl_zero]; rfl
  · rw [e, wl_zero]; exact Own.nil _ _
theorem ansP_yes {w w' : World} {fm : Int} {xs : List Int} {a : Option Addr} {c : Nat} (h : prO fm xs = true) (ho : Own w' w.heap.size a c (Nm.wl (qK fm xs xs.length))) (hb : Below w.heap.size w w') : AnsP w w' (.returned (.tuple #[.agg #[.bool (Nm.wn (qK fm xs xs.length)), .slice a (Nm.wl (qK fm xs xs.length)).length c], .int .i64 (sK fm xs xs.length), .bool true])) fm xs := by
  have e : prV fm xs = qK fm xs xs.length := by unfold prV; rw [h]; rfl
  have e2 : prS fm xs = sK fm xs xs.length := by unfold prS; rw [h]; rfl
  rw [← e] at ho ⊢
  exact ⟨a, c, by rw [h, e2], ho, hb⟩
theorem pmul_impl (x y z u : Int) (a b : Option Addr) (cap cap' : Nat) (w : World) (hx : Sl .u32 w (.slice a (Nm.wl x).length cap) (Nm.wl x)) (hy : Sl .u32 w (.slice b (Nm.wl y).length cap') (Nm.wl y)) (lx : (Nm.wl x).length ≤ 200) (ly : (Nm.wl y).length ≤ 200) (hz : z = x * y) (hu : u = if Nm.fits z then z else 0) :
    Calls Tryd.prog 40 #[.agg #[.bool (Nm.wn x), .slice a (Nm.wl x).length cap], .agg #[.bool (Nm.wn y), .slice b (Nm.wl y).length cap']] w fun e w' => ∃ a' c', e = .returned (.tuple #[.agg #[.bool (Nm.wn u), .slice a' (Nm.wl u).length c'], .bool (Nm.fits z)]) ∧ Own w' w.heap.size a' c' (Nm.wl u) ∧ Below w.heap.size w w' := by
  have h := wmul_impl (Nm.wn x) (Nm.wn y) a b cap cap' (Nm.wl x) (Nm.wl y) w hx hy (Nm.wl_dg _) (Nm.wl_dg _) (by omega) (by omega) z (by rw [Nm.wv_out, Nm.wv_out]; exact hz)
  rw [okB_wl lx, okB_wl ly, Bool.and_self, (op_yes _).1, (op_yes _).2.1, (op_yes _).2.2] at h
  cases hf : Nm.fits z
  · rw [hf, if_neg (by decide)] at hu
    have e1 : Nm.outL z = [] := by unfold Nm.outL; rw [hf]; rfl
    have e2 : Nm.outN z = false := by unfold Nm.outN; rw [hf]; rfl
    rw [hf, e1, e2] at h
    rw [hu, wl_zero, wn_zero]
    exact h
  · rw [hf, if_pos rfl] at hu
    have e4 := out_fits hf
    rw [hf, e4.1, e4.2] at h
    rw [hu]; exact h
theorem pmul_spec (x y : Int) (a b : Option Addr) (cap cap' : Nat) (w : World) (hx : Sl .u32 w (.slice a (Nm.wl x).length cap) (Nm.wl x)) (hy : Sl .u32 w (.slice b (Nm.wl y).length cap') (Nm.wl y)) (lx : (Nm.wl x).length ≤ 600) (ly : (Nm.wl y).length ≤ 200) :
    Calls Tryd.prog 37 #[.agg #[.bool (Nm.wn x), .slice a (Nm.wl x).length cap], .agg #[.bool (Nm.wn y), .slice b (Nm.wl y).length cap']] w fun e w' => ∃ a' c', e = .returned (.agg #[.bool (Nm.wn (x * y)), .slice a' (Nm.wl (x * y)).length c']) ∧ Own w' w.heap.size a' c' (Nm.wl (x * y)) ∧ Below w.heap.size w w' :=
  l1mul_any (Nm.wn x) (Nm.wn y) a b cap cap' (Nm.wl x) (Nm.wl y) w hx hy (Nm.wl_dg _) (Nm.wl_dg _) (Nm.wl_nz _) (Nm.wl_nz _) (by omega) (by omega) (x * y) (by rw [Nm.wv_out, Nm.wv_out])
end Go.Proofs.YtdjfajjlmjkpdaaDoor
