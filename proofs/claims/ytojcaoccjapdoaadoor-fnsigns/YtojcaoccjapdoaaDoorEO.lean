/-
  What a sum lacks: the numbers; where it is refused.
-/
import Derived.Test.YtojcaoccjapdoaaDoorG23
import Derived.Test.YtojcaoccjapdoaaDoorG24
namespace Go.Proofs.YtojcaoccjapdoaaDoor
set_option linter.unusedVariables false
set_option linter.unusedSimpArgs false
open Go.RowKit Go.Deep
theorem eo_bl (fm x : Int) : bitLen (unI fm x).natAbs ≤ 2200 := by
  cases hf : finB fm x
  · rw [un_no hf]; decide
  · have h : (unI fm x).natAbs = Nm.sh (pM fm x).toNat (pE fm x - unQ fm) := by unfold unI; rw [hf, if_pos rfl]; cases pS fm x <;> simp
    rw [h]; exact un_bits hf
/-- What is lacking behind k of them. -/
def eK (fm b : Int) (xs : List Int) : Nat → Int
  | 0 => -unI fm b
  | k + 1 => eK fm b xs k + unI fm (xs.getD k 0)
theorem eK_bd (fm b : Int) (xs : List Int) (P : Nat) (hP : ∀ x, (unI fm x).natAbs < P) (k : Nat) : (eK fm b xs k).natAbs < (k + 1) * P := by
  induction k with
  | zero => show (-unI fm b).natAbs < _; rw [Int.natAbs_neg]; have := hP b; omega
  | succ k ih =>
    have h1 : (eK fm b xs (k + 1)).natAbs ≤ (eK fm b xs k).natAbs + (unI fm (xs.getD k 0)).natAbs := Int.natAbs_add_le _ _
    have h2 := hP (xs.getD k 0)
    have h3 : (k + 1 + 1) * P = (k + 1) * P + P := by rw [Nat.add_mul (k + 1) 1 P, Nat.one_mul]
    omega
theorem eK_len (fm b : Int) (xs : List Int) (k : Nat) (hk : k ≤ 300) : (Nm.wl (eK fm b xs k)).length ≤ 200 := by
  obtain ⟨K, hK⟩ : ∃ K : Nat, K = 2200 := ⟨_, rfl⟩
  have h := eK_bd fm b xs (2 ^ K) (fun x => (Nm.bl_le_iff _ K).1 (by rw [hK]; exact eo_bl fm x)) k
  have h2 : (k + 1) * 2 ^ K ≤ 512 * 2 ^ K := Nat.mul_le_mul_right _ (by omega)
  have h3 : 2 ^ (9 + K) = 512 * 2 ^ K := by rw [Nat.pow_add]
  have h4 := (Nm.bl_le_iff (eK fm b xs k).natAbs (9 + K)).2 (by rw [h3]; exact Nat.lt_of_lt_of_le h h2)
  unfold Nm.wl
  exact lim_len (k := 200) (by omega)
def finA (fm : Int) (xs : List Int) : Bool := xs.all (fun x => finB fm x)
theorem finA_yes {fm : Int} {xs : List Int} (h : ∀ j, j < xs.length → finB fm (xs.getD j 0) = true) : finA fm xs = true := by
  unfold finA
  rw [List.all_eq_true]
  intro x hx
  obtain ⟨j, hj, rfl⟩ := List.getElem_of_mem hx
  have := h j hj
  rwa [List.getD_eq_getElem?_getD, List.getElem?_eq_getElem hj] at this
theorem finA_no {fm : Int} {xs : List Int} {j : Nat} (hj : j < xs.length) (h : finB fm (xs.getD j 0) = false) : finA fm xs = false := by
  cases h' : finA fm xs
  · rfl
  · unfold finA at h'
    rw [List.all_eq_true] at h'
    have := h' _ (List.getElem_mem hj)
    rw [List.getD_eq_getElem?_getD, List.getElem?_eq_getElem hj] at h
    simp at h this
    rw [h] at this; exact absurd this (by decide)
/-- Whether it is answered, and by what. -/
def eO (fm b : Int) (xs : List Int) : Bool := (vecC fm 0 xs == 0) && finB fm b && finA fm xs
def eV (fm b : Int) (xs : List Int) : Int := if eO fm b xs then eK fm b xs xs.length else 0
theorem eV_no {fm b : Int} {xs : List Int} (h : eO fm b xs = false) : Nm.wn (eV fm b xs) = false ∧ Nm.wl (eV fm b xs) = [] := by
  unfold eV; rw [h, if_neg (by decide)]; exact ⟨by decide, Nm.lim_zero⟩
theorem eV_yes {fm b : Int} {xs : List Int} (h : eO fm b xs = true) : eV fm b xs = eK fm b xs xs.length := by unfold eV; rw [h]; rfl
theorem vec_300 {fm mode : Int} {xs : List Int} (h : (vecC fm mode xs == 0) = true) : xs.length ≤ 300 := by
  by_cases h2 : xs.length ≤ 300
  · exact h2
  · rw [beq_iff_eq] at h; unfold vecC at h
    rw [if_neg h2] at h
    split at h <;> simp at h
theorem eV_len (fm b : Int) (xs : List Int) : (Nm.wl (eV fm b xs)).length ≤ 200 := by
  cases h : eO fm b xs
  · rw [(eV_no h).2]; simp
  · rw [eV_yes h]
    refine eK_len fm b xs _ (vec_300 (fm := fm) (mode := 0) ?_)
    unfold eO at h; simp at h; simp [h.1.1]
def AnsE (w w' : World) (r : Ending) (fm b : Int) (xs : List Int) : Prop := ∃ a' c', r = .returned (.tuple #[.agg #[.bool (Nm.wn (eV fm b xs)), .slice a' (Nm.wl (eV fm b xs)).length c'], .bool (eO fm b xs)]) ∧ Own w' w.heap.size a' c' (Nm.wl (eV fm b xs)) ∧ Below w.heap.size w w'
theorem ansE_no {w w' : World} {fm b : Int} {xs : List Int} (h : eO fm b xs = false) (hb : Below w.heap.size w w') : AnsE w w' (.returned (.tuple #[.agg #[.bool false, .slice none 0 0], .bool false])) fm b xs := by
  obtain ⟨e2, e1⟩ := eV_no h
  refine ⟨none, 0, ?_, ?_, hb⟩
  · rw [e1, e2, h]; rfl
  · rw [e1]; exact Own.nil _ _
theorem ansE_yes {w w' : World} {fm b : Int} {xs : List Int} {a : Option Addr} {c : Nat} (h : eO fm b xs = true) (ho : Own w' w.heap.size a c (Nm.wl (eK fm b xs xs.length))) (hb : Below w.heap.size w w') : AnsE w w' (.returned (.tuple #[.agg #[.bool (Nm.wn (eK fm b xs xs.length)), .slice a (Nm.wl (eK fm b xs xs.length)).length c], .bool true])) fm b xs := by
  rw [← eV_yes h] at ho ⊢
  exact ⟨a, c, by rw [h], ho, hb⟩
theorem eneg_impl (z : Int) (a : Option Addr) (cap : Nat) (w : World) (hs : Sl .u32 w (.slice a (Nm.wl z).length cap) (Nm.wl z)) (hl : (Nm.wl z).length ≤ 200) :
    Calls Tryd.prog 30 #[.agg #[.bool (Nm.wn z), .slice a (Nm.wl z).length cap]] w fun e w' => ∃ a' c', e = .returned (.agg #[.bool (Nm.wn (-z)), .slice a' (Nm.wl (-z)).length c']) ∧ Own w' w.heap.size a' c' (Nm.wl (-z)) ∧ Below w.heap.size w w' := by
  have h := wneg_impl (Nm.wn z) a cap (Nm.wl z) w hs (Nm.wl_dg _) (by omega)
  have e : Nm.wv (!Nm.wn z) (Nm.wl z) = -z := by
    have := Nm.wv_out z
    unfold Nm.wv at this ⊢
    cases hn : Nm.wn z <;> rw [hn] at this <;> simp at this ⊢ <;> omega
  unfold negN negL at h
  rw [okB_wl hl, if_pos rfl, if_pos rfl, e] at h
  exact h
theorem eneg_spec (z : Int) (a : Option Addr) (cap : Nat) (w : World) (hs : Sl .u32 w (.slice a (Nm.wl z).length cap) (Nm.wl z)) (hl : (Nm.wl z).length ≤ 200) :
    Calls Tryd.prog 135 #[.agg #[.bool (Nm.wn z), .slice a (Nm.wl z).length cap]] w fun e w' => ∃ a' c', e = .returned (.agg #[.bool (Nm.wn (-z)), .slice a' (Nm.wl (-z)).length c']) ∧ Own w' w.heap.size a' c' (Nm.wl (-z)) ∧ Below w.heap.size w w' := by
  refine l1neg_any (Nm.wn z) a cap (Nm.wl z) w hs (Nm.wl_dg _) (by omega) (-z) ?_
  have := Nm.wv_out z
  unfold Nm.wv at this ⊢
  cases hn : Nm.wn z <;> rw [hn] at this <;> simp at this ⊢ <;> omega
theorem eadd_impl (x y : Int) (a b : Option Addr) (cap cap' : Nat) (w : World) (hx : Sl .u32 w (.slice a (Nm.wl x).length cap) (Nm.wl x)) (hy : Sl .u32 w (.slice b (Nm.wl y).length cap') (Nm.wl y)) (lx : (Nm.wl x).length ≤ 200) (ly : (Nm.wl y).length ≤ 200) (lz : (Nm.wl (x + y)).length ≤ 200) :
    Calls Tryd.prog 130 #[.agg #[.bool (Nm.wn x), .slice a (Nm.wl x).length cap], .agg #[.bool (Nm.wn y), .slice b (Nm.wl y).length cap']] w fun e w' => ∃ a' c', e = .returned (.tuple #[.agg #[.bool (Nm.wn (x + y)), .slice a' (Nm.wl (x + y)).length c'], .bool true]) ∧ Own w' w.heap.size a' c' (Nm.wl (x + y)) ∧ Below w.heap.size w w' := by
  have h := wadd_impl (Nm.wn x) (Nm.wn y) a b cap cap' (Nm.wl x) (Nm.wl y) w hx hy (Nm.wl_dg _) (Nm.wl_dg _) (by omega) (by omega) (x + y) (by rw [Nm.wv_out, Nm.wv_out])
  have hf : Nm.fits (x + y) = true := by unfold Nm.fits; exact decide_eq_true lz
  have e4 := out_fits hf
  rw [okB_wl lx, okB_wl ly, Bool.and_self, (op_yes _).1, (op_yes _).2.1, (op_yes _).2.2, hf, e4.1, e4.2] at h
  exact h
theorem eadd_spec (x y : Int) (a b : Option Addr) (cap cap' : Nat) (w : World) (hx : Sl .u32 w (.slice a (Nm.wl x).length cap) (Nm.wl x)) (hy : Sl .u32 w (.slice b (Nm.wl y).length cap') (Nm.wl y)) (lx : (Nm.wl x).length ≤ 200) (ly : (Nm.wl y).length ≤ 200) :
    Calls Tryd.prog 124 #[.agg #[.bool (Nm.wn x), .slice a (Nm.wl x).length cap], .agg #[.bool (Nm.wn y), .slice b (Nm.wl y).length cap']] w fun e w' => ∃ a' c', e = .returned (.agg #[.bool (Nm.wn (x + y)), .slice a' (Nm.wl (x + y)).length c']) ∧ Own w' w.heap.size a' c' (Nm.wl (x + y)) ∧ Below w.heap.size w w' :=
  l1add_any (Nm.wn x) (Nm.wn y) a b cap cap' (Nm.wl x) (Nm.wl y) w hx hy (Nm.wl_dg _) (Nm.wl_dg _) (Nm.wl_nz _) (Nm.wl_nz _) (by omega) (by omega) (x + y) (by rw [Nm.wv_out, Nm.wv_out])
end Go.Proofs.YtojcaoccjapdoaaDoor
