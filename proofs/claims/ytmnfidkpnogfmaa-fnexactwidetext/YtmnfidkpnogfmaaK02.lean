/-
  What is needed of NumsB, NumsC.
-/
import Derived.Test.YtmnfidkpnogfmaaK00
set_option maxHeartbeats 16000000
set_option maxRecDepth 1000000
namespace Go.Proofs.Ytmnfidkpnogfmaa
set_option linter.unusedVariables false
namespace Nm
/-- The limbs of a number, least first, none on top that is 0. -/
def lim (n : Nat) : List Int := if h : n = 0 then [] else ((n % 4294967296 : Nat) : Int) :: lim (n / 4294967296)
termination_by n
decreasing_by exact Nat.div_lt_self (by omega) (by decide)

theorem lim_zero : lim 0 = [] := by unfold lim; simp
theorem lim_pos {n : Nat} (h : n ≠ 0) : lim n = ((n % 4294967296 : Nat) : Int) :: lim (n / 4294967296) := by rw [lim]; simp [h]

theorem lim_dg (n : Nat) : Dg (lim n) := by
  induction n using Nat.strongRecOn with
  | _ n ih =>
    by_cases h : n = 0
    · subst h; rw [lim_zero]; exact Dg.nil
    · rw [lim_pos h]; exact Dg.cons (by omega) (ih _ (Nat.div_lt_self (by omega) (by decide)))

theorem lim_val (n : Nat) : val (lim n) = n := by
  induction n using Nat.strongRecOn with
  | _ n ih =>
    by_cases h : n = 0
    · subst h; rw [lim_zero]; rfl
    · rw [lim_pos h, val, ih _ (Nat.div_lt_self (by omega) (by decide))]; omega

theorem lim_nil {n : Nat} (h : lim n = []) : n = 0 := by
  by_cases h0 : n = 0
  · exact h0
  · rw [lim_pos h0] at h; cases h

theorem lim_nz (n : Nat) : Nz (lim n) := by
  induction n using Nat.strongRecOn with
  | _ n ih =>
    by_cases h : n = 0
    · subst h; rw [lim_zero]; exact Nz.nil
    · rw [lim_pos h]
      have h1 := ih _ (Nat.div_lt_self (by omega : 0 < n) (by decide : 1 < 4294967296))
      intro z hz
      cases e : lim (n / 4294967296) with
      | nil => rw [e] at hz; have := lim_nil e; simp at hz; omega
      | cons y r => rw [e] at hz; rw [List.getLast?_cons_cons, ← e] at hz; exact h1 z hz

theorem trim_lim {l : List Int} (h : Dg l) : trim l = lim (val l).toNat :=
  val_inj (trim_dg h) (lim_dg _) (trim_nz _) (lim_nz _) (by rw [lim_val, trim_val]; have := val_nonneg h; omega)
theorem lim_length (n k : Nat) : (lim n).length ≤ k ↔ (n : Int) < pw k := by
  rw [length_le_iff (lim_dg n) (lim_nz n) k, lim_val]
theorem lim_length_zero (n : Nat) : (lim n).length = 0 ↔ n = 0 := by
  constructor
  · intro h; exact lim_nil (List.eq_nil_of_length_eq_zero h)
  · rintro rfl; rw [lim_zero]; rfl

/-- A limb is set. -/
theorem val_set (l : List Int) (k : Nat) (v : Int) (h : k < l.length) : val (l.set k v) = val l + pw k * (v - l.getD k 0) := by
  induction l generalizing k with
  | nil => simp at h
  | cons z r ih =>
    cases k with
    | zero => simp [val, pw]; omega
    | succ k =>
      have := ih k (by simpa using h)
      simp only [List.set_cons_succ, val, this, pw, List.getD_cons_succ]
      rw [Int.mul_add, Int.mul_assoc]; omega
theorem Dg.set {l : List Int} (h : Dg l) (k : Nat) {v : Int} (hv : 0 ≤ v ∧ v < 4294967296) : Dg (l.set k v) := fun x hx => by
  rcases List.mem_or_eq_of_mem_set hx with hx | rfl
  · exact h x hx
  · exact hv
theorem getD_set (l : List Int) (k i : Nat) (v : Int) (h : k < l.length) : (l.set k v).getD i 0 = if i = k then v else l.getD i 0 := by
  rw [List.getD_eq_getElem?_getD, List.getElem?_set, List.getD_eq_getElem?_getD]
  by_cases e : k = i
  · subst e; simp [h]
  · rw [if_neg e, if_neg (fun h => e h.symm)]

theorem take_snoc {l : List Int} {k : Nat} (h : k < l.length) : l.take (k + 1) = l.take k ++ [l.getD k 0] := by
  rw [List.take_succ_eq_append_getElem h]; simp [List.getD_eq_getElem?_getD, h]
/-- The first limbs, and one more (or 0, behind the last one). -/
theorem val_take_succ (l : List Int) (k : Nat) : val (l.take (k + 1)) = val (l.take k) + pw k * l.getD k 0 := by
  by_cases h : k < l.length
  · rw [take_snoc h, val_append]
    simp [val, Nat.min_eq_left (Nat.le_of_lt h)]
  · rw [List.take_of_length_le (by omega), List.take_of_length_le (by omega), List.getD_eq_getElem?_getD, List.getElem?_eq_none (by omega)]; simp
theorem val_snoc (l : List Int) (z : Int) : val (l ++ [z]) = val l + pw l.length * z := by rw [val_append]; simp [val]
theorem getD_out {l : List Int} {k : Nat} (h : l.length ≤ k) : l.getD k 0 = 0 := by rw [List.getD_eq_getElem?_getD, List.getElem?_eq_none (by omega)]; rfl
theorem getD_replicate (n k : Nat) : (List.replicate n (0 : Int)).getD k 0 = 0 := by
  rw [List.getD_eq_getElem?_getD]
  by_cases h : k < n
  · simp [h]
  · simp [h]

/-- A wide that is x: the limbs, the sign; what is answered where it may not fit. -/
def wl (x : Int) : List Int := lim x.natAbs
def wn (x : Int) : Bool := decide (x < 0)
def fits (x : Int) : Bool := decide ((wl x).length ≤ 200)
def outL (x : Int) : List Int := if fits x then wl x else []
def outN (x : Int) : Bool := fits x && wn x
/-- What a wide with this sign and limbs is. -/
def wv (ng : Bool) (zs : List Int) : Int := if ng then - val zs else val zs
theorem natAbs_wv {zs : List Int} (ng : Bool) (h : Dg zs) : (wv ng zs).natAbs = (val zs).toNat := by
  have := val_nonneg h
  unfold wv; cases ng <;> simp <;> omega
theorem wl_wv {zs : List Int} (ng : Bool) (h : Dg zs) : wl (wv ng zs) = trim zs := by
  unfold wl; rw [natAbs_wv ng h, trim_lim h]
theorem wn_wv {zs : List Int} (ng : Bool) (h : Dg zs) : wn (wv ng zs) = (ng && !decide ((trim zs).length = 0)) := by
  have h0 := val_nonneg h
  have h1 : (trim zs).length = 0 ↔ val zs = 0 := by rw [trim_lim h, lim_length_zero]; omega
  unfold wn wv
  by_cases e : val zs = 0
  · rw [decide_eq_true (h1.2 e), e]; cases ng <;> simp
  · rw [decide_eq_false (fun h => e (h1.1 h))]; cases ng
    · simp; omega
    · simp; omega
theorem wl_dg (x : Int) : Dg (wl x) := lim_dg _
theorem wl_nz (x : Int) : Nz (wl x) := lim_nz _
theorem val_wl (x : Int) : val (wl x) = x.natAbs := lim_val _
theorem wv_out (x : Int) : wv (wn x) (wl x) = x := by
  unfold wv wn; rw [val_wl]; by_cases h : x < 0 <;> simp [h] <;> omega
/-- A sum: k limbs are done, c is carried. -/
def AddAt (xs ys os : List Int) (k : Nat) (c : Int) : Prop := val (os.take k) + pw k * c = val (xs.take k) + val (ys.take k)
theorem AddAt.zero (xs ys os : List Int) : AddAt xs ys os 0 0 := by simp [AddAt, val]
/-- One limb more: the sum of both limbs and what is carried is parted. -/
theorem AddAt.step {xs ys os : List Int} {k : Nat} {c d c' : Int} (h : AddAt xs ys os k c) (hk : k < os.length) (e : d + 4294967296 * c' = xs.getD k 0 + ys.getD k 0 + c) : AddAt xs ys (os.set k d) (k + 1) c' := by
  unfold AddAt at *
  rw [val_take_succ, val_take_succ, val_take_succ, List.take_set_of_le (Nat.le_refl k), getD_set _ _ _ _ hk, if_pos rfl]
  have e2 : pw k * d + pw (k + 1) * c' = pw k * (xs.getD k 0 + ys.getD k 0 + c) := by
    rw [← e, Int.mul_add, show pw (k + 1) = 4294967296 * pw k from rfl, ← Int.mul_assoc, Int.mul_comm (pw k) 4294967296]
  rw [Int.mul_add, Int.mul_add] at e2
  omega
theorem AddAt.stepSnoc {xs ys os : List Int} {c d c' : Int} (h : AddAt xs ys os os.length c) (e : d + 4294967296 * c' = xs.getD os.length 0 + ys.getD os.length 0 + c) : AddAt xs ys (os ++ [d]) (os ++ [d]).length c' := by
  have h1 : AddAt xs ys (os ++ [0]) os.length c := by unfold AddAt at *; simpa using h
  have h2 := AddAt.step h1 (by simp) e
  simpa using h2
theorem AddAt.full {xs ys os : List Int} {k : Nat} {c : Int} (h : AddAt xs ys os k c) (hx : xs.length ≤ k) (hy : ys.length ≤ k) (ho : os.length = k) : val os + pw k * c = val xs + val ys := by
  unfold AddAt at h; rwa [List.take_of_length_le (by omega), List.take_of_length_le hx, List.take_of_length_le hy] at h

/-- A difference: k limbs are done, c is borrowed. -/
def SubAt (xs ys os : List Int) (k : Nat) (c : Int) : Prop := val (os.take k) - pw k * c = val (xs.take k) - val (ys.take k)
theorem SubAt.zero (xs ys os : List Int) : SubAt xs ys os 0 0 := by simp [SubAt, val]
theorem SubAt.step {xs ys os : List Int} {k : Nat} {c d c' : Int} (h : SubAt xs ys os k c) (hk : k < os.length) (e : d - 4294967296 * c' = xs.getD k 0 - ys.getD k 0 - c) : SubAt xs ys (os.set k d) (k + 1) c' := by
  unfold SubAt at *
  rw [val_take_succ, val_take_succ, val_take_succ, List.take_set_of_le (Nat.le_refl k), getD_set _ _ _ _ hk, if_pos rfl]
  have e2 : pw k * d - pw (k + 1) * c' = pw k * (xs.getD k 0 - ys.getD k 0 - c) := by
    rw [← e, Int.mul_sub, show pw (k + 1) = 4294967296 * pw k from rfl, ← Int.mul_assoc, Int.mul_comm (pw k) 4294967296]
  rw [Int.mul_sub, Int.mul_sub] at e2
  omega
theorem SubAt.stepSnoc {xs ys os : List Int} {c d c' : Int} (h : SubAt xs ys os os.length c) (e : d - 4294967296 * c' = xs.getD os.length 0 - ys.getD os.length 0 - c) : SubAt xs ys (os ++ [d]) (os ++ [d]).length c' := by
  have h1 : SubAt xs ys (os ++ [0]) os.length c := by unfold SubAt at *; simpa using h
  have h2 := SubAt.step h1 (by simp) e
  simpa using h2
/-- Where the first is not less than the other nothing is borrowed at the end. -/
theorem SubAt.full {xs ys os : List Int} {c : Int} (h : SubAt xs ys os os.length c) (hx : xs.length = os.length) (hy : ys.length ≤ os.length) (dx : Dg xs) (dy : Dg ys) (dos : Dg os) (hc : 0 ≤ c) (hge : val ys ≤ val xs) : val os = val xs - val ys := by
  unfold SubAt at h
  rw [List.take_of_length_le (Nat.le_refl _), List.take_of_length_le (by omega), List.take_of_length_le hy] at h
  have h1 := val_lt dos
  have h2 := val_nonneg dos
  have hz : c = 0 := by
    rcases Int.lt_or_le 0 c with h3 | h3
    · exfalso
      have := pw_pos os.length
      have h4 : pw os.length * 1 ≤ pw os.length * c := Int.mul_le_mul_of_nonneg_left (by omega) (by omega)
      omega
    · omega
  subst hz
  omega

/-- A product: i limbs of the first are done, and j of the other with the next one, c is carried. -/
def MulAt (xs ys os : List Int) (i j : Nat) (c : Int) : Prop := val os + pw (i + j) * c = val (xs.take i) * val ys + pw i * (xs.getD i 0 * val (ys.take j))
theorem MulAt.zero (xs ys os : List Int) (h : val os = 0) : MulAt xs ys os 0 0 0 := by simp [MulAt, val, h]
theorem MulAt.step {xs ys os : List Int} {i j : Nat} {c d c' : Int} (h : MulAt xs ys os i j c) (hk : i + j < os.length) (e : d + 4294967296 * c' = xs.getD i 0 * ys.getD j 0 + os.getD (i + j) 0 + c) : MulAt xs ys (os.set (i + j) d) i (j + 1) c' := by
  unfold MulAt at *
  rw [val_set _ _ _ hk, val_take_succ]
  have e2 : pw (i + j) * d + pw (i + (j + 1)) * c' = pw (i + j) * (xs.getD i 0 * ys.getD j 0) + pw (i + j) * os.getD (i + j) 0 + pw (i + j) * c := by
    rw [← Int.mul_add, ← Int.mul_add, ← e, Int.mul_add, show i + (j + 1) = (i + j) + 1 by omega, show pw (i + j + 1) = 4294967296 * pw (i + j) from rfl, ← Int.mul_assoc, Int.mul_comm (pw (i + j)) 4294967296]
  have e3 : pw i * (xs.getD i 0 * (val (ys.take j) + pw j * ys.getD j 0)) = pw i * (xs.getD i 0 * val (ys.take j)) + pw (i + j) * (xs.getD i 0 * ys.getD j 0) := by
    rw [pw_add, Int.mul_add, Int.mul_add, ← Int.mul_assoc (xs.getD i 0) (pw j), Int.mul_comm (xs.getD i 0) (pw j), Int.mul_assoc, Int.mul_assoc]
  rw [e3, Int.mul_sub]
  omega
/-- All of the other is done: the next limb of the first. -/
theorem MulAt.next {xs ys os : List Int} {i j : Nat} (h : MulAt xs ys os i j 0) (hj : ys.length ≤ j) : MulAt xs ys os (i + 1) 0 0 := by
  unfold MulAt at *
  rw [List.take_of_length_le hj] at h
  rw [val_take_succ]
  simp [val]
  rw [Int.add_mul, Int.mul_assoc]
  simpa using h
theorem MulAt.full {xs ys os : List Int} {i : Nat} (h : MulAt xs ys os i 0 0) (hi : xs.length ≤ i) : val os = val xs * val ys := by
  unfold MulAt at h; rw [List.take_of_length_le hi] at h; simpa [val] using h

/-- What two limbs' product, a limb and what is carried come to. -/
theorem prod_bound {x y o c : Int} (hx : 0 ≤ x ∧ x < 4294967296) (hy : 0 ≤ y ∧ y < 4294967296) (ho : 0 ≤ o ∧ o < 4294967296) (hc : 0 ≤ c ∧ c < 4294967296) : 0 ≤ x * y ∧ x * y ≤ 18446744065119617025 ∧ x * y + o + c < 18446744073709551616 ∧ (x * y + o + c) / 4294967296 < 4294967296 ∧ 0 ≤ (x * y + o + c) / 4294967296 := by
  have h1 : x * y ≤ 4294967295 * 4294967295 := Int.mul_le_mul (by omega) (by omega) hy.1 (by omega)
  have h0 : 0 ≤ x * y := Int.mul_nonneg hx.1 hy.1
  refine ⟨h0, by omega, by omega, by omega, by omega⟩
end Nm
end Go.Proofs.Ytmnfidkpnogfmaa
