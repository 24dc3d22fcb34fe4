/-
  Plain mathematics, no Go: sums, differences, products and shifts of limbs, step by step.
-/
import Derived.Test.YtklpajphbkokcaaNumsB
namespace Go.Proofs.Ytklpajphbkokcaa
set_option linter.unusedVariables false
namespace Nm

/-- A sum: k limbs are done, c is carried. -/
def AddAt (xs ys os : List Int) (k : Nat) (c : Int) : Prop := val (os.take k) + pw k * c = val (xs.take k) + val (ys.take k)
theorem AddAt.zero (xs ys os : List Int) : AddAt xs ys os 0 0 := by simp [AddAt, val]
/-- One limb more: the sum of both limbs and what is carried is parted. -/
theorem AddAt.step {xs ys os : List Int} {k : Nat} {c d c' : Int} (h : AddAt xs ys os k c) (hk : k < os.length) (e : d + 4294967296 * c' = xs.getD k 0 + ys.getD k 0 + c) : AddAt xs ys (os.set k d) (k + 1) c' := by
  unfold AddAt at *
  rw [val_take_succ, val_take_succ, val_take_succ, List.take_set_of_le (Nat.le_refl k), getD_set _ _ _ _ hk, if_pos rfl]
  have e2 : pw k * d + pw (k + 1) * c' = pw k * (xs.getD k 0 + ys.getD k 0 + c) := by
    rw [← e, Int.mul_add, show pw (k + 1) = 4294967296 * pw k from rfl, ← Int.mul_assoc, Int.mul_comm (pw k) 4294967296]
  rw [Int.mul_add, Int.mul_add] at e2
  omega
theorem AddAt.stepSnoc {xs ys os : List Int} {c d c' : Int} (h : AddAt xs ys os os.length c) (e : d + 4294967296 * c' = xs.getD os.length 0 + ys.getD os.length 0 + c) : AddAt xs ys (os ++ [d]) (os ++ [d]).length c' := by
  have h1 : AddAt xs ys (os ++ [0]) os.length c := by unfold AddAt at *; simpa using h
  have h2 := AddAt.step h1 (by simp) e
  simpa using h2
theorem AddAt.full {xs ys os : List Int} {k : Nat} {c : Int} (h : AddAt xs ys os k c) (hx : xs.length ≤ k) (hy : ys.length ≤ k) (ho : os.length = k) : val os + pw k * c = val xs + val ys := by
  unfold AddAt at h; rwa [List.take_of_length_le (by omega), List.take_of_length_le hx, List.take_of_length_le hy] at h

/-- A difference: k limbs are done, c is borrowed. -/
def SubAt (xs ys os : List Int) (k : Nat) (c : Int) : Prop := val (os.take k) - pw k * c = val (xs.take k) - val (ys.take k)
theorem SubAt.zero (xs ys os : List Int) : SubAt xs ys os 0 0 := by simp [SubAt, val]
theorem SubAt.step {xs ys os : List Int} {k : Nat} {c d c' : Int} (h : SubAt xs ys os k c) (hk : k < os.length) (e : d - 4294967296 * c' = xs.getD k 0 - ys.getD k 0 - c) : SubAt xs ys (os.set k d) (k + 1) c' := by
  unfold SubAt at *
  rw [val_take_succ, val_take_succ, val_take_succ, List.take_set_of_le (Nat.le_refl k), getD_set _ _ _ _ hk, if_pos rfl]
  have e2 : pw k * d - pw (k + 1) * c' = pw k * (xs.getD k 0 - ys.getD k 0 - c) := by
    rw [← e, Int.mul_sub, show pw (k + 1) = 4294967296 * pw k from rfl, ← Int.mul_assoc, Int.mul_comm (pw k) 4294967296]
  rw [Int.mul_sub, Int.mul_sub] at e2
  omega
theorem SubAt.stepSnoc {xs ys os : List Int} {c d c' : Int} (h : SubAt xs ys os os.length c) (e : d - 4294967296 * c' = xs.getD os.length 0 - ys.getD os.length 0 - c) : SubAt xs ys (os ++ [d]) (os ++ [d]).length c' := by
  have h1 : SubAt xs ys (os ++ [0]) os.length c := by unfold SubAt at *; simpa using h
  have h2 := SubAt.step h1 (by simp) e
  simpa using h2
/-- Where the first is not less than the other nothing is borrowed at the end. -/
theorem SubAt.full {xs ys os : List Int} {c : Int} (h : SubAt xs ys os os.length c) (hx : xs.length = os.length) (hy : ys.length ≤ os.length) (dx : Dg xs) (dy : Dg ys) (dos : Dg os) (hc : 0 ≤ c) (hge : val ys ≤ val xs) : val os = val xs - val ys := by
  unfold SubAt at h
  rw [List.take_of_length_le (Nat.le_refl _), List.take_of_length_le (by omega), List.take_of_length_le hy] at h
  have h1 := val_lt dos
  have h2 := val_nonneg dos
  have hz : c = 0 := by
    rcases Int.lt_or_le 0 c with h3 | h3
    · exfalso
      have := pw_pos os.length
      have h4 : pw os.length * 1 ≤ pw os.length * c := Int.mul_le_mul_of_nonneg_left (by omega) (by omega)
      omega
    · omega
  subst hz
  omega

/-- A product: i limbs of the first are done, and j of the other with the next one, c is carried. -/
def MulAt (xs ys os : List Int) (i j : Nat) (c : Int) : Prop := val os + pw (i + j) * c = val (xs.take i) * val ys + pw i * (xs.getD i 0 * val (ys.take j))
theorem MulAt.zero (xs ys os : List Int) (h : val os = 0) : MulAt xs ys os 0 0 0 := by simp [MulAt, val, h]
theorem MulAt.step {xs ys os : List Int} {i j : Nat} {c d c' : Int} (h : MulAt xs ys os i j c) (hk : i + j < os.length) (e : d + 4294967296 * c' = xs.getD i 0 * ys.getD j 0 + os.getD (i + j) 0 + c) : MulAt xs ys (os.set (i + j) d) i (j + 1) c' := by
  unfold MulAt at *
  rw [val_set _ _ _ hk, val_take_succ]
  have e2 : pw (i + j) * d + pw (i + (j + 1)) * c' = pw (i + j) * (xs.getD i 0 * ys.getD j 0) + pw (i + j) * os.getD (i + j) 0 + pw (i + j) * c := by
    rw [← Int.mul_add, ← Int.mul_add, ← e, Int.mul_add, show i + (j + 1) = (i + j) + 1 by omega, show pw (i + j + 1) = 4294967296 * pw (i + j) from rfl, ← Int.mul_assoc, Int.mul_comm (pw (i + j)) 4294967296]
  have e3 : pw i * (xs.getD i 0 * (val (ys.take j) + pw j * ys.getD j 0)) = pw i * (xs.getD i 0 * val (ys.take j)) + pw (i + j) * (xs.getD i 0 * ys.getD j 0) := by
    rw [pw_add, Int.mul_add, Int.mul_add, ← Int.mul_assoc (xs.getD i 0) (pw j), Int.mul_comm (xs.getD i 0) (pw j), Int.mul_assoc, Int.mul_assoc]
  rw [e3, Int.mul_sub]
  omega
/-- All of the other is done: the next limb of the first. -/
theorem MulAt.next {xs ys os : List Int} {i j : Nat} (h : MulAt xs ys os i j 0) (hj : ys.length ≤ j) : MulAt xs ys os (i + 1) 0 0 := by
  unfold MulAt at *
  rw [List.take_of_length_le hj] at h
  rw [val_take_succ]
  simp [val]
  rw [Int.add_mul, Int.mul_assoc]
  simpa using h
theorem MulAt.full {xs ys os : List Int} {i : Nat} (h : MulAt xs ys os i 0 0) (hi : xs.length ≤ i) : val os = val xs * val ys := by
  unfold MulAt at h; rw [List.take_of_length_le hi] at h; simpa [val] using h

/-- What two limbs' product, a limb and what is carried come to. -/
theorem prod_bound {x y o c : Int} (hx : 0 ≤ x ∧ x < 4294967296) (hy : 0 ≤ y ∧ y < 4294967296) (ho : 0 ≤ o ∧ o < 4294967296) (hc : 0 ≤ c ∧ c < 4294967296) : 0 ≤ x * y ∧ x * y ≤ 18446744065119617025 ∧ x * y + o + c < 18446744073709551616 ∧ (x * y + o + c) / 4294967296 < 4294967296 ∧ 0 ≤ (x * y + o + c) / 4294967296 := by
  have h1 : x * y ≤ 4294967295 * 4294967295 := Int.mul_le_mul (by omega) (by omega) hy.1 (by omega)
  have h0 : 0 ≤ x * y := Int.mul_nonneg hx.1 hy.1
  refine ⟨h0, by omega, by omega, by omega, by omega⟩
end Nm
end Go.Proofs.Ytklpajphbkokcaa
