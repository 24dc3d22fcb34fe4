/-
  What is needed of NumsD.
-/
import Derived.Test.YtmnfidkpnogfmaaK02
set_option maxHeartbeats 16000000
set_option maxRecDepth 1000000
namespace Go.Proofs.Ytmnfidkpnogfmaa
set_option linter.unusedVariables false
namespace Nm
/-- Shifted up, in place: i limbs are done. -/
structure UpAt (xs os : List Int) (wh : Nat) (p : Int) (i : Nat) : Prop where
  v : val os = pw wh * (p * val (xs.take i))
  d : Dg os
  lo : os.getD (wh + i) 0 < p
  z : ∀ j, wh + i < j → os.getD j 0 = 0
theorem UpAt.zero (xs : List Int) (wh n : Nat) (p : Int) (hp : 1 ≤ p) : UpAt xs (List.replicate n 0) wh p 0 :=
  ⟨by simp [val, val_replicate], Dg.replicate n, by rw [getD_replicate]; omega, fun j _ => getD_replicate n j⟩
/-- What a shifted limb is parted to. -/
theorem up_parts {x p q : Int} (hx : 0 ≤ x ∧ x < 4294967296) (hp : 1 ≤ p) (hq : 1 ≤ q) (e : p * q = 4294967296) : 0 ≤ x * p ∧ x * p < 18446744073709551616 ∧ 0 ≤ x * p % 4294967296 ∧ x * p % 4294967296 ≤ 4294967296 - p ∧ 0 ≤ x * p / 4294967296 ∧ x * p / 4294967296 < p := by
  have h0 : 0 ≤ x * p := Int.mul_nonneg hx.1 (by omega)
  have hpb : p ≤ 4294967296 := by
    have : p * 1 ≤ p * q := Int.mul_le_mul_of_nonneg_left hq (by omega)
    omega
  have h1 : x * p ≤ 4294967295 * p := Int.mul_le_mul_of_nonneg_right (by omega) (by omega)
  have e1 : x * p % 4294967296 = (x % q) * p := by rw [← e, Int.mul_comm x p, Int.mul_emod_mul_of_pos x q (by omega), Int.mul_comm]
  have h2 : x % q * p ≤ (q - 1) * p := Int.mul_le_mul_of_nonneg_right (by have := Int.emod_lt_of_pos x (show 0 < q by omega); omega) (by omega)
  have h3 : 0 ≤ x % q * p := Int.mul_nonneg (Int.emod_nonneg x (by omega)) (by omega)
  rw [Int.sub_mul, Int.mul_comm q p, e] at h2
  refine ⟨h0, by omega, by omega, by omega, by omega, ?_⟩
  have : 4294967295 * p < p * 4294967296 := by omega
  exact Int.ediv_lt_of_lt_mul (by decide) (by omega)
theorem UpAt.step {xs os : List Int} {wh : Nat} {p : Int} {i : Nat} {q : Int} (h : UpAt xs os wh p i) (hp : 1 ≤ p) (hq : 1 ≤ q) (e : p * q = 4294967296) (dx : Dg xs) (hl : wh + i + 1 < os.length) :
    UpAt xs ((os.set (wh + i) (os.getD (wh + i) 0 + xs.getD i 0 * p % 4294967296)).set (wh + i + 1) (xs.getD i 0 * p / 4294967296)) wh p (i + 1) := by
  obtain ⟨hv, hd, hlo, hz⟩ := h
  obtain ⟨u0, u1, u2, u3, u4, u5⟩ := up_parts (dx.getD i) hp hq e
  have hg := hd.getD (wh + i)
  have hpb : p ≤ 4294967296 := by omega
  have hd1 : Dg (os.set (wh + i) (os.getD (wh + i) 0 + xs.getD i 0 * p % 4294967296)) := hd.set _ (by omega)
  refine ⟨?_, hd1.set _ (by omega), ?_, fun j hj => ?_⟩
  · rw [val_set _ _ _ (by simp; omega), val_set _ _ _ (by omega), getD_set _ _ _ _ (by omega), if_neg (by omega), hz (wh + i + 1) (by omega), hv, val_take_succ]
    have e1 : pw (wh + i) * (os.getD (wh + i) 0 + xs.getD i 0 * p % 4294967296 - os.getD (wh + i) 0) + pw (wh + i + 1) * (xs.getD i 0 * p / 4294967296 - 0) = pw (wh + i) * (xs.getD i 0 * p) := by
      rw [show pw (wh + i + 1) = 4294967296 * pw (wh + i) from rfl, Int.mul_comm 4294967296 (pw _), Int.mul_assoc, ← Int.mul_add]
      congr 1; omega
    have e2 : pw wh * (p * (val (xs.take i) + pw i * xs.getD i 0)) = pw wh * (p * val (xs.take i)) + pw (wh + i) * (xs.getD i 0 * p) := by
      rw [pw_add, Int.mul_add, Int.mul_add, Int.mul_comm (xs.getD i 0) p, ← Int.mul_assoc p (pw i), Int.mul_comm p (pw i), Int.mul_assoc, Int.mul_assoc]
    omega
  · rw [show wh + (i + 1) = wh + i + 1 by omega, getD_set _ _ _ _ (by simp; omega), if_pos rfl]; exact u5
  · rw [getD_set _ _ _ _ (by simp; omega), if_neg (by omega), getD_set _ _ _ _ (by omega), if_neg (by omega)]; exact hz j (by omega)

/-- Shifted up, limb behind limb: i limbs are done, c is carried. -/
structure UpTo (xs os : List Int) (wh : Nat) (p : Int) (i : Nat) (c : Int) : Prop where
  v : val os + pw (wh + i) * c = pw wh * (p * val (xs.take i))
  d : Dg os
  l : os.length = wh + i
  c0 : 0 ≤ c
  c1 : c < p
theorem UpTo.zero (xs : List Int) (wh : Nat) (p : Int) (hp : 1 ≤ p) : UpTo xs (List.replicate wh 0) wh p 0 0 :=
  ⟨by simp [val, val_replicate], Dg.replicate wh, by simp, Int.le_refl _, by omega⟩
theorem UpTo.step {xs os : List Int} {wh : Nat} {p : Int} {i : Nat} {c q : Int} (h : UpTo xs os wh p i c) (hp : 1 ≤ p) (hq : 1 ≤ q) (e : p * q = 4294967296) (dx : Dg xs) :
    UpTo xs (os ++ [(c + xs.getD i 0 * p) % 4294967296]) wh p (i + 1) ((c + xs.getD i 0 * p) / 4294967296) := by
  obtain ⟨hv, hd, hl, h0, h1⟩ := h
  obtain ⟨u0, u1, u2, u3, u4, u5⟩ := up_parts (dx.getD i) hp hq e
  refine ⟨?_, hd.append (Dg.cons (by omega) Dg.nil), by simp; omega, by omega, by omega⟩
  rw [val_snoc, hl, val_take_succ]
  have e1 : pw (wh + i) * ((c + xs.getD i 0 * p) % 4294967296) + pw (wh + (i + 1)) * ((c + xs.getD i 0 * p) / 4294967296) = pw (wh + i) * c + pw (wh + i) * (xs.getD i 0 * p) := by
    rw [show wh + (i + 1) = wh + i + 1 by omega, show pw (wh + i + 1) = 4294967296 * pw (wh + i) from rfl, Int.mul_comm 4294967296 (pw _), Int.mul_assoc, ← Int.mul_add, ← Int.mul_add]
    congr 1; omega
  have e2 : pw wh * (p * (val (xs.take i) + pw i * xs.getD i 0)) = pw wh * (p * val (xs.take i)) + pw (wh + i) * (xs.getD i 0 * p) := by
    rw [pw_add, Int.mul_add, Int.mul_add, Int.mul_comm (xs.getD i 0) p, ← Int.mul_assoc p (pw i), Int.mul_comm p (pw i), Int.mul_assoc, Int.mul_assoc]
  omega
/-- Behind the last limb nothing is carried. -/
theorem UpTo.full {xs os : List Int} {wh : Nat} {p : Int} {c q : Int} (h : UpTo xs os wh p (xs.length + 1) c) (hc : c = 0) : val os = pw wh * (p * val xs) := by
  have := h.v; rw [hc, List.take_of_length_le (by omega)] at this; simpa using this
theorem UpAt.full {xs os : List Int} {wh : Nat} {p : Int} (h : UpAt xs os wh p xs.length) : val os = pw wh * (p * val xs) := by
  have := h.v; rwa [List.take_of_length_le (by omega)] at this

/-- Shifted down: each limb with the low part of the next one. -/
def sd (p : Int) : List Int → List Int
  | [] => []
  | x :: r => (r.getD 0 0 * 4294967296 + x) / p % 4294967296 :: sd p r
theorem sd_length (p : Int) (l : List Int) : (sd p l).length = l.length := by
  induction l with
  | nil => rfl
  | cons x r ih => simp [sd, ih]
theorem sd_getD (p : Int) (l : List Int) (i : Nat) (h : i < l.length) : (sd p l).getD i 0 = (l.getD (i + 1) 0 * 4294967296 + l.getD i 0) / p % 4294967296 := by
  induction l generalizing i with
  | nil => simp at h
  | cons x r ih =>
    cases i with
    | zero => simp [sd]
    | succ i => simpa [sd] using ih i (by simpa using h)
theorem sd_dg (p : Int) (l : List Int) : Dg (sd p l) := by
  induction l with
  | nil => exact Dg.nil
  | cons x r ih => exact Dg.cons (by omega) ih
theorem getD_drop (l : List Int) (n i : Nat) : (l.drop n).getD i 0 = l.getD (n + i) 0 := by
  rw [List.getD_eq_getElem?_getD, List.getElem?_drop, ← List.getD_eq_getElem?_getD]
theorem sd_val {p q : Int} (hp : 1 ≤ p) (hq : 1 ≤ q) (e : p * q = 4294967296) {l : List Int} (h : Dg l) : val (sd p l) = val l / p := by
  induction l with
  | nil => simp [sd, val]
  | cons x r ih =>
    have ih := ih h.tail
    have hx := h.head
    simp only [sd, val, ih]
    have hv := val_nonneg h.tail
    have hy : r.getD 0 0 = val r % 4294967296 := by
      cases r with
      | nil => simp [val]
      | cons y s => have := h.tail.head; simp [val]; omega
    rw [hy]
    generalize val r = v at hv ⊢
    -- v is p s and u
    have es : v = p * (v / p) + v % p := (Int.mul_ediv_add_emod v p).symm
    have hu0 := Int.emod_nonneg v (show p ≠ 0 by omega)
    have hu1 := Int.emod_lt_of_pos v (show 0 < p by omega)
    have ey : v % 4294967296 % p = v % p := Int.emod_emod_of_dvd v ⟨q, e.symm⟩
    have et : v % 4294967296 = p * (v % 4294967296 / p) + v % p := by rw [← ey]; exact (Int.mul_ediv_add_emod _ p).symm
    have hp0 : p ≠ 0 := by omega
    have k1 : (x + 4294967296 * v) / p = (x + 4294967296 * (v % p)) / p + 4294967296 * (v / p) := by
      have : x + 4294967296 * v = (x + 4294967296 * (v % p)) + (4294967296 * (v / p)) * p := by
        conv => lhs; rw [es]
        rw [Int.mul_add, ← Int.mul_assoc, Int.mul_comm 4294967296 p, Int.mul_assoc, Int.mul_comm p]; omega
      rw [this, Int.add_mul_ediv_right _ _ hp0]
    have k2 : (v % 4294967296 * 4294967296 + x) / p = (x + 4294967296 * (v % p)) / p + 4294967296 * (v % 4294967296 / p) := by
      have : v % 4294967296 * 4294967296 + x = (x + 4294967296 * (v % p)) + (4294967296 * (v % 4294967296 / p)) * p := by
        conv => lhs; rw [et]
        rw [Int.add_mul, Int.mul_assoc, Int.mul_comm _ 4294967296, ← Int.mul_assoc p, Int.mul_comm p 4294967296, Int.mul_assoc 4294967296 p, Int.mul_comm p (_ / p), ← Int.mul_assoc]; omega
      rw [this, Int.add_mul_ediv_right _ _ hp0]
    have k3 : (x + 4294967296 * (v % p)) / p < 4294967296 := by
      apply Int.ediv_lt_of_lt_mul (by omega)
      have : 4294967296 * (v % p) ≤ 4294967296 * (p - 1) := Int.mul_le_mul_of_nonneg_left (by omega) (by decide)
      omega
    have k4 : 0 ≤ (x + 4294967296 * (v % p)) / p := Int.ediv_nonneg (by omega) (by omega)
    rw [k1, k2, Int.add_mul_emod_self_left]
    omega
theorem val_drop {l : List Int} (h : Dg l) (n : Nat) : val (l.drop n) = val l / pw n := by
  by_cases hn : n ≤ l.length
  · have e : l = l.take n ++ l.drop n := (List.take_append_drop n l).symm
    have h2 := val_append (l.take n) (l.drop n)
    rw [← e] at h2
    have hl : (l.take n).length = n := by simp; omega
    rw [hl] at h2
    have h3 := val_lt (h.take n)
    rw [hl] at h3
    have h4 := val_nonneg (h.take n)
    have := pw_pos n
    rw [h2, Int.add_mul_ediv_left _ _ (by omega), Int.ediv_eq_zero_of_lt h4 h3]; omega
  · rw [List.drop_eq_nil_of_le (by omega)]
    have h3 := val_lt h
    have h4 := val_nonneg h
    have := pw_mono (show l.length ≤ n by omega)
    rw [Int.ediv_eq_zero_of_lt h4 (by omega)]; rfl
theorem pw_two (n : Nat) : pw n = (2 ^ (32 * n) : Nat) := by
  induction n with
  | zero => rfl
  | succ n ih => rw [show 32 * (n + 1) = 32 * n + 32 by omega, Nat.pow_add]; simp only [pw]; rw [ih]; simp; omega
end Nm
end Go.Proofs.Ytmnfidkpnogfmaa
