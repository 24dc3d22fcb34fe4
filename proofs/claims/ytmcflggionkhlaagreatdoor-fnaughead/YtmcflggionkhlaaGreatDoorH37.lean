/-
  What is needed of Uf, RN, DrawC, RS.
-/
import Derived.Test.YtmcflggionkhlaaGreatDoorH33
set_option maxHeartbeats 16000000
set_option maxRecDepth 1000000
namespace Go.Proofs.YtmcflggionkhlaaGreatDoor
set_option linter.unusedVariables false
namespace Fd
def uf (L y : Nat) : Nat := if y < L then y else (y % L + L) * 2 ^ (y / L - 1)
theorem uf_step (L : Nat) (hL : 1 < L) (y : Nat) : uf L y < uf L (y + 1) := by
  unfold uf
  by_cases h1 : y < L
  · rw [if_pos h1]
    by_cases h2 : y + 1 < L
    · rw [if_pos h2]; omega
    · rw [if_neg h2]
      have : y + 1 = L := by omega
      rw [this, Nat.mod_self, Nat.div_self (by omega)]; simp; exact h1
  · have h2 : ¬ y + 1 < L := by omega
    rw [if_neg h1, if_neg h2]
    have hq : 1 ≤ y / L := Nat.div_pos (by omega) (by omega)
    have hm : y % L < L := Nat.mod_lt _ (by omega)
    have hd := Nat.div_add_mod y L
    by_cases h3 : y % L + 1 = L
    · have e : y + 1 = L * (y / L + 1) := by rw [Nat.mul_add]; omega
      rw [e, Nat.mul_mod_right, Nat.mul_div_cancel_left _ (by omega)]
      obtain ⟨q, hq'⟩ : ∃ q, y / L = q + 1 := ⟨y / L - 1, by omega⟩
      rw [hq']
      simp only [Nat.add_sub_cancel, Nat.zero_add]
      rw [Nat.pow_succ, show L * (2 ^ q * 2) = (L + L) * 2 ^ q by rw [Nat.add_mul]; rw [Nat.mul_comm (2 ^ q) 2, ← Nat.mul_assoc, Nat.mul_comm L 2, Nat.mul_assoc, Nat.two_mul]]
      exact Nat.mul_lt_mul_of_pos_right (by omega) (Nat.two_pow_pos _)
    · have e : y + 1 = L * (y / L) + (y % L + 1) := by omega
      have hlt : y % L + 1 < L := by omega
      have e1 : (y + 1) / L = y / L := by
        conv => lhs; rw [e]
        rw [Nat.mul_add_div (by omega), Nat.div_eq_of_lt hlt]; rfl
      have e2 : (y + 1) % L = y % L + 1 := by
        conv => lhs; rw [e]
        rw [Nat.mul_add_mod, Nat.mod_eq_of_lt hlt]
      rw [e1, e2]
      exact Nat.mul_lt_mul_of_pos_right (by omega) (Nat.two_pow_pos _)
theorem uf_mono (L : Nat) (hL : 1 < L) (x : Nat) : ∀ d, uf L x < uf L (x + d + 1)
  | 0 => uf_step L hL x
  | d + 1 => Nat.lt_trans (uf_mono L hL x d) (uf_step L hL _)
theorem uf_lt (L : Nat) (hL : 1 < L) {x y : Nat} (h : x < y) : uf L x < uf L y := by
  have := uf_mono L hL x (y - x - 1)
  rwa [show x + (y - x - 1) + 1 = y by omega] at this
theorem uf_zero (L : Nat) (hL : 1 < L) : uf L 0 = 0 := by unfold uf; rw [if_pos (by omega)]
theorem uf_cut (P : Nat) (hP : 1 ≤ P) (y : Nat) : bitLen (uf (2 ^ (P - 1)) y) - P = y / 2 ^ (P - 1) - 1 ∧ uf (2 ^ (P - 1)) y / 2 ^ (bitLen (uf (2 ^ (P - 1)) y) - P) = (if y < 2 ^ (P - 1) then y else y % 2 ^ (P - 1) + 2 ^ (P - 1)) ∧ uf (2 ^ (P - 1)) y % 2 ^ (bitLen (uf (2 ^ (P - 1)) y) - P) = 0 := by
  have hp := Nat.two_pow_pos (P - 1)
  have h2 : 2 ^ P = 2 * 2 ^ (P - 1) := by
    obtain ⟨k, rfl⟩ : ∃ k, P = k + 1 := ⟨P - 1, by omega⟩
    rw [Nat.add_sub_cancel, Nat.pow_succ, Nat.mul_comm]
  obtain ⟨L, hL⟩ : ∃ L, L = 2 ^ (P - 1) := ⟨_, rfl⟩
  have hb : ∀ a, a < L → bitLen a ≤ P := fun a ha => (Nm.bl_le_iff a P).2 (by omega)
  have hc : ∀ a, L ≤ a → a < 2 * L → bitLen a = P := fun a h1 h2' => by
    have u := (Nm.bl_le_iff a P).2 (by omega)
    have v : ¬ bitLen a ≤ P - 1 := fun h => by have := (Nm.bl_le_iff a (P - 1)).1 h; omega
    omega
  rw [← hL] at hp ⊢
  clear hL h2
  unfold uf
  by_cases h : y < L
  · rw [if_pos h, if_pos h, Nat.div_eq_of_lt h]
    have := hb y h
    have e : bitLen y - P = 0 := by omega
    rw [e]; simp [Nat.mod_one]
  · rw [if_neg h, if_neg h]
    have hm := Nat.mod_lt y hp
    have hq : 1 ≤ y / L := Nat.div_pos (by omega) (by omega)
    have hB := hc (y % L + L) (by omega) (by omega)
    have hB2 := Nm.bl_mul (a := y % L + L) (by omega) (y / L - 1)
    have e : bitLen ((y % L + L) * 2 ^ (y / L - 1)) - P = y / L - 1 := by omega
    rw [e]
    exact ⟨rfl, Nat.mul_div_cancel _ (Nat.two_pow_pos _), Nat.mul_mod_left _ _⟩
theorem uf_flb (P : Nat) (hP : 1 ≤ P) (y : Nat) : Nm.flb P (uf (2 ^ (P - 1)) y) = y := by
  obtain ⟨h1, h2, h3⟩ := uf_cut P hP y
  unfold Nm.flb
  rw [h2, h1]
  have hp := Nat.two_pow_pos (P - 1)
  generalize 2 ^ (P - 1) = L at *
  by_cases h : y < L
  · rw [if_pos h, if_neg (by omega)]
  · rw [if_neg h, if_pos (by omega)]
    have hd := Nat.div_add_mod y L
    obtain ⟨k, hk⟩ : ∃ k, y / L = k + 1 := ⟨y / L - 1, by have : 1 ≤ y / L := Nat.div_pos (by omega) (by omega); omega⟩
    rw [hk] at hd ⊢
    rw [Nat.mul_add, Nat.mul_one, Nat.mul_comm] at hd
    simp only [Nat.add_sub_cancel]; omega
theorem uf_flo (P I : Nat) (hP : 1 ≤ P) (y : Nat) (hI : y < I) (ho : I ≤ 2100 * 2 ^ (P - 1)) : Nm.flo P I (uf (2 ^ (P - 1)) y) = true := by
  obtain ⟨h1, h2, h3⟩ := uf_cut P hP y
  unfold Nm.flo
  rw [uf_flb P hP y]
  have hd := Nat.div_add_mod (uf (2 ^ (P - 1)) y) (2 ^ (bitLen (uf (2 ^ (P - 1)) y) - P))
  have e1 : bitLen (uf (2 ^ (P - 1)) y) - P ≤ 2100 := by
    rw [h1]
    have : y / 2 ^ (P - 1) < 2100 := (Nat.div_lt_iff_lt_mul (Nat.two_pow_pos _)).2 (by omega)
    omega
  rw [h3, Nat.add_zero, Nat.mul_comm] at hd
  rw [hd]
  simp [e1, hI]
theorem uf_rr (P : Nat) (hP : 1 ≤ P) (q : Int) (y : Nat) : Nm.rr P q (uf (2 ^ (P - 1)) y) q = 0 := by
  obtain ⟨h1, h2, h3⟩ := uf_cut P hP y
  have e : (Nm.rn P q (uf (2 ^ (P - 1)) y) q).toNat = bitLen (uf (2 ^ (P - 1)) y) - P := by unfold Nm.rn; omega
  unfold Nm.rr
  rw [e, h3]
theorem flb_uf (P I u : Nat) (hP : 1 ≤ P) (h : Nm.flo P I u = true) : uf (2 ^ (P - 1)) (Nm.flb P u) = u := by
  unfold Nm.flo at h
  simp only [Bool.and_eq_true, decide_eq_true_eq] at h
  obtain ⟨⟨-, h1⟩, -⟩ := h
  have hm := Nm.flm_lt P u
  have h2 : 2 ^ P = 2 * 2 ^ (P - 1) := by
    obtain ⟨k, rfl⟩ : ∃ k, P = k + 1 := ⟨P - 1, by omega⟩
    rw [Nat.add_sub_cancel, Nat.pow_succ, Nat.mul_comm]
  have hp := Nat.two_pow_pos (P - 1)
  unfold Nm.flb
  by_cases hc : 2 ^ (P - 1) ≤ u / 2 ^ (bitLen u - P)
  · rw [if_pos hc]
    generalize u / 2 ^ (bitLen u - P) = M at *
    generalize bitLen u - P = k at *
    generalize 2 ^ (P - 1) = L at *
    unfold uf
    have e : M + k * L = L * (k + 1) + (M - L) := by rw [Nat.mul_add, Nat.mul_comm L k]; omega
    have e1 : (M + k * L) / L = k + 1 := by rw [e, Nat.mul_add_div hp, Nat.div_eq_of_lt (by omega)]
    have e2 : (M + k * L) % L = M - L := by rw [e, Nat.mul_add_mod, Nat.mod_eq_of_lt (by omega)]
    rw [if_neg (by omega), e1, e2, Nat.sub_add_cancel hc, Nat.add_sub_cancel, h1]
  · rw [if_neg hc]
    have hk : bitLen u - P = 0 := by
      by_cases h0 : bitLen u - P = 0
      · exact h0
      · exfalso; apply hc
        have hu : u ≠ 0 := fun h => by subst h; exact h0 (by rw [Nm.bl_zero]; exact Nat.zero_sub _)
        have hg := Nm.bl_ge hu
        rw [Nat.le_div_iff_mul_le (Nat.two_pow_pos _), ← Nat.pow_add]
        rw [show P - 1 + (bitLen u - P) = bitLen u - 1 by omega]
        exact hg
    unfold uf
    rw [if_pos (by omega), hk, Nat.pow_zero, Nat.div_one]
theorem rU_q {P : Nat} {q : Int} {a : Nat} (ha : a ≠ 0) (hr : Nm.rr P q a q = 0) (up : Bool) : Nm.rU P q a q up = a := by
  rw [Nm.parts_U ha hr up, ← Nm.stU_of ha (Int.le_refl q)]
  simp
theorem uf_ne (L y : Nat) (hL : 1 < L) (hy : y ≠ 0) : uf L y ≠ 0 := by
  have h := uf_lt L hL (x := 0) (y := y) (by omega)
  rw [uf_zero L hL] at h; omega
end Fd
set_option linter.unusedSimpArgs false
namespace Nm
/-- The unit of the last place in which is rounded. -/
def rk (P : Nat) (q : Int) (a : Nat) (e : Int) : Nat := (rn P q a e + e - q).toNat
theorem rU_dn (P : Nat) (q : Int) (a : Nat) (e : Int) : rU P q a e false = rm P q a e * 2 ^ rk P q a e := by
  unfold rU r1 rk; simp
theorem rU_up {P : Nat} {q : Int} {a : Nat} {e : Int} (h : rr P q a e ≠ 0) : rU P q a e true = (rm P q a e + 1) * 2 ^ rk P q a e := by
  unfold rU r1 rk; simp [h]
theorem rU_ex {P : Nat} {q : Int} {a : Nat} {e : Int} (h : rr P q a e = 0) (up : Bool) : rU P q a e up = rm P q a e * 2 ^ rk P q a e := by
  unfold rU r1 rk; simp [h]
/-- Above the least place what is cut has all of its bits. -/
theorem rm_top {P : Nat} {q : Int} {a : Nat} {e : Int} (hP : 1 ≤ P) (ha : a ≠ 0) (hk : rk P q a e ≠ 0) : 2 ^ (P - 1) ≤ rm P q a e := by
  have hn : q - e < rn P q a e := by unfold rk at hk; omega
  exact rm_ge ha hP hn
theorem pw_dbl {P : Nat} (hP : 1 ≤ P) : 2 ^ P = 2 * 2 ^ (P - 1) := by
  obtain ⟨k, rfl⟩ : ∃ k, P = k + 1 := ⟨P - 1, by omega⟩
  rw [Nat.add_sub_cancel, Nat.pow_succ, Nat.mul_comm]
/-- The bits of m places of 2 to the k. -/
theorem flb_mk {P m k : Nat} (hP : 1 ≤ P) (hm : m < 2 ^ P) (hk : k ≠ 0 → 2 ^ (P - 1) ≤ m) : flb P (m * 2 ^ k) = m + k * 2 ^ (P - 1) ∧ bitLen (m * 2 ^ k) - P = k ∧ m * 2 ^ k / 2 ^ (bitLen (m * 2 ^ k) - P) = m := by
  have hp := Nat.two_pow_pos (P - 1)
  have hd := pw_dbl hP
  by_cases h0 : k = 0
  · subst h0
    have hb : bitLen (m * 2 ^ 0) - P = 0 := by
      have := (bl_le_iff m P).2 hm
      rw [Nat.pow_zero, Nat.mul_one]; omega
    refine ⟨?_, hb, by rw [hb]; simp⟩
    unfold flb
    rw [hb]
    simp
  · have hmk := hk h0
    have hm0 : m ≠ 0 := by omega
    have hb : bitLen (m * 2 ^ k) - P = k := by
      rw [bl_mul hm0]
      have h1 := (bl_le_iff m P).2 hm
      have h2 : ¬ bitLen m ≤ P - 1 := fun h => by have := (bl_le_iff m (P - 1)).1 h; omega
      omega
    have hq : m * 2 ^ k / 2 ^ (bitLen (m * 2 ^ k) - P) = m := by rw [hb]; exact Nat.mul_div_cancel m (Nat.two_pow_pos k)
    refine ⟨?_, hb, hq⟩
    unfold flb
    rw [hq, if_pos hmk, hb]
/-- .. and those of one place more. -/
theorem flb_mk1 {P m k : Nat} (hP : 1 ≤ P) (hm : m < 2 ^ P) (hk : k ≠ 0 → 2 ^ (P - 1) ≤ m) : flb P ((m + 1) * 2 ^ k) = m + 1 + k * 2 ^ (P - 1) ∧ bitLen ((m + 1) * 2 ^ k) - P ≤ k + 1 ∧ (m + 1) * 2 ^ k / 2 ^ (bitLen ((m + 1) * 2 ^ k) - P) * 2 ^ (bitLen ((m + 1) * 2 ^ k) - P) = (m + 1) * 2 ^ k := by
  have hp := Nat.two_pow_pos (P - 1)
  have hd := pw_dbl hP
  by_cases h : m + 1 < 2 ^ P
  · obtain ⟨h1, h2, h3⟩ := flb_mk (P := P) (m := m + 1) (k := k) hP h (fun h => by have := hk h; omega)
    exact ⟨h1, by omega, by rw [h3, h2]⟩
  · have e : m + 1 = 2 ^ P := by omega
    have e2 : (m + 1) * 2 ^ k = 2 ^ (P - 1) * 2 ^ (k + 1) := by
      rw [e, hd, Nat.pow_succ, Nat.mul_comm 2 (2 ^ (P - 1)), Nat.mul_assoc, Nat.mul_comm (2 ^ k) 2]
    obtain ⟨h1, h2, h3⟩ := flb_mk (P := P) (m := 2 ^ (P - 1)) (k := k + 1) hP (by omega) (fun _ => Nat.le_refl _)
    rw [e2, h1, h2]
    refine ⟨?_, Nat.le_refl _, by rw [Nat.mul_div_cancel _ (Nat.two_pow_pos _)]⟩
    rw [Nat.add_mul, Nat.one_mul]; omega
/-- The neighbours' bits are one apart. -/
theorem nb_bits {P : Nat} {q : Int} {a : Nat} {e : Int} (hP : 1 ≤ P) (ha : a ≠ 0) (hr : rr P q a e ≠ 0) :
    flb P (rU P q a e true) = flb P (rU P q a e false) + 1 ∧ rU P q a e false < rU P q a e true := by
  rw [rU_up hr, rU_dn]
  have h1 := flb_mk (P := P) (m := rm P q a e) (k := rk P q a e) hP rm_lt (rm_top hP ha)
  have h2 := flb_mk1 (P := P) (m := rm P q a e) (k := rk P q a e) hP rm_lt (rm_top hP ha)
  refine ⟨by rw [h1.1, h2.1]; omega, ?_⟩
  rw [Nat.add_mul, Nat.one_mul]
  have := Nat.two_pow_pos (rk P q a e)
  omega
/-- What is one place more is a float's units where the bits are a float's. -/
theorem flo_up {P I : Nat} {q : Int} {a : Nat} {e : Int} (hP : 1 ≤ P) (ha : a ≠ 0) (hr : rr P q a e ≠ 0) (hI : I ≤ 2100 * 2 ^ (P - 1)) (hf : flo P I (rU P q a e false) = true) (h : flb P (rU P q a e false) + 1 < I) : flo P I (rU P q a e true) = true := by
  have hb := (nb_bits (P := P) hP ha hr).1
  rw [rU_up hr] at hb ⊢
  have h2 := flb_mk1 (P := P) (m := rm P q a e) (k := rk P q a e) hP rm_lt (rm_top hP ha)
  unfold flo
  simp only [Bool.and_eq_true, decide_eq_true_eq]
  refine ⟨⟨?_, h2.2.2⟩, by omega⟩
  rw [h2.1] at hb
  have h3 : (rm P q a e + 1 + rk P q a e * 2 ^ (P - 1)) < 2100 * 2 ^ (P - 1) := by omega
  have h4 : rk P q a e < 2100 := by
    rcases Nat.lt_or_ge (rk P q a e) 2100 with h | h
    · exact h
    · have := Nat.mul_le_mul_right (2 ^ (P - 1)) h; omega
  omega
/-- The distances, in units of 2 to the lower one of both exponents. -/
theorem off_dn {P : Nat} {q : Int} {a : Nat} {e : Int} : rU P q a e false * 2 ^ (q - min e q).toNat + rr P q a e * 2 ^ (e - min e q).toNat = a * 2 ^ (e - min e q).toNat := by
  rw [rU_dn]
  have hn : q - e ≤ rn P q a e := by unfold rn; omega
  by_cases h : 0 ≤ rn P q a e
  · have e1 : rk P q a e + (q - min e q).toNat = (rn P q a e).toNat + (e - min e q).toNat := by unfold rk; omega
    have hm : rm P q a e = a / 2 ^ (rn P q a e).toNat := by
      unfold rm sh
      by_cases h0 : rn P q a e = 0
      · rw [h0]; simp
      · rw [if_pos (by omega), show (- -rn P q a e).toNat = (rn P q a e).toNat by omega]
    rw [Nat.mul_assoc, ← Nat.pow_add, e1, Nat.pow_add, ← Nat.mul_assoc, ← Nat.add_mul]
    have : rm P q a e * 2 ^ (rn P q a e).toNat + rr P q a e = a := by
      rw [hm]; unfold rr; rw [Nat.mul_comm]; exact Nat.div_add_mod _ _
    rw [this]
  · have hr : rr P q a e = 0 := by
      unfold rr
      rw [show (rn P q a e).toNat = 0 by omega, Nat.pow_zero, Nat.mod_one]
    have hm : rm P q a e = a * 2 ^ (-rn P q a e).toNat := by
      unfold rm sh
      rw [if_neg (by omega)]
    rw [hr, Nat.zero_mul, Nat.add_zero, hm, Nat.mul_assoc, Nat.mul_assoc, ← Nat.pow_add, ← Nat.pow_add]
    congr 2
    unfold rk; omega
theorem off_up {P : Nat} {q : Int} {a : Nat} {e : Int} (hr : rr P q a e ≠ 0) : rU P q a e true * 2 ^ (q - min e q).toNat = a * 2 ^ (e - min e q).toNat + (2 ^ (rn P q a e).toNat - rr P q a e) * 2 ^ (e - min e q).toNat ∧ rr P q a e < 2 ^ (rn P q a e).toNat := by
  have hlt : rr P q a e < 2 ^ (rn P q a e).toNat := Nat.mod_lt _ (Nat.two_pow_pos _)
  refine ⟨?_, hlt⟩
  have h1 : 1 ≤ rn P q a e := rr_pos hr
  have hd := off_dn (P := P) (q := q) (a := a) (e := e)
  rw [rU_dn] at hd
  rw [rU_up hr, Nat.add_mul, Nat.add_mul, Nat.one_mul, ← hd, Nat.add_assoc (rm P q a e * 2 ^ rk P q a e * 2 ^ (q - min e q).toNat), ← Nat.add_mul (rr P q a e), show rr P q a e + (2 ^ (rn P q a e).toNat - rr P q a e) = 2 ^ (rn P q a e).toNat by omega]
  rw [← Nat.pow_add, ← Nat.pow_add]
  congr 2
  have hn : q - e ≤ rn P q a e := by unfold rn; omega
  unfold rk; omega
/-- Half a place: what the remainder is held against. -/
theorem rh_cases {P : Nat} {q : Int} {a : Nat} {e : Int} : (rh P q a e = -1 ∧ 2 * rr P q a e < 2 ^ (rn P q a e).toNat) ∨ (rh P q a e = 0 ∧ 2 * rr P q a e = 2 ^ (rn P q a e).toNat) ∨ (rh P q a e = 1 ∧ 2 ^ (rn P q a e).toNat < 2 * rr P q a e) := by
  unfold rh cmp2
  rcases Nat.lt_trichotomy (2 * rr P q a e) (2 ^ (rn P q a e).toNat) with h | h | h
  · left; rw [if_pos h]; exact ⟨rfl, h⟩
  · right; left; rw [if_neg (by omega), if_neg (by omega)]; exact ⟨rfl, h⟩
  · right; right; rw [if_neg (by omega), if_pos h]; exact ⟨rfl, h⟩
/-- What is cut is no more than the greatest place. -/
theorem flb_mono' {P u v : Nat} (hP : 1 ≤ P) (h : u ≤ v) : flb P u ≤ flb P v := by
  have hbl := bl_mono h
  have mu := flm_lt P u
  have mv := flm_lt P v
  have h2 : 2 ^ P = 2 * 2 ^ (P - 1) := by
    obtain ⟨k, rfl⟩ : ∃ k, P = k + 1 := ⟨P - 1, by omega⟩
    rw [Nat.add_sub_cancel, Nat.pow_succ, Nat.mul_comm]
  have hp := Nat.two_pow_pos (P - 1)
  have ge : ∀ w : Nat, 0 < bitLen w - P → 2 ^ (P - 1) ≤ w / 2 ^ (bitLen w - P) := fun w hw => by
    have hw0 : w ≠ 0 := fun h => by subst h; rw [bl_zero] at hw; omega
    rw [Nat.le_div_iff_mul_le (Nat.two_pow_pos _), ← Nat.pow_add, show P - 1 + (bitLen w - P) = bitLen w - 1 by omega]
    exact bl_ge hw0
  have gv := ge v
  rcases Nat.lt_or_eq_of_le (show bitLen u - P ≤ bitLen v - P by omega) with hlt | heq
  · have hv := gv (by omega)
    unfold flb
    rw [if_pos hv]
    have hmul : (bitLen u - P + 1) * 2 ^ (P - 1) ≤ (bitLen v - P) * 2 ^ (P - 1) := Nat.mul_le_mul_right _ (by omega)
    rw [Nat.add_mul, Nat.one_mul] at hmul
    split <;> omega
  · have hd : u / 2 ^ (bitLen u - P) ≤ v / 2 ^ (bitLen v - P) := by rw [heq]; exact Nat.div_le_div_right h
    unfold flb
    rw [heq] at hd ⊢
    split <;> split <;> omega
theorem flb_lt_flo {P I u v : Nat} (h : u ≤ v) (hP : 1 ≤ P) (hx : u / 2 ^ (bitLen u - P) * 2 ^ (bitLen u - P) = u) (hf : flo P I v = true) (hm : flb P u ≤ flb P v) : flo P I u = true := by
  unfold flo at hf ⊢
  simp only [Bool.and_eq_true, decide_eq_true_eq] at hf ⊢
  have := bl_mono h
  exact ⟨⟨by omega, hx⟩, by omega⟩
end Nm
open Go.RowKit Go.Deep
/-- Only the reader's block, one row, and what is new has turned. -/
structure Gr2 (w w' : World) (rb : Nat) (a : Option Addr) : Prop where
  os : w'.os = w.os
  tape : w'.tape = w.tape
  output : w'.output = w.output
  size : w.heap.size ≤ w'.heap.size
  block : ∀ k, k < w.heap.size → k ≠ rb → (∀ g, a = some ⟨g, 0, none⟩ → k ≠ g) → w'.heap[k]? = w.heap[k]?
theorem Gr2.of {w w' : World} {rb : Nat} {a : Option Addr} (h : w.grownBy w' (some rb)) : Gr2 w w' rb a := ⟨h.os, h.tape, h.output, h.size, fun k hk hne _ => h.block k hk (by intro e; exact hne (Option.some.inj e))⟩
theorem Gr2.trans {w w1 w2 : World} {rb : Nat} {a : Option Addr} (h : Gr2 w w1 rb a) (k : Gr2 w1 w2 rb a) : Gr2 w w2 rb a :=
  ⟨k.os.trans h.os, k.tape.trans h.tape, k.output.trans h.output, Nat.le_trans h.size k.size, fun i hi h1 h2 => (k.block i (Nat.lt_of_lt_of_le hi h.size) h1 h2).trans (h.block i hi h1 h2)⟩
theorem Gr2.below {w w1 w2 : World} {rb : Nat} {a : Option Addr} (h : Gr2 w w1 rb a) (hb : Below w1.heap.size w1 w2) : Gr2 w w2 rb a := h.trans (Gr2.of (grown_below hb _))
/-- .. and a row that is new, or is that one. -/
theorem Gr2.row {w w1 w2 : World} {rb : Nat} {a a' : Option Addr} {n c : Nat} (h : Gr2 w w1 rb a) (hg : w1.grownBy w2 (Value.slice a' n c).ownBlock) (hn : ∀ g, a' = some ⟨g, 0, none⟩ → a = some ⟨g, 0, none⟩ ∨ w.heap.size ≤ g) (hf : ∀ x, a' = some x → ∃ g, x = ⟨g, 0, none⟩) : Gr2 w w2 rb a :=
  ⟨hg.os.trans h.os, hg.tape.trans h.tape, hg.output.trans h.output, Nat.le_trans h.size hg.size, fun i hi h1 h2 => (hg.block i (Nat.lt_of_lt_of_le hi h.size) (by
    intro e
    cases a' with
    | none => cases e
    | some x =>
      obtain ⟨g, rfl⟩ := hf x rfl
      have e' : i = g := Option.some.inj e
      subst e'
      rcases hn i rfl with h3 | h3
      · exact h2 i h3 rfl
      · omega)).trans (h.block i hi h1 h2)⟩
theorem Gr2.box {w w' : World} {rb b : Nat} {a : Option Addr} {v0 v1 : Value} (h : Box w b v0 v1) (hg : Gr2 w w' rb a) (h1 : b ≠ rb) (h2 : ∀ g, a = some ⟨g, 0, none⟩ → b ≠ g) : Box w' b v0 v1 := by
  have e := hg.block b (World.block_lt_of_cell? w _ h.1) h1 h2
  exact ⟨(World.cell?_of_block (a := ⟨b, 0, none⟩) e).trans h.1, (World.cell?_of_block (a := ⟨b, 1, none⟩) e).trans h.2⟩
theorem Gr2.own {w w' : World} {rb B : Nat} {a o : Option Addr} {c : Nat} {zs : List Int} (h : Own w B o c zs) (hg : Gr2 w w' rb a) (h1 : ∀ g, o = some ⟨g, 0, none⟩ → g ≠ rb ∧ ∀ g', a = some ⟨g', 0, none⟩ → g ≠ g') : Own w' B o c zs := by
  refine ⟨h.1, ?_⟩
  rcases h.2 with h2 | ⟨g, cap', cur, e1, e2, e3, e4⟩
  · exact .inl h2
  · have hg' : o = some ⟨g, 0, none⟩ := by simpa using (Value.slice.inj e1).1
    refine .inr ⟨g, cap', cur, e1, e2, ?_, e4⟩
    rw [hg.block g (Array.getElem?_eq_some_iff.1 e3).1 (h1 g hg').1 (h1 g hg').2]; exact e3
theorem own_form {w : World} {B : Nat} {a : Option Addr} {c : Nat} {zs : List Int} (h : Own w B a c zs) : ∀ x, a = some x → ∃ g, x = ⟨g, 0, none⟩ := by
  intro x hx
  rcases h.block with ⟨e, _⟩ | ⟨g, e, _⟩
  · rw [e] at hx; cases hx
  · rw [e] at hx; cases hx; exact ⟨g, rfl⟩
theorem own_at {w : World} {B : Nat} {a : Option Addr} {c : Nat} {zs : List Int} (h : Own w B a c zs) : ∀ g, a = some ⟨g, 0, none⟩ → B ≤ g ∧ g < w.heap.size := by
  intro g hg
  rcases h.block with ⟨e, _⟩ | ⟨g', e, h1, h2⟩
  · rw [e] at hg; cases hg
  · rw [e] at hg; cases hg; exact ⟨h1, h2⟩
theorem RD.row {w w' : World} {rb B : Nat} {ca : Option Addr} {cc : Nat} {cs : List Int} {a : Option Addr} {n c : Nat} {zs : List Int} (h : RD w rb ca cc cs) (ho : Own w B a c zs) (hB : rb < B) (hg : w.grownBy w' (Value.slice a n c).ownBlock) : RD w' rb ca cc cs := by
  cases a with
  | none => exact h.below ⟨hg.os, hg.tape, hg.output, hg.size, fun k hk => hg.block k hk (by intro e; cases e)⟩
  | some x =>
    obtain ⟨g, rfl⟩ := own_form ho x rfl
    exact h.grown (g := g) hg (by have := (own_at ho g rfl).1; omega)
theorem set_grown (w : World) (p : Addr) (v : Value) : w.grownBy (w.setCell p v) (some p.block) :=
  ⟨by simp [World.setCell], by simp [World.setCell], by simp [World.setCell], by simp [World.setCell], fun k hk hne => Below.heap_setCell w p v k (by intro e; exact hne (by rw [e]))⟩
theorem Gr2.set {w w1 : World} {rb : Nat} {a : Option Addr} (h : Gr2 w w1 rb a) {p : Addr} (hp : w.heap.size ≤ p.block) (v : Value) : Gr2 w (w1.setCell p v) rb a := by
  have hg := set_grown w1 p v
  exact ⟨hg.os.trans h.os, hg.tape.trans h.tape, hg.output.trans h.output, Nat.le_trans h.size hg.size, fun i hi h1 h2 => (hg.block i (Nat.lt_of_lt_of_le hi h.size) (by intro e; have : i = p.block := Option.some.inj e; omega)).trans (h.block i hi h1 h2)⟩
theorem RD.other {w : World} {rb : Nat} {ca : Option Addr} {cc : Nat} {cs : List Int} (h : RD w rb ca cc cs) {p : Addr} (hp : rb < p.block) (v : Value) : RD (w.setCell p v) rb ca cc cs := h.grown (set_grown w p v) hp
theorem R2.row {w w' : World} {b B n c : Nat} {v0 v1 : Value} {a : Option Addr} {zs : List Int} (h : R2 w b v0 v1) (ho : Own w B a c zs) (hg : w.grownBy w' (Value.slice a n c).ownBlock) (hne : ∀ g, a = some ⟨g, 0, none⟩ → b ≠ g) : R2 w' b v0 v1 := by
  cases a with
  | none => exact h.below ⟨hg.os, hg.tape, hg.output, hg.size, fun k hk => hg.block k hk (by intro e; cases e)⟩
  | some x =>
    obtain ⟨g, rfl⟩ := own_form ho x rfl
    exact h.grown (g := g) hg (hne g rfl)
theorem rdU_scale {a : Nat} (h : a ≠ 0) (P : Nat) (q : Int) (mode : Int) (ng : Bool) (e : Int) (d : Nat) : rdU P q mode ng (a * 2 ^ d) (e - d) = rdU P q mode ng a e := by
  unfold rdU
  refine Nm.rU_scale h P q e d _ _ (fun hr => ?_)
  rw [Nm.rm_scale h, Nm.rh_scale h P q e d hr]
theorem rdB_scale {a : Nat} (h : a ≠ 0) (P : Nat) (q : Int) (I : Nat) (S mode : Int) (ng : Bool) (e : Int) (d : Nat) : rdB P q I S mode ng (a * 2 ^ d) (e - d) = rdB P q I S mode ng a e := by
  unfold rdB; rw [rdU_scale h]
theorem rdF_scale {a : Nat} (h : a ≠ 0) (P : Nat) (q : Int) (I : Nat) (mode : Int) (ng : Bool) (e : Int) (d : Nat) : rdF P q I mode ng (a * 2 ^ d) (e - d) = rdF P q I mode ng a e := by
  unfold rdF; rw [rdU_scale h, Nm.bl_mul h, show ((bitLen a + d : Nat) : Int) + (e - d) = (bitLen a : Int) + e by omega]
  by_cases hr : Nm.rr P q a e = 0
  · rw [if_pos hr, if_pos ((Nm.rr_scale0 h P q e d).2 hr)]
  · rw [if_neg hr, if_neg (fun c => hr ((Nm.rr_scale0 h P q e d).1 c))]
/-- Two ways to part one number are rounded alike. -/
theorem Rd_scale (fm mode : Int) (z : Int) (d : Nat) (e : Int) (hz : z ≠ 0) (h1 : RdO fm mode (Nm.wn z) (Nm.wl z) e = true) (h2 : RdO fm mode (Nm.wn (z * 2 ^ d)) (Nm.wl (z * 2 ^ d)) (e - d) = true) :
    RdB fm mode (Nm.wn (z * 2 ^ d)) (Nm.wl (z * 2 ^ d)) (e - d) = RdB fm mode (Nm.wn z) (Nm.wl z) e ∧ RdF fm mode (Nm.wn (z * 2 ^ d)) (Nm.wl (z * 2 ^ d)) (e - d) = RdF fm mode (Nm.wn z) (Nm.wl z) e := by
  have hp : (0 : Int) < 2 ^ d := Int.pow_pos (by decide)
  have hn : Nm.wn (z * 2 ^ d) = Nm.wn z := by
    unfold Nm.wn
    rw [Bool.eq_iff_iff, decide_eq_true_eq, decide_eq_true_eq]
    constructor
    · intro h
      refine Int.not_le.1 (fun h0 => ?_)
      have := Int.mul_nonneg h0 (Int.le_of_lt hp); omega
    · intro h; exact Int.mul_neg_of_neg_of_pos h hp
  have ha : (z * 2 ^ d).natAbs = z.natAbs * 2 ^ d := by rw [Int.natAbs_mul, Int.natAbs_pow]; rfl
  have ha0 : z.natAbs ≠ 0 := by omega
  have hv1 : (Nm.val (Nm.wl z)).toNat = z.natAbs := by rw [Nm.val_wl]; simp
  have hv2 : (Nm.val (Nm.wl (z * 2 ^ d))).toNat = z.natAbs * 2 ^ d := by rw [Nm.val_wl, ha]; exact Int.toNat_natCast _
  have hl1 : (Nm.wl z).length ≠ 0 := by unfold Nm.wl; rw [Ne, Nm.lim_length_zero]; exact ha0
  have hl2 : (Nm.wl (z * 2 ^ d)).length ≠ 0 := by
    unfold Nm.wl; rw [Ne, Nm.lim_length_zero, ha]
    intro h
    rcases Nat.mul_eq_zero.1 h with h' | h'
    · exact ha0 h'
    · have := Nm.pw_pos2 d; omega
  rw [hn] at h2 ⊢
  unfold RdB RdF
  rw [h1, h2, if_pos rfl, if_pos rfl, if_pos rfl, if_pos rfl, if_neg hl1, if_neg hl1, if_neg hl2, if_neg hl2, hv1, hv2]
  by_cases h32 : fm = 32
  · rw [if_pos h32, if_pos h32, if_pos h32, if_pos h32]
    exact ⟨rdB_scale ha0 _ _ _ _ _ _ _ _, rdF_scale ha0 _ _ _ _ _ _ _⟩
  · rw [if_neg h32, if_neg h32, if_neg h32, if_neg h32]
    exact ⟨rdB_scale ha0 _ _ _ _ _ _ _ _, rdF_scale ha0 _ _ _ _ _ _ _⟩
end Go.Proofs.YtmcflggionkhlaaGreatDoor
