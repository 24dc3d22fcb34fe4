/-
  What is needed of Uf, RN, AccC, RL, UB, UC, RX.
-/
import Derived.Test.YtmcflggionkhlaaGreatDoorF43
set_option maxHeartbeats 16000000
set_option maxRecDepth 1000000
namespace Go.Proofs.YtmcflggionkhlaaGreatDoor
set_option linter.unusedVariables false
namespace Fd
theorem uf_step (L : Nat) (hL : 1 < L) (y : Nat) : uf L y < uf L (y + 1) := by
  unfold uf
  by_cases h1 : y < L
  · rw [if_pos h1]
    by_cases h2 : y + 1 < L
    · rw [if_pos h2]; omega
    · rw [if_neg h2]
      have : y + 1 = L := by omega
      rw [this, Nat.mod_self, Nat.div_self (by omega)]; simp; exact h1
  · have h2 : ¬ y + 1 < L := by omega
    rw [if_neg h1, if_neg h2]
    have hq : 1 ≤ y / L := Nat.div_pos (by omega) (by omega)
    have hm : y % L < L := Nat.mod_lt _ (by omega)
    have hd := Nat.div_add_mod y L
    by_cases h3 : y % L + 1 = L
    · have e : y + 1 = L * (y / L + 1) := by rw [Nat.mul_add]; omega
      rw [e, Nat.mul_mod_right, Nat.mul_div_cancel_left _ (by omega)]
      obtain ⟨q, hq'⟩ : ∃ q, y / L = q + 1 := ⟨y / L - 1, by omega⟩
      rw [hq']
      simp only [Nat.add_sub_cancel, Nat.zero_add]
      rw [Nat.pow_succ, show L * (2 ^ q * 2) = (L + L) * 2 ^ q by rw [Nat.add_mul]; rw [Nat.mul_comm (2 ^ q) 2, ← Nat.mul_assoc, Nat.mul_comm L 2, Nat.mul_assoc, Nat.two_mul]]
      exact Nat.mul_lt_mul_of_pos_right (by omega) (Nat.two_pow_pos _)
    · have e : y + 1 = L * (y / L) + (y % L + 1) := by omega
      have hlt : y % L + 1 < L := by omega
      have e1 : (y + 1) / L = y / L := by
        conv => lhs; rw [e]
        rw [Nat.mul_add_div (by omega), Nat.div_eq_of_lt hlt]; rfl
      have e2 : (y + 1) % L = y % L + 1 := by
        conv => lhs; rw [e]
        rw [Nat.mul_add_mod, Nat.mod_eq_of_lt hlt]
      rw [e1, e2]
      exact Nat.mul_lt_mul_of_pos_right (by omega) (Nat.two_pow_pos _)
theorem uf_mono (L : Nat) (hL : 1 < L) (x : Nat) : ∀ d, uf L x < uf L (x + d + 1)
  | 0 => uf_step L hL x
  | d + 1 => Nat.lt_trans (uf_mono L hL x d) (uf_step L hL _)
theorem uf_lt (L : Nat) (hL : 1 < L) {x y : Nat} (h : x < y) : uf L x < uf L y := by
  have := uf_mono L hL x (y - x - 1)
  rwa [show x + (y - x - 1) + 1 = y by omega] at this
theorem uf_zero (L : Nat) (hL : 1 < L) : uf L 0 = 0 := by unfold uf; rw [if_pos (by omega)]
theorem uf_cut (P : Nat) (hP : 1 ≤ P) (y : Nat) : bitLen (uf (2 ^ (P - 1)) y) - P = y / 2 ^ (P - 1) - 1 ∧ uf (2 ^ (P - 1)) y / 2 ^ (bitLen (uf (2 ^ (P - 1)) y) - P) = (if y < 2 ^ (P - 1) then y else y % 2 ^ (P - 1) + 2 ^ (P - 1)) ∧ uf (2 ^ (P - 1)) y % 2 ^ (bitLen (uf (2 ^ (P - 1)) y) - P) = 0 := by
  have hp := Nat.two_pow_pos (P - 1)
  have h2 : 2 ^ P = 2 * 2 ^ (P - 1) := by
    obtain ⟨k, rfl⟩ : ∃ k, P = k + 1 := ⟨P - 1, by omega⟩
    rw [Nat.add_sub_cancel, Nat.pow_succ, Nat.mul_comm]
  obtain ⟨L, hL⟩ : ∃ L, L = 2 ^ (P - 1) := ⟨_, rfl⟩
  have hb : ∀ a, a < L → bitLen a ≤ P := fun a ha => (Nm.bl_le_iff a P).2 (by omega)
  have hc : ∀ a, L ≤ a → a < 2 * L → bitLen a = P := fun a h1 h2' => by
    have u := (Nm.bl_le_iff a P).2 (by omega)
    have v : ¬ bitLen a ≤ P - 1 := fun h => by have := (Nm.bl_le_iff a (P - 1)).1 h; omega
    omega
  rw [← hL] at hp ⊢
  clear hL h2
  unfold uf
  by_cases h : y < L
  · rw [if_pos h, if_pos h, Nat.div_eq_of_lt h]
    have := hb y h
    have e : bitLen y - P = 0 := by omega
    rw [e]; simp [Nat.mod_one]
  · rw [if_neg h, if_neg h]
    have hm := Nat.mod_lt y hp
    have hq : 1 ≤ y / L := Nat.div_pos (by omega) (by omega)
    have hB := hc (y % L + L) (by omega) (by omega)
    have hB2 := Nm.bl_mul (a := y % L + L) (by omega) (y / L - 1)
    have e : bitLen ((y % L + L) * 2 ^ (y / L - 1)) - P = y / L - 1 := by omega
    rw [e]
    exact ⟨rfl, Nat.mul_div_cancel _ (Nat.two_pow_pos _), Nat.mul_mod_left _ _⟩
theorem uf_flb (P : Nat) (hP : 1 ≤ P) (y : Nat) : Nm.flb P (uf (2 ^ (P - 1)) y) = y := by
  obtain ⟨h1, h2, h3⟩ := uf_cut P hP y
  unfold Nm.flb
  rw [h2, h1]
  have hp := Nat.two_pow_pos (P - 1)
  generalize 2 ^ (P - 1) = L at *
  by_cases h : y < L
  · rw [if_pos h, if_neg (by omega)]
  · rw [if_neg h, if_pos (by omega)]
    have hd := Nat.div_add_mod y L
    obtain ⟨k, hk⟩ : ∃ k, y / L = k + 1 := ⟨y / L - 1, by have : 1 ≤ y / L := Nat.div_pos (by omega) (by omega); omega⟩
    rw [hk] at hd ⊢
    rw [Nat.mul_add, Nat.mul_one, Nat.mul_comm] at hd
    simp only [Nat.add_sub_cancel]; omega
theorem uf_flo (P I : Nat) (hP : 1 ≤ P) (y : Nat) (hI : y < I) (ho : I ≤ 2100 * 2 ^ (P - 1)) : Nm.flo P I (uf (2 ^ (P - 1)) y) = true := by
  obtain ⟨h1, h2, h3⟩ := uf_cut P hP y
  unfold Nm.flo
  rw [uf_flb P hP y]
  have hd := Nat.div_add_mod (uf (2 ^ (P - 1)) y) (2 ^ (bitLen (uf (2 ^ (P - 1)) y) - P))
  have e1 : bitLen (uf (2 ^ (P - 1)) y) - P ≤ 2100 := by
    rw [h1]
    have : y / 2 ^ (P - 1) < 2100 := (Nat.div_lt_iff_lt_mul (Nat.two_pow_pos _)).2 (by omega)
    omega
  rw [h3, Nat.add_zero, Nat.mul_comm] at hd
  rw [hd]
  simp [e1, hI]
theorem uf_rr (P : Nat) (hP : 1 ≤ P) (q : Int) (y : Nat) : Nm.rr P q (uf (2 ^ (P - 1)) y) q = 0 := by
  obtain ⟨h1, h2, h3⟩ := uf_cut P hP y
  have e : (Nm.rn P q (uf (2 ^ (P - 1)) y) q).toNat = bitLen (uf (2 ^ (P - 1)) y) - P := by unfold Nm.rn; omega
  unfold Nm.rr
  rw [e, h3]
theorem rU_q {P : Nat} {q : Int} {a : Nat} (ha : a ≠ 0) (hr : Nm.rr P q a q = 0) (up : Bool) : Nm.rU P q a q up = a := by
  rw [Nm.parts_U ha hr up, ← Nm.stU_of ha (Int.le_refl q)]
  simp
theorem uf_ne (L y : Nat) (hL : 1 < L) (hy : y ≠ 0) : uf L y ≠ 0 := by
  have h := uf_lt L hL (x := 0) (y := y) (by omega)
  rw [uf_zero L hL] at h; omega
end Fd
set_option linter.unusedSimpArgs false
namespace Nm
theorem rU_up {P : Nat} {q : Int} {a : Nat} {e : Int} (h : rr P q a e ≠ 0) : rU P q a e true = (rm P q a e + 1) * 2 ^ rk P q a e := by
  unfold rU r1 rk; simp [h]
/-- Above the least place what is cut has all of its bits. -/
theorem rm_top {P : Nat} {q : Int} {a : Nat} {e : Int} (hP : 1 ≤ P) (ha : a ≠ 0) (hk : rk P q a e ≠ 0) : 2 ^ (P - 1) ≤ rm P q a e := by
  have hn : q - e < rn P q a e := by unfold rk at hk; omega
  exact rm_ge ha hP hn
theorem pw_dbl {P : Nat} (hP : 1 ≤ P) : 2 ^ P = 2 * 2 ^ (P - 1) := by
  obtain ⟨k, rfl⟩ : ∃ k, P = k + 1 := ⟨P - 1, by omega⟩
  rw [Nat.add_sub_cancel, Nat.pow_succ, Nat.mul_comm]
/-- The bits of m places of 2 to the k. -/
theorem flb_mk {P m k : Nat} (hP : 1 ≤ P) (hm : m < 2 ^ P) (hk : k ≠ 0 → 2 ^ (P - 1) ≤ m) : flb P (m * 2 ^ k) = m + k * 2 ^ (P - 1) ∧ bitLen (m * 2 ^ k) - P = k ∧ m * 2 ^ k / 2 ^ (bitLen (m * 2 ^ k) - P) = m := by
  have hp := Nat.two_pow_pos (P - 1)
  have hd := pw_dbl hP
  by_cases h0 : k = 0
  · subst h0
    have hb : bitLen (m * 2 ^ 0) - P = 0 := by
      have := (bl_le_iff m P).2 hm
      rw [Nat.pow_zero, Nat.mul_one]; omega
    refine ⟨?_, hb, by rw [hb]; simp⟩
    unfold flb
    rw [hb]
    simp
  · have hmk := hk h0
    have hm0 : m ≠ 0 := by omega
    have hb : bitLen (m * 2 ^ k) - P = k := by
      rw [bl_mul hm0]
      have h1 := (bl_le_iff m P).2 hm
      have h2 : ¬ bitLen m ≤ P - 1 := fun h => by have := (bl_le_iff m (P - 1)).1 h; omega
      omega
    have hq : m * 2 ^ k / 2 ^ (bitLen (m * 2 ^ k) - P) = m := by rw [hb]; exact Nat.mul_div_cancel m (Nat.two_pow_pos k)
    refine ⟨?_, hb, hq⟩
    unfold flb
    rw [hq, if_pos hmk, hb]
/-- .. and those of one place more. -/
theorem flb_mk1 {P m k : Nat} (hP : 1 ≤ P) (hm : m < 2 ^ P) (hk : k ≠ 0 → 2 ^ (P - 1) ≤ m) : flb P ((m + 1) * 2 ^ k) = m + 1 + k * 2 ^ (P - 1) ∧ bitLen ((m + 1) * 2 ^ k) - P ≤ k + 1 ∧ (m + 1) * 2 ^ k / 2 ^ (bitLen ((m + 1) * 2 ^ k) - P) * 2 ^ (bitLen ((m + 1) * 2 ^ k) - P) = (m + 1) * 2 ^ k := by
  have hp := Nat.two_pow_pos (P - 1)
  have hd := pw_dbl hP
  by_cases h : m + 1 < 2 ^ P
  · obtain ⟨h1, h2, h3⟩ := flb_mk (P := P) (m := m + 1) (k := k) hP h (fun h => by have := hk h; omega)
    exact ⟨h1, by omega, by rw [h3, h2]⟩
  · have e : m + 1 = 2 ^ P := by omega
    have e2 : (m + 1) * 2 ^ k = 2 ^ (P - 1) * 2 ^ (k + 1) := by
      rw [e, hd, Nat.pow_succ, Nat.mul_comm 2 (2 ^ (P - 1)), Nat.mul_assoc, Nat.mul_comm (2 ^ k) 2]
    obtain ⟨h1, h2, h3⟩ := flb_mk (P := P) (m := 2 ^ (P - 1)) (k := k + 1) hP (by omega) (fun _ => Nat.le_refl _)
    rw [e2, h1, h2]
    refine ⟨?_, Nat.le_refl _, by rw [Nat.mul_div_cancel _ (Nat.two_pow_pos _)]⟩
    rw [Nat.add_mul, Nat.one_mul]; omega
/-- The neighbours' bits are one apart. -/
theorem nb_bits {P : Nat} {q : Int} {a : Nat} {e : Int} (hP : 1 ≤ P) (ha : a ≠ 0) (hr : rr P q a e ≠ 0) :
    flb P (rU P q a e true) = flb P (rU P q a e false) + 1 ∧ rU P q a e false < rU P q a e true := by
  rw [rU_up hr, rU_dn]
  have h1 := flb_mk (P := P) (m := rm P q a e) (k := rk P q a e) hP rm_lt (rm_top hP ha)
  have h2 := flb_mk1 (P := P) (m := rm P q a e) (k := rk P q a e) hP rm_lt (rm_top hP ha)
  refine ⟨by rw [h1.1, h2.1]; omega, ?_⟩
  rw [Nat.add_mul, Nat.one_mul]
  have := Nat.two_pow_pos (rk P q a e)
  omega
/-- What is one place more is a float's units where the bits are a float's. -/
theorem flo_up {P I : Nat} {q : Int} {a : Nat} {e : Int} (hP : 1 ≤ P) (ha : a ≠ 0) (hr : rr P q a e ≠ 0) (hI : I ≤ 2100 * 2 ^ (P - 1)) (hf : flo P I (rU P q a e false) = true) (h : flb P (rU P q a e false) + 1 < I) : flo P I (rU P q a e true) = true := by
  have hb := (nb_bits (P := P) hP ha hr).1
  rw [rU_up hr] at hb ⊢
  have h2 := flb_mk1 (P := P) (m := rm P q a e) (k := rk P q a e) hP rm_lt (rm_top hP ha)
  unfold flo
  simp only [Bool.and_eq_true, decide_eq_true_eq]
  refine ⟨⟨?_, h2.2.2⟩, by omega⟩
  rw [h2.1] at hb
  have h3 : (rm P q a e + 1 + rk P q a e * 2 ^ (P - 1)) < 2100 * 2 ^ (P - 1) := by omega
  have h4 : rk P q a e < 2100 := by
    rcases Nat.lt_or_ge (rk P q a e) 2100 with h | h
    · exact h
    · have := Nat.mul_le_mul_right (2 ^ (P - 1)) h; omega
  omega
theorem off_up {P : Nat} {q : Int} {a : Nat} {e : Int} (hr : rr P q a e ≠ 0) : rU P q a e true * 2 ^ (q - min e q).toNat = a * 2 ^ (e - min e q).toNat + (2 ^ (rn P q a e).toNat - rr P q a e) * 2 ^ (e - min e q).toNat ∧ rr P q a e < 2 ^ (rn P q a e).toNat := by
  have hlt : rr P q a e < 2 ^ (rn P q a e).toNat := Nat.mod_lt _ (Nat.two_pow_pos _)
  refine ⟨?_, hlt⟩
  have h1 : 1 ≤ rn P q a e := rr_pos hr
  have hd := off_dn (P := P) (q := q) (a := a) (e := e)
  rw [rU_dn] at hd
  rw [rU_up hr, Nat.add_mul, Nat.add_mul, Nat.one_mul, ← hd, Nat.add_assoc (rm P q a e * 2 ^ rk P q a e * 2 ^ (q - min e q).toNat), ← Nat.add_mul (rr P q a e), show rr P q a e + (2 ^ (rn P q a e).toNat - rr P q a e) = 2 ^ (rn P q a e).toNat by omega]
  rw [← Nat.pow_add, ← Nat.pow_add]
  congr 2
  have hn : q - e ≤ rn P q a e := by unfold rn; omega
  unfold rk; omega
/-- Half a place: what the remainder is held against. -/
theorem rh_cases {P : Nat} {q : Int} {a : Nat} {e : Int} : (rh P q a e = -1 ∧ 2 * rr P q a e < 2 ^ (rn P q a e).toNat) ∨ (rh P q a e = 0 ∧ 2 * rr P q a e = 2 ^ (rn P q a e).toNat) ∨ (rh P q a e = 1 ∧ 2 ^ (rn P q a e).toNat < 2 * rr P q a e) := by
  unfold rh cmp2
  rcases Nat.lt_trichotomy (2 * rr P q a e) (2 ^ (rn P q a e).toNat) with h | h | h
  · left; rw [if_pos h]; exact ⟨rfl, h⟩
  · right; left; rw [if_neg (by omega), if_neg (by omega)]; exact ⟨rfl, h⟩
  · right; right; rw [if_neg (by omega), if_pos h]; exact ⟨rfl, h⟩
/-- What is cut is no more than the greatest place. -/
theorem flb_mono' {P u v : Nat} (hP : 1 ≤ P) (h : u ≤ v) : flb P u ≤ flb P v := by
  have hbl := bl_mono h
  have mu := flm_lt P u
  have mv := flm_lt P v
  have h2 : 2 ^ P = 2 * 2 ^ (P - 1) := by
    obtain ⟨k, rfl⟩ : ∃ k, P = k + 1 := ⟨P - 1, by omega⟩
    rw [Nat.add_sub_cancel, Nat.pow_succ, Nat.mul_comm]
  have hp := Nat.two_pow_pos (P - 1)
  have ge : ∀ w : Nat, 0 < bitLen w - P → 2 ^ (P - 1) ≤ w / 2 ^ (bitLen w - P) := fun w hw => by
    have hw0 : w ≠ 0 := fun h => by subst h; rw [bl_zero] at hw; omega
    rw [Nat.le_div_iff_mul_le (Nat.two_pow_pos _), ← Nat.pow_add, show P - 1 + (bitLen w - P) = bitLen w - 1 by omega]
    exact bl_ge hw0
  have gv := ge v
  rcases Nat.lt_or_eq_of_le (show bitLen u - P ≤ bitLen v - P by omega) with hlt | heq
  · have hv := gv (by omega)
    unfold flb
    rw [if_pos hv]
    have hmul : (bitLen u - P + 1) * 2 ^ (P - 1) ≤ (bitLen v - P) * 2 ^ (P - 1) := Nat.mul_le_mul_right _ (by omega)
    rw [Nat.add_mul, Nat.one_mul] at hmul
    split <;> omega
  · have hd : u / 2 ^ (bitLen u - P) ≤ v / 2 ^ (bitLen v - P) := by rw [heq]; exact Nat.div_le_div_right h
    unfold flb
    rw [heq] at hd ⊢
    split <;> split <;> omega
theorem flb_lt_flo {P I u v : Nat} (h : u ≤ v) (hP : 1 ≤ P) (hx : u / 2 ^ (bitLen u - P) * 2 ^ (bitLen u - P) = u) (hf : flo P I v = true) (hm : flb P u ≤ flb P v) : flo P I u = true := by
  unfold flo at hf ⊢
  simp only [Bool.and_eq_true, decide_eq_true_eq] at hf ⊢
  have := bl_mono h
  exact ⟨⟨by omega, hx⟩, by omega⟩
end Nm
open Go.RowKit Go.Deep
/-- How far from 0 a sum of T terms may be. -/
def far (fm T : Int) : Nat := Nm.sh T.toNat (if fm = 32 then 554 else 4196)
theorem un_len (fm x : Int) : (Nm.wl (unI fm x)).length ≤ 200 := by
  cases hf : finB fm x
  · rw [un_no hf]; have : Nm.wl 0 = [] := Nm.lim_zero
    rw [this]; simp
  · obtain ⟨G, L, z, E, Q, hz, hE, hQ, z0, z1, e0, e1, q0, q1, d0, d1, hG, hL, hd, hl2, hsh, hok, hl200⟩ := un_parts hf
    exact hl200
namespace Fd
theorem rd_uf (P I : Nat) (hP : 2 ≤ P) (q : Int) (S mode : Int) (ng : Bool) (y : Nat) (h0 : y ≠ 0) (hI : y < I) (ho : I ≤ 2100 * 2 ^ (P - 1)) : rdB P q I S mode ng (uf (2 ^ (P - 1)) y) q = sgn S (y : Int) ng ∧ rdF P q I mode ng (uf (2 ^ (P - 1)) y) q = 0 := by
  have hL : 1 < 2 ^ (P - 1) := by
    have := Nat.pow_le_pow_right (n := 2) (by decide) (show 1 ≤ P - 1 by omega)
    omega
  have hr := uf_rr P (by omega) q y
  have hu : rdU P q mode ng (uf (2 ^ (P - 1)) y) q = uf (2 ^ (P - 1)) y := by
    unfold rdU
    exact rU_q (uf_ne _ y hL h0) hr _
  have hf := uf_flo P I (by omega) y hI ho
  have hb := uf_flb P (by omega) y
  unfold rdB rdF
  rw [hu, hf, hb, hr]
  exact ⟨rfl, rfl⟩
theorem wl_zero_iff (x : Int) : (Nm.wl x).length = 0 ↔ x = 0 := by
  unfold Nm.wl
  rw [Nm.lim_length_zero]
  omega
theorem un_len (fm x : Int) (hf : finB fm x = true) : (Nm.wl (unI fm x)).length ≤ 200 := by
  obtain ⟨G, L, z, E, Q, hz, hE, hQ, z0, z1, e0, e1, q0, q1, d0, d1, hG, hL, hd, hl2, hsh, hok, hl200⟩ := un_parts hf
  exact hl200
theorem fin_lt32 {x : Int} (h0 : 0 ≤ x) (h1 : x < 4294967296) (hf : finB 32 x = true) : x % 2147483648 < 2139095040 := by
  unfold finB at hf
  rw [cls32 h1] at hf
  unfold clsY at hf
  simp only [decide_eq_true_eq] at hf
  repeat' split at hf
  all_goals omega
theorem Rd_un32 {x : Int} (h0 : 0 ≤ x) (h1 : x < 4294967296) (hf : finB 32 x = true) (mode : Int) (hm : modeB mode = true) :
    RdO 32 mode (Nm.wn (unI 32 x)) (Nm.wl (unI 32 x)) (-149) = true ∧ RdB 32 mode (Nm.wn (unI 32 x)) (Nm.wl (unI 32 x)) (-149) = (if x % 2147483648 = 0 then 0 else x) ∧ RdF 32 mode (Nm.wn (unI 32 x)) (Nm.wl (unI 32 x)) (-149) = 0 ∧ ((Nm.wl (unI 32 x)).length = 0 ↔ x % 2147483648 = 0) := by
  have hO : RdO 32 mode (Nm.wn (unI 32 x)) (Nm.wl (unI 32 x)) (-149) = true := by
    unfold RdO
    rw [okB_wl (un_len _ _ hf), hm]
    rfl
  have hlt := fin_lt32 h0 h1 hf
  have hu := un_uf32 h0 h1 hf
  have hz : unI 32 x = 0 ↔ x % 2147483648 = 0 := by
    rw [hu]
    constructor
    · intro h
      by_cases hc : x % 2147483648 = 0
      · exact hc
      · exfalso
        split at h
        · have := uf_ne 8388608 x.toNat (by decide) (by omega); omega
        · have := uf_ne 8388608 (x - 2147483648).toNat (by decide) (by omega); omega
    · intro h
      split
      · rw [show x.toNat = 0 by omega, uf_zero _ (by decide)]; rfl
      · rw [show (x - 2147483648).toNat = 0 by omega, uf_zero _ (by decide)]; rfl
  refine ⟨hO, ?_, ?_, (wl_zero_iff _).trans hz⟩
  · unfold RdB
    rw [hO, if_pos rfl]
    by_cases hc : x % 2147483648 = 0
    · rw [if_pos hc, if_pos ((wl_zero_iff _).2 (hz.2 hc))]
    · rw [if_neg hc, if_neg (fun h => hc (hz.1 ((wl_zero_iff _).1 h)))]
      rw [Nm.val_wl]
      have hn : ((((unI 32 x).natAbs : Nat) : Int)).toNat = (unI 32 x).natAbs := Int.toNat_natCast _
      rw [hn]
      simp only [if_pos]
      by_cases hs : x < 2147483648
      · have e1 : (unI 32 x).natAbs = uf 8388608 x.toNat := by rw [hu, if_pos hs]; omega
        have e2 : Nm.wn (unI 32 x) = false := by rw [hu, if_pos hs]; unfold Nm.wn; simp
        rw [e1, e2]
        have := (rd_uf 24 2139095040 (by decide) (-149) 2147483648 mode false x.toNat (by omega) (by omega) (by decide)).1
        rw [show (2 : Nat) ^ (24 - 1) = 8388608 by decide] at this
        rw [this]; unfold sgn; simp; omega
      · have e1 : (unI 32 x).natAbs = uf 8388608 (x - 2147483648).toNat := by rw [hu, if_neg hs]; omega
        have e2 : Nm.wn (unI 32 x) = true := by
          rw [hu, if_neg hs]; unfold Nm.wn
          have := uf_ne 8388608 (x - 2147483648).toNat (by decide) (by omega)
          simp; omega
        rw [e1, e2]
        have := (rd_uf 24 2139095040 (by decide) (-149) 2147483648 mode true (x - 2147483648).toNat (by omega) (by omega) (by decide)).1
        rw [show (2 : Nat) ^ (24 - 1) = 8388608 by decide] at this
        rw [this]; unfold sgn; simp; omega
  · unfold RdF
    rw [hO, if_pos rfl]
    by_cases hc : x % 2147483648 = 0
    · rw [if_pos ((wl_zero_iff _).2 (hz.2 hc))]
    · rw [if_neg (fun h => hc (hz.1 ((wl_zero_iff _).1 h)))]
      rw [Nm.val_wl]
      have hn : ((((unI 32 x).natAbs : Nat) : Int)).toNat = (unI 32 x).natAbs := Int.toNat_natCast _
      rw [hn]
      simp only [if_pos]
      have e1 : ∃ y : Nat, (unI 32 x).natAbs = uf 8388608 y ∧ y ≠ 0 ∧ y < 2139095040 := by
        by_cases hs : x < 2147483648
        · exact ⟨x.toNat, by rw [hu, if_pos hs]; omega, by omega, by omega⟩
        · exact ⟨(x - 2147483648).toNat, by rw [hu, if_neg hs]; omega, by omega, by omega⟩
      obtain ⟨y, e1, y0, y1⟩ := e1
      rw [e1]
      have := (rd_uf 24 2139095040 (by decide) (-149) 2147483648 mode (Nm.wn (unI 32 x)) y y0 y1 (by decide)).2
      rw [show (2 : Nat) ^ (24 - 1) = 8388608 by decide] at this
      exact this
theorem fin_lt64 {x : Int} (h0 : 0 ≤ x) (h1 : x < 18446744073709551616) (hf : finB 64 x = true) : x % 9223372036854775808 < 9218868437227405312 := by
  unfold finB at hf
  rw [cls64 ] at hf
  unfold clsY at hf
  simp only [decide_eq_true_eq] at hf
  repeat' split at hf
  all_goals omega
theorem Rd_un64 {x : Int} (h0 : 0 ≤ x) (h1 : x < 18446744073709551616) (hf : finB 64 x = true) (mode : Int) (hm : modeB mode = true) :
    RdO 64 mode (Nm.wn (unI 64 x)) (Nm.wl (unI 64 x)) (-1074) = true ∧ RdB 64 mode (Nm.wn (unI 64 x)) (Nm.wl (unI 64 x)) (-1074) = (if x % 9223372036854775808 = 0 then 0 else x) ∧ RdF 64 mode (Nm.wn (unI 64 x)) (Nm.wl (unI 64 x)) (-1074) = 0 ∧ ((Nm.wl (unI 64 x)).length = 0 ↔ x % 9223372036854775808 = 0) := by
  have hO : RdO 64 mode (Nm.wn (unI 64 x)) (Nm.wl (unI 64 x)) (-1074) = true := by
    unfold RdO
    rw [okB_wl (un_len _ _ hf), hm]
    rfl
  have hlt := fin_lt64 h0 h1 hf
  have hu := un_uf64 h0 h1 hf
  have hz : unI 64 x = 0 ↔ x % 9223372036854775808 = 0 := by
    rw [hu]
    constructor
    · intro h
      by_cases hc : x % 9223372036854775808 = 0
      · exact hc
      · exfalso
        split at h
        · have := uf_ne 4503599627370496 x.toNat (by decide) (by omega); omega
        · have := uf_ne 4503599627370496 (x - 9223372036854775808).toNat (by decide) (by omega); omega
    · intro h
      split
      · rw [show x.toNat = 0 by omega, uf_zero _ (by decide)]; rfl
      · rw [show (x - 9223372036854775808).toNat = 0 by omega, uf_zero _ (by decide)]; rfl
  refine ⟨hO, ?_, ?_, (wl_zero_iff _).trans hz⟩
  · unfold RdB
    rw [hO, if_pos rfl]
    by_cases hc : x % 9223372036854775808 = 0
    · rw [if_pos hc, if_pos ((wl_zero_iff _).2 (hz.2 hc))]
    · rw [if_neg hc, if_neg (fun h => hc (hz.1 ((wl_zero_iff _).1 h)))]
      rw [Nm.val_wl]
      have hn : ((((unI 64 x).natAbs : Nat) : Int)).toNat = (unI 64 x).natAbs := Int.toNat_natCast _
      rw [hn]
      simp only [if_neg (show ¬ ((64 : Int) = 32) from by decide)]
      by_cases hs : x < 9223372036854775808
      · have e1 : (unI 64 x).natAbs = uf 4503599627370496 x.toNat := by rw [hu, if_pos hs]; omega
        have e2 : Nm.wn (unI 64 x) = false := by rw [hu, if_pos hs]; unfold Nm.wn; simp
        rw [e1, e2]
        have := (rd_uf 53 9218868437227405312 (by decide) (-1074) 9223372036854775808 mode false x.toNat (by omega) (by omega) (by decide)).1
        rw [show (2 : Nat) ^ (53 - 1) = 4503599627370496 by decide] at this
        rw [this]; unfold sgn; simp; omega
      · have e1 : (unI 64 x).natAbs = uf 4503599627370496 (x - 9223372036854775808).toNat := by rw [hu, if_neg hs]; omega
        have e2 : Nm.wn (unI 64 x) = true := by
          rw [hu, if_neg hs]; unfold Nm.wn
          have := uf_ne 4503599627370496 (x - 9223372036854775808).toNat (by decide) (by omega)
          simp; omega
        rw [e1, e2]
        have := (rd_uf 53 9218868437227405312 (by decide) (-1074) 9223372036854775808 mode true (x - 9223372036854775808).toNat (by omega) (by omega) (by decide)).1
        rw [show (2 : Nat) ^ (53 - 1) = 4503599627370496 by decide] at this
        rw [this]; unfold sgn; simp; omega
  · unfold RdF
    rw [hO, if_pos rfl]
    by_cases hc : x % 9223372036854775808 = 0
    · rw [if_pos ((wl_zero_iff _).2 (hz.2 hc))]
    · rw [if_neg (fun h => hc (hz.1 ((wl_zero_iff _).1 h)))]
      rw [Nm.val_wl]
      have hn : ((((unI 64 x).natAbs : Nat) : Int)).toNat = (unI 64 x).natAbs := Int.toNat_natCast _
      rw [hn]
      simp only [if_neg (show ¬ ((64 : Int) = 32) from by decide)]
      have e1 : ∃ y : Nat, (unI 64 x).natAbs = uf 4503599627370496 y ∧ y ≠ 0 ∧ y < 9218868437227405312 := by
        by_cases hs : x < 9223372036854775808
        · exact ⟨x.toNat, by rw [hu, if_pos hs]; omega, by omega, by omega⟩
        · exact ⟨(x - 9223372036854775808).toNat, by rw [hu, if_neg hs]; omega, by omega, by omega⟩
      obtain ⟨y, e1, y0, y1⟩ := e1
      rw [e1]
      have := (rd_uf 53 9218868437227405312 (by decide) (-1074) 9223372036854775808 mode (Nm.wn (unI 64 x)) y y0 y1 (by decide)).2
      rw [show (2 : Nat) ^ (53 - 1) = 4503599627370496 by decide] at this
      exact this
theorem rd_same {a b : Nat} (ha : a ≠ 0) (hb : b ≠ 0) {e f : Int} (d1 d2 : Nat) (h : a * 2 ^ d1 = b * 2 ^ d2) (he : e - d1 = f - d2) (P : Nat) (q : Int) (I : Nat) (S mode : Int) (ng : Bool) : rdB P q I S mode ng a e = rdB P q I S mode ng b f ∧ rdF P q I mode ng a e = rdF P q I mode ng b f := by
  constructor
  · rw [← rdB_scale ha P q I S mode ng e d1, ← rdB_scale hb P q I S mode ng f d2, h, he]
  · rw [← rdF_scale ha P q I mode ng e d1, ← rdF_scale hb P q I mode ng f d2, h, he]
theorem pw_i (n : Nat) : (0 : Int) < 2 ^ n := Int.pow_pos (by decide)
theorem sgn_same {x z a b : Int} (ha : 0 < a) (hb : 0 < b) (h : x * a = z * b) : (x < 0 ↔ z < 0) ∧ (x = 0 ↔ z = 0) := by
  have e1 : (x < 0 ↔ x * a < 0) := by
    constructor
    · intro h; exact Int.mul_neg_of_neg_of_pos h ha
    · intro h; rcases Int.lt_or_le x 0 with k | k
      · exact k
      · have := Int.mul_nonneg k (Int.le_of_lt ha); omega
  have e2 : (z < 0 ↔ z * b < 0) := by
    constructor
    · intro h; exact Int.mul_neg_of_neg_of_pos h hb
    · intro h; rcases Int.lt_or_le z 0 with k | k
      · exact k
      · have := Int.mul_nonneg k (Int.le_of_lt hb); omega
  refine ⟨by rw [e1, e2, h], ?_⟩
  constructor
  · intro hx; subst hx; rw [Int.zero_mul] at h
    rcases Int.mul_eq_zero.1 h.symm with k | k
    · exact k
    · omega
  · intro hz; subst hz; rw [Int.zero_mul] at h
    rcases Int.mul_eq_zero.1 h with k | k
    · exact k
    · omega
/-- A float's value is rounded to that float, without a flag. -/
theorem RdV_32 {x : Int} (h0 : 0 ≤ x) (h1 : x < 4294967296) (hf : finB 32 x = true) (mode z e : Int) (hm : modeB mode = true) (hO : RdO 32 mode (Nm.wn z) (Nm.wl z) e = true) (hz : z ≠ 0) (hv : ValF 32 x z e) :
    RdB 32 mode (Nm.wn z) (Nm.wl z) e = x ∧ RdF 32 mode (Nm.wn z) (Nm.wl z) e = 0 := by
  unfold ValF at hv
  have hs := sgn_same (pw_i _) (pw_i _) hv
  have hu0 : unI 32 x ≠ 0 := fun h => hz (hs.2.1 h)
  obtain ⟨o, r1, r2, r3⟩ := Rd_un32 h0 h1 hf mode hm
  have hxz : ¬ x % 2147483648 = 0 := fun h => hu0 ((wl_zero' _).1 (r3.2 h))
  rw [if_neg hxz] at r1
  obtain ⟨b1, b2⟩ := Rd_any32 mode (Nm.wn z) (Nm.wl z) e hO (fun h => hz ((wl_zero' z).1 h))
  obtain ⟨c1, c2⟩ := Rd_any32 mode (Nm.wn (unI 32 x)) (Nm.wl (unI 32 x)) (-149) o (fun h => hu0 ((wl_zero' _).1 h))
  have hn : Nm.wn (unI 32 x) = Nm.wn z := by unfold Nm.wn; rw [Bool.eq_iff_iff, decide_eq_true_eq, decide_eq_true_eq]; exact hs.1
  rw [Nm.val_wl, Int.toNat_natCast] at b1 b2 c1 c2
  have ha := congrArg Int.natAbs hv
  rw [natAbs_pow, natAbs_pow] at ha
  have key := rd_same (a := z.natAbs) (b := (unI 32 x).natAbs) (by omega) (by omega) (e := e) (f := (-149)) (e - min e (unQ 32)).toNat (unQ 32 - min e (unQ 32)).toNat ha.symm (by
    have : unQ 32 = (-149) := rfl
    rw [this]; omega) 24 (-149) 2139095040 2147483648 mode (Nm.wn z)
  rw [b1, b2, key.1, key.2, ← hn, ← c1, ← c2]
  exact ⟨r1, r2⟩
/-- A float's value is rounded to that float, without a flag. -/
theorem RdV_64 {x : Int} (h0 : 0 ≤ x) (h1 : x < 18446744073709551616) (hf : finB 64 x = true) (mode z e : Int) (hm : modeB mode = true) (hO : RdO 64 mode (Nm.wn z) (Nm.wl z) e = true) (hz : z ≠ 0) (hv : ValF 64 x z e) :
    RdB 64 mode (Nm.wn z) (Nm.wl z) e = x ∧ RdF 64 mode (Nm.wn z) (Nm.wl z) e = 0 := by
  unfold ValF at hv
  have hs := sgn_same (pw_i _) (pw_i _) hv
  have hu0 : unI 64 x ≠ 0 := fun h => hz (hs.2.1 h)
  obtain ⟨o, r1, r2, r3⟩ := Rd_un64 h0 h1 hf mode hm
  have hxz : ¬ x % 9223372036854775808 = 0 := fun h => hu0 ((wl_zero' _).1 (r3.2 h))
  rw [if_neg hxz] at r1
  obtain ⟨b1, b2⟩ := Rd_any64 mode (Nm.wn z) (Nm.wl z) e hO (fun h => hz ((wl_zero' z).1 h))
  obtain ⟨c1, c2⟩ := Rd_any64 mode (Nm.wn (unI 64 x)) (Nm.wl (unI 64 x)) (-1074) o (fun h => hu0 ((wl_zero' _).1 h))
  have hn : Nm.wn (unI 64 x) = Nm.wn z := by unfold Nm.wn; rw [Bool.eq_iff_iff, decide_eq_true_eq, decide_eq_true_eq]; exact hs.1
  rw [Nm.val_wl, Int.toNat_natCast] at b1 b2 c1 c2
  have ha := congrArg Int.natAbs hv
  rw [natAbs_pow, natAbs_pow] at ha
  have key := rd_same (a := z.natAbs) (b := (unI 64 x).natAbs) (by omega) (by omega) (e := e) (f := (-1074)) (e - min e (unQ 64)).toNat (unQ 64 - min e (unQ 64)).toNat ha.symm (by
    have : unQ 64 = (-1074) := rfl
    rw [this]; omega) 53 (-1074) 9218868437227405312 9223372036854775808 mode (Nm.wn z)
  rw [b1, b2, key.1, key.2, ← hn, ← c1, ← c2]
  exact ⟨r1, r2⟩
theorem RdV_any {fm x : Int} (hx : okF fm x = true) (h0 : 0 ≤ x) (h1 : x < 18446744073709551616) (hf : finB fm x = true) (mode z e : Int) (hm : modeB mode = true) (hO : RdO fm mode (Nm.wn z) (Nm.wl z) e = true) (hz : z ≠ 0) (hv : ValF fm x z e) :
    RdB fm mode (Nm.wn z) (Nm.wl z) e = x ∧ RdF fm mode (Nm.wn z) (Nm.wl z) e = 0 := by
  rcases okF_cases hx with ⟨rfl, hb⟩ | rfl
  · exact RdV_32 h0 hb hf mode z e hm hO hz hv
  · exact RdV_64 h0 h1 hf mode z e hm hO hz hv
end Fd
end Go.Proofs.YtmcflggionkhlaaGreatDoor
