/-
  What is needed of Uf.
-/
import Derived.Test.YtbhfbaogmkgmiaaGreatDoorC26
set_option maxHeartbeats 16000000
set_option maxRecDepth 1000000
namespace Go.Proofs.YtbhfbaogmkgmiaaGreatDoor
set_option linter.unusedVariables false
namespace Fd
theorem uf_cut (P : Nat) (hP : 1 ≤ P) (y : Nat) : bitLen (uf (2 ^ (P - 1)) y) - P = y / 2 ^ (P - 1) - 1 ∧ uf (2 ^ (P - 1)) y / 2 ^ (bitLen (uf (2 ^ (P - 1)) y) - P) = (if y < 2 ^ (P - 1) then y else y % 2 ^ (P - 1) + 2 ^ (P - 1)) ∧ uf (2 ^ (P - 1)) y % 2 ^ (bitLen (uf (2 ^ (P - 1)) y) - P) = 0 := by
  have hp := Nat.two_pow_pos (P - 1)
  have h2 : 2 ^ P = 2 * 2 ^ (P - 1) := by
    obtain ⟨k, rfl⟩ : ∃ k, P = k + 1 := ⟨P - 1, by omega⟩
    rw [Nat.add_sub_cancel, Nat.pow_succ, Nat.mul_comm]
  obtain ⟨L, hL⟩ : ∃ L, L = 2 ^ (P - 1) := ⟨_, rfl⟩
  have hb : ∀ a, a < L → bitLen a ≤ P := fun a ha => (Nm.bl_le_iff a P).2 (by omega)
  have hc : ∀ a, L ≤ a → a < 2 * L → bitLen a = P := fun a h1 h2' => by
    have u := (Nm.bl_le_iff a P).2 (by omega)
    have v : ¬ bitLen a ≤ P - 1 := fun h => by have := (Nm.bl_le_iff a (P - 1)).1 h; omega
    omega
  rw [← hL] at hp ⊢
  clear hL h2
  unfold uf
  by_cases h : y < L
  · rw [if_pos h, if_pos h, Nat.div_eq_of_lt h]
    have := hb y h
    have e : bitLen y - P = 0 := by omega
    rw [e]; simp [Nat.mod_one]
  · rw [if_neg h, if_neg h]
    have hm := Nat.mod_lt y hp
    have hq : 1 ≤ y / L := Nat.div_pos (by omega) (by omega)
    have hB := hc (y % L + L) (by omega) (by omega)
    have hB2 := Nm.bl_mul (a := y % L + L) (by omega) (y / L - 1)
    have e : bitLen ((y % L + L) * 2 ^ (y / L - 1)) - P = y / L - 1 := by omega
    rw [e]
    exact ⟨rfl, Nat.mul_div_cancel _ (Nat.two_pow_pos _), Nat.mul_mod_left _ _⟩
theorem uf_flb (P : Nat) (hP : 1 ≤ P) (y : Nat) : Nm.flb P (uf (2 ^ (P - 1)) y) = y := by
  obtain ⟨h1, h2, h3⟩ := uf_cut P hP y
  unfold Nm.flb
  rw [h2, h1]
  have hp := Nat.two_pow_pos (P - 1)
  generalize 2 ^ (P - 1) = L at *
  by_cases h : y < L
  · rw [if_pos h, if_neg (by omega)]
  · rw [if_neg h, if_pos (by omega)]
    have hd := Nat.div_add_mod y L
    obtain ⟨k, hk⟩ : ∃ k, y / L = k + 1 := ⟨y / L - 1, by have : 1 ≤ y / L := Nat.div_pos (by omega) (by omega); omega⟩
    rw [hk] at hd ⊢
    rw [Nat.mul_add, Nat.mul_one, Nat.mul_comm] at hd
    simp only [Nat.add_sub_cancel]; omega
theorem uf_flo (P I : Nat) (hP : 1 ≤ P) (y : Nat) (hI : y < I) (ho : I ≤ 2100 * 2 ^ (P - 1)) : Nm.flo P I (uf (2 ^ (P - 1)) y) = true := by
  obtain ⟨h1, h2, h3⟩ := uf_cut P hP y
  unfold Nm.flo
  rw [uf_flb P hP y]
  have hd := Nat.div_add_mod (uf (2 ^ (P - 1)) y) (2 ^ (bitLen (uf (2 ^ (P - 1)) y) - P))
  have e1 : bitLen (uf (2 ^ (P - 1)) y) - P ≤ 2100 := by
    rw [h1]
    have : y / 2 ^ (P - 1) < 2100 := (Nat.div_lt_iff_lt_mul (Nat.two_pow_pos _)).2 (by omega)
    omega
  rw [h3, Nat.add_zero, Nat.mul_comm] at hd
  rw [hd]
  simp [e1, hI]
end Fd
end Go.Proofs.YtbhfbaogmkgmiaaGreatDoor
