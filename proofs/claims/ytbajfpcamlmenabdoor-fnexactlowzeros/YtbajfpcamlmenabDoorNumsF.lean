/-
  Plain mathematics, no Go: shifts as powers of 2.
-/
import Derived.Test.YtbajfpcamlmenabDoorNumsE
namespace Go.Proofs.YtbajfpcamlmenabDoor
set_option linter.unusedVariables false
namespace Nm
/-- m times 2 to the n, cut. (m is not below 0.) -/
def shM (m n : Int) : Int := if n < 0 then m / (2 : Int) ^ (-n).toNat else m * (2 : Int) ^ n.toNat
/-- A wide's value shifted: towards 0. -/
def shV (ng : Bool) (m n : Int) : Int := if ng then - shM m n else shM m n
theorem pw_pow (n : Nat) : pw n = (2 : Int) ^ (32 * n) := by rw [pw_two]; simp
theorem shM_up {m n : Int} {wh r : Nat} (h0 : 0 ≤ n) (hq : n / 32 = (wh : Int)) (hm : n % 32 = (r : Int)) : pw wh * ((2 : Int) ^ r * m) = shM m n := by
  unfold shM
  rw [if_neg (by omega), pw_pow, show n.toNat = 32 * wh + r by omega, Int.pow_add, Int.mul_comm m, Int.mul_assoc]
theorem shM_down {m n : Int} {wh r : Nat} (h0 : n < 0) (hq : -n / 32 = (wh : Int)) (hm : -n % 32 = (r : Int)) : m / pw wh / (2 : Int) ^ r = shM m n := by
  unfold shM
  have hp := pw_pos wh
  rw [if_pos h0, show (-n).toNat = 32 * wh + r by omega, Int.pow_add, ← pw_pow, Int.ediv_ediv_of_nonneg (by omega)]
theorem shV_wv {ng : Bool} {m n : Int} {os : List Int} (h : val os = shM m n) : shV ng m n = wv ng os := by unfold shV wv; rw [h]
theorem shM_nonneg {m n : Int} (h : 0 ≤ m) : 0 ≤ shM m n := by
  unfold shM; split
  · exact Int.ediv_nonneg h (Int.le_of_lt (Int.pow_pos (by decide)))
  · exact Int.mul_nonneg h (Int.le_of_lt (Int.pow_pos (by decide)))
theorem shV_natAbs (ng : Bool) {m n : Int} (h : 0 ≤ m) : (shV ng m n).natAbs = (shM m n).toNat := by
  have := shM_nonneg (n := n) h
  unfold shV; cases ng <;> simp <;> omega
/-- How long what is shifted is. -/
theorem sh_len {m n : Int} {k : Nat} (ng : Bool) (h0 : 0 ≤ m) (h : m < pw k) (hn : n ≤ 10000) : (wl (shV ng m n)).length ≤ k + 313 := by
  unfold wl
  rw [lim_length, shV_natAbs ng h0]
  have hs := shM_nonneg (n := n) h0
  have h1 : shM m n < pw (k + 313) := by
    unfold shM
    have hp1 := pw_pos k
    have hp2 := pw_pos 313
    have hpa : pw (k + 313) = pw k * pw 313 := pw_add k 313
    split
    · have hd : m / (2 : Int) ^ (-n).toNat ≤ m := Int.ediv_le_self _ h0
      have : pw k ≤ pw (k + 313) := pw_mono (by omega)
      omega
    · rename_i hc
      have hle : (2 : Int) ^ n.toNat ≤ pw 313 := by
        rw [pw_pow]
        have := Nat.pow_le_pow_right (n := 2) (by decide) (show n.toNat ≤ 32 * 313 by omega)
        have h2 : ∀ k : Nat, ((2 ^ k : Nat) : Int) = (2 : Int) ^ k := fun k => by simp
        rw [← h2, ← h2]; exact Int.ofNat_le.2 this
      have hpp : (0 : Int) < (2 : Int) ^ n.toNat := Int.pow_pos (by decide)
      have e1 : m * (2 : Int) ^ n.toNat < pw k * (2 : Int) ^ n.toNat := Int.mul_lt_mul_of_pos_right h hpp
      have e2 : pw k * (2 : Int) ^ n.toNat ≤ pw k * pw 313 := Int.mul_le_mul_of_nonneg_left hle (by omega)
      omega
  omega
end Nm
end Go.Proofs.YtbajfpcamlmenabDoor
