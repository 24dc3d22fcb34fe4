/-
  What is needed of RN.
-/
import Derived.Test.YtbhfbaogmkgmiaaGreatDoorC26
set_option maxHeartbeats 16000000
set_option maxRecDepth 1000000
namespace Go.Proofs.YtbhfbaogmkgmiaaGreatDoor
set_option linter.unusedVariables false
set_option linter.unusedSimpArgs false
namespace Nm
/-- The unit of the last place in which is rounded. -/
def rk (P : Nat) (q : Int) (a : Nat) (e : Int) : Nat := (rn P q a e + e - q).toNat
theorem rU_dn (P : Nat) (q : Int) (a : Nat) (e : Int) : rU P q a e false = rm P q a e * 2 ^ rk P q a e := by
  unfold rU r1 rk; simp
theorem rU_ex {P : Nat} {q : Int} {a : Nat} {e : Int} (h : rr P q a e = 0) (up : Bool) : rU P q a e up = rm P q a e * 2 ^ rk P q a e := by
  unfold rU r1 rk; simp [h]
/-- The distances, in units of 2 to the lower one of both exponents. -/
theorem off_dn {P : Nat} {q : Int} {a : Nat} {e : Int} : rU P q a e false * 2 ^ (q - min e q).toNat + rr P q a e * 2 ^ (e - min e q).toNat = a * 2 ^ (e - min e q).toNat := by
  rw [rU_dn]
  have hn : q - e ≤ rn P q a e := by unfold rn; omega
  by_cases h : 0 ≤ rn P q a e
  · have e1 : rk P q a e + (q - min e q).toNat = (rn P q a e).toNat + (e - min e q).toNat := by unfold rk; omega
    have hm : rm P q a e = a / 2 ^ (rn P q a e).toNat := by
      unfold rm sh
      by_cases h0 : rn P q a e = 0
      · rw [h0]; simp
      · rw [if_pos (by omega), show (- -rn P q a e).toNat = (rn P q a e).toNat by omega]
    rw [Nat.mul_assoc, ← Nat.pow_add, e1, Nat.pow_add, ← Nat.mul_assoc, ← Nat.add_mul]
    have : rm P q a e * 2 ^ (rn P q a e).toNat + rr P q a e = a := by
      rw [hm]; unfold rr; rw [Nat.mul_comm]; exact Nat.div_add_mod _ _
    rw [this]
  · have hr : rr P q a e = 0 := by
      unfold rr
      rw [show (rn P q a e).toNat = 0 by omega, Nat.pow_zero, Nat.mod_one]
    have hm : rm P q a e = a * 2 ^ (-rn P q a e).toNat := by
      unfold rm sh
      rw [if_neg (by omega)]
    rw [hr, Nat.zero_mul, Nat.add_zero, hm, Nat.mul_assoc, Nat.mul_assoc, ← Nat.pow_add, ← Nat.pow_add]
    congr 2
    unfold rk; omega
end Nm
end Go.Proofs.YtbhfbaogmkgmiaaGreatDoor
