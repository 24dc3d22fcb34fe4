/-
  What is needed of RK, RX.
-/
import Derived.Test.YtbhfbaogmkgmiaaGreatDoorC20
set_option maxHeartbeats 16000000
set_option maxRecDepth 1000000
namespace Go.Proofs.YtbhfbaogmkgmiaaGreatDoor
set_option linter.unusedVariables false
set_option linter.unusedSimpArgs false
open Go.RowKit Go.Deep
def unI (fm x : Int) : Int := if finB fm x then (if pS fm x then -((Nm.sh (pM fm x).toNat (pE fm x - unQ fm) : Nat) : Int) else ((Nm.sh (pM fm x).toNat (pE fm x - unQ fm) : Nat) : Int)) else 0
theorem un_no {fm x : Int} (h : finB fm x = false) : unI fm x = 0 := by unfold unI; rw [h]; rfl
theorem un_bits {fm x : Int} (h : finB fm x = true) : bitLen (Nm.sh (pM fm x).toNat (pE fm x - unQ fm)) ≤ 2200 := by
  have h1 := Nm.bl_sh (pM fm x).toNat (pE fm x - unQ fm)
  have h2 := pM_bd fm x
  have h3 := (Nm.bl_le_iff (pM fm x).toNat 53).2 (by omega)
  have h4 := pE_q h
  omega
/-- A wide with a sign, shifted up. -/
theorem shV_sg (ng : Bool) (m : Nat) (n : Int) : Nm.shV ng (m : Int) n = if ng then -((Nm.sh m n : Nat) : Int) else ((Nm.sh m n : Nat) : Int) := by
  unfold Nm.shV; rw [Nm.shM_sh]
namespace Fd
theorem natAbs_pow (z : Int) (n : Nat) : (z * 2 ^ n).natAbs = z.natAbs * 2 ^ n := by
  rw [Int.natAbs_mul, Int.natAbs_pow]; rfl
end Fd
end Go.Proofs.YtbhfbaogmkgmiaaGreatDoor
