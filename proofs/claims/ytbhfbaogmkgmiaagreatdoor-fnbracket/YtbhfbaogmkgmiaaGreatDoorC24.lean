/-
  What is needed of RK.
-/
import Derived.Test.YtbhfbaogmkgmiaaGreatDoorC23
set_option maxHeartbeats 16000000
set_option maxRecDepth 1000000
namespace Go.Proofs.YtbhfbaogmkgmiaaGreatDoor
set_option linter.unusedVariables false
set_option linter.unusedSimpArgs false
open Go.RowKit Go.Deep
/-- A small number with a sign, shifted: what it is. -/
theorem sg_shift (sg : Bool) (m : Nat) (n : Int) : Nm.shV (Nm.wn (if sg then -(m : Int) else m)) (Nm.val (Nm.wl (if sg then -(m : Int) else m))) n = if sg then -((Nm.sh m n : Nat) : Int) else ((Nm.sh m n : Nat) : Int) := by
  have hv : Nm.val (Nm.wl (if sg then -(m : Int) else m)) = (m : Int) := by rw [Nm.val_wl]; cases sg <;> simp
  rw [hv, shV_sg]
  by_cases h0 : m = 0
  · subst h0
    have : Nm.sh 0 n = 0 := by unfold Nm.sh; split <;> simp
    rw [this]; cases sg <;> simp
  · have : Nm.wn (if sg then -(m : Int) else m) = sg := by unfold Nm.wn; cases sg <;> simp <;> omega
    rw [this]
/-- What both shift: letters. -/
theorem un_parts {fm x : Int} (h : finB fm x = true) : ∃ (G : Bool) (L : List Int) (z E Q : Int), z = pM fm x ∧ E = pE fm x ∧ Q = unQ fm ∧ 0 ≤ z ∧ z < 9007199254740992 ∧ -1074 ≤ E ∧ E ≤ 2000 ∧ -1074 ≤ Q ∧ Q ≤ -149 ∧ 0 ≤ E - Q ∧ E - Q ≤ 2100 ∧
    G = Nm.wn (if pS fm x then -z else z) ∧ L = Nm.wl (if pS fm x then -z else z) ∧ Nm.Dg L ∧ L.length ≤ 2 ∧ Nm.shV G (Nm.val L) (E - Q) = unI fm x ∧ okB G L = true ∧ (Nm.wl (unI fm x)).length ≤ 200 := by
  have h1 := pM_bd fm x
  have h2 := pE_bd fm x
  have h3 := pE_q h
  have hq : -1074 ≤ unQ fm ∧ unQ fm ≤ -149 := by unfold unQ; split <;> omega
  obtain ⟨m, hm⟩ : ∃ m : Nat, pM fm x = m := ⟨(pM fm x).toNat, by omega⟩
  have hu : unI fm x = if pS fm x then -((Nm.sh m (pE fm x - unQ fm) : Nat) : Int) else ((Nm.sh m (pE fm x - unQ fm) : Nat) : Int) := by
    unfold unI; rw [h, if_pos rfl, hm, Int.toNat_natCast]
  have hl : (Nm.wl (if pS fm x then -pM fm x else pM fm x)).length ≤ 2 := by
    unfold Nm.wl
    exact lim_two (by cases pS fm x <;> simp <;> omega)
  refine ⟨_, _, _, _, _, rfl, rfl, rfl, h1.1, h1.2, h2.1, h2.2, hq.1, hq.2, h3.1, h3.2, rfl, rfl, Nm.wl_dg _, hl, ?_, okB_wl (by omega), ?_⟩
  · rw [hu, hm]; exact sg_shift _ m _
  · have hb := un_bits h
    rw [hm, Int.toNat_natCast] at hb
    rw [hu]
    unfold Nm.wl
    refine lim_len (k := 200) ?_
    have : (if pS fm x then -((Nm.sh m (pE fm x - unQ fm) : Nat) : Int) else ((Nm.sh m (pE fm x - unQ fm) : Nat) : Int)).natAbs = Nm.sh m (pE fm x - unQ fm) := by cases pS fm x <;> simp
    rw [this]; omega
end Go.Proofs.YtbhfbaogmkgmiaaGreatDoor
