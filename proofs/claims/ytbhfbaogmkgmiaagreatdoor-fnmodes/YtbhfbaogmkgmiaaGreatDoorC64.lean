/-
  What is needed of RN, RY.
-/
import Derived.Test.YtbhfbaogmkgmiaaGreatDoorC62
set_option maxHeartbeats 16000000
set_option maxRecDepth 1000000
namespace Go.Proofs.YtbhfbaogmkgmiaaGreatDoor
set_option linter.unusedVariables false
set_option linter.unusedSimpArgs false
namespace Nm
/-- Half a place: what the remainder is held against. -/
theorem rh_cases {P : Nat} {q : Int} {a : Nat} {e : Int} : (rh P q a e = -1 ∧ 2 * rr P q a e < 2 ^ (rn P q a e).toNat) ∨ (rh P q a e = 0 ∧ 2 * rr P q a e = 2 ^ (rn P q a e).toNat) ∨ (rh P q a e = 1 ∧ 2 ^ (rn P q a e).toNat < 2 * rr P q a e) := by
  unfold rh cmp2
  rcases Nat.lt_trichotomy (2 * rr P q a e) (2 ^ (rn P q a e).toNat) with h | h | h
  · left; rw [if_pos h]; exact ⟨rfl, h⟩
  · right; left; rw [if_neg (by omega), if_neg (by omega)]; exact ⟨rfl, h⟩
  · right; right; rw [if_neg (by omega), if_pos h]; exact ⟨rfl, h⟩
end Nm
open Go.RowKit Go.Deep
namespace Fd
open Nm (rU rr rn rh rm flo flb)
/-- Where both are floats: how far each is away, in halves. -/
theorem both_off {P I : Nat} {q : Int} {a : Nat} {e : Int} (hP : 2 ≤ P) (ha : a ≠ 0) (h : mgHi P q I a e < I) (hr : rr P q a e ≠ 0) :
    uf (2 ^ (P - 1)) (mgLo P q I a e) * 2 ^ (q - min e q).toNat + rr P q a e * 2 ^ (e - min e q).toNat = a * 2 ^ (e - min e q).toNat ∧
    uf (2 ^ (P - 1)) (mgHi P q I a e) * 2 ^ (q - min e q).toNat = a * 2 ^ (e - min e q).toNat + (2 ^ (rn P q a e).toNat - rr P q a e) * 2 ^ (e - min e q).toNat ∧ rr P q a e < 2 ^ (rn P q a e).toNat := by
  obtain ⟨-, hf, e1⟩ := hi_off hP ha h
  have hf2 := flo_dn_of_up (by omega) ha hf
  have hu := Nm.off_up (P := P) (q := q) (a := a) (e := e) hr
  have e2 : uf (2 ^ (P - 1)) (mgLo P q I a e) = rU P q a e false := by
    unfold mgLo; rw [if_pos hf2, flb_uf P I _ (by omega) hf2]
  rw [e1, e2]
  exact ⟨Nm.off_dn, hu.1, hu.2⟩
end Fd
end Go.Proofs.YtbhfbaogmkgmiaaGreatDoor
