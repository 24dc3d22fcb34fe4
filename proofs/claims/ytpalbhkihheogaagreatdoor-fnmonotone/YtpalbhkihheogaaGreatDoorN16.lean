/-
  What is needed of RndB.
-/
import Derived.Test.YtpalbhkihheogaaGreatDoorN13
set_option maxHeartbeats 16000000
set_option maxRecDepth 1000000
namespace Go.Proofs.YtpalbhkihheogaaGreatDoor
set_option linter.unusedVariables false
namespace Nm
/-- By the specification: of u units: how many bits are too many, what stays, the bits, whether it is a float. -/
def flb (P : Nat) (u : Nat) : Nat := if 2 ^ (P - 1) ≤ u / 2 ^ (bitLen u - P) then u / 2 ^ (bitLen u - P) + (bitLen u - P) * 2 ^ (P - 1) else u / 2 ^ (bitLen u - P)
def flo (P : Nat) (I : Nat) (u : Nat) : Bool := decide (bitLen u - P ≤ 2100) && decide (u / 2 ^ (bitLen u - P) * 2 ^ (bitLen u - P) = u) && decide (flb P u < I)
theorem flm_lt (P u : Nat) : u / 2 ^ (bitLen u - P) < 2 ^ P := by
  have hb := (bitLen_spec u).1
  rw [Nat.div_lt_iff_lt_mul (pw_pos2 _), ← Nat.pow_add]
  exact Nat.lt_of_lt_of_le hb (Nat.pow_le_pow_right (by decide) (by omega))
/-- By the program: m times 2 to the e, m not 0: the odd part, and as much of the exponent put to it as may be. -/
def stSp (P : Nat) (m : Nat) : Int := (P : Int) - bitLen (od m)
def stUp (P : Nat) (q : Int) (m : Nat) (e : Int) : Int := min (stSp P m) (e + tz m - q)
def stE (P : Nat) (q : Int) (m : Nat) (e : Int) : Int := e + tz m - stUp P q m e
def stM (P : Nat) (q : Int) (m : Nat) (e : Int) : Nat := od m * 2 ^ (stUp P q m e).toNat
def stIn (P : Nat) (q : Int) (m : Nat) (e : Int) : Bool := decide (0 ≤ stSp P m) && decide (q ≤ e + tz m)
def stOk (P : Nat) (q : Int) (ones : Int) (m : Nat) (e : Int) : Bool := stIn P q m e && decide (stE P q m e - q < ones - 1)
/-- Units of it. -/
def stU (q : Int) (m : Nat) (e : Int) : Nat := od m * 2 ^ (e + tz m - q).toNat
theorem st_in {P : Nat} {q : Int} {m : Nat} {e : Int} (h : stIn P q m e = true) : 0 ≤ stSp P m ∧ q ≤ e + tz m := by simpa [stIn] using h
theorem st_bl {P : Nat} {q : Int} {m : Nat} {e : Int} (h : m ≠ 0) (hi : stIn P q m e = true) : ((bitLen (stU q m e) - P : Nat) : Int) = stE P q m e - q ∧ 0 ≤ stE P q m e - q ∧ 0 ≤ stUp P q m e := by
  obtain ⟨h1, h2⟩ := st_in hi
  have hb : bitLen (stU q m e) = bitLen (od m) + (e + tz m - q).toNat := bl_mul (od_pos h) _
  unfold stE stUp at *
  unfold stSp at *
  omega
theorem st_m {P : Nat} {q : Int} {m : Nat} {e : Int} (h : m ≠ 0) (hi : stIn P q m e = true) : stU q m e / 2 ^ (bitLen (stU q m e) - P) = stM P q m e ∧ stM P q m e * 2 ^ (bitLen (stU q m e) - P) = stU q m e := by
  obtain ⟨hk, h0, hu⟩ := st_bl h hi
  obtain ⟨h1, h2⟩ := st_in hi
  have e2 : stM P q m e * 2 ^ (bitLen (stU q m e) - P) = stU q m e := by
    generalize bitLen (stU q m e) - P = k at *
    unfold stM stU
    rw [Nat.mul_assoc, ← Nat.pow_add]
    congr 2
    unfold stE at *
    omega
  refine ⟨?_, e2⟩
  generalize bitLen (stU q m e) - P = k at *
  rw [← e2, Nat.mul_div_cancel _ (pw_pos2 k)]
theorem st_ge {P : Nat} {q : Int} {m : Nat} {e : Int} (h : m ≠ 0) (hi : stIn P q m e = true) (hP : 1 ≤ P) (hk : 0 < stE P q m e - q) : 2 ^ (P - 1) ≤ stM P q m e := by
  obtain ⟨h1, h2⟩ := st_in hi
  have hb := bl_ge (od_pos h)
  have hb1 := bl_pos (od_pos h)
  have hup : stUp P q m e = stSp P m := by unfold stE stUp at *; omega
  unfold stM
  rw [hup]
  unfold stSp at *
  refine Nat.le_trans ?_ (Nat.mul_le_mul_right _ hb)
  rw [← Nat.pow_add]
  exact Nat.pow_le_pow_right (by decide) (by omega)
theorem stM_lt {P : Nat} {q : Int} {m : Nat} {e : Int} (h : m ≠ 0) (hi : stIn P q m e = true) : stM P q m e < 2 ^ P := by
  have := flm_lt P (stU q m e)
  rwa [(st_m h hi).1] at this
theorem st_b {P : Nat} {q : Int} {m : Nat} {e : Int} (h : m ≠ 0) (hi : stIn P q m e = true) (hP : 1 ≤ P) : (flb P (stU q m e) : Int) = stM P q m e + (stE P q m e - q) * (2 ^ (P - 1) : Nat) := by
  obtain ⟨hk, h0, hu⟩ := st_bl h hi
  have hg := st_ge h hi hP
  unfold flb
  rw [(st_m h hi).1]
  generalize bitLen (stU q m e) - P = k at *
  rw [← hk]
  split
  · simp
  · by_cases hk0 : k = 0
    · subst hk0; simp
    · exact absurd (hg (by omega)) (by omega)
theorem st_o {P : Nat} {q ones : Int} {I : Nat} {m : Nat} {e : Int} (h : m ≠ 0) (hi : stIn P q m e = true) (hP : 1 ≤ P) (hI : (I : Int) = ones * (2 ^ (P - 1) : Nat)) (ho : 3 ≤ ones) (ho2 : ones ≤ 2100) :
    flo P I (stU q m e) = decide (stE P q m e - q < ones - 1) := by
  obtain ⟨hk, h0, hu⟩ := st_bl h hi
  have hg := st_ge h hi hP
  have hb := st_b h hi hP
  have hm := st_m h hi
  have hlt := stM_lt h hi
  have hL := pw_pos2 (P - 1)
  have h2L : 2 ^ P = 2 * 2 ^ (P - 1) := by rw [← Nat.pow_succ']; congr 1; omega
  unfold flo
  rw [hm.1, decide_eq_true hm.2, Bool.and_true]
  generalize bitLen (stU q m e) - P = k at *
  generalize stE P q m e - q = K at *
  subst hk
  have hIb : (flb P (stU q m e) < I) ↔ ((k : Int) < ones - 1) := by
    have hcast : (flb P (stU q m e) < I) ↔ ((flb P (stU q m e) : Int) < (I : Int)) := by omega
    rw [hcast, hb, hI]
    generalize stM P q m e = M at *
    generalize 2 ^ (P - 1) = L at *
    constructor
    · intro hlt'
      by_cases hc : (k : Int) < ones - 1
      · exact hc
      · exfalso
        have hg' := hg (by omega)
        have : ones * (L : Int) ≤ ((k : Int) + 1) * L := Int.mul_le_mul_of_nonneg_right (by omega) (by omega)
        grind
    · intro hc
      have : ((k : Int) + 2) * (L : Int) ≤ ones * L := Int.mul_le_mul_of_nonneg_right (by omega) (by omega)
      grind
  rw [Bool.eq_iff_iff]
  simp only [Bool.and_eq_true, decide_eq_true_eq, hIb]
  omega
/-- The same units, however they are written. -/
theorem stU_of {q : Int} {m : Nat} {e : Int} (h : m ≠ 0) (hq : q ≤ e) : m * 2 ^ (e - q).toNat = stU q m e := by
  unfold stU
  have hs := (tz_spec m h).1
  rw [show (e + (tz m : Int) - q).toNat = tz m + (e - q).toNat by omega, Nat.pow_add, ← Nat.mul_assoc, hs]
theorem st_in_of {P : Nat} {q : Int} {m : Nat} {e : Int} (h : m ≠ 0) (hm : m ≤ 2 ^ P) (hP : 1 ≤ P) (hq : q ≤ e) : stIn P q m e = true := by
  have hs := tz_spec m h
  unfold stIn
  rw [Bool.and_eq_true, decide_eq_true_eq, decide_eq_true_eq]
  refine ⟨?_, by omega⟩
  unfold stSp
  have : bitLen (od m) ≤ P := by
    by_cases he : m = 2 ^ P
    · have : od m = 1 := by
        have ht : tz m = P := by rw [he]; simpa using tz_mul (o := 1) rfl P
        unfold od; rw [ht, he]; exact Nat.div_self (pw_pos2 P)
      rw [this]; exact hP
    · refine (bl_le_iff _ _).2 (Nat.lt_of_le_of_lt ?_ (show m < 2 ^ P by omega))
      unfold od; exact Nat.div_le_self _ _
  omega
/-- What is rounded: the step is up; units; whether that is a float. -/
def r1 (P : Nat) (q : Int) (a : Nat) (e : Int) (up : Bool) : Nat := if rr P q a e ≠ 0 ∧ up = true then rm P q a e + 1 else rm P q a e
def rU (P : Nat) (q : Int) (a : Nat) (e : Int) (up : Bool) : Nat := r1 P q a e up * 2 ^ (rn P q a e + e - q).toNat
theorem r1_le {P : Nat} {q : Int} {a : Nat} {e : Int} (up : Bool) : r1 P q a e up ≤ 2 ^ P := by
  have := rm_lt (P := P) (q := q) (a := a) (e := e)
  unfold r1; split <;> omega
/-- Too great an exponent: no float, by the specification. -/
theorem big_no {P I : Nat} {q : Int} {a : Nat} {e : Int} {up : Bool} (h : a ≠ 0) (hP : 1 ≤ P) (hq : -2000 ≤ q) (hq0 : q ≤ 0) (hP2 : P ≤ 100) (hs : 5000 < rn P q a e + e) : flo P I (rU P q a e up) = false := by
  have hm := rm_ge (P := P) (q := q) (e := e) h hP (by omega)
  have h1 : 1 ≤ r1 P q a e up := by
    have := pw_pos2 (P - 1)
    unfold r1; split <;> omega
  have hb : bitLen (rU P q a e up) = bitLen (r1 P q a e up) + (rn P q a e + e - q).toNat := bl_mul (by omega) _
  have : ¬ bitLen (rU P q a e up) - P ≤ 2100 := by omega
  unfold flo
  rw [decide_eq_false this]; rfl
/-- What is rounded, by the program's settling. -/
theorem r_in {P : Nat} {q : Int} {a : Nat} {e : Int} {up : Bool} (hP : 1 ≤ P) (h1 : r1 P q a e up ≠ 0) : stIn P q (r1 P q a e up) (rn P q a e + e) = true := by
  have hq : q - e ≤ rn P q a e := by unfold rn; omega
  exact st_in_of h1 (r1_le up) hP (by omega)
theorem r_U {P : Nat} {q : Int} {a : Nat} {e : Int} {up : Bool} (h1 : r1 P q a e up ≠ 0) : rU P q a e up = stU q (r1 P q a e up) (rn P q a e + e) := by
  have hq : q - e ≤ rn P q a e := by unfold rn; omega
  exact stU_of h1 (by omega)
theorem r_zero {P I : Nat} {q : Int} {a : Nat} {e : Int} {up : Bool} (h1 : r1 P q a e up = 0) (hI : 0 < I) : flo P I (rU P q a e up) = true ∧ flb P (rU P q a e up) = 0 := by
  unfold rU; rw [h1, Nat.zero_mul]
  have : flb P 0 = 0 := by
    unfold flb; rw [bl_zero]
    have := pw_pos2 (P - 1)
    simp
  refine ⟨?_, this⟩
  unfold flo; rw [this, bl_zero]; simp [hI]
/-- Parts: what is cut is 0 just where the parts are within the format. -/
theorem parts_in {P : Nat} {q : Int} {m : Nat} {e : Int} (h : m ≠ 0) : stIn P q m e = decide (rr P q m e = 0) := by
  have hs := tz_spec m h
  have hb : bitLen m = bitLen (od m) + tz m := by
    have := bl_mul (od_pos h) (tz m); rwa [hs.1] at this
  rw [Bool.eq_iff_iff, decide_eq_true_eq, rr_tz h]
  unfold stIn stSp rn
  rw [Bool.and_eq_true, decide_eq_true_eq, decide_eq_true_eq]
  omega
theorem parts_U {P : Nat} {q : Int} {m : Nat} {e : Int} (h : m ≠ 0) (hr : rr P q m e = 0) (up : Bool) : rU P q m e up = stU q m e := by
  have hn := (rr_tz (P := P) (q := q) (e := e) h).1 hr
  have hq : q - e ≤ rn P q m e := by unfold rn; omega
  have hs := (tz_spec m h).1
  unfold rU r1 stU
  rw [if_neg (by simp [hr])]
  unfold rm
  generalize rn P q m e = n at *
  have e1 : sh m (-n) = od m * 2 ^ ((tz m : Int) - n).toNat := by
    unfold sh
    split
    · rw [show (- -n).toNat = n.toNat by omega]
      have : m = od m * 2 ^ ((tz m : Int) - n).toNat * 2 ^ n.toNat := by
        rw [Nat.mul_assoc, ← Nat.pow_add, show ((tz m : Int) - n).toNat + n.toNat = tz m by omega]; exact hs.symm
      exact (congrArg (fun z => z / 2 ^ n.toNat) this).trans (Nat.mul_div_cancel _ (pw_pos2 _))
    · rw [show ((tz m : Int) - n).toNat = tz m + (-n).toNat by omega, Nat.pow_add, ← Nat.mul_assoc, hs]
  rw [e1, Nat.mul_assoc, ← Nat.pow_add]
  congr 2
  omega
end Nm
end Go.Proofs.YtpalbhkihheogaaGreatDoor
