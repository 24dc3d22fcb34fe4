/-
  What is needed of Rnd, RndB, IA, IB0.
-/
import Derived.Lib.TrailingZeros
import Derived.Test.YtbhfbaogmkgmiaaGreatDoorC07
set_option maxHeartbeats 16000000
set_option maxRecDepth 1000000
namespace Go.Proofs.YtbhfbaogmkgmiaaGreatDoor
set_option linter.unusedVariables false
namespace Nm
theorem bl_le_iff (a k : Nat) : bitLen a ≤ k ↔ a < 2 ^ k := by
  have h := bitLen_spec a
  constructor
  · intro hk
    exact Nat.lt_of_lt_of_le h.1 (Nat.pow_le_pow_right (by decide) hk)
  · intro hk
    by_cases h0 : a = 0
    · subst h0; simp [bitLen]
    · have h1 := h.2 h0
      have h2 := Nat.lt_of_le_of_lt h1 hk
      have := (Nat.pow_lt_pow_iff_right (a := 2) (by decide)).1 h2
      omega
theorem bl_pos {a : Nat} (h : a ≠ 0) : 1 ≤ bitLen a := by unfold bitLen; rw [if_neg h]; omega
theorem bl_zero : bitLen 0 = 0 := rfl
theorem bl_mul {a : Nat} (h : a ≠ 0) (d : Nat) : bitLen (a * 2 ^ d) = bitLen a + d := by
  have e : a * 2 ^ d / 2 ^ d = a := Nat.mul_div_cancel _ (Nat.two_pow_pos d)
  have := bitLen_shift (a * 2 ^ d) d (by rw [e]; exact h)
  rw [this, e]; omega
theorem bl_mono {a b : Nat} (h : a ≤ b) : bitLen a ≤ bitLen b := (bl_le_iff a _).2 (Nat.lt_of_le_of_lt h (bitLen_spec b).1)
theorem bl_ge {a : Nat} (h : a ≠ 0) : 2 ^ (bitLen a - 1) ≤ a := (bitLen_spec a).2 h

/-- How often it can be halved. -/
def tz (a : Nat) : Nat := if a = 0 then 0 else if a % 2 = 1 then 0 else tz (a / 2) + 1
termination_by a
decreasing_by omega
theorem tz_odd {a : Nat} (h : a % 2 = 1) : tz a = 0 := by unfold tz; split <;> simp_all
theorem tz_even {a : Nat} (h0 : a ≠ 0) (h : a % 2 = 0) : tz a = tz (a / 2) + 1 := by rw [tz]; simp [h0, h]
/-- The odd part. -/
def od (a : Nat) : Nat := a / 2 ^ tz a
theorem tz_spec (a : Nat) (h : a ≠ 0) : od a * 2 ^ tz a = a ∧ od a % 2 = 1 := by
  induction a using Nat.strongRecOn with
  | _ a ih =>
    unfold od
    rcases Nat.mod_two_eq_zero_or_one a with h2 | h2
    · have := ih (a / 2) (by omega) (by omega)
      unfold od at this
      rw [tz_even h h2, Nat.pow_succ, Nat.mul_comm (2 ^ _) 2, ← Nat.div_div_eq_div_mul]
      refine ⟨?_, this.2⟩
      have e := this.1
      generalize a / 2 / 2 ^ tz (a / 2) = o at *
      have : o * (2 * 2 ^ tz (a / 2)) = 2 * (o * 2 ^ tz (a / 2)) := by rw [Nat.mul_left_comm]
      rw [this, e]; omega
    · rw [tz_odd h2]; simp; exact h2
theorem od_pos {a : Nat} (h : a ≠ 0) : od a ≠ 0 := by have := (tz_spec a h).2; omega
theorem tz_mul {o : Nat} (ho : o % 2 = 1) (t : Nat) : tz (o * 2 ^ t) = t := by
  induction t with
  | zero => simpa using tz_odd ho
  | succ t ih =>
    have e : o * 2 ^ (t + 1) = 2 * (o * 2 ^ t) := by rw [Nat.pow_succ]; grind
    have hp := Nat.two_pow_pos t
    have h0 : o * 2 ^ t ≠ 0 := Nat.mul_ne_zero (by omega) (by omega)
    rw [e, tz_even (by omega) (by omega), Nat.mul_div_cancel_left _ (by decide), ih]
theorem mod_pow_zero {a : Nat} (h : a ≠ 0) (n : Nat) : a % 2 ^ n = 0 ↔ n ≤ tz a := by
  have hs := tz_spec a h
  constructor
  · intro hz
    obtain ⟨c, hc⟩ := Nat.dvd_of_mod_eq_zero hz
    have hc0 : c ≠ 0 := by intro h0; subst h0; simp at hc; exact h hc
    have hc' := tz_spec c hc0
    have : a = od c * 2 ^ (tz c + n) := by rw [hc, Nat.pow_add, ← Nat.mul_assoc, hc'.1, Nat.mul_comm]
    rw [this, tz_mul hc'.2]; omega
  · intro hn
    obtain ⟨k, hk⟩ := Nat.exists_eq_add_of_le hn
    have : a = 2 ^ n * (od a * 2 ^ k) := by
      have e := hs.1
      rw [hk, Nat.pow_add] at e
      rw [Nat.mul_left_comm]; exact e.symm
    rw [this]; exact Nat.mul_mod_right _ _

/-- A shift of a number that is not below 0. -/
def sh (a : Nat) (n : Int) : Nat := if n < 0 then a / 2 ^ (-n).toNat else a * 2 ^ n.toNat
theorem shM_sh (a : Nat) (n : Int) : shM (a : Int) n = (sh a n : Nat) := by
  unfold shM sh
  split <;> simp
theorem shV_sh (a : Nat) (n : Int) : shV false (a : Int) n = (sh a n : Nat) := by unfold shV; simpa using shM_sh a n

/-- What is cut: how many bits, what stays, what goes. -/
def rn (P : Nat) (q : Int) (a : Nat) (e : Int) : Int := max ((bitLen a : Int) - P) (q - e)
def rm (P : Nat) (q : Int) (a : Nat) (e : Int) : Nat := sh a (- rn P q a e)
def rr (P : Nat) (q : Int) (a : Nat) (e : Int) : Nat := a % 2 ^ (rn P q a e).toNat
def cmp2 (x y : Nat) : Int := if x < y then -1 else if y < x then 1 else 0
def rh (P : Nat) (q : Int) (a : Nat) (e : Int) : Int := cmp2 (2 * rr P q a e) (2 ^ (rn P q a e).toNat)

/-- By the specification: all in units of 2 to the lower one of e and q. -/
theorem spec_x {a : Nat} (h : a ≠ 0) {e q : Int} : bitLen (sh a (e - min e q)) = bitLen a + (e - min e q).toNat ∧ sh a (e - min e q) = a * 2 ^ (e - min e q).toNat := by
  have e1 : sh a (e - min e q) = a * 2 ^ (e - min e q).toNat := by unfold sh; rw [if_neg (by omega)]
  rw [e1]; exact ⟨bl_mul h _, rfl⟩
theorem spec_cut {a : Nat} (h : a ≠ 0) (P : Nat) (e q : Int) : max ((bitLen (sh a (e - min e q)) : Int) - P) (q - min e q) = rn P q a e + (e - min e q) := by
  rw [(spec_x h).1]; unfold rn; omega
theorem pw_pos2 (n : Nat) : 0 < 2 ^ n := Nat.two_pow_pos n
theorem spec_m {a : Nat} (h : a ≠ 0) (P : Nat) (e q : Int) : sh (sh a (e - min e q)) (-(rn P q a e + (e - min e q))) = rm P q a e := by
  rw [(spec_x h).2]
  unfold rm
  have hq : q - e ≤ rn P q a e := by unfold rn; omega
  generalize rn P q a e = n at *
  obtain ⟨d, hd⟩ : ∃ d : Nat, e - min e q = d := ⟨(e - min e q).toNat, by omega⟩
  have hc : 0 ≤ n + d := by omega
  rw [hd]
  rw [Int.toNat_natCast]
  have hX : sh (a * 2 ^ d) (-(n + d)) = a * 2 ^ d / 2 ^ (n + d).toNat := by
    unfold sh
    by_cases h0 : n + (d : Int) = 0
    · rw [if_neg (by omega), h0]; simp
    · rw [if_pos (by omega), show (- -(n + (d : Int))).toNat = (n + d).toNat by omega]
  rw [hX]
  by_cases hn : 0 < n
  · unfold sh
    rw [if_pos (by omega), show (- -n).toNat = n.toNat by omega, show (n + (d : Int)).toNat = d + n.toNat by omega, Nat.pow_add, Nat.mul_comm a, Nat.mul_div_mul_left _ _ (pw_pos2 d)]
  · unfold sh
    rw [if_neg (by omega)]
    have : d = (-n).toNat + (n + (d : Int)).toNat := by omega
    generalize (n + (d : Int)).toNat = c at *
    rw [this, Nat.pow_add, ← Nat.mul_assoc, Nat.mul_div_cancel _ (pw_pos2 c)]
theorem spec_back {a : Nat} (h : a ≠ 0) (P : Nat) (e q : Int) :
    sh (rm P q a e) (rn P q a e + (e - min e q)) ≤ sh a (e - min e q) ∧ sh a (e - min e q) - sh (rm P q a e) (rn P q a e + (e - min e q)) = rr P q a e * 2 ^ (e - min e q).toNat := by
  have hm := spec_m h P e q
  have hq : q - e ≤ rn P q a e := by unfold rn; omega
  have hc : 0 ≤ rn P q a e + (e - min e q) := by omega
  rw [← hm, (spec_x h).2]
  unfold rr
  generalize rn P q a e = n at *
  obtain ⟨d, hd⟩ : ∃ d : Nat, e - min e q = d := ⟨(e - min e q).toNat, by omega⟩
  rw [hd] at hc ⊢
  rw [Int.toNat_natCast]
  have hX : sh (a * 2 ^ d) (-(n + d)) = a * 2 ^ d / 2 ^ (n + d).toNat := by
    unfold sh
    by_cases h0 : n + (d : Int) = 0
    · rw [if_neg (by omega), h0]; simp
    · rw [if_pos (by omega), show (- -(n + (d : Int))).toNat = (n + d).toNat by omega]
  have hY : ∀ y, sh y (n + (d : Int)) = y * 2 ^ (n + (d : Int)).toNat := fun y => by unfold sh; rw [if_neg (by omega)]
  rw [hX, hY]
  have hdm := Nat.div_add_mod (a * 2 ^ d) (2 ^ (n + (d : Int)).toNat)
  rw [Nat.mul_comm] at hdm
  refine ⟨by omega, ?_⟩
  have : a * 2 ^ d - a * 2 ^ d / 2 ^ (n + (d : Int)).toNat * 2 ^ (n + (d : Int)).toNat = a * 2 ^ d % 2 ^ (n + (d : Int)).toNat := by omega
  rw [this]
  by_cases hn : 0 ≤ n
  · rw [show (n + (d : Int)).toNat = n.toNat + d by omega, Nat.pow_add, Nat.mul_mod_mul_right]
  · rw [show n.toNat = 0 by omega]
    have : d = (-n).toNat + (n + (d : Int)).toNat := by omega
    generalize (n + (d : Int)).toNat = c at *
    rw [this, Nat.pow_add, ← Nat.mul_assoc, Nat.mul_mod_left]; simp [Nat.mod_one]
theorem rr_pos {P : Nat} {q : Int} {a : Nat} {e : Int} (h : rr P q a e ≠ 0) : 1 ≤ rn P q a e := by
  unfold rr at h
  by_cases hn : 1 ≤ rn P q a e
  · exact hn
  · rw [show (rn P q a e).toNat = 0 by omega] at h; simp [Nat.mod_one] at h
theorem cmp2_mul (x y : Nat) (d : Nat) : cmp2 (x * 2 ^ d) (y * 2 ^ d) = cmp2 x y := by
  unfold cmp2
  simp only [Nat.mul_lt_mul_right (pw_pos2 d)]
theorem spec_half {a : Nat} (h : a ≠ 0) {P : Nat} {e q : Int} (hr : rr P q a e ≠ 0) :
    cmp2 (sh (rr P q a e * 2 ^ (e - min e q).toNat) 1) (sh 1 (rn P q a e + (e - min e q))) = rh P q a e := by
  have hn := rr_pos hr
  unfold rh
  generalize rn P q a e = n at *
  generalize rr P q a e = r at *
  obtain ⟨d, hd⟩ : ∃ d : Nat, e - min e q = d := ⟨(e - min e q).toNat, by omega⟩
  rw [hd, Int.toNat_natCast]
  have e1 : sh (r * 2 ^ d) 1 = 2 * r * 2 ^ d := by unfold sh; rw [if_neg (by decide)]; simp; grind
  have e2 : sh 1 (n + (d : Int)) = 2 ^ n.toNat * 2 ^ d := by
    unfold sh; rw [if_neg (by omega), show (n + (d : Int)).toNat = n.toNat + d by omega, Nat.pow_add]; simp
  rw [e1, e2, cmp2_mul]
theorem rr_tz {P : Nat} {q : Int} {a : Nat} {e : Int} (h : a ≠ 0) : rr P q a e = 0 ↔ rn P q a e ≤ tz a := by
  unfold rr; rw [mod_pow_zero h]; omega
/-- By the program: what is cut off, held against a half by the bit below the last one, and the noughts. -/
theorem impl_half {P : Nat} {q : Int} {a : Nat} {e : Int} (h : a ≠ 0) (hr : rr P q a e ≠ 0) :
    rh P q a e = if (tz a : Int) = rn P q a e - 1 then 0 else if a / 2 ^ (rn P q a e - 1).toNat % 2 = 1 then 1 else -1 := by
  have hn := rr_pos hr
  have ht : ¬ rn P q a e ≤ tz a := fun hh => hr ((rr_tz h).2 hh)
  unfold rh rr
  generalize rn P q a e = n at *
  obtain ⟨k, hk⟩ : ∃ k : Nat, n = k + 1 := ⟨(n - 1).toNat, by omega⟩
  subst hk
  rw [show ((k : Int) + 1).toNat = k + 1 by omega, show ((k : Int) + 1 - 1).toNat = k by omega]
  have hp := pw_pos2 k
  have hmod : a % 2 ^ (k + 1) = a % 2 ^ k + 2 ^ k * (a / 2 ^ k % 2) := by rw [Nat.pow_succ, Nat.mod_mul]
  have hlt : a % 2 ^ k < 2 ^ k := Nat.mod_lt _ hp
  have hz := mod_pow_zero h k
  have hps : 2 ^ (k + 1) = 2 * 2 ^ k := by rw [Nat.pow_succ]; omega
  rw [hmod, hps]
  unfold cmp2
  by_cases hc : tz a = k
  · have hk0 : a % 2 ^ k = 0 := hz.2 (by omega)
    have hodd : a / 2 ^ k % 2 = 1 := by have := (tz_spec a h).2; unfold od at this; rwa [hc] at this
    rw [if_pos (show (tz a : Int) = (k : Int) + 1 - 1 by omega), hk0, hodd, if_neg (by omega), if_neg (by omega)]
  · rw [if_neg (show ¬ (tz a : Int) = (k : Int) + 1 - 1 by omega)]
    have hk0 : a % 2 ^ k ≠ 0 := fun h0 => by have := hz.1 h0; omega
    rcases Nat.mod_two_eq_zero_or_one (a / 2 ^ k) with h2 | h2
    · rw [h2, if_pos (by omega), if_neg (by decide)]
    · rw [h2, if_neg (by omega), if_pos (by omega), if_pos rfl]
/-- What stays has at most P bits. -/
theorem rm_lt {P : Nat} {q : Int} {a : Nat} {e : Int} : rm P q a e < 2 ^ P := by
  have hb := (bitLen_spec a).1
  have hn : (bitLen a : Int) - P ≤ rn P q a e := by unfold rn; omega
  unfold rm sh
  generalize rn P q a e = n at *
  split
  · rename_i hlt
    rw [Nat.div_lt_iff_lt_mul (pw_pos2 _), ← Nat.pow_add]
    exact Nat.lt_of_lt_of_le hb (Nat.pow_le_pow_right (by decide) (by omega))
  · have h1 : a * 2 ^ (-n).toNat < 2 ^ bitLen a * 2 ^ (-n).toNat := Nat.mul_lt_mul_of_pos_right hb (pw_pos2 _)
    rw [← Nat.pow_add] at h1
    exact Nat.lt_of_lt_of_le h1 (Nat.pow_le_pow_right (by decide) (by omega))
/-- Where the step is greater than a unit, what stays has just P bits. -/
theorem rm_ge {P : Nat} {q : Int} {a : Nat} {e : Int} (h : a ≠ 0) (hP : 1 ≤ P) (hn : q - e < rn P q a e) : 2 ^ (P - 1) ≤ rm P q a e := by
  have hb := bl_ge h
  have hb1 := bl_pos h
  have hn : (bitLen a : Int) - P = rn P q a e := by unfold rn at hn ⊢; omega
  unfold rm sh
  generalize rn P q a e = n at *
  split
  · rw [Nat.le_div_iff_mul_le (pw_pos2 _), ← Nat.pow_add]
    exact Nat.le_trans (Nat.pow_le_pow_right (by decide) (by omega)) hb
  · refine Nat.le_trans ?_ (Nat.mul_le_mul_right _ hb)
    rw [← Nat.pow_add]
    exact Nat.pow_le_pow_right (by decide) (by omega)
/-- By the specification: of u units: how many bits are too many, what stays, the bits, whether it is a float. -/
def flb (P : Nat) (u : Nat) : Nat := if 2 ^ (P - 1) ≤ u / 2 ^ (bitLen u - P) then u / 2 ^ (bitLen u - P) + (bitLen u - P) * 2 ^ (P - 1) else u / 2 ^ (bitLen u - P)
def flo (P : Nat) (I : Nat) (u : Nat) : Bool := decide (bitLen u - P ≤ 2100) && decide (u / 2 ^ (bitLen u - P) * 2 ^ (bitLen u - P) = u) && decide (flb P u < I)
theorem flm_lt (P u : Nat) : u / 2 ^ (bitLen u - P) < 2 ^ P := by
  have hb := (bitLen_spec u).1
  rw [Nat.div_lt_iff_lt_mul (pw_pos2 _), ← Nat.pow_add]
  exact Nat.lt_of_lt_of_le hb (Nat.pow_le_pow_right (by decide) (by omega))
/-- By the program: m times 2 to the e, m not 0: the odd part, and as much of the exponent put to it as may be. -/
def stSp (P : Nat) (m : Nat) : Int := (P : Int) - bitLen (od m)
def stUp (P : Nat) (q : Int) (m : Nat) (e : Int) : Int := min (stSp P m) (e + tz m - q)
def stE (P : Nat) (q : Int) (m : Nat) (e : Int) : Int := e + tz m - stUp P q m e
def stM (P : Nat) (q : Int) (m : Nat) (e : Int) : Nat := od m * 2 ^ (stUp P q m e).toNat
def stIn (P : Nat) (q : Int) (m : Nat) (e : Int) : Bool := decide (0 ≤ stSp P m) && decide (q ≤ e + tz m)
def stOk (P : Nat) (q : Int) (ones : Int) (m : Nat) (e : Int) : Bool := stIn P q m e && decide (stE P q m e - q < ones - 1)
/-- Units of it. -/
def stU (q : Int) (m : Nat) (e : Int) : Nat := od m * 2 ^ (e + tz m - q).toNat
theorem st_in {P : Nat} {q : Int} {m : Nat} {e : Int} (h : stIn P q m e = true) : 0 ≤ stSp P m ∧ q ≤ e + tz m := by simpa [stIn] using h
theorem st_bl {P : Nat} {q : Int} {m : Nat} {e : Int} (h : m ≠ 0) (hi : stIn P q m e = true) : ((bitLen (stU q m e) - P : Nat) : Int) = stE P q m e - q ∧ 0 ≤ stE P q m e - q ∧ 0 ≤ stUp P q m e := by
  obtain ⟨h1, h2⟩ := st_in hi
  have hb : bitLen (stU q m e) = bitLen (od m) + (e + tz m - q).toNat := bl_mul (od_pos h) _
  unfold stE stUp at *
  unfold stSp at *
  omega
theorem st_m {P : Nat} {q : Int} {m : Nat} {e : Int} (h : m ≠ 0) (hi : stIn P q m e = true) : stU q m e / 2 ^ (bitLen (stU q m e) - P) = stM P q m e ∧ stM P q m e * 2 ^ (bitLen (stU q m e) - P) = stU q m e := by
  obtain ⟨hk, h0, hu⟩ := st_bl h hi
  obtain ⟨h1, h2⟩ := st_in hi
  have e2 : stM P q m e * 2 ^ (bitLen (stU q m e) - P) = stU q m e := by
    generalize bitLen (stU q m e) - P = k at *
    unfold stM stU
    rw [Nat.mul_assoc, ← Nat.pow_add]
    congr 2
    unfold stE at *
    omega
  refine ⟨?_, e2⟩
  generalize bitLen (stU q m e) - P = k at *
  rw [← e2, Nat.mul_div_cancel _ (pw_pos2 k)]
theorem st_ge {P : Nat} {q : Int} {m : Nat} {e : Int} (h : m ≠ 0) (hi : stIn P q m e = true) (hP : 1 ≤ P) (hk : 0 < stE P q m e - q) : 2 ^ (P - 1) ≤ stM P q m e := by
  obtain ⟨h1, h2⟩ := st_in hi
  have hb := bl_ge (od_pos h)
  have hb1 := bl_pos (od_pos h)
  have hup : stUp P q m e = stSp P m := by unfold stE stUp at *; omega
  unfold stM
  rw [hup]
  unfold stSp at *
  refine Nat.le_trans ?_ (Nat.mul_le_mul_right _ hb)
  rw [← Nat.pow_add]
  exact Nat.pow_le_pow_right (by decide) (by omega)
theorem stM_lt {P : Nat} {q : Int} {m : Nat} {e : Int} (h : m ≠ 0) (hi : stIn P q m e = true) : stM P q m e < 2 ^ P := by
  have := flm_lt P (stU q m e)
  rwa [(st_m h hi).1] at this
theorem st_b {P : Nat} {q : Int} {m : Nat} {e : Int} (h : m ≠ 0) (hi : stIn P q m e = true) (hP : 1 ≤ P) : (flb P (stU q m e) : Int) = stM P q m e + (stE P q m e - q) * (2 ^ (P - 1) : Nat) := by
  obtain ⟨hk, h0, hu⟩ := st_bl h hi
  have hg := st_ge h hi hP
  unfold flb
  rw [(st_m h hi).1]
  generalize bitLen (stU q m e) - P = k at *
  rw [← hk]
  split
  · simp
  · by_cases hk0 : k = 0
    · subst hk0; simp
    · exact absurd (hg (by omega)) (by omega)
theorem st_o {P : Nat} {q ones : Int} {I : Nat} {m : Nat} {e : Int} (h : m ≠ 0) (hi : stIn P q m e = true) (hP : 1 ≤ P) (hI : (I : Int) = ones * (2 ^ (P - 1) : Nat)) (ho : 3 ≤ ones) (ho2 : ones ≤ 2100) :
    flo P I (stU q m e) = decide (stE P q m e - q < ones - 1) := by
  obtain ⟨hk, h0, hu⟩ := st_bl h hi
  have hg := st_ge h hi hP
  have hb := st_b h hi hP
  have hm := st_m h hi
  have hlt := stM_lt h hi
  have hL := pw_pos2 (P - 1)
  have h2L : 2 ^ P = 2 * 2 ^ (P - 1) := by rw [← Nat.pow_succ']; congr 1; omega
  unfold flo
  rw [hm.1, decide_eq_true hm.2, Bool.and_true]
  generalize bitLen (stU q m e) - P = k at *
  generalize stE P q m e - q = K at *
  subst hk
  have hIb : (flb P (stU q m e) < I) ↔ ((k : Int) < ones - 1) := by
    have hcast : (flb P (stU q m e) < I) ↔ ((flb P (stU q m e) : Int) < (I : Int)) := by omega
    rw [hcast, hb, hI]
    generalize stM P q m e = M at *
    generalize 2 ^ (P - 1) = L at *
    constructor
    · intro hlt'
      by_cases hc : (k : Int) < ones - 1
      · exact hc
      · exfalso
        have hg' := hg (by omega)
        have : ones * (L : Int) ≤ ((k : Int) + 1) * L := Int.mul_le_mul_of_nonneg_right (by omega) (by omega)
        grind
    · intro hc
      have : ((k : Int) + 2) * (L : Int) ≤ ones * L := Int.mul_le_mul_of_nonneg_right (by omega) (by omega)
      grind
  rw [Bool.eq_iff_iff]
  simp only [Bool.and_eq_true, decide_eq_true_eq, hIb]
  omega
/-- The same units, however they are written. -/
theorem stU_of {q : Int} {m : Nat} {e : Int} (h : m ≠ 0) (hq : q ≤ e) : m * 2 ^ (e - q).toNat = stU q m e := by
  unfold stU
  have hs := (tz_spec m h).1
  rw [show (e + (tz m : Int) - q).toNat = tz m + (e - q).toNat by omega, Nat.pow_add, ← Nat.mul_assoc, hs]
theorem st_in_of {P : Nat} {q : Int} {m : Nat} {e : Int} (h : m ≠ 0) (hm : m ≤ 2 ^ P) (hP : 1 ≤ P) (hq : q ≤ e) : stIn P q m e = true := by
  have hs := tz_spec m h
  unfold stIn
  rw [Bool.and_eq_true, decide_eq_true_eq, decide_eq_true_eq]
  refine ⟨?_, by omega⟩
  unfold stSp
  have : bitLen (od m) ≤ P := by
    by_cases he : m = 2 ^ P
    · have : od m = 1 := by
        have ht : tz m = P := by rw [he]; simpa using tz_mul (o := 1) rfl P
        unfold od; rw [ht, he]; exact Nat.div_self (pw_pos2 P)
      rw [this]; exact hP
    · refine (bl_le_iff _ _).2 (Nat.lt_of_le_of_lt ?_ (show m < 2 ^ P by omega))
      unfold od; exact Nat.div_le_self _ _
  omega
/-- What is rounded: the step is up; units; whether that is a float. -/
def r1 (P : Nat) (q : Int) (a : Nat) (e : Int) (up : Bool) : Nat := if rr P q a e ≠ 0 ∧ up = true then rm P q a e + 1 else rm P q a e
def rU (P : Nat) (q : Int) (a : Nat) (e : Int) (up : Bool) : Nat := r1 P q a e up * 2 ^ (rn P q a e + e - q).toNat
theorem r1_le {P : Nat} {q : Int} {a : Nat} {e : Int} (up : Bool) : r1 P q a e up ≤ 2 ^ P := by
  have := rm_lt (P := P) (q := q) (a := a) (e := e)
  unfold r1; split <;> omega
/-- Too great an exponent: no float, by the specification. -/
theorem big_no {P I : Nat} {q : Int} {a : Nat} {e : Int} {up : Bool} (h : a ≠ 0) (hP : 1 ≤ P) (hq : -2000 ≤ q) (hq0 : q ≤ 0) (hP2 : P ≤ 100) (hs : 5000 < rn P q a e + e) : flo P I (rU P q a e up) = false := by
  have hm := rm_ge (P := P) (q := q) (e := e) h hP (by omega)
  have h1 : 1 ≤ r1 P q a e up := by
    have := pw_pos2 (P - 1)
    unfold r1; split <;> omega
  have hb : bitLen (rU P q a e up) = bitLen (r1 P q a e up) + (rn P q a e + e - q).toNat := bl_mul (by omega) _
  have : ¬ bitLen (rU P q a e up) - P ≤ 2100 := by omega
  unfold flo
  rw [decide_eq_false this]; rfl
/-- What is rounded, by the program's settling. -/
theorem r_in {P : Nat} {q : Int} {a : Nat} {e : Int} {up : Bool} (hP : 1 ≤ P) (h1 : r1 P q a e up ≠ 0) : stIn P q (r1 P q a e up) (rn P q a e + e) = true := by
  have hq : q - e ≤ rn P q a e := by unfold rn; omega
  exact st_in_of h1 (r1_le up) hP (by omega)
theorem r_U {P : Nat} {q : Int} {a : Nat} {e : Int} {up : Bool} (h1 : r1 P q a e up ≠ 0) : rU P q a e up = stU q (r1 P q a e up) (rn P q a e + e) := by
  have hq : q - e ≤ rn P q a e := by unfold rn; omega
  exact stU_of h1 (by omega)
theorem r_zero {P I : Nat} {q : Int} {a : Nat} {e : Int} {up : Bool} (h1 : r1 P q a e up = 0) (hI : 0 < I) : flo P I (rU P q a e up) = true ∧ flb P (rU P q a e up) = 0 := by
  unfold rU; rw [h1, Nat.zero_mul]
  have : flb P 0 = 0 := by
    unfold flb; rw [bl_zero]
    have := pw_pos2 (P - 1)
    simp
  refine ⟨?_, this⟩
  unfold flo; rw [this, bl_zero]; simp [hI]
/-- Parts: what is cut is 0 just where the parts are within the format. -/
theorem parts_in {P : Nat} {q : Int} {m : Nat} {e : Int} (h : m ≠ 0) : stIn P q m e = decide (rr P q m e = 0) := by
  have hs := tz_spec m h
  have hb : bitLen m = bitLen (od m) + tz m := by
    have := bl_mul (od_pos h) (tz m); rwa [hs.1] at this
  rw [Bool.eq_iff_iff, decide_eq_true_eq, rr_tz h]
  unfold stIn stSp rn
  rw [Bool.and_eq_true, decide_eq_true_eq, decide_eq_true_eq]
  omega
theorem parts_U {P : Nat} {q : Int} {m : Nat} {e : Int} (h : m ≠ 0) (hr : rr P q m e = 0) (up : Bool) : rU P q m e up = stU q m e := by
  have hn := (rr_tz (P := P) (q := q) (e := e) h).1 hr
  have hq : q - e ≤ rn P q m e := by unfold rn; omega
  have hs := (tz_spec m h).1
  unfold rU r1 stU
  rw [if_neg (by simp [hr])]
  unfold rm
  generalize rn P q m e = n at *
  have e1 : sh m (-n) = od m * 2 ^ ((tz m : Int) - n).toNat := by
    unfold sh
    split
    · rw [show (- -n).toNat = n.toNat by omega]
      have : m = od m * 2 ^ ((tz m : Int) - n).toNat * 2 ^ n.toNat := by
        rw [Nat.mul_assoc, ← Nat.pow_add, show ((tz m : Int) - n).toNat + n.toNat = tz m by omega]; exact hs.symm
      exact (congrArg (fun z => z / 2 ^ n.toNat) this).trans (Nat.mul_div_cancel _ (pw_pos2 _))
    · rw [show ((tz m : Int) - n).toNat = tz m + (-n).toNat by omega, Nat.pow_add, ← Nat.mul_assoc, hs]
  rw [e1, Nat.mul_assoc, ← Nat.pow_add]
  congr 2
  omega
end Nm
set_option linter.unusedSimpArgs false
open Go.RowKit Go.Deep
/-- A table of bytes in the block g. -/
def Tb (w : World) (g : Nat) (zs : List Nat) : Prop := ∀ i, i < zs.length → w.cell? ⟨g, i, none⟩ = some (.int .u8 ((zs.getD i 0 : Nat) : Int))
theorem Tb.below {w w' : World} {g : Nat} {zs : List Nat} (h : Tb w g zs) (hp : 0 < zs.length) (hb : Below w.heap.size w w') : Tb w' g zs := fun i hi =>
  (hb.cell (p := ⟨g, i, none⟩) (World.block_lt_of_cell? w ⟨g, i, none⟩ (h i hi))).trans (h i hi)
theorem nat_div_cast (a d n f : Nat) : (a : Int) * (d : Int) % (n : Int) / (f : Int) = ((a * d % n / f : Nat) : Int) := by simp
theorem ctz_tz (n x : Nat) (h0 : x ≠ 0) (h : x < 2 ^ n) : Lib.ctz n x = Nm.tz x := by
  obtain ⟨m, hm, hk⟩ := Lib.ctzFrom_spec n x (by omega) h
  have e : Lib.ctz n x = Lib.ctzFrom n x := by simp [Lib.ctz, h0]
  rw [e]
  generalize Lib.ctzFrom n x = t at *
  rw [hm, Nat.mul_comm]
  exact (Nm.tz_mul (by omega) t).symm
theorem low_32 (x : Int) (h0 : 0 < x) (h1 : x < 4294967296) : bits .and .u32 x (4294967296 - x) = ((2 ^ Nm.tz x.toNat : Nat) : Int) ∧ Nm.tz x.toNat < 32 := by
  have hx : x.toNat < 2 ^ 32 := by omega
  have h := Lib.lowest_bit 32 x.toNat (by omega) hx
  rw [ctz_tz 32 x.toNat (by omega) hx] at h
  refine ⟨?_, h.2⟩
  rw [← h.1]
  obtain ⟨n, rfl⟩ := Int.eq_ofNat_of_zero_le (show 0 ≤ x by omega)
  have hn := u32_and_nat n (4294967296 - n) (by omega) (by omega)
  rw [show ((4294967296 - n : Nat) : Int) = 4294967296 - (n : Int) by omega] at hn
  rw [hn]
  simp
/-- The table's index, and what stands there. -/
theorem tab_32 (x : Int) (h0 : 0 < x) (h1 : x < 4294967296) : ∃ j : Nat, ((2 ^ Nm.tz x.toNat : Nat) : Int) * 125613361 % 4294967296 / 134217728 = (j : Int) ∧ j < 32 ∧ Lib.deBruijn32tab.getD j 0 = Nm.tz x.toNat := by
  have ht := (low_32 x h0 h1).2
  have h := Lib.deBruijn32_at _ ht
  exact ⟨_, nat_div_cast _ _ _ _, h.1, h.2⟩
theorem tz_32 (x : Int) (w : World) (hT : Tb w 3 Lib.deBruijn32tab) (h0 : 0 < x) (h1 : x < 4294967296) :
    Calls Tryz.prog 201 #[.int .u32 x] w fun e w' => e = .returned (.int .i64 (Nm.tz x.toNat : Nat)) ∧ w' = w := by
  have hneg : IntKind.u32.wrap (-x) = 4294967296 - x := by rw [IntKind.wrap_u32]; omega
  have hl := low_32 x h0 h1
  obtain ⟨j, hj, hjk, hjt⟩ := tab_32 x h0 h1
  obtain ⟨p, hp⟩ : ∃ p : Int, p = ((2 ^ Nm.tz x.toNat : Nat) : Int) := ⟨_, rfl⟩
  rw [← hp] at hj
  have hj2 : IntKind.u32.wrap (p * 125613361) / 134217728 = (j : Int) := by rw [IntKind.wrap_u32]; exact hj
  have hand : bits .and .u32 x (4294967296 - x) = p := by rw [hp]; exact hl.1
  have hc := hT j (by have : Lib.deBruijn32tab.length = 32 := by decide
                      omega)
  rw [hjt] at hc
  have hx0 : (x == 0) = false := by rw [beq_eq_false_iff_ne]; omega
  have hp0 : 0 ≤ p := by rw [hp]; exact Int.natCast_nonneg _
  have HWR : Hid (wrap64 ((Nm.tz x.toNat : Nat) : Int) = ((Nm.tz x.toNat : Nat) : Int)) := hid (wrap_small _ (by omega) (by have := hl.2; omega))
  clear hp hjt hT hl
  go_enter Tryz.func201, Tryz.ntmps201
  go_wp2
  go_ret
  exact ⟨ret_int HWR.out, rfl⟩
theorem low_64 (x : Int) (h0 : 0 < x) (h1 : x < 18446744073709551616) : bits .and .u64 x (18446744073709551616 - x) = ((2 ^ Nm.tz x.toNat : Nat) : Int) ∧ Nm.tz x.toNat < 64 := by
  have hx : x.toNat < 2 ^ 64 := by omega
  have h := Lib.lowest_bit 64 x.toNat (by omega) hx
  rw [ctz_tz 64 x.toNat (by omega) hx] at h
  refine ⟨?_, h.2⟩
  rw [← h.1]
  obtain ⟨n, rfl⟩ := Int.eq_ofNat_of_zero_le (show 0 ≤ x by omega)
  have hn := u64_and_nat n (18446744073709551616 - n) (by omega) (by omega)
  rw [show ((18446744073709551616 - n : Nat) : Int) = 18446744073709551616 - (n : Int) by omega] at hn
  rw [hn]
  simp
/-- The table's index, and what stands there. -/
theorem tab_64 (x : Int) (h0 : 0 < x) (h1 : x < 18446744073709551616) : ∃ j : Nat, ((2 ^ Nm.tz x.toNat : Nat) : Int) * 285870213051353865 % 18446744073709551616 / 288230376151711744 = (j : Int) ∧ j < 64 ∧ Lib.deBruijn64tab.getD j 0 = Nm.tz x.toNat := by
  have ht := (low_64 x h0 h1).2
  have h := Lib.deBruijn64_at _ ht
  exact ⟨_, nat_div_cast _ _ _ _, h.1, h.2⟩
theorem tz_64 (x : Int) (w : World) (hT : Tb w 4 Lib.deBruijn64tab) (h0 : 0 < x) (h1 : x < 18446744073709551616) :
    Calls Tryz.prog 202 #[.int .u64 x] w fun e w' => e = .returned (.int .i64 (Nm.tz x.toNat : Nat)) ∧ w' = w := by
  have hneg : IntKind.u64.wrap (-x) = 18446744073709551616 - x := by rw [IntKind.wrap_u64]; omega
  have hl := low_64 x h0 h1
  obtain ⟨j, hj, hjk, hjt⟩ := tab_64 x h0 h1
  obtain ⟨p, hp⟩ : ∃ p : Int, p = ((2 ^ Nm.tz x.toNat : Nat) : Int) := ⟨_, rfl⟩
  rw [← hp] at hj
  have hj2 : IntKind.u64.wrap (p * 285870213051353865) / 288230376151711744 = (j : Int) := by rw [IntKind.wrap_u64]; exact hj
  have hand : bits .and .u64 x (18446744073709551616 - x) = p := by rw [hp]; exact hl.1
  have hc := hT j (by have : Lib.deBruijn64tab.length = 64 := by decide
                      omega)
  rw [hjt] at hc
  have hx0 : (x == 0) = false := by rw [beq_eq_false_iff_ne]; omega
  have hp0 : 0 ≤ p := by rw [hp]; exact Int.natCast_nonneg _
  have HWR : Hid (wrap64 ((Nm.tz x.toNat : Nat) : Int) = ((Nm.tz x.toNat : Nat) : Int)) := hid (wrap_small _ (by omega) (by have := hl.2; omega))
  clear hp hjt hT hl
  go_enter Tryz.func202, Tryz.ntmps202
  go_wp2
  go_ret
  exact ⟨ret_int HWR.out, rfl⟩
theorem len64_any (x : Int) (w : World) (h0 : 0 ≤ x) (h1 : x < 18446744073709551616) :
    Calls Tryz.prog 192 #[.int .u64 x] w fun e w' => e = .returned (.int .i64 (bitLen x.toNat : Nat)) ∧ w' = w := by
  by_cases c32 : 4294967296 ≤ x
  · by_cases c16 : 65536 ≤ x / 4294967296
    · by_cases c8 : 256 ≤ x / 4294967296 / 65536
      · have HB : Hid ((bitLen x.toNat : Int) = 56 + bitLen (x / 4294967296 / 65536 / 256).toNat) := hid (by
          have h := bitLen_div x 56 h0 (by simp; omega)
          rw [h, show (x / ((2 ^ 56 : Nat) : Int)) = x / 4294967296 / 65536 / 256 by first | (simp; done) | (simp; omega)]; simp)
        have HL := hid (bl_le (x / 4294967296 / 65536 / 256).toNat (by omega))
        go_enter Tryz.func192, Tryz.ntmps192
        go_wp2
        go_ret
        refine ⟨ret_int ?_, rfl⟩
        simp only [len8tab_get]
        rw [wrap_two _ _ (by decide) (by decide) (by omega) HL.out, HB.out]
      · have HB : Hid ((bitLen x.toNat : Int) = 48 + bitLen (x / 4294967296 / 65536).toNat) := hid (by
          have h := bitLen_div x 48 h0 (by simp; omega)
          rw [h, show (x / ((2 ^ 48 : Nat) : Int)) = x / 4294967296 / 65536 by first | (simp; done) | (simp; omega)]; simp)
        have HL := hid (bl_le (x / 4294967296 / 65536).toNat (by omega))
        go_enter Tryz.func192, Tryz.ntmps192
        go_wp2
        go_ret
        refine ⟨ret_int ?_, rfl⟩
        simp only [len8tab_get]
        rw [wrap_two _ _ (by decide) (by decide) (by omega) HL.out, HB.out]
    · by_cases c8 : 256 ≤ x / 4294967296
      · have HB : Hid ((bitLen x.toNat : Int) = 40 + bitLen (x / 4294967296 / 256).toNat) := hid (by
          have h := bitLen_div x 40 h0 (by simp; omega)
          rw [h, show (x / ((2 ^ 40 : Nat) : Int)) = x / 4294967296 / 256 by first | (simp; done) | (simp; omega)]; simp)
        have HL := hid (bl_le (x / 4294967296 / 256).toNat (by omega))
        go_enter Tryz.func192, Tryz.ntmps192
        go_wp2
        go_ret
        refine ⟨ret_int ?_, rfl⟩
        simp only [len8tab_get]
        rw [wrap_two _ _ (by decide) (by decide) (by omega) HL.out, HB.out]
      · have HB : Hid ((bitLen x.toNat : Int) = 32 + bitLen (x / 4294967296).toNat) := hid (by
          have h := bitLen_div x 32 h0 (by simp; omega)
          rw [h, show (x / ((2 ^ 32 : Nat) : Int)) = x / 4294967296 by first | (simp; done) | (simp; omega)]; simp)
        have HL := hid (bl_le (x / 4294967296).toNat (by omega))
        go_enter Tryz.func192, Tryz.ntmps192
        go_wp2
        go_ret
        refine ⟨ret_int ?_, rfl⟩
        simp only [len8tab_get]
        rw [wrap_two _ _ (by decide) (by decide) (by omega) HL.out, HB.out]
  · by_cases c16 : 65536 ≤ x
    · by_cases c8 : 256 ≤ x / 65536
      · have HB : Hid ((bitLen x.toNat : Int) = 24 + bitLen (x / 65536 / 256).toNat) := hid (by
          have h := bitLen_div x 24 h0 (by simp; omega)
          rw [h, show (x / ((2 ^ 24 : Nat) : Int)) = x / 65536 / 256 by first | (simp; done) | (simp; omega)]; simp)
        have HL := hid (bl_le (x / 65536 / 256).toNat (by omega))
        go_enter Tryz.func192, Tryz.ntmps192
        go_wp2
        go_ret
        refine ⟨ret_int ?_, rfl⟩
        simp only [len8tab_get]
        rw [wrap_two _ _ (by decide) (by decide) (by omega) HL.out, HB.out]
      · have HB : Hid ((bitLen x.toNat : Int) = 16 + bitLen (x / 65536).toNat) := hid (by
          have h := bitLen_div x 16 h0 (by simp; omega)
          rw [h, show (x / ((2 ^ 16 : Nat) : Int)) = x / 65536 by first | (simp; done) | (simp; omega)]; simp)
        have HL := hid (bl_le (x / 65536).toNat (by omega))
        go_enter Tryz.func192, Tryz.ntmps192
        go_wp2
        go_ret
        refine ⟨ret_int ?_, rfl⟩
        simp only [len8tab_get]
        rw [wrap_two _ _ (by decide) (by decide) (by omega) HL.out, HB.out]
    · by_cases c8 : 256 ≤ x
      · have HB : Hid ((bitLen x.toNat : Int) = 8 + bitLen (x / 256).toNat) := hid (by
          have h := bitLen_div x 8 h0 (by simp; omega)
          rw [h, show (x / ((2 ^ 8 : Nat) : Int)) = x / 256 by first | (simp; done) | (simp; omega)]; simp)
        have HL := hid (bl_le (x / 256).toNat (by omega))
        go_enter Tryz.func192, Tryz.ntmps192
        go_wp2
        go_ret
        refine ⟨ret_int ?_, rfl⟩
        simp only [len8tab_get]
        rw [wrap_two _ _ (by decide) (by decide) (by omega) HL.out, HB.out]
      · have HL := hid (bl_le x.toNat (by omega))
        go_enter Tryz.func192, Tryz.ntmps192
        go_wp2
        go_ret
        refine ⟨ret_int ?_, rfl⟩
        simp only [len8tab_get]
        have h8 := HL.out
        rw [wrap_small (wrap64 _) (by rw [wrap_small _ (by omega) (by omega)]; omega) (by rw [wrap_small _ (by omega) (by omega)]; omega), wrap_small _ (by omega) (by omega)]
theorem Nm.tz_up {a : Nat} (h : a ≠ 0) (d : Nat) : Nm.tz (a * 2 ^ d) = Nm.tz a + d := by
  have hs := Nm.tz_spec a h
  have : a * 2 ^ d = Nm.od a * 2 ^ (Nm.tz a + d) := by rw [Nat.pow_add, ← Nat.mul_assoc, hs.1]
  rw [this, Nm.tz_mul hs.2]
theorem Nm.tz_low {x r : Nat} (h : x ≠ 0) (hx : x < 4294967296) : Nm.tz (x + 4294967296 * r) = Nm.tz x := by
  have hs := Nm.tz_spec x h
  have ht : Nm.tz x < 32 := by
    have h1 : 2 ^ Nm.tz x ≤ x := by
      have := Nat.le_mul_of_pos_left (2 ^ Nm.tz x) (Nat.pos_of_ne_zero (Nm.od_pos h)); omega
    have h2 : 2 ^ Nm.tz x < 2 ^ 32 := by omega
    exact (Nat.pow_lt_pow_iff_right (a := 2) (by decide)).1 h2
  obtain ⟨k, hk⟩ : ∃ k, 32 = Nm.tz x + (k + 1) := ⟨31 - Nm.tz x, by omega⟩
  have e32 : 4294967296 = 2 ^ Nm.tz x * (2 * 2 ^ k) := by
    have : (4294967296 : Nat) = 2 ^ 32 := by decide
    rw [this, hk, Nat.pow_add, Nat.pow_succ]; congr 1; omega
  have : x + 4294967296 * r = (Nm.od x + 2 * (2 ^ k * r)) * 2 ^ Nm.tz x := by
    rw [Nat.add_mul, hs.1, e32]; congr 1
    generalize 2 ^ Nm.tz x = p
    generalize 2 ^ k = q
    grind
  rw [this, Nm.tz_mul (by have := hs.2; omega)]
/-- Limbs that open with k noughts, and a limb that is not 0. -/
theorem tz_limbs {zs : List Int} (d : Nm.Dg zs) {k : Nat} (hk : k < zs.length) (h0 : ∀ j, j < k → zs.getD j 0 = 0) (hx : zs.getD k 0 ≠ 0) : (Nm.tz (Nm.val zs).toNat : Int) = 32 * (k : Int) + Nm.tz (zs.getD k 0).toNat := by
  have hd := d.getD k
  have e1 : Nm.val (zs.take k) = 0 := Nm.val_zeros (fun i hi => by
    have hi' : i < k := by simp at hi; omega
    rw [List.getD_eq_getElem?_getD, List.getElem?_take_of_lt hi', ← List.getD_eq_getElem?_getD]; exact h0 i hi')
  have e2 := Nm.val_append (zs.take k) (zs.drop k)
  rw [List.take_append_drop, e1, show (zs.take k).length = k by simp; omega] at e2
  have e3 : zs.drop k = zs.getD k 0 :: zs.drop (k + 1) := by
    rw [List.drop_eq_getElem_cons hk, List.getD_eq_getElem?_getD, List.getElem?_eq_getElem hk]; rfl
  have hr := Nm.val_nonneg (d.drop (k + 1))
  rw [e3] at e2
  simp only [Nm.val] at e2
  rw [Nm.pw_two] at e2
  generalize zs.getD k 0 = x at *
  generalize Nm.val (zs.drop (k + 1)) = r at *
  obtain ⟨X, rfl⟩ : ∃ X : Nat, x = X := ⟨x.toNat, by omega⟩
  obtain ⟨R, rfl⟩ : ∃ R : Nat, r = R := ⟨r.toNat, by omega⟩
  have e4 : (Nm.val zs).toNat = (X + 4294967296 * R) * 2 ^ (32 * k) := by
    rw [e2]
    have : (0 : Int) + ((2 ^ (32 * k) : Nat) : Int) * ((X : Int) + 4294967296 * (R : Int)) = (((X + 4294967296 * R) * 2 ^ (32 * k) : Nat) : Int) := by
      rw [Int.natCast_mul, Int.natCast_add, Int.natCast_mul, Int.mul_comm]; simp
    first | rw [this, Int.toNat_natCast] | (rw [Int.zero_add] at this; rw [Int.zero_add, this, Int.toNat_natCast])
  rw [e4, Nm.tz_up (by omega), Nm.tz_low (by omega) (by omega)]
  simp
  omega
def lzW (ng : Bool) (zs : List Int) : Int := if okB ng zs && !decide (zs.length = 0) then (Nm.tz (Nm.val zs).toNat : Int) else -1
theorem lz_impl (ng : Bool) (a : Option Addr) (cap : Nat) (zs : List Int) (w : World) (hT : Tb w 3 Lib.deBruijn32tab) (hs : Sl .u32 w (.slice a zs.length cap) zs) (hz : Nm.Dg zs) (hl : zs.length ≤ 1048576) :
    Calls Tryz.prog 182 #[.agg #[.bool ng, .slice a zs.length cap]] w fun e w' => e = .returned (.int .i64 (lzW ng zs)) ∧ Below w.heap.size w w' := by
  have hl' : zs.length ≤ 140737488355328 := by omega
  cases h1 : okB ng zs
  · have HR : Hid (lzW ng zs = -1) := hid (by unfold lzW; rw [h1]; rfl)
    go_enter Tryz.func182, Tryz.ntmps182
    go_wp2_with fail
    refine (ok_impl ng a cap zs _ (hs.alloc _) hl').mono ?_
    rintro e w1 ⟨rfl, hb1⟩
    go_wp2
    go_ret
    exact ⟨ret_int HR.out.symm, (by repeat (first | exact bz0 _ _ | refine bz1 ?_ | refine bz2 ?_ _ | refine bz3 ?_ _ | refine bz4 ?_ hb1 | refine bz5 ?_ _ | refine bz6 ?_ _ | refine bz7 ?_ hb1))⟩
  have HOK := hid h1
  go_enter Tryz.func182, Tryz.ntmps182
  go_wp2_with fail
  refine (ok_impl ng a cap zs _ (hs.alloc _) hl').mono ?_
  rintro e w1 ⟨rfl, hb1⟩
  obtain ⟨x10, x11⟩ := (Box.new w (.bool ng) (.slice a zs.length cap) 26).below hb1
  have s1 := (hs.alloc _).below hb1
  have hb : Below w.heap.size w w1 := (by repeat (first | exact bz0 _ _ | refine bz1 ?_ | refine bz2 ?_ _ | refine bz3 ?_ _ | refine bz4 ?_ hb1 | refine bz5 ?_ _ | refine bz6 ?_ _ | refine bz7 ?_ hb1))
  have hT1 := hT.below (by decide) hb
  clear hb1
  go_wp2_with fail
  obtain ⟨-, hx1, hx2, hx3⟩ := s1.cells
  go_loopw [11] (fun i wr => ∃ k : Nat, k ≤ zs.length ∧ i = .int .i64 k ∧ (∀ j, j < k → zs.getD j 0 = 0) ∧ wr = w1) (fun i _ => zs.length - (intOf i).toNat)
  case atStart => exact ⟨0, Nat.zero_le _, rfl, fun j hj => by omega, rfl⟩
  case round =>
    obtain ⟨k, hk, rfl, hpre, rfl⟩ := hrel
    have PRE := hid hpre
    clear hpre
    by_cases hlt : k < zs.length
    · obtain ⟨b, off, rfl, hc⟩ := hx3 (by omega)
      have h2 := hc k hlt
      clear hx3 hc
      have hdg := hz.getD k
      obtain ⟨x, hxk⟩ : ∃ x, x = zs.getD k 0 := ⟨_, rfl⟩
      rw [← hxk] at h2 hdg
      have HX := hid hxk
      clear hxk
      have hlt' : (k : Int) < (zs.length : Int) := by omega
      by_cases hx0 : x = 0
      · subst hx0
        go_wp2
        go_roundw
        case rel => exact ⟨k + 1, by omega, by go_num, fun j hj => by
          by_cases e : j = k
          · rw [e]; exact HX.out.symm
          · exact PRE.out j (by omega), (by first | rfl | trivial)⟩
        case measure => simp [intOf]; omega
      · have hne : (x != 0) = true := by rw [bne_iff_ne]; exact hx0
        have HR : Hid (lzW ng zs = 32 * (k : Int) + Nm.tz x.toNat) := hid (by
          unfold lzW; rw [HOK.out]
          have := tz_limbs hz hlt PRE.out (by rw [← HX.out]; exact hx0)
          rw [← HX.out] at this
          rw [decide_eq_false (show ¬ zs.length = 0 by omega)]
          exact this)
        have hxp : 0 < x := by omega
        have htz := (low_32 x hxp hdg.2).2
        clear hx0
        go_wp2_with fail
        refine (tz_32 x _ hT1 hxp hdg.2).mono ?_
        rintro e w2 ⟨rfl, rfl⟩
        go_wp2
        go_ret
        exact ⟨ret_int HR.out.symm, hb⟩
    · have hge : (zs.length : Int) ≤ (k : Int) := by omega
      have HR : Hid (lzW ng zs = -1) := hid (by
        unfold lzW; rw [HOK.out]
        by_cases hz0 : zs.length = 0
        · simp [hz0]
        · exfalso
          have hnz := (okB_nz HOK.out).1
          have := PRE.out (zs.length - 1) (by omega)
          refine hnz 0 ?_ rfl
          rw [List.getLast?_eq_getElem?, List.getElem?_eq_getElem (by omega)]
          rw [List.getD_eq_getElem?_getD, List.getElem?_eq_getElem (by omega)] at this
          simpa using this)
      clear hlt hx3
      go_wp2
      go_ret
      exact ⟨ret_int HR.out.symm, hb⟩
/-- A bit of a wide. -/
theorem lim_getD (a k : Nat) : (Nm.lim a).getD k 0 = ((a / 2 ^ (32 * k) % 4294967296 : Nat) : Int) := by
  induction k generalizing a with
  | zero =>
    by_cases h : a = 0
    · subst h; rw [Nm.lim_zero]; simp
    · rw [Nm.lim_pos h]; simp
  | succ k ih =>
    by_cases h : a = 0
    · subst h; rw [Nm.lim_zero]; simp
    · rw [Nm.lim_pos h, List.getD_cons_succ, ih, Nat.div_div_eq_div_mul]
      have : 4294967296 * 2 ^ (32 * k) = 2 ^ (32 * (k + 1)) := by
        rw [show 32 * (k + 1) = 32 + 32 * k by omega, Nat.pow_add]
      rw [this]
theorem bit_limb (a wh r : Nat) (hr : r < 32) : (Nm.lim a).getD wh 0 / ((2 ^ r : Nat) : Int) % 2 = ((a / 2 ^ (32 * wh + r) % 2 : Nat) : Int) := by
  rw [lim_getD]
  obtain ⟨k, hk⟩ : ∃ k, 32 = r + (k + 1) := ⟨31 - r, by omega⟩
  have e : 4294967296 = 2 ^ r * 2 ^ (k + 1) := by rw [← Nat.pow_add, ← hk]
  have h1 : a / 2 ^ (32 * wh) % 4294967296 / 2 ^ r % 2 = a / 2 ^ (32 * wh + r) % 2 := by
    rw [e, Nat.mod_mul_right_div_self, Nat.div_div_eq_div_mul, ← Nat.pow_add, Nat.pow_succ, Nat.mul_comm (2 ^ k) 2]
    exact Nat.mod_mul_right_mod _ 2 (2 ^ k)
  rw [← h1]; simp
end Go.Proofs.YtbhfbaogmkgmiaaGreatDoor
