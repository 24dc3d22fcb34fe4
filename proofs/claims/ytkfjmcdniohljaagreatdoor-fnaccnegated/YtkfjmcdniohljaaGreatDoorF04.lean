/-
  What is needed of Rnd, RndB.
-/
import Derived.Laws.MathBits
import Derived.Test.YtkfjmcdniohljaaGreatDoorF01
set_option maxHeartbeats 16000000
set_option maxRecDepth 1000000
namespace Go.Proofs.YtkfjmcdniohljaaGreatDoor
set_option linter.unusedVariables false
namespace Nm
theorem bl_le_iff (a k : Nat) : bitLen a ≤ k ↔ a < 2 ^ k := by
 have h := bitLen_spec a
 constructor
 ·intro hk
  exact Nat.lt_of_lt_of_le h.1 (Nat.pow_le_pow_right (by decide) hk)
 ·intro hk
  by_cases h0 : a = 0
  ·subst h0; simp [bitLen]
  ·have h1 := h.2 h0
   have h2 := Nat.lt_of_le_of_lt h1 hk
   have := (Nat.pow_lt_pow_iff_right (a := 2) (by decide)).1 h2
   omega
theorem bl_pos {a : Nat} (h : a ≠ 0) : 1 ≤ bitLen a := by unfold bitLen; rw [if_neg h]; omega
theorem bl_zero : bitLen 0 = 0 := rfl
theorem bl_mul {a : Nat} (h : a ≠ 0) (d : Nat) : bitLen (a * 2 ^ d) = bitLen a + d := by
 have e : a * 2 ^ d / 2 ^ d = a := Nat.mul_div_cancel _ (Nat.two_pow_pos d)
 have := bitLen_shift (a * 2 ^ d) d (by rw [e]; exact h)
 rw [this, e]; omega
theorem bl_mono {a b : Nat} (h : a ≤ b) : bitLen a ≤ bitLen b := (bl_le_iff a _).2 (Nat.lt_of_le_of_lt h (bitLen_spec b).1)
theorem bl_ge {a : Nat} (h : a ≠ 0) : 2 ^ (bitLen a - 1) ≤ a := (bitLen_spec a).2 h

def tz (a : Nat) : Nat := if a = 0 then 0 else if a % 2 = 1 then 0 else tz (a / 2) + 1
termination_by a
decreasing_by omega
theorem tz_odd {a : Nat} (h : a % 2 = 1) : tz a = 0 := by unfold tz; split <;> simp_all
theorem tz_even {a : Nat} (h0 : a ≠ 0) (h : a % 2 = 0) : tz a = tz (a / 2) + 1 := by rw [tz]; simp [h0, h]
def od (a : Nat) : Nat := a / 2 ^ tz a
theorem tz_spec (a : Nat) (h : a ≠ 0) : od a * 2 ^ tz a = a ∧ od a % 2 = 1 := by
 induction a using Nat.strongRecOn with
 | _ a ih =>
  unfold od
  rcases Nat.mod_two_eq_zero_or_one a with h2 | h2
  ·have := ih (a / 2) (by omega) (by omega)
   unfold od at this
   rw [tz_even h h2, Nat.pow_succ, Nat.mul_comm (2 ^ _) 2, ← Nat.div_div_eq_div_mul]
   refine ⟨?_, this.2⟩
   have e := this.1
   generalize a / 2 / 2 ^ tz (a / 2) = o at *
   have : o * (2 * 2 ^ tz (a / 2)) = 2 * (o * 2 ^ tz (a / 2)) := by rw [Nat.mul_left_comm]
   rw [this, e]; omega
  ·rw [tz_odd h2]; simp; exact h2
theorem od_pos {a : Nat} (h : a ≠ 0) : od a ≠ 0 := by have := (tz_spec a h).2; omega
theorem tz_mul {o : Nat} (ho : o % 2 = 1) (t : Nat) : tz (o * 2 ^ t) = t := by
 induction t with
 | zero => simpa using tz_odd ho
 | succ t ih =>
  have e : o * 2 ^ (t + 1) = 2 * (o * 2 ^ t) := by rw [Nat.pow_succ]; grind
  have hp := Nat.two_pow_pos t
  have h0 : o * 2 ^ t ≠ 0 := Nat.mul_ne_zero (by omega) (by omega)
  rw [e, tz_even (by omega) (by omega), Nat.mul_div_cancel_left _ (by decide), ih]
theorem mod_pow_zero {a : Nat} (h : a ≠ 0) (n : Nat) : a % 2 ^ n = 0 ↔ n ≤ tz a := by
 have hs := tz_spec a h
 constructor
 ·intro hz
  obtain ⟨c, hc⟩ := Nat.dvd_of_mod_eq_zero hz
  have hc0 : c ≠ 0 := by intro h0; subst h0; simp at hc; exact h hc
  have hc' := tz_spec c hc0
  have : a = od c * 2 ^ (tz c + n) := by rw [hc, Nat.pow_add, ← Nat.mul_assoc, hc'.1, Nat.mul_comm]
  rw [this, tz_mul hc'.2]; omega
 ·intro hn
  obtain ⟨k, hk⟩ := Nat.exists_eq_add_of_le hn
  have : a = 2 ^ n * (od a * 2 ^ k) := by
   have e := hs.1
   rw [hk, Nat.pow_add] at e
   rw [Nat.mul_left_comm]; exact e.symm
  rw [this]; exact Nat.mul_mod_right _ _

def sh (a : Nat) (n : Int) : Nat := if n < 0 then a / 2 ^ (-n).toNat else a * 2 ^ n.toNat
theorem shM_sh (a : Nat) (n : Int) : shM (a : Int) n = (sh a n : Nat) := by
 unfold shM sh
 split <;> simp
theorem shV_sh (a : Nat) (n : Int) : shV false (a : Int) n = (sh a n : Nat) := by unfold shV; simpa using shM_sh a n

def rn (P : Nat) (q : Int) (a : Nat) (e : Int) : Int := max ((bitLen a : Int) - P) (q - e)
def rm (P : Nat) (q : Int) (a : Nat) (e : Int) : Nat := sh a (- rn P q a e)
def rr (P : Nat) (q : Int) (a : Nat) (e : Int) : Nat := a % 2 ^ (rn P q a e).toNat
def cmp2 (x y : Nat) : Int := if x < y then -1 else if y < x then 1 else 0
def rh (P : Nat) (q : Int) (a : Nat) (e : Int) : Int := cmp2 (2 * rr P q a e) (2 ^ (rn P q a e).toNat)

theorem spec_x {a : Nat} (h : a ≠ 0) {e q : Int} : bitLen (sh a (e - min e q)) = bitLen a + (e - min e q).toNat ∧ sh a (e - min e q) = a * 2 ^ (e - min e q).toNat := by
 have e1 : sh a (e - min e q) = a * 2 ^ (e - min e q).toNat := by unfold sh; rw [if_neg (by omega)]
 rw [e1]; exact ⟨bl_mul h _, rfl⟩
theorem spec_cut {a : Nat} (h : a ≠ 0) (P : Nat) (e q : Int) : max ((bitLen (sh a (e - min e q)) : Int) - P) (q - min e q) = rn P q a e + (e - min e q) := by
 rw [(spec_x h).1]; unfold rn; omega
theorem pw_pos2 (n : Nat) : 0 < 2 ^ n := Nat.two_pow_pos n
theorem spec_m {a : Nat} (h : a ≠ 0) (P : Nat) (e q : Int) : sh (sh a (e - min e q)) (-(rn P q a e + (e - min e q))) = rm P q a e := by
 rw [(spec_x h).2]
 unfold rm
 have hq : q - e ≤ rn P q a e := by unfold rn; omega
 generalize rn P q a e = n at *
 obtain ⟨d, hd⟩ : ∃ d : Nat, e - min e q = d := ⟨(e - min e q).toNat, by omega⟩
 have hc : 0 ≤ n + d := by omega
 rw [hd]
 rw [Int.toNat_natCast]
 have hX : sh (a * 2 ^ d) (-(n + d)) = a * 2 ^ d / 2 ^ (n + d).toNat := by
  unfold sh
  by_cases h0 : n + (d : Int) = 0
  ·rw [if_neg (by omega), h0]; simp
  ·rw [if_pos (by omega), show (- -(n + (d : Int))).toNat = (n + d).toNat by omega]
 rw [hX]
 by_cases hn : 0 < n
 ·unfold sh
  rw [if_pos (by omega), show (- -n).toNat = n.toNat by omega, show (n + (d : Int)).toNat = d + n.toNat by omega, Nat.pow_add, Nat.mul_comm a, Nat.mul_div_mul_left _ _ (pw_pos2 d)]
 ·unfold sh
  rw [if_neg (by omega)]
  have : d = (-n).toNat + (n + (d : Int)).toNat := by omega
  generalize (n + (d : Int)).toNat = c at *
  rw [this, Nat.pow_add, ← Nat.mul_assoc, Nat.mul_div_cancel _ (pw_pos2 c)]
theorem spec_back {a : Nat} (h : a ≠ 0) (P : Nat) (e q : Int) :
  sh (rm P q a e) (rn P q a e + (e - min e q)) ≤ sh a (e - min e q) ∧ sh a (e - min e q) - sh (rm P q a e) (rn P q a e + (e - min e q)) = rr P q a e * 2 ^ (e - min e q).toNat := by
 have hm := spec_m h P e q
 have hq : q - e ≤ rn P q a e := by unfold rn; omega
 have hc : 0 ≤ rn P q a e + (e - min e q) := by omega
 rw [← hm, (spec_x h).2]
 unfold rr
 generalize rn P q a e = n at *
 obtain ⟨d, hd⟩ : ∃ d : Nat, e - min e q = d := ⟨(e - min e q).toNat, by omega⟩
 rw [hd] at hc ⊢
 rw [Int.toNat_natCast]
 have hX : sh (a * 2 ^ d) (-(n + d)) = a * 2 ^ d / 2 ^ (n + d).toNat := by
  unfold sh
  by_cases h0 : n + (d : Int) = 0
  ·rw [if_neg (by omega), h0]; simp
  ·rw [if_pos (by omega), show (- -(n + (d : Int))).toNat = (n + d).toNat by omega]
 have hY : ∀ y, sh y (n + (d : Int)) = y * 2 ^ (n + (d : Int)).toNat := fun y => by unfold sh; rw [if_neg (by omega)]
 rw [hX, hY]
 have hdm := Nat.div_add_mod (a * 2 ^ d) (2 ^ (n + (d : Int)).toNat)
 rw [Nat.mul_comm] at hdm
 refine ⟨by omega, ?_⟩
 have : a * 2 ^ d - a * 2 ^ d / 2 ^ (n + (d : Int)).toNat * 2 ^ (n + (d : Int)).toNat = a * 2 ^ d % 2 ^ (n + (d : Int)).toNat := by omega
 rw [this]
 by_cases hn : 0 ≤ n
 ·rw [show (n + (d : Int)).toNat = n.toNat + d by omega, Nat.pow_add, Nat.mul_mod_mul_right]
 ·rw [show n.toNat = 0 by omega]
  have : d = (-n).toNat + (n + (d : Int)).toNat := by omega
  generalize (n + (d : Int)).toNat = c at *
  rw [this, Nat.pow_add, ← Nat.mul_assoc, Nat.mul_mod_left]; simp [Nat.mod_one]
theorem rr_pos {P : Nat} {q : Int} {a : Nat} {e : Int} (h : rr P q a e ≠ 0) : 1 ≤ rn P q a e := by
 unfold rr at h
 by_cases hn : 1 ≤ rn P q a e
 ·exact hn
 ·rw [show (rn P q a e).toNat = 0 by omega] at h; simp [Nat.mod_one] at h
theorem cmp2_mul (x y : Nat) (d : Nat) : cmp2 (x * 2 ^ d) (y * 2 ^ d) = cmp2 x y := by
 unfold cmp2
 simp only [Nat.mul_lt_mul_right (pw_pos2 d)]
theorem spec_half {a : Nat} (h : a ≠ 0) {P : Nat} {e q : Int} (hr : rr P q a e ≠ 0) :
  cmp2 (sh (rr P q a e * 2 ^ (e - min e q).toNat) 1) (sh 1 (rn P q a e + (e - min e q))) = rh P q a e := by
 have hn := rr_pos hr
 unfold rh
 generalize rn P q a e = n at *
 generalize rr P q a e = r at *
 obtain ⟨d, hd⟩ : ∃ d : Nat, e - min e q = d := ⟨(e - min e q).toNat, by omega⟩
 rw [hd, Int.toNat_natCast]
 have e1 : sh (r * 2 ^ d) 1 = 2 * r * 2 ^ d := by unfold sh; rw [if_neg (by decide)]; simp; grind
 have e2 : sh 1 (n + (d : Int)) = 2 ^ n.toNat * 2 ^ d := by
  unfold sh; rw [if_neg (by omega), show (n + (d : Int)).toNat = n.toNat + d by omega, Nat.pow_add]; simp
 rw [e1, e2, cmp2_mul]
theorem rr_tz {P : Nat} {q : Int} {a : Nat} {e : Int} (h : a ≠ 0) : rr P q a e = 0 ↔ rn P q a e ≤ tz a := by
 unfold rr; rw [mod_pow_zero h]; omega
theorem impl_half {P : Nat} {q : Int} {a : Nat} {e : Int} (h : a ≠ 0) (hr : rr P q a e ≠ 0) :
  rh P q a e = if (tz a : Int) = rn P q a e - 1 then 0 else if a / 2 ^ (rn P q a e - 1).toNat % 2 = 1 then 1 else -1 := by
 have hn := rr_pos hr
 have ht : ¬ rn P q a e ≤ tz a := fun hh => hr ((rr_tz h).2 hh)
 unfold rh rr
 generalize rn P q a e = n at *
 obtain ⟨k, hk⟩ : ∃ k : Nat, n = k + 1 := ⟨(n - 1).toNat, by omega⟩
 subst hk
 rw [show ((k : Int) + 1).toNat = k + 1 by omega, show ((k : Int) + 1 - 1).toNat = k by omega]
 have hp := pw_pos2 k
 have hmod : a % 2 ^ (k + 1) = a % 2 ^ k + 2 ^ k * (a / 2 ^ k % 2) := by rw [Nat.pow_succ, Nat.mod_mul]
 have hlt : a % 2 ^ k < 2 ^ k := Nat.mod_lt _ hp
 have hz := mod_pow_zero h k
 have hps : 2 ^ (k + 1) = 2 * 2 ^ k := by rw [Nat.pow_succ]; omega
 rw [hmod, hps]
 unfold cmp2
 by_cases hc : tz a = k
 ·have hk0 : a % 2 ^ k = 0 := hz.2 (by omega)
  have hodd : a / 2 ^ k % 2 = 1 := by have := (tz_spec a h).2; unfold od at this; rwa [hc] at this
  rw [if_pos (show (tz a : Int) = (k : Int) + 1 - 1 by omega), hk0, hodd, if_neg (by omega), if_neg (by omega)]
 ·rw [if_neg (show ¬ (tz a : Int) = (k : Int) + 1 - 1 by omega)]
  have hk0 : a % 2 ^ k ≠ 0 := fun h0 => by have := hz.1 h0; omega
  rcases Nat.mod_two_eq_zero_or_one (a / 2 ^ k) with h2 | h2
  ·rw [h2, if_pos (by omega), if_neg (by decide)]
  ·rw [h2, if_neg (by omega), if_pos (by omega), if_pos rfl]
theorem rm_lt {P : Nat} {q : Int} {a : Nat} {e : Int} : rm P q a e < 2 ^ P := by
 have hb := (bitLen_spec a).1
 have hn : (bitLen a : Int) - P ≤ rn P q a e := by unfold rn; omega
 unfold rm sh
 generalize rn P q a e = n at *
 split
 ·rename_i hlt
  rw [Nat.div_lt_iff_lt_mul (pw_pos2 _), ← Nat.pow_add]
  exact Nat.lt_of_lt_of_le hb (Nat.pow_le_pow_right (by decide) (by omega))
 ·have h1 : a * 2 ^ (-n).toNat < 2 ^ bitLen a * 2 ^ (-n).toNat := Nat.mul_lt_mul_of_pos_right hb (pw_pos2 _)
  rw [← Nat.pow_add] at h1
  exact Nat.lt_of_lt_of_le h1 (Nat.pow_le_pow_right (by decide) (by omega))
theorem rm_ge {P : Nat} {q : Int} {a : Nat} {e : Int} (h : a ≠ 0) (hP : 1 ≤ P) (hn : q - e < rn P q a e) : 2 ^ (P - 1) ≤ rm P q a e := by
 have hb := bl_ge h
 have hb1 := bl_pos h
 have hn : (bitLen a : Int) - P = rn P q a e := by unfold rn at hn ⊢; omega
 unfold rm sh
 generalize rn P q a e = n at *
 split
 ·rw [Nat.le_div_iff_mul_le (pw_pos2 _), ← Nat.pow_add]
  exact Nat.le_trans (Nat.pow_le_pow_right (by decide) (by omega)) hb
 ·refine Nat.le_trans ?_ (Nat.mul_le_mul_right _ hb)
  rw [← Nat.pow_add]
  exact Nat.pow_le_pow_right (by decide) (by omega)
def flb (P : Nat) (u : Nat) : Nat := if 2 ^ (P - 1) ≤ u / 2 ^ (bitLen u - P) then u / 2 ^ (bitLen u - P) + (bitLen u - P) * 2 ^ (P - 1) else u / 2 ^ (bitLen u - P)
def flo (P : Nat) (I : Nat) (u : Nat) : Bool := decide (bitLen u - P ≤ 2100) && decide (u / 2 ^ (bitLen u - P) * 2 ^ (bitLen u - P) = u) && decide (flb P u < I)
theorem flm_lt (P u : Nat) : u / 2 ^ (bitLen u - P) < 2 ^ P := by
 have hb := (bitLen_spec u).1
 rw [Nat.div_lt_iff_lt_mul (pw_pos2 _), ← Nat.pow_add]
 exact Nat.lt_of_lt_of_le hb (Nat.pow_le_pow_right (by decide) (by omega))
def stSp (P : Nat) (m : Nat) : Int := (P : Int) - bitLen (od m)
def stUp (P : Nat) (q : Int) (m : Nat) (e : Int) : Int := min (stSp P m) (e + tz m - q)
def stE (P : Nat) (q : Int) (m : Nat) (e : Int) : Int := e + tz m - stUp P q m e
def stM (P : Nat) (q : Int) (m : Nat) (e : Int) : Nat := od m * 2 ^ (stUp P q m e).toNat
def stIn (P : Nat) (q : Int) (m : Nat) (e : Int) : Bool := decide (0 ≤ stSp P m) && decide (q ≤ e + tz m)
def stOk (P : Nat) (q : Int) (ones : Int) (m : Nat) (e : Int) : Bool := stIn P q m e && decide (stE P q m e - q < ones - 1)
def stU (q : Int) (m : Nat) (e : Int) : Nat := od m * 2 ^ (e + tz m - q).toNat
theorem st_in {P : Nat} {q : Int} {m : Nat} {e : Int} (h : stIn P q m e = true) : 0 ≤ stSp P m ∧ q ≤ e + tz m := by simpa [stIn] using h
theorem st_bl {P : Nat} {q : Int} {m : Nat} {e : Int} (h : m ≠ 0) (hi : stIn P q m e = true) : ((bitLen (stU q m e) - P : Nat) : Int) = stE P q m e - q ∧ 0 ≤ stE P q m e - q ∧ 0 ≤ stUp P q m e := by
 obtain ⟨h1, h2⟩ := st_in hi
 have hb : bitLen (stU q m e) = bitLen (od m) + (e + tz m - q).toNat := bl_mul (od_pos h) _
 unfold stE stUp at *
 unfold stSp at *
 omega
theorem st_m {P : Nat} {q : Int} {m : Nat} {e : Int} (h : m ≠ 0) (hi : stIn P q m e = true) : stU q m e / 2 ^ (bitLen (stU q m e) - P) = stM P q m e ∧ stM P q m e * 2 ^ (bitLen (stU q m e) - P) = stU q m e := by
 obtain ⟨hk, h0, hu⟩ := st_bl h hi
 obtain ⟨h1, h2⟩ := st_in hi
 have e2 : stM P q m e * 2 ^ (bitLen (stU q m e) - P) = stU q m e := by
  generalize bitLen (stU q m e) - P = k at *
  unfold stM stU
  rw [Nat.mul_assoc, ← Nat.pow_add]
  congr 2
  unfold stE at *
  omega
 refine ⟨?_, e2⟩
 generalize bitLen (stU q m e) - P = k at *
 rw [← e2, Nat.mul_div_cancel _ (pw_pos2 k)]
theorem st_ge {P : Nat} {q : Int} {m : Nat} {e : Int} (h : m ≠ 0) (hi : stIn P q m e = true) (hP : 1 ≤ P) (hk : 0 < stE P q m e - q) : 2 ^ (P - 1) ≤ stM P q m e := by
 obtain ⟨h1, h2⟩ := st_in hi
 have hb := bl_ge (od_pos h)
 have hb1 := bl_pos (od_pos h)
 have hup : stUp P q m e = stSp P m := by unfold stE stUp at *; omega
 unfold stM
 rw [hup]
 unfold stSp at *
 refine Nat.le_trans ?_ (Nat.mul_le_mul_right _ hb)
 rw [← Nat.pow_add]
 exact Nat.pow_le_pow_right (by decide) (by omega)
theorem stM_lt {P : Nat} {q : Int} {m : Nat} {e : Int} (h : m ≠ 0) (hi : stIn P q m e = true) : stM P q m e < 2 ^ P := by
 have := flm_lt P (stU q m e)
 rwa [(st_m h hi).1] at this
theorem st_b {P : Nat} {q : Int} {m : Nat} {e : Int} (h : m ≠ 0) (hi : stIn P q m e = true) (hP : 1 ≤ P) : (flb P (stU q m e) : Int) = stM P q m e + (stE P q m e - q) * (2 ^ (P - 1) : Nat) := by
 obtain ⟨hk, h0, hu⟩ := st_bl h hi
 have hg := st_ge h hi hP
 unfold flb
 rw [(st_m h hi).1]
 generalize bitLen (stU q m e) - P = k at *
 rw [← hk]
 split
 ·simp
 ·by_cases hk0 : k = 0
  ·subst hk0; simp
  ·exact absurd (hg (by omega)) (by omega)
theorem st_o {P : Nat} {q ones : Int} {I : Nat} {m : Nat} {e : Int} (h : m ≠ 0) (hi : stIn P q m e = true) (hP : 1 ≤ P) (hI : (I : Int) = ones * (2 ^ (P - 1) : Nat)) (ho : 3 ≤ ones) (ho2 : ones ≤ 2100) :
  flo P I (stU q m e) = decide (stE P q m e - q < ones - 1) := by
 obtain ⟨hk, h0, hu⟩ := st_bl h hi
 have hg := st_ge h hi hP
 have hb := st_b h hi hP
 have hm := st_m h hi
 have hlt := stM_lt h hi
 have hL := pw_pos2 (P - 1)
 have h2L : 2 ^ P = 2 * 2 ^ (P - 1) := by rw [← Nat.pow_succ']; congr 1; omega
 unfold flo
 rw [hm.1, decide_eq_true hm.2, Bool.and_true]
 generalize bitLen (stU q m e) - P = k at *
 generalize stE P q m e - q = K at *
 subst hk
 have hIb : (flb P (stU q m e) < I) ↔ ((k : Int) < ones - 1) := by
  have hcast : (flb P (stU q m e) < I) ↔ ((flb P (stU q m e) : Int) < (I : Int)) := by omega
  rw [hcast, hb, hI]
  generalize stM P q m e = M at *
  generalize 2 ^ (P - 1) = L at *
  constructor
  ·intro hlt'
   by_cases hc : (k : Int) < ones - 1
   ·exact hc
   ·exfalso
    have hg' := hg (by omega)
    have : ones * (L : Int) ≤ ((k : Int) + 1) * L := Int.mul_le_mul_of_nonneg_right (by omega) (by omega)
    grind
  ·intro hc
   have : ((k : Int) + 2) * (L : Int) ≤ ones * L := Int.mul_le_mul_of_nonneg_right (by omega) (by omega)
   grind
 rw [Bool.eq_iff_iff]
 simp only [Bool.and_eq_true, decide_eq_true_eq, hIb]
 omega
theorem stU_of {q : Int} {m : Nat} {e : Int} (h : m ≠ 0) (hq : q ≤ e) : m * 2 ^ (e - q).toNat = stU q m e := by
 unfold stU
 have hs := (tz_spec m h).1
 rw [show (e + (tz m : Int) - q).toNat = tz m + (e - q).toNat by omega, Nat.pow_add, ← Nat.mul_assoc, hs]
theorem st_in_of {P : Nat} {q : Int} {m : Nat} {e : Int} (h : m ≠ 0) (hm : m ≤ 2 ^ P) (hP : 1 ≤ P) (hq : q ≤ e) : stIn P q m e = true := by
 have hs := tz_spec m h
 unfold stIn
 rw [Bool.and_eq_true, decide_eq_true_eq, decide_eq_true_eq]
 refine ⟨?_, by omega⟩
 unfold stSp
 have : bitLen (od m) ≤ P := by
  by_cases he : m = 2 ^ P
  ·have : od m = 1 := by
    have ht : tz m = P := by rw [he]; simpa using tz_mul (o := 1) rfl P
    unfold od; rw [ht, he]; exact Nat.div_self (pw_pos2 P)
   rw [this]; exact hP
  ·refine (bl_le_iff _ _).2 (Nat.lt_of_le_of_lt ?_ (show m < 2 ^ P by omega))
   unfold od; exact Nat.div_le_self _ _
 omega
def r1 (P : Nat) (q : Int) (a : Nat) (e : Int) (up : Bool) : Nat := if rr P q a e ≠ 0 ∧ up = true then rm P q a e + 1 else rm P q a e
def rU (P : Nat) (q : Int) (a : Nat) (e : Int) (up : Bool) : Nat := r1 P q a e up * 2 ^ (rn P q a e + e - q).toNat
theorem r1_le {P : Nat} {q : Int} {a : Nat} {e : Int} (up : Bool) : r1 P q a e up ≤ 2 ^ P := by
 have := rm_lt (P := P) (q := q) (a := a) (e := e)
 unfold r1; split <;> omega
theorem big_no {P I : Nat} {q : Int} {a : Nat} {e : Int} {up : Bool} (h : a ≠ 0) (hP : 1 ≤ P) (hq : -2000 ≤ q) (hq0 : q ≤ 0) (hP2 : P ≤ 100) (hs : 5000 < rn P q a e + e) : flo P I (rU P q a e up) = false := by
 have hm := rm_ge (P := P) (q := q) (e := e) h hP (by omega)
 have h1 : 1 ≤ r1 P q a e up := by
  have := pw_pos2 (P - 1)
  unfold r1; split <;> omega
 have hb : bitLen (rU P q a e up) = bitLen (r1 P q a e up) + (rn P q a e + e - q).toNat := bl_mul (by omega) _
 have : ¬ bitLen (rU P q a e up) - P ≤ 2100 := by omega
 unfold flo
 rw [decide_eq_false this]; rfl
theorem r_in {P : Nat} {q : Int} {a : Nat} {e : Int} {up : Bool} (hP : 1 ≤ P) (h1 : r1 P q a e up ≠ 0) : stIn P q (r1 P q a e up) (rn P q a e + e) = true := by
 have hq : q - e ≤ rn P q a e := by unfold rn; omega
 exact st_in_of h1 (r1_le up) hP (by omega)
theorem r_U {P : Nat} {q : Int} {a : Nat} {e : Int} {up : Bool} (h1 : r1 P q a e up ≠ 0) : rU P q a e up = stU q (r1 P q a e up) (rn P q a e + e) := by
 have hq : q - e ≤ rn P q a e := by unfold rn; omega
 exact stU_of h1 (by omega)
theorem r_zero {P I : Nat} {q : Int} {a : Nat} {e : Int} {up : Bool} (h1 : r1 P q a e up = 0) (hI : 0 < I) : flo P I (rU P q a e up) = true ∧ flb P (rU P q a e up) = 0 := by
 unfold rU; rw [h1, Nat.zero_mul]
 have : flb P 0 = 0 := by
  unfold flb; rw [bl_zero]
  have := pw_pos2 (P - 1)
  simp
 refine ⟨?_, this⟩
 unfold flo; rw [this, bl_zero]; simp [hI]
theorem parts_in {P : Nat} {q : Int} {m : Nat} {e : Int} (h : m ≠ 0) : stIn P q m e = decide (rr P q m e = 0) := by
 have hs := tz_spec m h
 have hb : bitLen m = bitLen (od m) + tz m := by
  have := bl_mul (od_pos h) (tz m); rwa [hs.1] at this
 rw [Bool.eq_iff_iff, decide_eq_true_eq, rr_tz h]
 unfold stIn stSp rn
 rw [Bool.and_eq_true, decide_eq_true_eq, decide_eq_true_eq]
 omega
theorem parts_U {P : Nat} {q : Int} {m : Nat} {e : Int} (h : m ≠ 0) (hr : rr P q m e = 0) (up : Bool) : rU P q m e up = stU q m e := by
 have hn := (rr_tz (P := P) (q := q) (e := e) h).1 hr
 have hq : q - e ≤ rn P q m e := by unfold rn; omega
 have hs := (tz_spec m h).1
 unfold rU r1 stU
 rw [if_neg (by simp [hr])]
 unfold rm
 generalize rn P q m e = n at *
 have e1 : sh m (-n) = od m * 2 ^ ((tz m : Int) - n).toNat := by
  unfold sh
  split
  ·rw [show (- -n).toNat = n.toNat by omega]
   have : m = od m * 2 ^ ((tz m : Int) - n).toNat * 2 ^ n.toNat := by
    rw [Nat.mul_assoc, ← Nat.pow_add, show ((tz m : Int) - n).toNat + n.toNat = tz m by omega]; exact hs.symm
   exact (congrArg (fun z => z / 2 ^ n.toNat) this).trans (Nat.mul_div_cancel _ (pw_pos2 _))
  ·rw [show ((tz m : Int) - n).toNat = tz m + (-n).toNat by omega, Nat.pow_add, ← Nat.mul_assoc, hs]
 rw [e1, Nat.mul_assoc, ← Nat.pow_add]
 congr 2
 omega
end Nm
end Go.Proofs.YtkfjmcdniohljaaGreatDoor
