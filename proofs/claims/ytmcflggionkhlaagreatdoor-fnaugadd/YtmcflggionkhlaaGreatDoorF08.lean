/-
  What is needed of ModeA, WideF, NumsE, NumsF, Rnd.
-/
import Derived.Laws.MathBits
import Derived.Test.YtmcflggionkhlaaGreatDoorF01
import Derived.Test.YtmcflggionkhlaaGreatDoorF02
set_option maxHeartbeats 16000000
set_option maxRecDepth 1000000
namespace Go.Proofs.YtmcflggionkhlaaGreatDoor
set_option linter.unusedVariables false
set_option linter.unusedSimpArgs false
open Go.RowKit
/-- Whether a number is a mode. -/
def modeB (m : Int) : Bool := decide (0 ≤ m) && decide (m ≤ 5)
/-- Whether a number lies between two. -/
def inB (n lo hi : Int) : Bool := decide (lo ≤ n) && decide (n ≤ hi)
theorem in_spec (n lo hi : Int) (w : World) :
    Calls Tryz.prog 179 #[.int .i64 n, .int .i64 lo, .int .i64 hi] w fun e w' => e = .returned (.bool (inB n lo hi)) ∧ w' = w := by
  by_cases h1 : lo ≤ n
  · by_cases h2 : n ≤ hi
    · have HR : Hid (inB n lo hi = true) := hid (by simp [inB, h1, h2])
      go_enter Tryz.func179, Tryz.ntmps179
      go_wp2
      go_ret
      exact ⟨ret_bool HR.out.symm, rfl⟩
    · have HR : Hid (inB n lo hi = false) := hid (by simp [inB, h1, h2])
      go_enter Tryz.func179, Tryz.ntmps179
      go_wp2
      go_ret
      exact ⟨ret_bool HR.out.symm, rfl⟩
  · have HR : Hid (inB n lo hi = false) := hid (by simp [inB, h1])
    go_enter Tryz.func179, Tryz.ntmps179
    go_wp2
    go_ret
    exact ⟨ret_bool HR.out.symm, rfl⟩
theorem mode_spec (m : Int) (w : World) :
    Calls Tryz.prog 142 #[.int .i64 m] w fun e w' => e = .returned (.bool (modeB m)) ∧ w' = w := by
  go_enter Tryz.func142, Tryz.ntmps142
  go_wp2_with fail
  refine (in_spec m 0 5 _).mono ?_
  rintro e w1 ⟨rfl, rfl⟩
  go_wp2
  go_ret
  exact ⟨rfl, rfl⟩
theorem mode_impl (m : Int) (w : World) :
    Calls Tryz.prog 157 #[.int .i64 m] w fun e w' => e = .returned (.bool (modeB m)) ∧ w' = w := by
  by_cases h1 : 0 ≤ m
  · by_cases h2 : m ≤ 5
    · have HR : Hid (modeB m = true) := hid (by simp [modeB, h1, h2])
      go_enter Tryz.func157, Tryz.ntmps157
      go_wp2
      go_ret
      exact ⟨ret_bool HR.out.symm, rfl⟩
    · have HR : Hid (modeB m = false) := hid (by simp [modeB, h1, h2])
      go_enter Tryz.func157, Tryz.ntmps157
      go_wp2
      go_ret
      exact ⟨ret_bool HR.out.symm, rfl⟩
  · have HR : Hid (modeB m = false) := hid (by simp [modeB, h1])
    go_enter Tryz.func157, Tryz.ntmps157
    go_wp2
    go_ret
    exact ⟨ret_bool HR.out.symm, rfl⟩
end Go.Proofs.YtmcflggionkhlaaGreatDoor
namespace Go.Proofs.YtmcflggionkhlaaGreatDoor
set_option linter.unusedVariables false
set_option linter.unusedSimpArgs false
open Go.RowKit Go.Deep
theorem wrap_small (t : Int) (h0 : 0 ≤ t) (h1 : t ≤ 1000) : wrap64 t = t := IntWalk.wrap64_in t ⟨by omega, by omega⟩
theorem bitLen_div (x : Int) (k : Nat) (h0 : 0 ≤ x) (hx : x / (2 ^ k : Nat) ≠ 0) : bitLen x.toNat = k + bitLen (x / (2 ^ k : Nat)).toNat := by
  obtain ⟨n, rfl⟩ := Int.eq_ofNat_of_zero_le h0
  have e : (((n : Int) / (2 ^ k : Nat)).toNat) = n / 2 ^ k := by rw [← Int.natCast_ediv]; exact Int.toNat_natCast _
  rw [e]
  simp only [Int.toNat_natCast]
  apply bitLen_shift
  intro h
  apply hx
  rw [← Int.natCast_ediv, h]; rfl
theorem wrap_two (c t : Int) (h0 : 0 ≤ c) (h1 : c ≤ 100) (t0 : 0 ≤ t) (t1 : t ≤ 8) : wrap64 (c + wrap64 t) = c + t := by rw [wrap_small t t0 (by omega), wrap_small _ (by omega) (by omega)]
theorem bl_le (i : Nat) (h : i < 256) : (bitLen i : Int) ≤ 8 := by have := bitLen_le8 i h; omega

theorem len32_any (x : Int) (w : World) (h0 : 0 ≤ x) (h1 : x < 4294967296) :
    Calls Tryz.prog 206 #[.int .u32 x] w fun e w' => e = .returned (.int .i64 (bitLen x.toNat)) ∧ w' = w := by
  by_cases c2 : 65536 ≤ x
  · by_cases c1 : 256 ≤ x / 65536
    · have HB : Hid ((bitLen x.toNat : Int) = 24 + bitLen (x / 65536 / 256).toNat) := hid (by
        have h := bitLen_div x 24 h0 (by simp; omega)
        rw [h, show (x / ((2 ^ 24 : Nat) : Int)) = x / 65536 / 256 by first | (simp; done) | (simp; omega)]; simp)
      have HL := hid (bl_le (x / 65536 / 256).toNat (by omega))
      go_enter Tryz.func206, Tryz.ntmps206
      go_wp2
      go_ret
      refine ⟨ret_int ?_, rfl⟩
      simp only [len8tab_get]
      rw [wrap_two _ _ (by decide) (by decide) (by omega) HL.out, HB.out]
    · have HB : Hid ((bitLen x.toNat : Int) = 16 + bitLen (x / 65536).toNat) := hid (by
        have h := bitLen_div x 16 h0 (by simp; omega)
        rw [h, show (x / ((2 ^ 16 : Nat) : Int)) = x / 65536 by first | (simp; done) | (simp; omega)]; simp)
      have HL := hid (bl_le (x / 65536).toNat (by omega))
      go_enter Tryz.func206, Tryz.ntmps206
      go_wp2
      go_ret
      refine ⟨ret_int ?_, rfl⟩
      simp only [len8tab_get]
      rw [wrap_two _ _ (by decide) (by decide) (by omega) HL.out, HB.out]
  · by_cases c1 : 256 ≤ x
    · have HB : Hid ((bitLen x.toNat : Int) = 8 + bitLen (x / 256).toNat) := hid (by
        have h := bitLen_div x 8 h0 (by simp; omega)
        rw [h, show (x / ((2 ^ 8 : Nat) : Int)) = x / 256 by first | (simp; done) | (simp; omega)]; simp)
      have HL := hid (bl_le (x / 256).toNat (by omega))
      go_enter Tryz.func206, Tryz.ntmps206
      go_wp2
      go_ret
      refine ⟨ret_int ?_, rfl⟩
      simp only [len8tab_get]
      rw [wrap_two _ _ (by decide) (by decide) (by omega) HL.out, HB.out]
    · have HL := hid (bl_le x.toNat (by omega))
      go_enter Tryz.func206, Tryz.ntmps206
      go_wp2
      go_ret
      refine ⟨ret_int ?_, rfl⟩
      simp only [len8tab_get]
      have h8 := HL.out
      rw [wrap_small (wrap64 _) (by rw [wrap_small _ (by omega) (by omega)]; omega) (by rw [wrap_small _ (by omega) (by omega)]; omega), wrap_small _ (by omega) (by omega)]
end Go.Proofs.YtmcflggionkhlaaGreatDoor
namespace Go.Proofs.YtmcflggionkhlaaGreatDoor
set_option linter.unusedVariables false
namespace Nm
/-- Compared from the top down. -/
def cmpF (xs ys : List Int) : Nat → Int
  | 0 => 0
  | n + 1 => if xs.getD n 0 < ys.getD n 0 then -1 else if ys.getD n 0 < xs.getD n 0 then 1 else cmpF xs ys n
def cmpB (xs ys : List Int) : Int := if xs.length < ys.length then -1 else if ys.length < xs.length then 1 else cmpF xs ys xs.length
theorem val_take_lt {xs : List Int} (d : Dg xs) (n : Nat) : 0 ≤ val (xs.take n) ∧ val (xs.take n) < pw n := by
  refine ⟨val_nonneg (d.take n), ?_⟩
  have h1 := val_lt (d.take n)
  have h2 := pw_mono (show (xs.take n).length ≤ n by simp; omega)
  omega
theorem mul_step {p u v : Int} (hp : 1 ≤ p) (h : u < v) : p * u + p ≤ p * v := by
  have : p * (u + 1) ≤ p * v := Int.mul_le_mul_of_nonneg_left (by omega) (by omega)
  rw [Int.mul_add] at this; omega
theorem cmpF_val {xs ys : List Int} (dx : Dg xs) (dy : Dg ys) (n : Nat) : (cmpF xs ys n < 0 ↔ val (xs.take n) < val (ys.take n)) ∧ (0 < cmpF xs ys n ↔ val (ys.take n) < val (xs.take n)) := by
  induction n with
  | zero => simp [cmpF]
  | succ n ih =>
    rw [val_take_succ, val_take_succ]
    have h1 := val_take_lt dx n
    have h2 := val_take_lt dy n
    have hp := pw_pos n
    simp only [cmpF]
    by_cases c1 : xs.getD n 0 < ys.getD n 0
    · have := mul_step hp c1
      rw [if_pos c1]; constructor <;> constructor <;> intro _ <;> omega
    · rw [if_neg c1]
      by_cases c2 : ys.getD n 0 < xs.getD n 0
      · have := mul_step hp c2
        rw [if_pos c2]; constructor <;> constructor <;> intro _ <;> omega
      · rw [if_neg c2, show xs.getD n 0 = ys.getD n 0 by omega]
        constructor
        · rw [ih.1]; omega
        · rw [ih.2]; omega
theorem val_len_lt {xs ys : List Int} (dx : Dg xs) (dy : Dg ys) (ny : Nz ys) (h : xs.length < ys.length) : val xs < val ys := by
  have h1 := val_lt dx
  have h2 : ¬ val ys < pw xs.length := fun h' => by have := (length_le_iff dy ny xs.length).2 h'; omega
  omega
theorem cmpB_val {xs ys : List Int} (dx : Dg xs) (dy : Dg ys) (nx : Nz xs) (ny : Nz ys) : (cmpB xs ys < 0 ↔ val xs < val ys) ∧ (0 < cmpB xs ys ↔ val ys < val xs) := by
  unfold cmpB
  by_cases c1 : xs.length < ys.length
  · have := val_len_lt dx dy ny c1
    rw [if_pos c1]; constructor <;> constructor <;> intro _ <;> omega
  · rw [if_neg c1]
    by_cases c2 : ys.length < xs.length
    · have := val_len_lt dy dx nx c2
      rw [if_pos c2]; constructor <;> constructor <;> intro _ <;> omega
    · rw [if_neg c2]
      have h := cmpF_val dx dy xs.length
      rwa [List.take_of_length_le (Nat.le_refl _), List.take_of_length_le (l := ys) (by omega)] at h
theorem len_le_of_val {xs ys : List Int} (dx : Dg xs) (dy : Dg ys) (ny : Nz ys) (h : val ys ≤ val xs) : ys.length ≤ xs.length := by
  have := val_lt dx
  exact (length_le_iff dy ny xs.length).2 (by omega)
/-- The sum of two wides, with one sign or with two. -/
theorem wv_same {n : Bool} {xs ys os : List Int} (h : val os = val xs + val ys) : wv n xs + wv n ys = wv n os := by
  unfold wv; cases n <;> simp <;> omega
theorem wv_less {n m : Bool} {xs ys os : List Int} (hn : (n == m) = false) (h : val os = val xs - val ys) : wv n xs + wv m ys = wv n os := by
  unfold wv; cases n <;> cases m <;> simp at hn ⊢ <;> omega
theorem wv_less' {n m : Bool} {xs ys os : List Int} (hn : (n == m) = false) (h : val os = val ys - val xs) : wv n xs + wv m ys = wv m os := by
  unfold wv; cases n <;> cases m <;> simp at hn ⊢ <;> omega
/-- m times 2 to the n, cut. (m is not below 0.) -/
def shM (m n : Int) : Int := if n < 0 then m / (2 : Int) ^ (-n).toNat else m * (2 : Int) ^ n.toNat
/-- A wide's value shifted: towards 0. -/
def shV (ng : Bool) (m n : Int) : Int := if ng then - shM m n else shM m n
theorem pw_pow (n : Nat) : pw n = (2 : Int) ^ (32 * n) := by rw [pw_two]; simp
theorem shM_up {m n : Int} {wh r : Nat} (h0 : 0 ≤ n) (hq : n / 32 = (wh : Int)) (hm : n % 32 = (r : Int)) : pw wh * ((2 : Int) ^ r * m) = shM m n := by
  unfold shM
  rw [if_neg (by omega), pw_pow, show n.toNat = 32 * wh + r by omega, Int.pow_add, Int.mul_comm m, Int.mul_assoc]
theorem shM_down {m n : Int} {wh r : Nat} (h0 : n < 0) (hq : -n / 32 = (wh : Int)) (hm : -n % 32 = (r : Int)) : m / pw wh / (2 : Int) ^ r = shM m n := by
  unfold shM
  have hp := pw_pos wh
  rw [if_pos h0, show (-n).toNat = 32 * wh + r by omega, Int.pow_add, ← pw_pow, Int.ediv_ediv_of_nonneg (by omega)]
theorem shV_wv {ng : Bool} {m n : Int} {os : List Int} (h : val os = shM m n) : shV ng m n = wv ng os := by unfold shV wv; rw [h]
theorem bl_le_iff (a k : Nat) : bitLen a ≤ k ↔ a < 2 ^ k := by
  have h := bitLen_spec a
  constructor
  · intro hk
    exact Nat.lt_of_lt_of_le h.1 (Nat.pow_le_pow_right (by decide) hk)
  · intro hk
    by_cases h0 : a = 0
    · subst h0; simp [bitLen]
    · have h1 := h.2 h0
      have h2 := Nat.lt_of_le_of_lt h1 hk
      have := (Nat.pow_lt_pow_iff_right (a := 2) (by decide)).1 h2
      omega
theorem bl_pos {a : Nat} (h : a ≠ 0) : 1 ≤ bitLen a := by unfold bitLen; rw [if_neg h]; omega
theorem bl_zero : bitLen 0 = 0 := rfl
theorem bl_mul {a : Nat} (h : a ≠ 0) (d : Nat) : bitLen (a * 2 ^ d) = bitLen a + d := by
  have e : a * 2 ^ d / 2 ^ d = a := Nat.mul_div_cancel _ (Nat.two_pow_pos d)
  have := bitLen_shift (a * 2 ^ d) d (by rw [e]; exact h)
  rw [this, e]; omega
theorem bl_mono {a b : Nat} (h : a ≤ b) : bitLen a ≤ bitLen b := (bl_le_iff a _).2 (Nat.lt_of_le_of_lt h (bitLen_spec b).1)
theorem bl_ge {a : Nat} (h : a ≠ 0) : 2 ^ (bitLen a - 1) ≤ a := (bitLen_spec a).2 h

/-- How often it can be halved. -/
def tz (a : Nat) : Nat := if a = 0 then 0 else if a % 2 = 1 then 0 else tz (a / 2) + 1
termination_by a
decreasing_by omega
theorem tz_odd {a : Nat} (h : a % 2 = 1) : tz a = 0 := by unfold tz; split <;> simp_all
theorem tz_even {a : Nat} (h0 : a ≠ 0) (h : a % 2 = 0) : tz a = tz (a / 2) + 1 := by rw [tz]; simp [h0, h]
/-- The odd part. -/
def od (a : Nat) : Nat := a / 2 ^ tz a
theorem tz_spec (a : Nat) (h : a ≠ 0) : od a * 2 ^ tz a = a ∧ od a % 2 = 1 := by
  induction a using Nat.strongRecOn with
  | _ a ih =>
    unfold od
    rcases Nat.mod_two_eq_zero_or_one a with h2 | h2
    · have := ih (a / 2) (by omega) (by omega)
      unfold od at this
      rw [tz_even h h2, Nat.pow_succ, Nat.mul_comm (2 ^ _) 2, ← Nat.div_div_eq_div_mul]
      refine ⟨?_, this.2⟩
      have e := this.1
      generalize a / 2 / 2 ^ tz (a / 2) = o at *
      have : o * (2 * 2 ^ tz (a / 2)) = 2 * (o * 2 ^ tz (a / 2)) := by rw [Nat.mul_left_comm]
      rw [this, e]; omega
    · rw [tz_odd h2]; simp; exact h2
theorem od_pos {a : Nat} (h : a ≠ 0) : od a ≠ 0 := by have := (tz_spec a h).2; omega
theorem tz_mul {o : Nat} (ho : o % 2 = 1) (t : Nat) : tz (o * 2 ^ t) = t := by
  induction t with
  | zero => simpa using tz_odd ho
  | succ t ih =>
    have e : o * 2 ^ (t + 1) = 2 * (o * 2 ^ t) := by rw [Nat.pow_succ]; grind
    have hp := Nat.two_pow_pos t
    have h0 : o * 2 ^ t ≠ 0 := Nat.mul_ne_zero (by omega) (by omega)
    rw [e, tz_even (by omega) (by omega), Nat.mul_div_cancel_left _ (by decide), ih]
theorem mod_pow_zero {a : Nat} (h : a ≠ 0) (n : Nat) : a % 2 ^ n = 0 ↔ n ≤ tz a := by
  have hs := tz_spec a h
  constructor
  · intro hz
    obtain ⟨c, hc⟩ := Nat.dvd_of_mod_eq_zero hz
    have hc0 : c ≠ 0 := by intro h0; subst h0; simp at hc; exact h hc
    have hc' := tz_spec c hc0
    have : a = od c * 2 ^ (tz c + n) := by rw [hc, Nat.pow_add, ← Nat.mul_assoc, hc'.1, Nat.mul_comm]
    rw [this, tz_mul hc'.2]; omega
  · intro hn
    obtain ⟨k, hk⟩ := Nat.exists_eq_add_of_le hn
    have : a = 2 ^ n * (od a * 2 ^ k) := by
      have e := hs.1
      rw [hk, Nat.pow_add] at e
      rw [Nat.mul_left_comm]; exact e.symm
    rw [this]; exact Nat.mul_mod_right _ _

/-- A shift of a number that is not below 0. -/
def sh (a : Nat) (n : Int) : Nat := if n < 0 then a / 2 ^ (-n).toNat else a * 2 ^ n.toNat
theorem shM_sh (a : Nat) (n : Int) : shM (a : Int) n = (sh a n : Nat) := by
  unfold shM sh
  split <;> simp
theorem shV_sh (a : Nat) (n : Int) : shV false (a : Int) n = (sh a n : Nat) := by unfold shV; simpa using shM_sh a n

/-- What is cut: how many bits, what stays, what goes. -/
def rn (P : Nat) (q : Int) (a : Nat) (e : Int) : Int := max ((bitLen a : Int) - P) (q - e)
def rm (P : Nat) (q : Int) (a : Nat) (e : Int) : Nat := sh a (- rn P q a e)
def rr (P : Nat) (q : Int) (a : Nat) (e : Int) : Nat := a % 2 ^ (rn P q a e).toNat
def cmp2 (x y : Nat) : Int := if x < y then -1 else if y < x then 1 else 0
def rh (P : Nat) (q : Int) (a : Nat) (e : Int) : Int := cmp2 (2 * rr P q a e) (2 ^ (rn P q a e).toNat)

/-- By the specification: all in units of 2 to the lower one of e and q. -/
theorem spec_x {a : Nat} (h : a ≠ 0) {e q : Int} : bitLen (sh a (e - min e q)) = bitLen a + (e - min e q).toNat ∧ sh a (e - min e q) = a * 2 ^ (e - min e q).toNat := by
  have e1 : sh a (e - min e q) = a * 2 ^ (e - min e q).toNat := by unfold sh; rw [if_neg (by omega)]
  rw [e1]; exact ⟨bl_mul h _, rfl⟩
theorem spec_cut {a : Nat} (h : a ≠ 0) (P : Nat) (e q : Int) : max ((bitLen (sh a (e - min e q)) : Int) - P) (q - min e q) = rn P q a e + (e - min e q) := by
  rw [(spec_x h).1]; unfold rn; omega
theorem pw_pos2 (n : Nat) : 0 < 2 ^ n := Nat.two_pow_pos n
theorem spec_m {a : Nat} (h : a ≠ 0) (P : Nat) (e q : Int) : sh (sh a (e - min e q)) (-(rn P q a e + (e - min e q))) = rm P q a e := by
  rw [(spec_x h).2]
  unfold rm
  have hq : q - e ≤ rn P q a e := by unfold rn; omega
  generalize rn P q a e = n at *
  obtain ⟨d, hd⟩ : ∃ d : Nat, e - min e q = d := ⟨(e - min e q).toNat, by omega⟩
  have hc : 0 ≤ n + d := by omega
  rw [hd]
  rw [Int.toNat_natCast]
  have hX : sh (a * 2 ^ d) (-(n + d)) = a * 2 ^ d / 2 ^ (n + d).toNat := by
    unfold sh
    by_cases h0 : n + (d : Int) = 0
    · rw [if_neg (by omega), h0]; simp
    · rw [if_pos (by omega), show (- -(n + (d : Int))).toNat = (n + d).toNat by omega]
  rw [hX]
  by_cases hn : 0 < n
  · unfold sh
    rw [if_pos (by omega), show (- -n).toNat = n.toNat by omega, show (n + (d : Int)).toNat = d + n.toNat by omega, Nat.pow_add, Nat.mul_comm a, Nat.mul_div_mul_left _ _ (pw_pos2 d)]
  · unfold sh
    rw [if_neg (by omega)]
    have : d = (-n).toNat + (n + (d : Int)).toNat := by omega
    generalize (n + (d : Int)).toNat = c at *
    rw [this, Nat.pow_add, ← Nat.mul_assoc, Nat.mul_div_cancel _ (pw_pos2 c)]
theorem spec_back {a : Nat} (h : a ≠ 0) (P : Nat) (e q : Int) :
    sh (rm P q a e) (rn P q a e + (e - min e q)) ≤ sh a (e - min e q) ∧ sh a (e - min e q) - sh (rm P q a e) (rn P q a e + (e - min e q)) = rr P q a e * 2 ^ (e - min e q).toNat := by
  have hm := spec_m h P e q
  have hq : q - e ≤ rn P q a e := by unfold rn; omega
  have hc : 0 ≤ rn P q a e + (e - min e q) := by omega
  rw [← hm, (spec_x h).2]
  unfold rr
  generalize rn P q a e = n at *
  obtain ⟨d, hd⟩ : ∃ d : Nat, e - min e q = d := ⟨(e - min e q).toNat, by omega⟩
  rw [hd] at hc ⊢
  rw [Int.toNat_natCast]
  have hX : sh (a * 2 ^ d) (-(n + d)) = a * 2 ^ d / 2 ^ (n + d).toNat := by
    unfold sh
    by_cases h0 : n + (d : Int) = 0
    · rw [if_neg (by omega), h0]; simp
    · rw [if_pos (by omega), show (- -(n + (d : Int))).toNat = (n + d).toNat by omega]
  have hY : ∀ y, sh y (n + (d : Int)) = y * 2 ^ (n + (d : Int)).toNat := fun y => by unfold sh; rw [if_neg (by omega)]
  rw [hX, hY]
  have hdm := Nat.div_add_mod (a * 2 ^ d) (2 ^ (n + (d : Int)).toNat)
  rw [Nat.mul_comm] at hdm
  refine ⟨by omega, ?_⟩
  have : a * 2 ^ d - a * 2 ^ d / 2 ^ (n + (d : Int)).toNat * 2 ^ (n + (d : Int)).toNat = a * 2 ^ d % 2 ^ (n + (d : Int)).toNat := by omega
  rw [this]
  by_cases hn : 0 ≤ n
  · rw [show (n + (d : Int)).toNat = n.toNat + d by omega, Nat.pow_add, Nat.mul_mod_mul_right]
  · rw [show n.toNat = 0 by omega]
    have : d = (-n).toNat + (n + (d : Int)).toNat := by omega
    generalize (n + (d : Int)).toNat = c at *
    rw [this, Nat.pow_add, ← Nat.mul_assoc, Nat.mul_mod_left]; simp [Nat.mod_one]
theorem rr_pos {P : Nat} {q : Int} {a : Nat} {e : Int} (h : rr P q a e ≠ 0) : 1 ≤ rn P q a e := by
  unfold rr at h
  by_cases hn : 1 ≤ rn P q a e
  · exact hn
  · rw [show (rn P q a e).toNat = 0 by omega] at h; simp [Nat.mod_one] at h
theorem cmp2_mul (x y : Nat) (d : Nat) : cmp2 (x * 2 ^ d) (y * 2 ^ d) = cmp2 x y := by
  unfold cmp2
  simp only [Nat.mul_lt_mul_right (pw_pos2 d)]
theorem spec_half {a : Nat} (h : a ≠ 0) {P : Nat} {e q : Int} (hr : rr P q a e ≠ 0) :
    cmp2 (sh (rr P q a e * 2 ^ (e - min e q).toNat) 1) (sh 1 (rn P q a e + (e - min e q))) = rh P q a e := by
  have hn := rr_pos hr
  unfold rh
  generalize rn P q a e = n at *
  generalize rr P q a e = r at *
  obtain ⟨d, hd⟩ : ∃ d : Nat, e - min e q = d := ⟨(e - min e q).toNat, by omega⟩
  rw [hd, Int.toNat_natCast]
  have e1 : sh (r * 2 ^ d) 1 = 2 * r * 2 ^ d := by unfold sh; rw [if_neg (by decide)]; simp; grind
  have e2 : sh 1 (n + (d : Int)) = 2 ^ n.toNat * 2 ^ d := by
    unfold sh; rw [if_neg (by omega), show (n + (d : Int)).toNat = n.toNat + d by omega, Nat.pow_add]; simp
  rw [e1, e2, cmp2_mul]
theorem rr_tz {P : Nat} {q : Int} {a : Nat} {e : Int} (h : a ≠ 0) : rr P q a e = 0 ↔ rn P q a e ≤ tz a := by
  unfold rr; rw [mod_pow_zero h]; omega
/-- By the program: what is cut off, held against a half by the bit below the last one, and the noughts. -/
theorem impl_half {P : Nat} {q : Int} {a : Nat} {e : Int} (h : a ≠ 0) (hr : rr P q a e ≠ 0) :
    rh P q a e = if (tz a : Int) = rn P q a e - 1 then 0 else if a / 2 ^ (rn P q a e - 1).toNat % 2 = 1 then 1 else -1 := by
  have hn := rr_pos hr
  have ht : ¬ rn P q a e ≤ tz a := fun hh => hr ((rr_tz h).2 hh)
  unfold rh rr
  generalize rn P q a e = n at *
  obtain ⟨k, hk⟩ : ∃ k : Nat, n = k + 1 := ⟨(n - 1).toNat, by omega⟩
  subst hk
  rw [show ((k : Int) + 1).toNat = k + 1 by omega, show ((k : Int) + 1 - 1).toNat = k by omega]
  have hp := pw_pos2 k
  have hmod : a % 2 ^ (k + 1) = a % 2 ^ k + 2 ^ k * (a / 2 ^ k % 2) := by rw [Nat.pow_succ, Nat.mod_mul]
  have hlt : a % 2 ^ k < 2 ^ k := Nat.mod_lt _ hp
  have hz := mod_pow_zero h k
  have hps : 2 ^ (k + 1) = 2 * 2 ^ k := by rw [Nat.pow_succ]; omega
  rw [hmod, hps]
  unfold cmp2
  by_cases hc : tz a = k
  · have hk0 : a % 2 ^ k = 0 := hz.2 (by omega)
    have hodd : a / 2 ^ k % 2 = 1 := by have := (tz_spec a h).2; unfold od at this; rwa [hc] at this
    rw [if_pos (show (tz a : Int) = (k : Int) + 1 - 1 by omega), hk0, hodd, if_neg (by omega), if_neg (by omega)]
  · rw [if_neg (show ¬ (tz a : Int) = (k : Int) + 1 - 1 by omega)]
    have hk0 : a % 2 ^ k ≠ 0 := fun h0 => by have := hz.1 h0; omega
    rcases Nat.mod_two_eq_zero_or_one (a / 2 ^ k) with h2 | h2
    · rw [h2, if_pos (by omega), if_neg (by decide)]
    · rw [h2, if_neg (by omega), if_pos (by omega), if_pos rfl]
/-- What stays has at most P bits. -/
theorem rm_lt {P : Nat} {q : Int} {a : Nat} {e : Int} : rm P q a e < 2 ^ P := by
  have hb := (bitLen_spec a).1
  have hn : (bitLen a : Int) - P ≤ rn P q a e := by unfold rn; omega
  unfold rm sh
  generalize rn P q a e = n at *
  split
  · rename_i hlt
    rw [Nat.div_lt_iff_lt_mul (pw_pos2 _), ← Nat.pow_add]
    exact Nat.lt_of_lt_of_le hb (Nat.pow_le_pow_right (by decide) (by omega))
  · have h1 : a * 2 ^ (-n).toNat < 2 ^ bitLen a * 2 ^ (-n).toNat := Nat.mul_lt_mul_of_pos_right hb (pw_pos2 _)
    rw [← Nat.pow_add] at h1
    exact Nat.lt_of_lt_of_le h1 (Nat.pow_le_pow_right (by decide) (by omega))
/-- Where the step is greater than a unit, what stays has just P bits. -/
theorem rm_ge {P : Nat} {q : Int} {a : Nat} {e : Int} (h : a ≠ 0) (hP : 1 ≤ P) (hn : q - e < rn P q a e) : 2 ^ (P - 1) ≤ rm P q a e := by
  have hb := bl_ge h
  have hb1 := bl_pos h
  have hn : (bitLen a : Int) - P = rn P q a e := by unfold rn at hn ⊢; omega
  unfold rm sh
  generalize rn P q a e = n at *
  split
  · rw [Nat.le_div_iff_mul_le (pw_pos2 _), ← Nat.pow_add]
    exact Nat.le_trans (Nat.pow_le_pow_right (by decide) (by omega)) hb
  · refine Nat.le_trans ?_ (Nat.mul_le_mul_right _ hb)
    rw [← Nat.pow_add]
    exact Nat.pow_le_pow_right (by decide) (by omega)
end Nm
end Go.Proofs.YtmcflggionkhlaaGreatDoor
