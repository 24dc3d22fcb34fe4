/-
  What is needed of ModeA, NumsF, WideI, Rnd, RndB.
-/
import Derived.Laws.MathBits
import Derived.Test.YtkfjmcdniohljaaGreatDoorE05
set_option maxHeartbeats 16000000
set_option maxRecDepth 1000000
namespace Go.Proofs.YtkfjmcdniohljaaGreatDoor
set_option linter.unusedVariables false
set_option linter.unusedSimpArgs false
open Go.RowKit
/-- Whether a number is a mode. -/
def modeB (m : Int) : Bool := decide (0 ≤ m) && decide (m ≤ 5)
/-- Whether a number lies between two. -/
def inB (n lo hi : Int) : Bool := decide (lo ≤ n) && decide (n ≤ hi)
theorem in_spec (n lo hi : Int) (w : World) :
    Calls Tryz.prog 142 #[.int .i64 n, .int .i64 lo, .int .i64 hi] w fun e w' => e = .returned (.bool (inB n lo hi)) ∧ w' = w := by
  by_cases h1 : lo ≤ n
  · by_cases h2 : n ≤ hi
    · have HR : Hid (inB n lo hi = true) := hid (by simp [inB, h1, h2])
      go_enter Tryz.func142, Tryz.ntmps142
      go_wp2
      go_ret
      exact ⟨ret_bool HR.out.symm, rfl⟩
    · have HR : Hid (inB n lo hi = false) := hid (by simp [inB, h1, h2])
      go_enter Tryz.func142, Tryz.ntmps142
      go_wp2
      go_ret
      exact ⟨ret_bool HR.out.symm, rfl⟩
  · have HR : Hid (inB n lo hi = false) := hid (by simp [inB, h1])
    go_enter Tryz.func142, Tryz.ntmps142
    go_wp2
    go_ret
    exact ⟨ret_bool HR.out.symm, rfl⟩
theorem mode_spec (m : Int) (w : World) :
    Calls Tryz.prog 152 #[.int .i64 m] w fun e w' => e = .returned (.bool (modeB m)) ∧ w' = w := by
  go_enter Tryz.func152, Tryz.ntmps152
  go_wp2_with fail
  refine (in_spec m 0 5 _).mono ?_
  rintro e w1 ⟨rfl, rfl⟩
  go_wp2
  go_ret
  exact ⟨rfl, rfl⟩
end Go.Proofs.YtkfjmcdniohljaaGreatDoor
namespace Go.Proofs.YtkfjmcdniohljaaGreatDoor
set_option linter.unusedVariables false
namespace Nm
/-- m times 2 to the n, cut. (m is not below 0.) -/
def shM (m n : Int) : Int := if n < 0 then m / (2 : Int) ^ (-n).toNat else m * (2 : Int) ^ n.toNat
/-- A wide's value shifted: towards 0. -/
def shV (ng : Bool) (m n : Int) : Int := if ng then - shM m n else shM m n
theorem pw_pow (n : Nat) : pw n = (2 : Int) ^ (32 * n) := by rw [pw_two]; simp
theorem shM_up {m n : Int} {wh r : Nat} (h0 : 0 ≤ n) (hq : n / 32 = (wh : Int)) (hm : n % 32 = (r : Int)) : pw wh * ((2 : Int) ^ r * m) = shM m n := by
  unfold shM
  rw [if_neg (by omega), pw_pow, show n.toNat = 32 * wh + r by omega, Int.pow_add, Int.mul_comm m, Int.mul_assoc]
theorem shM_down {m n : Int} {wh r : Nat} (h0 : n < 0) (hq : -n / 32 = (wh : Int)) (hm : -n % 32 = (r : Int)) : m / pw wh / (2 : Int) ^ r = shM m n := by
  unfold shM
  have hp := pw_pos wh
  rw [if_pos h0, show (-n).toNat = 32 * wh + r by omega, Int.pow_add, ← pw_pow, Int.ediv_ediv_of_nonneg (by omega)]
theorem shV_wv {ng : Bool} {m n : Int} {os : List Int} (h : val os = shM m n) : shV ng m n = wv ng os := by unfold shV wv; rw [h]
end Nm
set_option linter.unusedSimpArgs false
open Go.RowKit Go.Deep
theorem nor_shift (n m : Nat) (hn : n < 2 ^ 32) : n ||| (m * 2 ^ 32) = n + m * 2 ^ 32 := by
  rw [Nat.or_comm, nat_join 32 (m * 2 ^ 32) n (Nat.mul_mod_left m (2 ^ 32)) hn, Nat.add_comm]
theorem or_shift (x y : Int) (hx : 0 ≤ x) (hx1 : x < 4294967296) (hy : 0 ≤ y) (hy1 : y < 4294967296) : bits .or .u64 x (y * 4294967296) = x + y * 4294967296 := by
  obtain ⟨n, rfl⟩ := Int.eq_ofNat_of_zero_le hx
  obtain ⟨m, rfl⟩ := Int.eq_ofNat_of_zero_le hy
  have h := u64_or_nat n (m * 2 ^ 32) (by omega) (by omega)
  rw [nor_shift n m (by omega)] at h
  have e : ((m * 2 ^ 32 : Nat) : Int) = (m : Int) * 4294967296 := by omega
  have e2 : ((n + m * 2 ^ 32 : Nat) : Int) = (n : Int) + (m : Int) * 4294967296 := by omega
  exact (congrArg (bits .or .u64 (n : Int)) e).symm.trans (h.trans e2)
theorem or_zero (x : Int) (hx : 0 ≤ x) (hx1 : x < 18446744073709551616) : bits .or .u64 0 x = x := by
  obtain ⟨n, rfl⟩ := Int.eq_ofNat_of_zero_le hx
  have h := u64_or_nat 0 n (by omega) (by omega)
  rw [Nat.zero_or] at h
  exact h

theorem low0 (ng : Bool) (a : Option Addr) (cap : Nat) (w : World) (hs : Sl .u32 w (.slice a 0 cap) []) :
    Calls Tryz.prog 84 #[.agg #[.bool ng, .slice a 0 cap]] w fun e w' => e = .returned (.int .u64 0) ∧ Below w.heap.size w w' := by
  go_enter Tryz.func84, Tryz.ntmps84
  go_wp2_with fail
  refine wp_loop_rounds 1 ?_
  rw [rounds_succ]
  go_wp2
  go_ret
  exact ⟨rfl, (by repeat (first | exact bz0 _ _ | refine bz1 ?_ | refine bz2 ?_ _ | refine bz3 ?_ _ | refine bz5 ?_ _ | refine bz6 ?_ _))⟩
theorem low1 (ng : Bool) (b off : Nat) (x : Int) (cap : Nat) (w : World) (hs : Sl .u32 w (.slice (some ⟨b, off, none⟩) 1 cap) [x]) (hx0 : 0 ≤ x) (hx1 : x < 4294967296) :
    Calls Tryz.prog 84 #[.agg #[.bool ng, .slice (some ⟨b, off, none⟩) 1 cap]] w fun e w' => e = .returned (.int .u64 x) ∧ Below w.heap.size w w' := by
  have e1 := or_zero x hx0 (by omega)
  obtain ⟨-, _, _, hc3⟩ := hs.cells
  obtain ⟨b', off', hbo, hcell⟩ := hc3 (by simp)
  simp at hbo
  obtain ⟨rfl, rfl⟩ := hbo
  have c0 : w.cell? ⟨b, off, none⟩ = some (.int .u32 x) := by simpa using hcell 0 (by simp)
  have hlt := World.block_lt_of_cell? w _ c0
  clear hcell hc3
  go_enter Tryz.func84, Tryz.ntmps84
  go_wp2_with fail
  refine wp_loop_rounds 2 ?_
  rw [rounds_succ]
  go_wp2
  rw [rounds_succ]
  go_wp2
  go_ret
  exact ⟨rfl, (by repeat (first | exact bz0 _ _ | refine bz1 ?_ | refine bz2 ?_ _ | refine bz3 ?_ _ | refine bz5 ?_ _ | refine bz6 ?_ _))⟩
theorem low2 (ng : Bool) (b off : Nat) (x y : Int) (cap : Nat) (w : World) (hs : Sl .u32 w (.slice (some ⟨b, off, none⟩) 2 cap) [x, y]) (hx0 : 0 ≤ x) (hx1 : x < 4294967296) (hy0 : 0 ≤ y) (hy1 : y < 4294967296) :
    Calls Tryz.prog 84 #[.agg #[.bool ng, .slice (some ⟨b, off, none⟩) 2 cap]] w fun e w' => e = .returned (.int .u64 (x + y * 4294967296)) ∧ Below w.heap.size w w' := by
  have e1 := or_zero x hx0 (by omega)
  have e2 := or_shift x y hx0 hx1 hy0 hy1
  obtain ⟨-, _, _, hc3⟩ := hs.cells
  obtain ⟨b', off', hbo, hcell⟩ := hc3 (by simp)
  simp at hbo
  obtain ⟨rfl, rfl⟩ := hbo
  have c0 : w.cell? ⟨b, off, none⟩ = some (.int .u32 x) := by simpa using hcell 0 (by simp)
  have hlt := World.block_lt_of_cell? w _ c0
  have c1 : w.cell? ⟨b, off + 1, none⟩ = some (.int .u32 y) := by simpa using hcell 1 (by simp)
  clear hcell hc3
  go_enter Tryz.func84, Tryz.ntmps84
  go_wp2_with fail
  refine wp_loop_rounds 3 ?_
  rw [rounds_succ]
  go_wp2
  rw [rounds_succ]
  go_wp2
  rw [rounds_succ]
  go_wp2
  go_ret
  exact ⟨rfl, (by repeat (first | exact bz0 _ _ | refine bz1 ?_ | refine bz2 ?_ _ | refine bz3 ?_ _ | refine bz5 ?_ _ | refine bz6 ?_ _))⟩
end Go.Proofs.YtkfjmcdniohljaaGreatDoor
namespace Go.Proofs.YtkfjmcdniohljaaGreatDoor
set_option linter.unusedVariables false
namespace Nm
theorem bl_le_iff (a k : Nat) : bitLen a ≤ k ↔ a < 2 ^ k := by
  have h := bitLen_spec a
  constructor
  · intro hk
    exact Nat.lt_of_lt_of_le h.1 (Nat.pow_le_pow_right (by decide) hk)
  · intro hk
    by_cases h0 : a = 0
    · subst h0; simp [bitLen]
    · have h1 := h.2 h0
      have h2 := Nat.lt_of_le_of_lt h1 hk
      have := (Nat.pow_lt_pow_iff_right (a := 2) (by decide)).1 h2
      omega
theorem bl_pos {a : Nat} (h : a ≠ 0) : 1 ≤ bitLen a := by unfold bitLen; rw [if_neg h]; omega
theorem bl_zero : bitLen 0 = 0 := rfl
theorem bl_mul {a : Nat} (h : a ≠ 0) (d : Nat) : bitLen (a * 2 ^ d) = bitLen a + d := by
  have e : a * 2 ^ d / 2 ^ d = a := Nat.mul_div_cancel _ (Nat.two_pow_pos d)
  have := bitLen_shift (a * 2 ^ d) d (by rw [e]; exact h)
  rw [this, e]; omega
theorem bl_mono {a b : Nat} (h : a ≤ b) : bitLen a ≤ bitLen b := (bl_le_iff a _).2 (Nat.lt_of_le_of_lt h (bitLen_spec b).1)
theorem bl_ge {a : Nat} (h : a ≠ 0) : 2 ^ (bitLen a - 1) ≤ a := (bitLen_spec a).2 h

/-- How often it can be halved. -/
def tz (a : Nat) : Nat := if a = 0 then 0 else if a % 2 = 1 then 0 else tz (a / 2) + 1
termination_by a
decreasing_by omega
theorem tz_odd {a : Nat} (h : a % 2 = 1) : tz a = 0 := by unfold tz; split <;> simp_all
theorem tz_even {a : Nat} (h0 : a ≠ 0) (h : a % 2 = 0) : tz a = tz (a / 2) + 1 := by rw [tz]; simp [h0, h]
/-- The odd part. -/
def od (a : Nat) : Nat := a / 2 ^ tz a
theorem tz_spec (a : Nat) (h : a ≠ 0) : od a * 2 ^ tz a = a ∧ od a % 2 = 1 := by
  induction a using Nat.strongRecOn with
  | _ a ih =>
    unfold od
    rcases Nat.mod_two_eq_zero_or_one a with h2 | h2
    · have := ih (a / 2) (by omega) (by omega)
      unfold od at this
      rw [tz_even h h2, Nat.pow_succ, Nat.mul_comm (2 ^ _) 2, ← Nat.div_div_eq_div_mul]
      refine ⟨?_, this.2⟩
      have e := this.1
      generalize a / 2 / 2 ^ tz (a / 2) = o at *
      have : o * (2 * 2 ^ tz (a / 2)) = 2 * (o * 2 ^ tz (a / 2)) := by rw [Nat.mul_left_comm]
      rw [this, e]; omega
    · rw [tz_odd h2]; simp; exact h2
theorem od_pos {a : Nat} (h : a ≠ 0) : od a ≠ 0 := by have := (tz_spec a h).2; omega
theorem tz_mul {o : Nat} (ho : o % 2 = 1) (t : Nat) : tz (o * 2 ^ t) = t := by
  induction t with
  | zero => simpa using tz_odd ho
  | succ t ih =>
    have e : o * 2 ^ (t + 1) = 2 * (o * 2 ^ t) := by rw [Nat.pow_succ]; grind
    have hp := Nat.two_pow_pos t
    have h0 : o * 2 ^ t ≠ 0 := Nat.mul_ne_zero (by omega) (by omega)
    rw [e, tz_even (by omega) (by omega), Nat.mul_div_cancel_left _ (by decide), ih]
theorem mod_pow_zero {a : Nat} (h : a ≠ 0) (n : Nat) : a % 2 ^ n = 0 ↔ n ≤ tz a := by
  have hs := tz_spec a h
  constructor
  · intro hz
    obtain ⟨c, hc⟩ := Nat.dvd_of_mod_eq_zero hz
    have hc0 : c ≠ 0 := by intro h0; subst h0; simp at hc; exact h hc
    have hc' := tz_spec c hc0
    have : a = od c * 2 ^ (tz c + n) := by rw [hc, Nat.pow_add, ← Nat.mul_assoc, hc'.1, Nat.mul_comm]
    rw [this, tz_mul hc'.2]; omega
  · intro hn
    obtain ⟨k, hk⟩ := Nat.exists_eq_add_of_le hn
    have : a = 2 ^ n * (od a * 2 ^ k) := by
      have e := hs.1
      rw [hk, Nat.pow_add] at e
      rw [Nat.mul_left_comm]; exact e.symm
    rw [this]; exact Nat.mul_mod_right _ _

/-- A shift of a number that is not below 0. -/
def sh (a : Nat) (n : Int) : Nat := if n < 0 then a / 2 ^ (-n).toNat else a * 2 ^ n.toNat
theorem shM_sh (a : Nat) (n : Int) : shM (a : Int) n = (sh a n : Nat) := by
  unfold shM sh
  split <;> simp
theorem shV_sh (a : Nat) (n : Int) : shV false (a : Int) n = (sh a n : Nat) := by unfold shV; simpa using shM_sh a n

/-- What is cut: how many bits, what stays, what goes. -/
def rn (P : Nat) (q : Int) (a : Nat) (e : Int) : Int := max ((bitLen a : Int) - P) (q - e)
def rm (P : Nat) (q : Int) (a : Nat) (e : Int) : Nat := sh a (- rn P q a e)
def rr (P : Nat) (q : Int) (a : Nat) (e : Int) : Nat := a % 2 ^ (rn P q a e).toNat
def cmp2 (x y : Nat) : Int := if x < y then -1 else if y < x then 1 else 0
def rh (P : Nat) (q : Int) (a : Nat) (e : Int) : Int := cmp2 (2 * rr P q a e) (2 ^ (rn P q a e).toNat)

/-- By the specification: all in units of 2 to the lower one of e and q. -/
theorem spec_x {a : Nat} (h : a ≠ 0) {e q : Int} : bitLen (sh a (e - min e q)) = bitLen a + (e - min e q).toNat ∧ sh a (e - min e q) = a * 2 ^ (e - min e q).toNat := by
  have e1 : sh a (e - min e q) = a * 2 ^ (e - min e q).toNat := by unfold sh; rw [if_neg (by omega)]
  rw [e1]; exact ⟨bl_mul h _, rfl⟩
theorem spec_cut {a : Nat} (h : a ≠ 0) (P : Nat) (e q : Int) : max ((bitLen (sh a (e - min e q)) : Int) - P) (q - min e q) = rn P q a e + (e - min e q) := by
  rw [(spec_x h).1]; unfold rn; omega
theorem pw_pos2 (n : Nat) : 0 < 2 ^ n := Nat.two_pow_pos n
theorem spec_m {a : Nat} (h : a ≠ 0) (P : Nat) (e q : Int) : sh (sh a (e - min e q)) (-(rn P q a e + (e - min e q))) = rm P q a e := by
  rw [(spec_x h).2]
  unfold rm
  have hq : q - e ≤ rn P q a e := by unfold rn; omega
  generalize rn P q a e = n at *
  obtain ⟨d, hd⟩ : ∃ d : Nat, e - min e q = d := ⟨(e - min e q).toNat, by omega⟩
  have hc : 0 ≤ n + d := by omega
  rw [hd]
  rw [Int.toNat_natCast]
  have hX : sh (a * 2 ^ d) (-(n + d)) = a * 2 ^ d / 2 ^ (n + d).toNat := by
    unfold sh
    by_cases h0 : n + (d : Int) = 0
    · rw [if_neg (by omega), h0]; simp
    · rw [if_pos (by omega), show (- -(n + (d : Int))).toNat = (n + d).toNat by omega]
  rw [hX]
  by_cases hn : 0 < n
  · unfold sh
    rw [if_pos (by omega), show (- -n).toNat = n.toNat by omega, show (n + (d : Int)).toNat = d + n.toNat by omega, Nat.pow_add, Nat.mul_comm a, Nat.mul_div_mul_left _ _ (pw_pos2 d)]
  · unfold sh
    rw [if_neg (by omega)]
    have : d = (-n).toNat + (n + (d : Int)).toNat := by omega
    generalize (n + (d : Int)).toNat = c at *
    rw [this, Nat.pow_add, ← Nat.mul_assoc, Nat.mul_div_cancel _ (pw_pos2 c)]
theorem spec_back {a : Nat} (h : a ≠ 0) (P : Nat) (e q : Int) :
    sh (rm P q a e) (rn P q a e + (e - min e q)) ≤ sh a (e - min e q) ∧ sh a (e - min e q) - sh (rm P q a e) (rn P q a e + (e - min e q)) = rr P q a e * 2 ^ (e - min e q).toNat := by
  have hm := spec_m h P e q
  have hq : q - e ≤ rn P q a e := by unfold rn; omega
  have hc : 0 ≤ rn P q a e + (e - min e q) := by omega
  rw [← hm, (spec_x h).2]
  unfold rr
  generalize rn P q a e = n at *
  obtain ⟨d, hd⟩ : ∃ d : Nat, e - min e q = d := ⟨(e - min e q).toNat, by omega⟩
  rw [hd] at hc ⊢
  rw [Int.toNat_natCast]
  have hX : sh (a * 2 ^ d) (-(n + d)) = a * 2 ^ d / 2 ^ (n + d).toNat := by
    unfold sh
    by_cases h0 : n + (d : Int) = 0
    · rw [if_neg (by omega), h0]; simp
    · rw [if_pos (by omega), show (- -(n + (d : Int))).toNat = (n + d).toNat by omega]
  have hY : ∀ y, sh y (n + (d : Int)) = y * 2 ^ (n + (d : Int)).toNat := fun y => by unfold sh; rw [if_neg (by omega)]
  rw [hX, hY]
  have hdm := Nat.div_add_mod (a * 2 ^ d) (2 ^ (n + (d : Int)).toNat)
  rw [Nat.mul_comm] at hdm
  refine ⟨by omega, ?_⟩
  have : a * 2 ^ d - a * 2 ^ d / 2 ^ (n + (d : Int)).toNat * 2 ^ (n + (d : Int)).toNat = a * 2 ^ d % 2 ^ (n + (d : Int)).toNat := by omega
  rw [this]
  by_cases hn : 0 ≤ n
  · rw [show (n + (d : Int)).toNat = n.toNat + d by omega, Nat.pow_add, Nat.mul_mod_mul_right]
  · rw [show n.toNat = 0 by omega]
    have : d = (-n).toNat + (n + (d : Int)).toNat := by omega
    generalize (n + (d : Int)).toNat = c at *
    rw [this, Nat.pow_add, ← Nat.mul_assoc, Nat.mul_mod_left]; simp [Nat.mod_one]
theorem rr_pos {P : Nat} {q : Int} {a : Nat} {e : Int} (h : rr P q a e ≠ 0) : 1 ≤ rn P q a e := by
  unfold rr at h
  by_cases hn : 1 ≤ rn P q a e
  · exact hn
  · rw [show (rn P q a e).toNat = 0 by omega] at h; simp [Nat.mod_one] at h
theorem cmp2_mul (x y : Nat) (d : Nat) : cmp2 (x * 2 ^ d) (y * 2 ^ d) = cmp2 x y := by
  unfold cmp2
  simp only [Nat.mul_lt_mul_right (pw_pos2 d)]
theorem spec_half {a : Nat} (h : a ≠ 0) {P : Nat} {e q : Int} (hr : rr P q a e ≠ 0) :
    cmp2 (sh (rr P q a e * 2 ^ (e - min e q).toNat) 1) (sh 1 (rn P q a e + (e - min e q))) = rh P q a e := by
  have hn := rr_pos hr
  unfold rh
  generalize rn P q a e = n at *
  generalize rr P q a e = r at *
  obtain ⟨d, hd⟩ : ∃ d : Nat, e - min e q = d := ⟨(e - min e q).toNat, by omega⟩
  rw [hd, Int.toNat_natCast]
  have e1 : sh (r * 2 ^ d) 1 = 2 * r * 2 ^ d := by unfold sh; rw [if_neg (by decide)]; simp; grind
  have e2 : sh 1 (n + (d : Int)) = 2 ^ n.toNat * 2 ^ d := by
    unfold sh; rw [if_neg (by omega), show (n + (d : Int)).toNat = n.toNat + d by omega, Nat.pow_add]; simp
  rw [e1, e2, cmp2_mul]
theorem rr_tz {P : Nat} {q : Int} {a : Nat} {e : Int} (h : a ≠ 0) : rr P q a e = 0 ↔ rn P q a e ≤ tz a := by
  unfold rr; rw [mod_pow_zero h]; omega
/-- What stays has at most P bits. -/
theorem rm_lt {P : Nat} {q : Int} {a : Nat} {e : Int} : rm P q a e < 2 ^ P := by
  have hb := (bitLen_spec a).1
  have hn : (bitLen a : Int) - P ≤ rn P q a e := by unfold rn; omega
  unfold rm sh
  generalize rn P q a e = n at *
  split
  · rename_i hlt
    rw [Nat.div_lt_iff_lt_mul (pw_pos2 _), ← Nat.pow_add]
    exact Nat.lt_of_lt_of_le hb (Nat.pow_le_pow_right (by decide) (by omega))
  · have h1 : a * 2 ^ (-n).toNat < 2 ^ bitLen a * 2 ^ (-n).toNat := Nat.mul_lt_mul_of_pos_right hb (pw_pos2 _)
    rw [← Nat.pow_add] at h1
    exact Nat.lt_of_lt_of_le h1 (Nat.pow_le_pow_right (by decide) (by omega))
/-- By the specification: of u units: how many bits are too many, what stays, the bits, whether it is a float. -/
def flb (P : Nat) (u : Nat) : Nat := if 2 ^ (P - 1) ≤ u / 2 ^ (bitLen u - P) then u / 2 ^ (bitLen u - P) + (bitLen u - P) * 2 ^ (P - 1) else u / 2 ^ (bitLen u - P)
def flo (P : Nat) (I : Nat) (u : Nat) : Bool := decide (bitLen u - P ≤ 2100) && decide (u / 2 ^ (bitLen u - P) * 2 ^ (bitLen u - P) = u) && decide (flb P u < I)
theorem flm_lt (P u : Nat) : u / 2 ^ (bitLen u - P) < 2 ^ P := by
  have hb := (bitLen_spec u).1
  rw [Nat.div_lt_iff_lt_mul (pw_pos2 _), ← Nat.pow_add]
  exact Nat.lt_of_lt_of_le hb (Nat.pow_le_pow_right (by decide) (by omega))
/-- By the program: m times 2 to the e, m not 0: the odd part, and as much of the exponent put to it as may be. -/
def stSp (P : Nat) (m : Nat) : Int := (P : Int) - bitLen (od m)
def stUp (P : Nat) (q : Int) (m : Nat) (e : Int) : Int := min (stSp P m) (e + tz m - q)
def stE (P : Nat) (q : Int) (m : Nat) (e : Int) : Int := e + tz m - stUp P q m e
def stM (P : Nat) (q : Int) (m : Nat) (e : Int) : Nat := od m * 2 ^ (stUp P q m e).toNat
def stIn (P : Nat) (q : Int) (m : Nat) (e : Int) : Bool := decide (0 ≤ stSp P m) && decide (q ≤ e + tz m)
def stOk (P : Nat) (q : Int) (ones : Int) (m : Nat) (e : Int) : Bool := stIn P q m e && decide (stE P q m e - q < ones - 1)
/-- Units of it. -/
def stU (q : Int) (m : Nat) (e : Int) : Nat := od m * 2 ^ (e + tz m - q).toNat
theorem st_in {P : Nat} {q : Int} {m : Nat} {e : Int} (h : stIn P q m e = true) : 0 ≤ stSp P m ∧ q ≤ e + tz m := by simpa [stIn] using h
theorem st_bl {P : Nat} {q : Int} {m : Nat} {e : Int} (h : m ≠ 0) (hi : stIn P q m e = true) : ((bitLen (stU q m e) - P : Nat) : Int) = stE P q m e - q ∧ 0 ≤ stE P q m e - q ∧ 0 ≤ stUp P q m e := by
  obtain ⟨h1, h2⟩ := st_in hi
  have hb : bitLen (stU q m e) = bitLen (od m) + (e + tz m - q).toNat := bl_mul (od_pos h) _
  unfold stE stUp at *
  unfold stSp at *
  omega
theorem st_m {P : Nat} {q : Int} {m : Nat} {e : Int} (h : m ≠ 0) (hi : stIn P q m e = true) : stU q m e / 2 ^ (bitLen (stU q m e) - P) = stM P q m e ∧ stM P q m e * 2 ^ (bitLen (stU q m e) - P) = stU q m e := by
  obtain ⟨hk, h0, hu⟩ := st_bl h hi
  obtain ⟨h1, h2⟩ := st_in hi
  have e2 : stM P q m e * 2 ^ (bitLen (stU q m e) - P) = stU q m e := by
    generalize bitLen (stU q m e) - P = k at *
    unfold stM stU
    rw [Nat.mul_assoc, ← Nat.pow_add]
    congr 2
    unfold stE at *
    omega
  refine ⟨?_, e2⟩
  generalize bitLen (stU q m e) - P = k at *
  rw [← e2, Nat.mul_div_cancel _ (pw_pos2 k)]
theorem st_ge {P : Nat} {q : Int} {m : Nat} {e : Int} (h : m ≠ 0) (hi : stIn P q m e = true) (hP : 1 ≤ P) (hk : 0 < stE P q m e - q) : 2 ^ (P - 1) ≤ stM P q m e := by
  obtain ⟨h1, h2⟩ := st_in hi
  have hb := bl_ge (od_pos h)
  have hb1 := bl_pos (od_pos h)
  have hup : stUp P q m e = stSp P m := by unfold stE stUp at *; omega
  unfold stM
  rw [hup]
  unfold stSp at *
  refine Nat.le_trans ?_ (Nat.mul_le_mul_right _ hb)
  rw [← Nat.pow_add]
  exact Nat.pow_le_pow_right (by decide) (by omega)
theorem stM_lt {P : Nat} {q : Int} {m : Nat} {e : Int} (h : m ≠ 0) (hi : stIn P q m e = true) : stM P q m e < 2 ^ P := by
  have := flm_lt P (stU q m e)
  rwa [(st_m h hi).1] at this
theorem st_b {P : Nat} {q : Int} {m : Nat} {e : Int} (h : m ≠ 0) (hi : stIn P q m e = true) (hP : 1 ≤ P) : (flb P (stU q m e) : Int) = stM P q m e + (stE P q m e - q) * (2 ^ (P - 1) : Nat) := by
  obtain ⟨hk, h0, hu⟩ := st_bl h hi
  have hg := st_ge h hi hP
  unfold flb
  rw [(st_m h hi).1]
  generalize bitLen (stU q m e) - P = k at *
  rw [← hk]
  split
  · simp
  · by_cases hk0 : k = 0
    · subst hk0; simp
    · exact absurd (hg (by omega)) (by omega)
theorem st_o {P : Nat} {q ones : Int} {I : Nat} {m : Nat} {e : Int} (h : m ≠ 0) (hi : stIn P q m e = true) (hP : 1 ≤ P) (hI : (I : Int) = ones * (2 ^ (P - 1) : Nat)) (ho : 3 ≤ ones) (ho2 : ones ≤ 2100) :
    flo P I (stU q m e) = decide (stE P q m e - q < ones - 1) := by
  obtain ⟨hk, h0, hu⟩ := st_bl h hi
  have hg := st_ge h hi hP
  have hb := st_b h hi hP
  have hm := st_m h hi
  have hlt := stM_lt h hi
  have hL := pw_pos2 (P - 1)
  have h2L : 2 ^ P = 2 * 2 ^ (P - 1) := by rw [← Nat.pow_succ']; congr 1; omega
  unfold flo
  rw [hm.1, decide_eq_true hm.2, Bool.and_true]
  generalize bitLen (stU q m e) - P = k at *
  generalize stE P q m e - q = K at *
  subst hk
  have hIb : (flb P (stU q m e) < I) ↔ ((k : Int) < ones - 1) := by
    have hcast : (flb P (stU q m e) < I) ↔ ((flb P (stU q m e) : Int) < (I : Int)) := by omega
    rw [hcast, hb, hI]
    generalize stM P q m e = M at *
    generalize 2 ^ (P - 1) = L at *
    constructor
    · intro hlt'
      by_cases hc : (k : Int) < ones - 1
      · exact hc
      · exfalso
        have hg' := hg (by omega)
        have : ones * (L : Int) ≤ ((k : Int) + 1) * L := Int.mul_le_mul_of_nonneg_right (by omega) (by omega)
        grind
    · intro hc
      have : ((k : Int) + 2) * (L : Int) ≤ ones * L := Int.mul_le_mul_of_nonneg_right (by omega) (by omega)
      grind
  rw [Bool.eq_iff_iff]
  simp only [Bool.and_eq_true, decide_eq_true_eq, hIb]
  omega
/-- What is rounded: the step is up; units; whether that is a float. -/
def r1 (P : Nat) (q : Int) (a : Nat) (e : Int) (up : Bool) : Nat := if rr P q a e ≠ 0 ∧ up = true then rm P q a e + 1 else rm P q a e
def rU (P : Nat) (q : Int) (a : Nat) (e : Int) (up : Bool) : Nat := r1 P q a e up * 2 ^ (rn P q a e + e - q).toNat
/-- Parts: what is cut is 0 just where the parts are within the format. -/
theorem parts_in {P : Nat} {q : Int} {m : Nat} {e : Int} (h : m ≠ 0) : stIn P q m e = decide (rr P q m e = 0) := by
  have hs := tz_spec m h
  have hb : bitLen m = bitLen (od m) + tz m := by
    have := bl_mul (od_pos h) (tz m); rwa [hs.1] at this
  rw [Bool.eq_iff_iff, decide_eq_true_eq, rr_tz h]
  unfold stIn stSp rn
  rw [Bool.and_eq_true, decide_eq_true_eq, decide_eq_true_eq]
  omega
theorem parts_U {P : Nat} {q : Int} {m : Nat} {e : Int} (h : m ≠ 0) (hr : rr P q m e = 0) (up : Bool) : rU P q m e up = stU q m e := by
  have hn := (rr_tz (P := P) (q := q) (e := e) h).1 hr
  have hq : q - e ≤ rn P q m e := by unfold rn; omega
  have hs := (tz_spec m h).1
  unfold rU r1 stU
  rw [if_neg (by simp [hr])]
  unfold rm
  generalize rn P q m e = n at *
  have e1 : sh m (-n) = od m * 2 ^ ((tz m : Int) - n).toNat := by
    unfold sh
    split
    · rw [show (- -n).toNat = n.toNat by omega]
      have : m = od m * 2 ^ ((tz m : Int) - n).toNat * 2 ^ n.toNat := by
        rw [Nat.mul_assoc, ← Nat.pow_add, show ((tz m : Int) - n).toNat + n.toNat = tz m by omega]; exact hs.symm
      exact (congrArg (fun z => z / 2 ^ n.toNat) this).trans (Nat.mul_div_cancel _ (pw_pos2 _))
    · rw [show ((tz m : Int) - n).toNat = tz m + (-n).toNat by omega, Nat.pow_add, ← Nat.mul_assoc, hs]
  rw [e1, Nat.mul_assoc, ← Nat.pow_add]
  congr 2
  omega
end Nm
end Go.Proofs.YtkfjmcdniohljaaGreatDoor
