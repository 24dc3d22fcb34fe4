/-
  What is needed of Cmp, ModeA, Bits.
-/
import Derived.Test.YtmfpfkfohjkcgaaDoorRows
import Derived.WalkSpells
import Derived.WalkLawsBesides
import Derived.Test.YtmfpfkfohjkcgaaDoorP00
set_option maxHeartbeats 16000000
set_option maxRecDepth 1000000
namespace Go.Proofs.YtmfpfkfohjkcgaaDoor
set_option linter.unusedVariables false
set_option linter.unusedSimpArgs false
open Go.RowKit
/-- Less, the same, greater. -/
def cmpI (x y : Int) : Int := if x < y then -1 else if y < x then 1 else 0
/-- Whether a number is a mode. -/
def modeB (m : Int) : Bool := decide (0 ≤ m) && decide (m ≤ 5)
/-- Whether a number lies between two. -/
def inB (n lo hi : Int) : Bool := decide (lo ≤ n) && decide (n ≤ hi)
theorem in_spec (n lo hi : Int) (w : World) :
    Calls Tryd.prog 61 #[.int .i64 n, .int .i64 lo, .int .i64 hi] w fun e w' => e = .returned (.bool (inB n lo hi)) ∧ w' = w := by
  by_cases h1 : lo ≤ n
  · by_cases h2 : n ≤ hi
    · have HR : Hid (inB n lo hi = true) := hid (by simp [inB, h1, h2])
      go_enter Tryd.func61, Tryd.ntmps61
      go_wp2
      go_ret
      exact ⟨ret_bool HR.out.symm, rfl⟩
    · have HR : Hid (inB n lo hi = false) := hid (by simp [inB, h1, h2])
      go_enter Tryd.func61, Tryd.ntmps61
      go_wp2
      go_ret
      exact ⟨ret_bool HR.out.symm, rfl⟩
  · have HR : Hid (inB n lo hi = false) := hid (by simp [inB, h1])
    go_enter Tryd.func61, Tryd.ntmps61
    go_wp2
    go_ret
    exact ⟨ret_bool HR.out.symm, rfl⟩
theorem mode_spec (m : Int) (w : World) :
    Calls Tryd.prog 78 #[.int .i64 m] w fun e w' => e = .returned (.bool (modeB m)) ∧ w' = w := by
  go_enter Tryd.func78, Tryd.ntmps78
  go_wp2_with fail
  refine (in_spec m 0 5 _).mono ?_
  rintro e w1 ⟨rfl, rfl⟩
  go_wp2
  go_ret
  exact ⟨rfl, rfl⟩
end Go.Proofs.YtmfpfkfohjkcgaaDoor
namespace Go.Proofs.YtmfpfkfohjkcgaaDoor
set_option linter.unusedVariables false
set_option linter.unusedSimpArgs false
namespace Bt
theorem xor_one (q : Nat) : (q ^^^ 1) = if q % 2 = 0 then q + 1 else q - 1 := by
  have h1 : (q ^^^ 1) % 2 = (q % 2) ^^^ 1 := by have := Nat.xor_mod_two_pow (a := q) (b := 1) (n := 1); simpa using this
  have h2 : (q ^^^ 1) / 2 = q / 2 := by have := Nat.xor_div_two_pow (a := q) (b := 1) (n := 1); simpa using this
  rcases Nat.mod_two_eq_zero_or_one q with h | h
  · have h3 : (q ^^^ 1) % 2 = 1 := by rw [h1, h]; rfl
    rw [if_pos h]; omega
  · have h3 : (q ^^^ 1) % 2 = 0 := by rw [h1, h]; rfl
    rw [if_neg (by omega)]; omega

theorem nxor31 (x : Nat) : x ^^^ 2147483648 = if x / 2147483648 % 2 = 0 then x + 2147483648 else x - 2147483648 := by
  have h1 : (x ^^^ 2147483648) % 2147483648 = x % 2147483648 := by have := Nat.xor_mod_two_pow (a := x) (b := 2147483648) (n := 31); simpa using this
  have h2 : (x ^^^ 2147483648) / 2147483648 = (x / 2147483648) ^^^ 1 := by have := Nat.xor_div_two_pow (a := x) (b := 2147483648) (n := 31); simpa using this
  have h3 := xor_one (x / 2147483648)
  rw [h3] at h2
  split at h2
  · rename_i h; rw [if_pos h]; omega
  · rename_i h; rw [if_neg h]; omega

theorem nand31 (x : Nat) (h : x < 18446744073709551616) : x &&& (18446744073709551615 - 2147483648) = x - x / 2147483648 % 2 * 2147483648 := by
  have e : (18446744073709551615 - 2147483648 : Nat) = 18446744073709551615 ^^^ 2147483648 := by decide
  have hm : x &&& 18446744073709551615 = x := by have := Nat.and_two_pow_sub_one_eq_mod x 64; simp at this; rw [this]; omega
  have hb : x &&& 2147483648 = x / 2147483648 % 2 * 2147483648 := nat_bit 31 x
  rw [e, Nat.and_xor_distrib_left, hm, hb]
  rcases Nat.mod_two_eq_zero_or_one (x / 2147483648) with h0 | h0
  · rw [h0]; simp
  · rw [h0, Nat.one_mul, nxor31, if_neg (by omega)]

theorem nor31 (x : Nat) (h : x < 2147483648) : x ||| 2147483648 = x + 2147483648 := by
  rw [Nat.or_comm, nat_join 31 2147483648 x (by decide) h]; omega

theorem andNot31 (x : Int) (h0 : 0 ≤ x) (h1 : x < 18446744073709551616) : bits .andNot .u64 x 2147483648 = x - x / 2147483648 % 2 * 2147483648 := by
  obtain ⟨n, rfl⟩ := Int.eq_ofNat_of_zero_le h0
  have := u64_andNot_nat n 2147483648 (by omega) (by decide)
  rw [show ((2147483648 : Nat) : Int) = 2147483648 from rfl] at this
  rw [this, nand31 n (by omega)]
  omega

theorem and31 (x : Int) (h0 : 0 ≤ x) (h1 : x < 18446744073709551616) : bits .and .u64 x 2147483648 = x / 2147483648 % 2 * 2147483648 := by
  obtain ⟨n, rfl⟩ := Int.eq_ofNat_of_zero_le h0
  have := u64_and_nat n 2147483648 (by omega) (by decide)
  rw [show ((2147483648 : Nat) : Int) = 2147483648 from rfl] at this
  rw [this, show n &&& 2147483648 = n / 2147483648 % 2 * 2147483648 from nat_bit 31 n]
  omega

theorem or31 (x : Int) (h0 : 0 ≤ x) (h1 : x < 2147483648) : bits .or .u64 x 2147483648 = x + 2147483648 := by
  obtain ⟨n, rfl⟩ := Int.eq_ofNat_of_zero_le h0
  have := u64_or_nat n 2147483648 (by omega) (by decide)
  rw [show ((2147483648 : Nat) : Int) = 2147483648 from rfl] at this
  rw [this, nor31 n (by omega)]
  omega
theorem nxor63 (x : Nat) : x ^^^ 9223372036854775808 = if x / 9223372036854775808 % 2 = 0 then x + 9223372036854775808 else x - 9223372036854775808 := by
  have h1 : (x ^^^ 9223372036854775808) % 9223372036854775808 = x % 9223372036854775808 := by have := Nat.xor_mod_two_pow (a := x) (b := 9223372036854775808) (n := 63); simpa using this
  have h2 : (x ^^^ 9223372036854775808) / 9223372036854775808 = (x / 9223372036854775808) ^^^ 1 := by have := Nat.xor_div_two_pow (a := x) (b := 9223372036854775808) (n := 63); simpa using this
  have h3 := xor_one (x / 9223372036854775808)
  rw [h3] at h2
  split at h2
  · rename_i h; rw [if_pos h]; omega
  · rename_i h; rw [if_neg h]; omega

theorem nand63 (x : Nat) (h : x < 18446744073709551616) : x &&& (18446744073709551615 - 9223372036854775808) = x - x / 9223372036854775808 % 2 * 9223372036854775808 := by
  have e : (18446744073709551615 - 9223372036854775808 : Nat) = 18446744073709551615 ^^^ 9223372036854775808 := by decide
  have hm : x &&& 18446744073709551615 = x := by have := Nat.and_two_pow_sub_one_eq_mod x 64; simp at this; rw [this]; omega
  have hb : x &&& 9223372036854775808 = x / 9223372036854775808 % 2 * 9223372036854775808 := nat_bit 63 x
  rw [e, Nat.and_xor_distrib_left, hm, hb]
  rcases Nat.mod_two_eq_zero_or_one (x / 9223372036854775808) with h0 | h0
  · rw [h0]; simp
  · rw [h0, Nat.one_mul, nxor63, if_neg (by omega)]

theorem nor63 (x : Nat) (h : x < 9223372036854775808) : x ||| 9223372036854775808 = x + 9223372036854775808 := by
  rw [Nat.or_comm, nat_join 63 9223372036854775808 x (by decide) h]; omega

theorem andNot63 (x : Int) (h0 : 0 ≤ x) (h1 : x < 18446744073709551616) : bits .andNot .u64 x 9223372036854775808 = x - x / 9223372036854775808 % 2 * 9223372036854775808 := by
  obtain ⟨n, rfl⟩ := Int.eq_ofNat_of_zero_le h0
  have := u64_andNot_nat n 9223372036854775808 (by omega) (by decide)
  rw [show ((9223372036854775808 : Nat) : Int) = 9223372036854775808 from rfl] at this
  rw [this, nand63 n (by omega)]
  omega

theorem and63 (x : Int) (h0 : 0 ≤ x) (h1 : x < 18446744073709551616) : bits .and .u64 x 9223372036854775808 = x / 9223372036854775808 % 2 * 9223372036854775808 := by
  obtain ⟨n, rfl⟩ := Int.eq_ofNat_of_zero_le h0
  have := u64_and_nat n 9223372036854775808 (by omega) (by decide)
  rw [show ((9223372036854775808 : Nat) : Int) = 9223372036854775808 from rfl] at this
  rw [this, show n &&& 9223372036854775808 = n / 9223372036854775808 % 2 * 9223372036854775808 from nat_bit 63 n]
  omega

theorem or63 (x : Int) (h0 : 0 ≤ x) (h1 : x < 9223372036854775808) : bits .or .u64 x 9223372036854775808 = x + 9223372036854775808 := by
  obtain ⟨n, rfl⟩ := Int.eq_ofNat_of_zero_le h0
  have := u64_or_nat n 9223372036854775808 (by omega) (by decide)
  rw [show ((9223372036854775808 : Nat) : Int) = 9223372036854775808 from rfl] at this
  rw [this, nor63 n (by omega)]
  omega

theorem bit22 (x : Int) (h0 : 0 ≤ x) (h1 : x < 18446744073709551616) : bits .and .u64 x 4194304 = x / 4194304 % 2 * 4194304 := by
  obtain ⟨n, rfl⟩ := Int.eq_ofNat_of_zero_le h0
  have := u64_and_nat n 4194304 (by omega) (by decide)
  rw [show ((4194304 : Nat) : Int) = 4194304 from rfl] at this
  rw [this, show n &&& 4194304 = n / 4194304 % 2 * 4194304 from nat_bit 22 n]
  omega
theorem bit51 (x : Int) (h0 : 0 ≤ x) (h1 : x < 18446744073709551616) : bits .and .u64 x 2251799813685248 = x / 2251799813685248 % 2 * 2251799813685248 := by
  obtain ⟨n, rfl⟩ := Int.eq_ofNat_of_zero_le h0
  have := u64_and_nat n 2251799813685248 (by omega) (by decide)
  rw [show ((2251799813685248 : Nat) : Int) = 2251799813685248 from rfl] at this
  rw [this, show n &&& 2251799813685248 = n / 2251799813685248 % 2 * 2251799813685248 from nat_bit 51 n]
  omega

theorem mask8 (x : Int) (h0 : 0 ≤ x) (h1 : x < 18446744073709551616) : bits .and .u64 x 255 = x % 256 := by
  obtain ⟨n, rfl⟩ := Int.eq_ofNat_of_zero_le h0
  have := u64_and_nat n 255 (by omega) (by decide)
  rw [show ((255 : Nat) : Int) = 255 from rfl] at this
  rw [this, show n &&& 255 = n % 256 from Nat.and_two_pow_sub_one_eq_mod n 8]
  omega
theorem mask11 (x : Int) (h0 : 0 ≤ x) (h1 : x < 18446744073709551616) : bits .and .u64 x 2047 = x % 2048 := by
  obtain ⟨n, rfl⟩ := Int.eq_ofNat_of_zero_le h0
  have := u64_and_nat n 2047 (by omega) (by decide)
  rw [show ((2047 : Nat) : Int) = 2047 from rfl] at this
  rw [this, show n &&& 2047 = n % 2048 from Nat.and_two_pow_sub_one_eq_mod n 11]
  omega
theorem mask23 (x : Int) (h0 : 0 ≤ x) (h1 : x < 18446744073709551616) : bits .and .u64 x 8388607 = x % 8388608 := by
  obtain ⟨n, rfl⟩ := Int.eq_ofNat_of_zero_le h0
  have := u64_and_nat n 8388607 (by omega) (by decide)
  rw [show ((8388607 : Nat) : Int) = 8388607 from rfl] at this
  rw [this, show n &&& 8388607 = n % 8388608 from Nat.and_two_pow_sub_one_eq_mod n 23]
  omega
theorem mask52 (x : Int) (h0 : 0 ≤ x) (h1 : x < 18446744073709551616) : bits .and .u64 x 4503599627370495 = x % 4503599627370496 := by
  obtain ⟨n, rfl⟩ := Int.eq_ofNat_of_zero_le h0
  have := u64_and_nat n 4503599627370495 (by omega) (by decide)
  rw [show ((4503599627370495 : Nat) : Int) = 4503599627370495 from rfl] at this
  rw [this, show n &&& 4503599627370495 = n % 4503599627370496 from Nat.and_two_pow_sub_one_eq_mod n 52]
  omega
end Bt
end Go.Proofs.YtmfpfkfohjkcgaaDoor
