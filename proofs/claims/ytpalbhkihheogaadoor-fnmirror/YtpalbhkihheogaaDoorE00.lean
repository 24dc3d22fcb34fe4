/-
  What is needed of AppendZ, Base, Cmp, ModeA, Bits.
-/
import Derived.Deep.AppendLies
import Derived.WalkKit
import Derived.Deep.Draws
import Derived.Test.YtpalbhkihheogaaDoorRows
import Derived.WalkSpells
import Derived.WalkLawsBesides
set_option maxHeartbeats 16000000
set_option maxRecDepth 1000000
namespace Go.Proofs.YtpalbhkihheogaaDoor
set_option linter.unusedVariables false
set_option linter.unusedSimpArgs false
open Go.RowKit
theorem run_append_zero {P : Program} (w : World) (t ty e : TypeId) (i : TypeInfo) (ht : P.underlying t = some (.slice e)) (hi : P.info? e = some i) (g a : Option Addr) (cap : Nat) :
    (Builtin.append_ #[t, t] ty #[.slice g 0 0, .slice a 0 cap]).run P w = .ok (.slice g 0 0) w := by
  cases a <;> cases g <;> simp [Builtin.append_, run_underlying ht, sizeOf, typeInfo, hi, Builtin.lenOf, Builtin.firstCells, storeCells, go_sem, loadCellsFrom]
theorem step_append_zero {P : Program} {ops : Array Oper} {o : Oper} {a : Act} {w : World} {K : Act → World → Prop} {Q : Exit → Act → World → Prop} {E : Prop} (hgd : o.guard = none) (s x : Operand) (t : TypeId)
    (ho : o.op = .call { callee := .builtin .append, args := #[s, x], argTypes := #[t, t] })
    (e : TypeId) (i : TypeInfo) (ht : P.underlying t = some (.slice e)) (hi : P.info? e = some i) (g b : Option Addr) (cap : Nat) (hs : a.eval s = .slice g 0 0) (hx : a.eval x = .slice b 0 cap)
    (h : K (a.put o.dst (.slice g 0 0)) w) :
    if Region.wanted o (yielded ops a.tmps) = true then Oper.wp P o a w K Q else E := by
  have hw : Region.wanted o (yielded ops a.tmps) = true := by simp [Region.wanted, hgd]
  rw [if_pos hw]
  have hr := run_append_zero (P := P) w t o.type e i ht hi g b cap
  unfold Oper.wp execOp
  simp only [ho, resolve, invoke, builtin, Sem.run_bind, Sem.run_pure, Result.andThen_ok, List.map_toArray, List.map_cons, List.map_nil, hs, hx, hr]
  exact h
theorem hid {p : Prop} (h : p) : Hid p := h
theorem ret_int {k : IntKind} {a b : Int} (h : a = b) : Ending.returned (.int k a) = .returned (.int k b) := by rw [h]
theorem ret_bool {a b : Bool} (h : a = b) : Ending.returned (.bool a) = .returned (.bool b) := by rw [h]
theorem bel_go {w w1 w2 : World} (h : Below w.heap.size w w1) (hb : Below w1.heap.size w1 w2) : Below w.heap.size w w2 := h.trans (hb.mono h.size)
theorem bel_al {w w1 : World} (h : Below w.heap.size w w1) (o : Obj) : Below w.heap.size w (w1.alloc o) := h.alloc h.size o
theorem bel_dn {w w1 : World} {B : Nat} (h : Below B w w1) (n : Nat) : Below B w (w1.drewN n) := ⟨h.os, h.tape, h.output, h.size, h.block⟩
theorem bz0 (B : Nat) (w : World) : Below B w w := Below.refl B w
theorem bz1 {B : Nat} {w w1 : World} (h : Below B w w1) : Below B w w1.drew := Below.drew h
theorem bz2 {w w1 : World} {B : Nat} (h : Below B w w1) (n : Nat) : Below B w (w1.drewN n) := bel_dn h n
theorem bz3 {w w1 : World} (h : Below w.heap.size w w1) (o : Obj) : Below w.heap.size w (w1.alloc o) := bel_al h o
theorem bz4 {w w1 w2 : World} (h : Below w.heap.size w w1) (hb : Below w1.heap.size w1 w2) : Below w.heap.size w w2 := bel_go h hb
theorem bz5 {B : Nat} {w w1 : World} {p : Addr} (h : Below B w w1) (v : Value) (hp : B ≤ p.block := by first | omega | (simp; done) | (simp; omega)) : Below B w (w1.setCell p v) := h.setCell hp v
theorem bz6 {B : Nat} {w w1 : World} (h : Below B w w1) (o : Obj) (hp : B ≤ w1.heap.size := by first | omega | (simp; done) | (simp; omega)) : Below B w (w1.alloc o) := h.alloc hp o
theorem bz7 {B C : Nat} {w w1 w2 : World} (h : Below B w w1) (k : Below C w1 w2) (hp : B ≤ C := by first | omega | (simp; done) | (simp; omega)) : Below B w w2 := h.trans (k.mono hp)
/-- Less, the same, greater. -/
def cmpI (x y : Int) : Int := if x < y then -1 else if y < x then 1 else 0
/-- Whether a number is a mode. -/
def modeB (m : Int) : Bool := decide (0 ≤ m) && decide (m ≤ 5)
/-- Whether a number lies between two. -/
def inB (n lo hi : Int) : Bool := decide (lo ≤ n) && decide (n ≤ hi)
theorem in_spec (n lo hi : Int) (w : World) :
    Calls Tryd.prog 85 #[.int .i64 n, .int .i64 lo, .int .i64 hi] w fun e w' => e = .returned (.bool (inB n lo hi)) ∧ w' = w := by
  by_cases h1 : lo ≤ n
  · by_cases h2 : n ≤ hi
    · have HR : Hid (inB n lo hi = true) := hid (by simp [inB, h1, h2])
      go_enter Tryd.func85, Tryd.ntmps85
      go_wp2
      go_ret
      exact ⟨ret_bool HR.out.symm, rfl⟩
    · have HR : Hid (inB n lo hi = false) := hid (by simp [inB, h1, h2])
      go_enter Tryd.func85, Tryd.ntmps85
      go_wp2
      go_ret
      exact ⟨ret_bool HR.out.symm, rfl⟩
  · have HR : Hid (inB n lo hi = false) := hid (by simp [inB, h1])
    go_enter Tryd.func85, Tryd.ntmps85
    go_wp2
    go_ret
    exact ⟨ret_bool HR.out.symm, rfl⟩
theorem mode_spec (m : Int) (w : World) :
    Calls Tryd.prog 91 #[.int .i64 m] w fun e w' => e = .returned (.bool (modeB m)) ∧ w' = w := by
  go_enter Tryd.func91, Tryd.ntmps91
  go_wp2_with fail
  refine (in_spec m 0 5 _).mono ?_
  rintro e w1 ⟨rfl, rfl⟩
  go_wp2
  go_ret
  exact ⟨rfl, rfl⟩
theorem mode_impl (m : Int) (w : World) :
    Calls Tryd.prog 89 #[.int .i64 m] w fun e w' => e = .returned (.bool (modeB m)) ∧ w' = w := by
  by_cases h1 : 0 ≤ m
  · by_cases h2 : m ≤ 5
    · have HR : Hid (modeB m = true) := hid (by simp [modeB, h1, h2])
      go_enter Tryd.func89, Tryd.ntmps89
      go_wp2
      go_ret
      exact ⟨ret_bool HR.out.symm, rfl⟩
    · have HR : Hid (modeB m = false) := hid (by simp [modeB, h1, h2])
      go_enter Tryd.func89, Tryd.ntmps89
      go_wp2
      go_ret
      exact ⟨ret_bool HR.out.symm, rfl⟩
  · have HR : Hid (modeB m = false) := hid (by simp [modeB, h1])
    go_enter Tryd.func89, Tryd.ntmps89
    go_wp2
    go_ret
    exact ⟨ret_bool HR.out.symm, rfl⟩
end Go.Proofs.YtpalbhkihheogaaDoor
namespace Go.Proofs.YtpalbhkihheogaaDoor
set_option linter.unusedVariables false
set_option linter.unusedSimpArgs false
namespace Bt
theorem xor_one (q : Nat) : (q ^^^ 1) = if q % 2 = 0 then q + 1 else q - 1 := by
  have h1 : (q ^^^ 1) % 2 = (q % 2) ^^^ 1 := by have := Nat.xor_mod_two_pow (a := q) (b := 1) (n := 1); simpa using this
  have h2 : (q ^^^ 1) / 2 = q / 2 := by have := Nat.xor_div_two_pow (a := q) (b := 1) (n := 1); simpa using this
  rcases Nat.mod_two_eq_zero_or_one q with h | h
  · have h3 : (q ^^^ 1) % 2 = 1 := by rw [h1, h]; rfl
    rw [if_pos h]; omega
  · have h3 : (q ^^^ 1) % 2 = 0 := by rw [h1, h]; rfl
    rw [if_neg (by omega)]; omega

theorem nxor31 (x : Nat) : x ^^^ 2147483648 = if x / 2147483648 % 2 = 0 then x + 2147483648 else x - 2147483648 := by
  have h1 : (x ^^^ 2147483648) % 2147483648 = x % 2147483648 := by have := Nat.xor_mod_two_pow (a := x) (b := 2147483648) (n := 31); simpa using this
  have h2 : (x ^^^ 2147483648) / 2147483648 = (x / 2147483648) ^^^ 1 := by have := Nat.xor_div_two_pow (a := x) (b := 2147483648) (n := 31); simpa using this
  have h3 := xor_one (x / 2147483648)
  rw [h3] at h2
  split at h2
  · rename_i h; rw [if_pos h]; omega
  · rename_i h; rw [if_neg h]; omega

theorem nand31 (x : Nat) (h : x < 18446744073709551616) : x &&& (18446744073709551615 - 2147483648) = x - x / 2147483648 % 2 * 2147483648 := by
  have e : (18446744073709551615 - 2147483648 : Nat) = 18446744073709551615 ^^^ 2147483648 := by decide
  have hm : x &&& 18446744073709551615 = x := by have := Nat.and_two_pow_sub_one_eq_mod x 64; simp at this; rw [this]; omega
  have hb : x &&& 2147483648 = x / 2147483648 % 2 * 2147483648 := nat_bit 31 x
  rw [e, Nat.and_xor_distrib_left, hm, hb]
  rcases Nat.mod_two_eq_zero_or_one (x / 2147483648) with h0 | h0
  · rw [h0]; simp
  · rw [h0, Nat.one_mul, nxor31, if_neg (by omega)]

theorem nor31 (x : Nat) (h : x < 2147483648) : x ||| 2147483648 = x + 2147483648 := by
  rw [Nat.or_comm, nat_join 31 2147483648 x (by decide) h]; omega

theorem xor31 (x : Int) (h0 : 0 ≤ x) (h1 : x < 18446744073709551616) : bits .xor .u64 x 2147483648 = if x / 2147483648 % 2 = 0 then x + 2147483648 else x - 2147483648 := by
  obtain ⟨n, rfl⟩ := Int.eq_ofNat_of_zero_le h0
  have := u64_xor_nat n 2147483648 (by omega) (by decide)
  rw [show ((2147483648 : Nat) : Int) = 2147483648 from rfl] at this
  rw [this, nxor31]
  split <;> split <;> omega

theorem andNot31 (x : Int) (h0 : 0 ≤ x) (h1 : x < 18446744073709551616) : bits .andNot .u64 x 2147483648 = x - x / 2147483648 % 2 * 2147483648 := by
  obtain ⟨n, rfl⟩ := Int.eq_ofNat_of_zero_le h0
  have := u64_andNot_nat n 2147483648 (by omega) (by decide)
  rw [show ((2147483648 : Nat) : Int) = 2147483648 from rfl] at this
  rw [this, nand31 n (by omega)]
  omega

theorem and31 (x : Int) (h0 : 0 ≤ x) (h1 : x < 18446744073709551616) : bits .and .u64 x 2147483648 = x / 2147483648 % 2 * 2147483648 := by
  obtain ⟨n, rfl⟩ := Int.eq_ofNat_of_zero_le h0
  have := u64_and_nat n 2147483648 (by omega) (by decide)
  rw [show ((2147483648 : Nat) : Int) = 2147483648 from rfl] at this
  rw [this, show n &&& 2147483648 = n / 2147483648 % 2 * 2147483648 from nat_bit 31 n]
  omega

theorem or31 (x : Int) (h0 : 0 ≤ x) (h1 : x < 2147483648) : bits .or .u64 x 2147483648 = x + 2147483648 := by
  obtain ⟨n, rfl⟩ := Int.eq_ofNat_of_zero_le h0
  have := u64_or_nat n 2147483648 (by omega) (by decide)
  rw [show ((2147483648 : Nat) : Int) = 2147483648 from rfl] at this
  rw [this, nor31 n (by omega)]
  omega
theorem nxor63 (x : Nat) : x ^^^ 9223372036854775808 = if x / 9223372036854775808 % 2 = 0 then x + 9223372036854775808 else x - 9223372036854775808 := by
  have h1 : (x ^^^ 9223372036854775808) % 9223372036854775808 = x % 9223372036854775808 := by have := Nat.xor_mod_two_pow (a := x) (b := 9223372036854775808) (n := 63); simpa using this
  have h2 : (x ^^^ 9223372036854775808) / 9223372036854775808 = (x / 9223372036854775808) ^^^ 1 := by have := Nat.xor_div_two_pow (a := x) (b := 9223372036854775808) (n := 63); simpa using this
  have h3 := xor_one (x / 9223372036854775808)
  rw [h3] at h2
  split at h2
  · rename_i h; rw [if_pos h]; omega
  · rename_i h; rw [if_neg h]; omega

theorem nand63 (x : Nat) (h : x < 18446744073709551616) : x &&& (18446744073709551615 - 9223372036854775808) = x - x / 9223372036854775808 % 2 * 9223372036854775808 := by
  have e : (18446744073709551615 - 9223372036854775808 : Nat) = 18446744073709551615 ^^^ 9223372036854775808 := by decide
  have hm : x &&& 18446744073709551615 = x := by have := Nat.and_two_pow_sub_one_eq_mod x 64; simp at this; rw [this]; omega
  have hb : x &&& 9223372036854775808 = x / 9223372036854775808 % 2 * 9223372036854775808 := nat_bit 63 x
  rw [e, Nat.and_xor_distrib_left, hm, hb]
  rcases Nat.mod_two_eq_zero_or_one (x / 9223372036854775808) with h0 | h0
  · rw [h0]; simp
  · rw [h0, Nat.one_mul, nxor63, if_neg (by omega)]

theorem nor63 (x : Nat) (h : x < 9223372036854775808) : x ||| 9223372036854775808 = x + 9223372036854775808 := by
  rw [Nat.or_comm, nat_join 63 9223372036854775808 x (by decide) h]; omega

theorem xor63 (x : Int) (h0 : 0 ≤ x) (h1 : x < 18446744073709551616) : bits .xor .u64 x 9223372036854775808 = if x / 9223372036854775808 % 2 = 0 then x + 9223372036854775808 else x - 9223372036854775808 := by
  obtain ⟨n, rfl⟩ := Int.eq_ofNat_of_zero_le h0
  have := u64_xor_nat n 9223372036854775808 (by omega) (by decide)
  rw [show ((9223372036854775808 : Nat) : Int) = 9223372036854775808 from rfl] at this
  rw [this, nxor63]
  split <;> split <;> omega

theorem andNot63 (x : Int) (h0 : 0 ≤ x) (h1 : x < 18446744073709551616) : bits .andNot .u64 x 9223372036854775808 = x - x / 9223372036854775808 % 2 * 9223372036854775808 := by
  obtain ⟨n, rfl⟩ := Int.eq_ofNat_of_zero_le h0
  have := u64_andNot_nat n 9223372036854775808 (by omega) (by decide)
  rw [show ((9223372036854775808 : Nat) : Int) = 9223372036854775808 from rfl] at this
  rw [this, nand63 n (by omega)]
  omega

theorem and63 (x : Int) (h0 : 0 ≤ x) (h1 : x < 18446744073709551616) : bits .and .u64 x 9223372036854775808 = x / 9223372036854775808 % 2 * 9223372036854775808 := by
  obtain ⟨n, rfl⟩ := Int.eq_ofNat_of_zero_le h0
  have := u64_and_nat n 9223372036854775808 (by omega) (by decide)
  rw [show ((9223372036854775808 : Nat) : Int) = 9223372036854775808 from rfl] at this
  rw [this, show n &&& 9223372036854775808 = n / 9223372036854775808 % 2 * 9223372036854775808 from nat_bit 63 n]
  omega

theorem or63 (x : Int) (h0 : 0 ≤ x) (h1 : x < 9223372036854775808) : bits .or .u64 x 9223372036854775808 = x + 9223372036854775808 := by
  obtain ⟨n, rfl⟩ := Int.eq_ofNat_of_zero_le h0
  have := u64_or_nat n 9223372036854775808 (by omega) (by decide)
  rw [show ((9223372036854775808 : Nat) : Int) = 9223372036854775808 from rfl] at this
  rw [this, nor63 n (by omega)]
  omega

theorem mask23 (x : Int) (h0 : 0 ≤ x) (h1 : x < 18446744073709551616) : bits .and .u64 x 8388607 = x % 8388608 := by
  obtain ⟨n, rfl⟩ := Int.eq_ofNat_of_zero_le h0
  have := u64_and_nat n 8388607 (by omega) (by decide)
  rw [show ((8388607 : Nat) : Int) = 8388607 from rfl] at this
  rw [this, show n &&& 8388607 = n % 8388608 from Nat.and_two_pow_sub_one_eq_mod n 23]
  omega
theorem mask52 (x : Int) (h0 : 0 ≤ x) (h1 : x < 18446744073709551616) : bits .and .u64 x 4503599627370495 = x % 4503599627370496 := by
  obtain ⟨n, rfl⟩ := Int.eq_ofNat_of_zero_le h0
  have := u64_and_nat n 4503599627370495 (by omega) (by decide)
  rw [show ((4503599627370495 : Nat) : Int) = 4503599627370495 from rfl] at this
  rw [this, show n &&& 4503599627370495 = n % 4503599627370496 from Nat.and_two_pow_sub_one_eq_mod n 52]
  omega
end Bt
end Go.Proofs.YtpalbhkihheogaaDoor
