/-
  What is needed of Base, Cmp, Nums, Bits, NumsB, NumsC.
-/
import Derived.WalkKit
import Derived.Deep.Draws
import Derived.Test.YtkfjmcdniohljaaGreatDoorRows
import Derived.WalkSpells
import Derived.WalkLawsBesides
set_option maxHeartbeats 16000000
set_option maxRecDepth 1000000
namespace Go.Proofs.YtkfjmcdniohljaaGreatDoor
set_option linter.unusedVariables false
set_option linter.unusedSimpArgs false
open Go.RowKit
theorem hid {p : Prop} (h : p) : Hid p := h
theorem ret_int {k : IntKind} {a b : Int} (h : a = b) : Ending.returned (.int k a) = .returned (.int k b) := by rw [h]
theorem ret_bool {a b : Bool} (h : a = b) : Ending.returned (.bool a) = .returned (.bool b) := by rw [h]
theorem bel_go {w w1 w2 : World} (h : Below w.heap.size w w1) (hb : Below w1.heap.size w1 w2) : Below w.heap.size w w2 := h.trans (hb.mono h.size)
theorem bel_al {w w1 : World} (h : Below w.heap.size w w1) (o : Obj) : Below w.heap.size w (w1.alloc o) := h.alloc h.size o
theorem bel_dn {w w1 : World} {B : Nat} (h : Below B w w1) (n : Nat) : Below B w (w1.drewN n) := ⟨h.os, h.tape, h.output, h.size, h.block⟩
theorem bz0 (B : Nat) (w : World) : Below B w w := Below.refl B w
theorem bz1 {B : Nat} {w w1 : World} (h : Below B w w1) : Below B w w1.drew := Below.drew h
theorem bz2 {w w1 : World} {B : Nat} (h : Below B w w1) (n : Nat) : Below B w (w1.drewN n) := bel_dn h n
theorem bz3 {w w1 : World} (h : Below w.heap.size w w1) (o : Obj) : Below w.heap.size w (w1.alloc o) := bel_al h o
theorem bz4 {w w1 w2 : World} (h : Below w.heap.size w w1) (hb : Below w1.heap.size w1 w2) : Below w.heap.size w w2 := bel_go h hb
theorem bz5 {B : Nat} {w w1 : World} {p : Addr} (h : Below B w w1) (v : Value) (hp : B ≤ p.block := by first | omega | (simp; done) | (simp; omega)) : Below B w (w1.setCell p v) := h.setCell hp v
theorem bz6 {B : Nat} {w w1 : World} (h : Below B w w1) (o : Obj) (hp : B ≤ w1.heap.size := by first | omega | (simp; done) | (simp; omega)) : Below B w (w1.alloc o) := h.alloc hp o
theorem bz7 {B C : Nat} {w w1 w2 : World} (h : Below B w w1) (k : Below C w1 w2) (hp : B ≤ C := by first | omega | (simp; done) | (simp; omega)) : Below B w w2 := h.trans (k.mono hp)
/-- Less, the same, greater. -/
def cmpI (x y : Int) : Int := if x < y then -1 else if y < x then 1 else 0
theorem compare_int (x y : Int) (w : World) :
    Calls Tryz.prog 195 #[.int .i64 x, .int .i64 y] w fun e w' => e = .returned (.int .i64 (cmpI x y)) ∧ Below w.heap.size w w' := by
  have ex : (x != x) = false := by simp
  have ey : (y != y) = false := by simp
  by_cases h1 : x < y
  · have HR : Hid (cmpI x y = -1) := hid (by unfold cmpI; rw [if_pos h1])
    go_enter Tryz.func195, Tryz.ntmps195
    go_wp2
    go_ret
    exact ⟨ret_int HR.out.symm, (by repeat (first | exact bz0 _ _ | refine bz1 ?_ | refine bz2 ?_ _ | refine bz3 ?_ _ | refine bz5 ?_ _ | refine bz6 ?_ _))⟩
  by_cases h2 : y < x
  · have HR : Hid (cmpI x y = 1) := hid (by unfold cmpI; rw [if_neg h1, if_pos h2])
    go_enter Tryz.func195, Tryz.ntmps195
    go_wp2
    go_ret
    exact ⟨ret_int HR.out.symm, (by repeat (first | exact bz0 _ _ | refine bz1 ?_ | refine bz2 ?_ _ | refine bz3 ?_ _ | refine bz5 ?_ _ | refine bz6 ?_ _))⟩
  · have HR : Hid (cmpI x y = 0) := hid (by unfold cmpI; rw [if_neg h1, if_neg h2])
    go_enter Tryz.func195, Tryz.ntmps195
    go_wp2
    go_ret
    exact ⟨ret_int HR.out.symm, (by repeat (first | exact bz0 _ _ | refine bz1 ?_ | refine bz2 ?_ _ | refine bz3 ?_ _ | refine bz5 ?_ _ | refine bz6 ?_ _))⟩
theorem compare_uint32 (x y : Int) (w : World) :
    Calls Tryz.prog 196 #[.int .u32 x, .int .u32 y] w fun e w' => e = .returned (.int .i64 (cmpI x y)) ∧ Below w.heap.size w w' := by
  have ex : (x != x) = false := by simp
  have ey : (y != y) = false := by simp
  by_cases h1 : x < y
  · have HR : Hid (cmpI x y = -1) := hid (by unfold cmpI; rw [if_pos h1])
    go_enter Tryz.func196, Tryz.ntmps196
    go_wp2
    go_ret
    exact ⟨ret_int HR.out.symm, (by repeat (first | exact bz0 _ _ | refine bz1 ?_ | refine bz2 ?_ _ | refine bz3 ?_ _ | refine bz5 ?_ _ | refine bz6 ?_ _))⟩
  by_cases h2 : y < x
  · have HR : Hid (cmpI x y = 1) := hid (by unfold cmpI; rw [if_neg h1, if_pos h2])
    go_enter Tryz.func196, Tryz.ntmps196
    go_wp2
    go_ret
    exact ⟨ret_int HR.out.symm, (by repeat (first | exact bz0 _ _ | refine bz1 ?_ | refine bz2 ?_ _ | refine bz3 ?_ _ | refine bz5 ?_ _ | refine bz6 ?_ _))⟩
  · have HR : Hid (cmpI x y = 0) := hid (by unfold cmpI; rw [if_neg h1, if_neg h2])
    go_enter Tryz.func196, Tryz.ntmps196
    go_wp2
    go_ret
    exact ⟨ret_int HR.out.symm, (by repeat (first | exact bz0 _ _ | refine bz1 ?_ | refine bz2 ?_ _ | refine bz3 ?_ _ | refine bz5 ?_ _ | refine bz6 ?_ _))⟩
theorem cmpI_rng (x y : Int) : -1 ≤ cmpI x y ∧ cmpI x y ≤ 1 := by unfold cmpI; repeat' split <;> omega

end Go.Proofs.YtkfjmcdniohljaaGreatDoor
namespace Go.Proofs.YtkfjmcdniohljaaGreatDoor
namespace Nm
/-- What limbs are worth. -/
def val : List Int → Int
  | [] => 0
  | z :: r => z + 4294967296 * val r

/-- Each limb has at most 32 bits. -/
def Dg (l : List Int) : Prop := ∀ z ∈ l, 0 ≤ z ∧ z < 4294967296

/-- The last limb is not 0. -/
def Nz (l : List Int) : Prop := ∀ z, l.getLast? = some z → z ≠ 0

/-- 2 to the 32 n. -/
def pw : Nat → Int
  | 0 => 1
  | n + 1 => 4294967296 * pw n

theorem pw_pos (n : Nat) : 1 ≤ pw n := by
  induction n with
  | zero => decide
  | succ n ih => simp only [pw]; omega

theorem pw_mono {a b : Nat} (h : a ≤ b) : pw a ≤ pw b := by
  induction b with
  | zero => have : a = 0 := by omega
            subst this; exact Int.le_refl _
  | succ b ih =>
    by_cases e : a = b + 1
    · subst e; exact Int.le_refl _
    · have := ih (by omega); have := pw_pos b; simp only [pw]; omega

theorem pw_add (a b : Nat) : pw (a + b) = pw a * pw b := by
  induction a with
  | zero => simp [pw]
  | succ a ih => rw [show a + 1 + b = (a + b) + 1 by omega]; simp only [pw]; rw [ih, Int.mul_assoc]

theorem Dg.nil : Dg [] := fun _ h => by cases h
theorem Dg.cons {z : Int} {l : List Int} (h : 0 ≤ z ∧ z < 4294967296) (k : Dg l) : Dg (z :: l) := fun x hx => by
  rcases List.mem_cons.1 hx with rfl | hx
  · exact h
  · exact k x hx
theorem Dg.head {z : Int} {l : List Int} (h : Dg (z :: l)) : 0 ≤ z ∧ z < 4294967296 := h z (by simp)
theorem Dg.tail {z : Int} {l : List Int} (h : Dg (z :: l)) : Dg l := fun x hx => h x (by simp [hx])
theorem Dg.append {a b : List Int} (h : Dg a) (k : Dg b) : Dg (a ++ b) := fun x hx => by
  rcases List.mem_append.1 hx with hx | hx
  · exact h x hx
  · exact k x hx
theorem Dg.getD {l : List Int} (h : Dg l) (i : Nat) : 0 ≤ l.getD i 0 ∧ l.getD i 0 < 4294967296 := by
  by_cases hi : i < l.length
  · rw [List.getD_eq_getElem?_getD, List.getElem?_eq_getElem hi]; exact h _ (List.getElem_mem hi)
  · rw [List.getD_eq_getElem?_getD, List.getElem?_eq_none (by omega)]; simp
theorem Dg.take {l : List Int} (h : Dg l) (n : Nat) : Dg (l.take n) := fun x hx => h x (List.mem_of_mem_take hx)
theorem Dg.drop {l : List Int} (h : Dg l) (n : Nat) : Dg (l.drop n) := fun x hx => h x (List.mem_of_mem_drop hx)
theorem Dg.replicate (n : Nat) : Dg (List.replicate n 0) := fun x hx => by
  have := List.eq_of_mem_replicate hx; subst this; decide

theorem Nz.nil : Nz [] := fun z h => by simp at h
theorem Nz.tail {z : Int} {l : List Int} (h : Nz (z :: l)) : Nz l := by
  intro x hx
  apply h x
  cases l with
  | nil => simp at hx
  | cons y r => simpa using hx
theorem Nz.one {z : Int} (h : Nz [z]) : z ≠ 0 := h z (by simp)

theorem val_nonneg {l : List Int} (h : Dg l) : 0 ≤ val l := by
  induction l with
  | nil => simp [val]
  | cons z r ih => have := ih h.tail; have := h.head; simp only [val]; omega

theorem val_lt {l : List Int} (h : Dg l) : val l < pw l.length := by
  induction l with
  | nil => simp [val, pw]
  | cons z r ih => have := ih h.tail; have := h.head; simp only [val, List.length_cons, pw]; omega

theorem val_append (a b : List Int) : val (a ++ b) = val a + pw a.length * val b := by
  induction a with
  | nil => simp [val, pw]
  | cons z r ih =>
    simp only [List.cons_append, val, List.length_cons, pw, ih]
    rw [Int.mul_add, Int.mul_assoc]; omega

theorem val_replicate (n : Nat) : val (List.replicate n 0) = 0 := by
  induction n with
  | zero => simp [val]
  | succ n ih => simp [List.replicate_succ, val, ih]

/-- Noughts on top cut off. -/
def trim : List Int → List Int
  | [] => []
  | z :: r => if trim r = [] ∧ z = 0 then [] else z :: trim r

theorem trim_val (l : List Int) : val (trim l) = val l := by
  induction l with
  | nil => rfl
  | cons z r ih =>
    simp only [trim]
    split
    · rename_i h; obtain ⟨h, rfl⟩ := h; rw [h] at ih; simp only [val] at ih ⊢; omega
    · simp only [val]; rw [ih]

theorem trim_dg {l : List Int} (h : Dg l) : Dg (trim l) := by
  induction l with
  | nil => exact h
  | cons z r ih =>
    simp only [trim]
    split
    · exact Dg.nil
    · exact Dg.cons h.head (ih h.tail)

theorem trim_nz (l : List Int) : Nz (trim l) := by
  induction l with
  | nil => exact Nz.nil
  | cons z r ih =>
    simp only [trim]
    split
    · exact Nz.nil
    · rename_i hc
      intro x hx
      cases ht : trim r with
      | nil => rw [ht] at hx hc; simp at hx hc; subst hx; exact hc
      | cons y s => rw [ht] at hx; rw [List.getLast?_cons_cons, ← ht] at hx; exact ih x hx

theorem trim_length (l : List Int) : (trim l).length ≤ l.length := by
  induction l with
  | nil => simp [trim]
  | cons z r ih => simp only [trim]; split <;> simp <;> omega

/-- With a last limb that is not 0 a list of n + 1 limbs is worth 2 to the 32 n at least. -/
theorem val_ge {z : Int} {r : List Int} (h : Dg (z :: r)) (k : Nz (z :: r)) : pw r.length ≤ val (z :: r) := by
  induction r generalizing z with
  | nil => have := k.one; have := h.head; simp only [val, pw, List.length_nil]; omega
  | cons y s ih => have := ih h.tail k.tail; have := h.head; simp only [val, pw, List.length_cons] at *; omega

theorem val_pos {l : List Int} (h : Dg l) (k : Nz l) (hl : l ≠ []) : 1 ≤ val l := by
  cases l with
  | nil => exact absurd rfl hl
  | cons z r => have := val_ge h k; have := pw_pos r.length; omega

theorem val_inj {a b : List Int} (ha : Dg a) (hb : Dg b) (ka : Nz a) (kb : Nz b) (e : val a = val b) : a = b := by
  induction a generalizing b with
  | nil =>
    cases b with
    | nil => rfl
    | cons y s => have := val_pos hb kb (by simp); simp only [val] at e this; omega
  | cons z r ih =>
    cases b with
    | nil => have := val_pos ha ka (by simp); simp only [val] at e this; omega
    | cons y s =>
      have h1 := ha.head; have h2 := hb.head
      have v1 := val_nonneg ha.tail; have v2 := val_nonneg hb.tail
      simp only [val] at e
      have hz : z = y := by omega
      have hr : val r = val s := by omega
      rw [hz, ih ha.tail hb.tail ka.tail kb.tail hr]

theorem trim_eq {l : List Int} (h : Dg l) (k : Nz l) : trim l = l := val_inj (trim_dg h) h (trim_nz l) k (trim_val l)

/-- How long what is worth so much is. -/
theorem length_le_iff {l : List Int} (h : Dg l) (k : Nz l) (n : Nat) : l.length ≤ n ↔ val l < pw n := by
  constructor
  · intro hn; have := val_lt h; have := pw_mono hn; omega
  · intro hv
    cases l with
    | nil => simp
    | cons z r =>
      have h1 := val_ge h k
      by_cases hc : (z :: r).length ≤ n
      · exact hc
      · have := pw_mono (show n ≤ r.length by simp at hc; omega); omega

theorem val_zeros {l : List Int} (h : ∀ i, i < l.length → l.getD i 0 = 0) : val l = 0 := by
  induction l with
  | nil => rfl
  | cons z r ih =>
    have hz := h 0 (by simp)
    have hr := ih (fun i hi => by have := h (i + 1) (by simpa using hi); simpa using this)
    simp at hz
    simp only [val, hz, hr]; rfl

theorem trim_take {l : List Int} {n : Nat} (hd : Dg l) (hn : n ≤ l.length) (h0 : ∀ i, n ≤ i → i < l.length → l.getD i 0 = 0) (h1 : n = 0 ∨ l.getD (n - 1) 0 ≠ 0) : trim l = l.take n := by
  refine val_inj (trim_dg hd) (hd.take n) (trim_nz l) ?_ ?_
  · intro z hz
    by_cases e : n = 0
    · subst e; simp at hz
    · have h2 := h1.resolve_left e
      rw [List.getLast?_eq_getElem?] at hz
      have hlen : (l.take n).length = n := by simp; omega
      rw [hlen, List.getElem?_take_of_lt (by omega)] at hz
      rw [List.getD_eq_getElem?_getD, hz] at h2
      simpa using h2
  · rw [trim_val]
    have e : l = l.take n ++ l.drop n := (List.take_append_drop n l).symm
    have hz : val (l.drop n) = 0 := val_zeros (fun i hi => by
      have := h0 (n + i) (by omega) (by simp at hi; omega)
      rw [List.getD_eq_getElem?_getD, List.getElem?_drop, ← List.getD_eq_getElem?_getD]; exact this)
    have h2 := val_append (l.take n) (l.drop n)
    rw [← e, hz] at h2
    omega

end Nm
set_option linter.unusedVariables false
set_option linter.unusedSimpArgs false
namespace Bt
theorem xor_one (q : Nat) : (q ^^^ 1) = if q % 2 = 0 then q + 1 else q - 1 := by
  have h1 : (q ^^^ 1) % 2 = (q % 2) ^^^ 1 := by have := Nat.xor_mod_two_pow (a := q) (b := 1) (n := 1); simpa using this
  have h2 : (q ^^^ 1) / 2 = q / 2 := by have := Nat.xor_div_two_pow (a := q) (b := 1) (n := 1); simpa using this
  rcases Nat.mod_two_eq_zero_or_one q with h | h
  · have h3 : (q ^^^ 1) % 2 = 1 := by rw [h1, h]; rfl
    rw [if_pos h]; omega
  · have h3 : (q ^^^ 1) % 2 = 0 := by rw [h1, h]; rfl
    rw [if_neg (by omega)]; omega

theorem nxor31 (x : Nat) : x ^^^ 2147483648 = if x / 2147483648 % 2 = 0 then x + 2147483648 else x - 2147483648 := by
  have h1 : (x ^^^ 2147483648) % 2147483648 = x % 2147483648 := by have := Nat.xor_mod_two_pow (a := x) (b := 2147483648) (n := 31); simpa using this
  have h2 : (x ^^^ 2147483648) / 2147483648 = (x / 2147483648) ^^^ 1 := by have := Nat.xor_div_two_pow (a := x) (b := 2147483648) (n := 31); simpa using this
  have h3 := xor_one (x / 2147483648)
  rw [h3] at h2
  split at h2
  · rename_i h; rw [if_pos h]; omega
  · rename_i h; rw [if_neg h]; omega

theorem nand31 (x : Nat) (h : x < 18446744073709551616) : x &&& (18446744073709551615 - 2147483648) = x - x / 2147483648 % 2 * 2147483648 := by
  have e : (18446744073709551615 - 2147483648 : Nat) = 18446744073709551615 ^^^ 2147483648 := by decide
  have hm : x &&& 18446744073709551615 = x := by have := Nat.and_two_pow_sub_one_eq_mod x 64; simp at this; rw [this]; omega
  have hb : x &&& 2147483648 = x / 2147483648 % 2 * 2147483648 := nat_bit 31 x
  rw [e, Nat.and_xor_distrib_left, hm, hb]
  rcases Nat.mod_two_eq_zero_or_one (x / 2147483648) with h0 | h0
  · rw [h0]; simp
  · rw [h0, Nat.one_mul, nxor31, if_neg (by omega)]

theorem nor31 (x : Nat) (h : x < 2147483648) : x ||| 2147483648 = x + 2147483648 := by
  rw [Nat.or_comm, nat_join 31 2147483648 x (by decide) h]; omega

theorem andNot31 (x : Int) (h0 : 0 ≤ x) (h1 : x < 18446744073709551616) : bits .andNot .u64 x 2147483648 = x - x / 2147483648 % 2 * 2147483648 := by
  obtain ⟨n, rfl⟩ := Int.eq_ofNat_of_zero_le h0
  have := u64_andNot_nat n 2147483648 (by omega) (by decide)
  rw [show ((2147483648 : Nat) : Int) = 2147483648 from rfl] at this
  rw [this, nand31 n (by omega)]
  omega

theorem and31 (x : Int) (h0 : 0 ≤ x) (h1 : x < 18446744073709551616) : bits .and .u64 x 2147483648 = x / 2147483648 % 2 * 2147483648 := by
  obtain ⟨n, rfl⟩ := Int.eq_ofNat_of_zero_le h0
  have := u64_and_nat n 2147483648 (by omega) (by decide)
  rw [show ((2147483648 : Nat) : Int) = 2147483648 from rfl] at this
  rw [this, show n &&& 2147483648 = n / 2147483648 % 2 * 2147483648 from nat_bit 31 n]
  omega

theorem or31 (x : Int) (h0 : 0 ≤ x) (h1 : x < 2147483648) : bits .or .u64 x 2147483648 = x + 2147483648 := by
  obtain ⟨n, rfl⟩ := Int.eq_ofNat_of_zero_le h0
  have := u64_or_nat n 2147483648 (by omega) (by decide)
  rw [show ((2147483648 : Nat) : Int) = 2147483648 from rfl] at this
  rw [this, nor31 n (by omega)]
  omega
theorem nxor63 (x : Nat) : x ^^^ 9223372036854775808 = if x / 9223372036854775808 % 2 = 0 then x + 9223372036854775808 else x - 9223372036854775808 := by
  have h1 : (x ^^^ 9223372036854775808) % 9223372036854775808 = x % 9223372036854775808 := by have := Nat.xor_mod_two_pow (a := x) (b := 9223372036854775808) (n := 63); simpa using this
  have h2 : (x ^^^ 9223372036854775808) / 9223372036854775808 = (x / 9223372036854775808) ^^^ 1 := by have := Nat.xor_div_two_pow (a := x) (b := 9223372036854775808) (n := 63); simpa using this
  have h3 := xor_one (x / 9223372036854775808)
  rw [h3] at h2
  split at h2
  · rename_i h; rw [if_pos h]; omega
  · rename_i h; rw [if_neg h]; omega

theorem nand63 (x : Nat) (h : x < 18446744073709551616) : x &&& (18446744073709551615 - 9223372036854775808) = x - x / 9223372036854775808 % 2 * 9223372036854775808 := by
  have e : (18446744073709551615 - 9223372036854775808 : Nat) = 18446744073709551615 ^^^ 9223372036854775808 := by decide
  have hm : x &&& 18446744073709551615 = x := by have := Nat.and_two_pow_sub_one_eq_mod x 64; simp at this; rw [this]; omega
  have hb : x &&& 9223372036854775808 = x / 9223372036854775808 % 2 * 9223372036854775808 := nat_bit 63 x
  rw [e, Nat.and_xor_distrib_left, hm, hb]
  rcases Nat.mod_two_eq_zero_or_one (x / 9223372036854775808) with h0 | h0
  · rw [h0]; simp
  · rw [h0, Nat.one_mul, nxor63, if_neg (by omega)]

theorem nor63 (x : Nat) (h : x < 9223372036854775808) : x ||| 9223372036854775808 = x + 9223372036854775808 := by
  rw [Nat.or_comm, nat_join 63 9223372036854775808 x (by decide) h]; omega

theorem andNot63 (x : Int) (h0 : 0 ≤ x) (h1 : x < 18446744073709551616) : bits .andNot .u64 x 9223372036854775808 = x - x / 9223372036854775808 % 2 * 9223372036854775808 := by
  obtain ⟨n, rfl⟩ := Int.eq_ofNat_of_zero_le h0
  have := u64_andNot_nat n 9223372036854775808 (by omega) (by decide)
  rw [show ((9223372036854775808 : Nat) : Int) = 9223372036854775808 from rfl] at this
  rw [this, nand63 n (by omega)]
  omega

theorem and63 (x : Int) (h0 : 0 ≤ x) (h1 : x < 18446744073709551616) : bits .and .u64 x 9223372036854775808 = x / 9223372036854775808 % 2 * 9223372036854775808 := by
  obtain ⟨n, rfl⟩ := Int.eq_ofNat_of_zero_le h0
  have := u64_and_nat n 9223372036854775808 (by omega) (by decide)
  rw [show ((9223372036854775808 : Nat) : Int) = 9223372036854775808 from rfl] at this
  rw [this, show n &&& 9223372036854775808 = n / 9223372036854775808 % 2 * 9223372036854775808 from nat_bit 63 n]
  omega

theorem or63 (x : Int) (h0 : 0 ≤ x) (h1 : x < 9223372036854775808) : bits .or .u64 x 9223372036854775808 = x + 9223372036854775808 := by
  obtain ⟨n, rfl⟩ := Int.eq_ofNat_of_zero_le h0
  have := u64_or_nat n 9223372036854775808 (by omega) (by decide)
  rw [show ((9223372036854775808 : Nat) : Int) = 9223372036854775808 from rfl] at this
  rw [this, nor63 n (by omega)]
  omega

theorem bit22 (x : Int) (h0 : 0 ≤ x) (h1 : x < 18446744073709551616) : bits .and .u64 x 4194304 = x / 4194304 % 2 * 4194304 := by
  obtain ⟨n, rfl⟩ := Int.eq_ofNat_of_zero_le h0
  have := u64_and_nat n 4194304 (by omega) (by decide)
  rw [show ((4194304 : Nat) : Int) = 4194304 from rfl] at this
  rw [this, show n &&& 4194304 = n / 4194304 % 2 * 4194304 from nat_bit 22 n]
  omega
theorem bit51 (x : Int) (h0 : 0 ≤ x) (h1 : x < 18446744073709551616) : bits .and .u64 x 2251799813685248 = x / 2251799813685248 % 2 * 2251799813685248 := by
  obtain ⟨n, rfl⟩ := Int.eq_ofNat_of_zero_le h0
  have := u64_and_nat n 2251799813685248 (by omega) (by decide)
  rw [show ((2251799813685248 : Nat) : Int) = 2251799813685248 from rfl] at this
  rw [this, show n &&& 2251799813685248 = n / 2251799813685248 % 2 * 2251799813685248 from nat_bit 51 n]
  omega

theorem mask23 (x : Int) (h0 : 0 ≤ x) (h1 : x < 18446744073709551616) : bits .and .u64 x 8388607 = x % 8388608 := by
  obtain ⟨n, rfl⟩ := Int.eq_ofNat_of_zero_le h0
  have := u64_and_nat n 8388607 (by omega) (by decide)
  rw [show ((8388607 : Nat) : Int) = 8388607 from rfl] at this
  rw [this, show n &&& 8388607 = n % 8388608 from Nat.and_two_pow_sub_one_eq_mod n 23]
  omega
theorem mask52 (x : Int) (h0 : 0 ≤ x) (h1 : x < 18446744073709551616) : bits .and .u64 x 4503599627370495 = x % 4503599627370496 := by
  obtain ⟨n, rfl⟩ := Int.eq_ofNat_of_zero_le h0
  have := u64_and_nat n 4503599627370495 (by omega) (by decide)
  rw [show ((4503599627370495 : Nat) : Int) = 4503599627370495 from rfl] at this
  rw [this, show n &&& 4503599627370495 = n % 4503599627370496 from Nat.and_two_pow_sub_one_eq_mod n 52]
  omega
end Bt
end Go.Proofs.YtkfjmcdniohljaaGreatDoor
namespace Go.Proofs.YtkfjmcdniohljaaGreatDoor
set_option linter.unusedVariables false
namespace Nm
/-- The limbs of a number, least first, none on top that is 0. -/
def lim (n : Nat) : List Int := if h : n = 0 then [] else ((n % 4294967296 : Nat) : Int) :: lim (n / 4294967296)
termination_by n
decreasing_by exact Nat.div_lt_self (by omega) (by decide)

theorem lim_zero : lim 0 = [] := by unfold lim; simp
theorem lim_pos {n : Nat} (h : n ≠ 0) : lim n = ((n % 4294967296 : Nat) : Int) :: lim (n / 4294967296) := by rw [lim]; simp [h]

theorem lim_dg (n : Nat) : Dg (lim n) := by
  induction n using Nat.strongRecOn with
  | _ n ih =>
    by_cases h : n = 0
    · subst h; rw [lim_zero]; exact Dg.nil
    · rw [lim_pos h]; exact Dg.cons (by omega) (ih _ (Nat.div_lt_self (by omega) (by decide)))

theorem lim_val (n : Nat) : val (lim n) = n := by
  induction n using Nat.strongRecOn with
  | _ n ih =>
    by_cases h : n = 0
    · subst h; rw [lim_zero]; rfl
    · rw [lim_pos h, val, ih _ (Nat.div_lt_self (by omega) (by decide))]; omega

theorem lim_nil {n : Nat} (h : lim n = []) : n = 0 := by
  by_cases h0 : n = 0
  · exact h0
  · rw [lim_pos h0] at h; cases h

theorem lim_nz (n : Nat) : Nz (lim n) := by
  induction n using Nat.strongRecOn with
  | _ n ih =>
    by_cases h : n = 0
    · subst h; rw [lim_zero]; exact Nz.nil
    · rw [lim_pos h]
      have h1 := ih _ (Nat.div_lt_self (by omega : 0 < n) (by decide : 1 < 4294967296))
      intro z hz
      cases e : lim (n / 4294967296) with
      | nil => rw [e] at hz; have := lim_nil e; simp at hz; omega
      | cons y r => rw [e] at hz; rw [List.getLast?_cons_cons, ← e] at hz; exact h1 z hz

theorem lim_of {l : List Int} (h : Dg l) (k : Nz l) : lim (val l).toNat = l :=
  val_inj (lim_dg _) h (lim_nz _) k (by rw [lim_val]; have := val_nonneg h; omega)
theorem trim_lim {l : List Int} (h : Dg l) : trim l = lim (val l).toNat :=
  val_inj (trim_dg h) (lim_dg _) (trim_nz _) (lim_nz _) (by rw [lim_val, trim_val]; have := val_nonneg h; omega)
theorem lim_length (n k : Nat) : (lim n).length ≤ k ↔ (n : Int) < pw k := by
  rw [length_le_iff (lim_dg n) (lim_nz n) k, lim_val]
theorem lim_length_zero (n : Nat) : (lim n).length = 0 ↔ n = 0 := by
  constructor
  · intro h; exact lim_nil (List.eq_nil_of_length_eq_zero h)
  · rintro rfl; rw [lim_zero]; rfl

/-- A limb is set. -/
theorem val_set (l : List Int) (k : Nat) (v : Int) (h : k < l.length) : val (l.set k v) = val l + pw k * (v - l.getD k 0) := by
  induction l generalizing k with
  | nil => simp at h
  | cons z r ih =>
    cases k with
    | zero => simp [val, pw]; omega
    | succ k =>
      have := ih k (by simpa using h)
      simp only [List.set_cons_succ, val, this, pw, List.getD_cons_succ]
      rw [Int.mul_add, Int.mul_assoc]; omega
theorem Dg.set {l : List Int} (h : Dg l) (k : Nat) {v : Int} (hv : 0 ≤ v ∧ v < 4294967296) : Dg (l.set k v) := fun x hx => by
  rcases List.mem_or_eq_of_mem_set hx with hx | rfl
  · exact h x hx
  · exact hv
theorem getD_set (l : List Int) (k i : Nat) (v : Int) (h : k < l.length) : (l.set k v).getD i 0 = if i = k then v else l.getD i 0 := by
  rw [List.getD_eq_getElem?_getD, List.getElem?_set, List.getD_eq_getElem?_getD]
  by_cases e : k = i
  · subst e; simp [h]
  · rw [if_neg e, if_neg (fun h => e h.symm)]

theorem take_snoc {l : List Int} {k : Nat} (h : k < l.length) : l.take (k + 1) = l.take k ++ [l.getD k 0] := by
  rw [List.take_succ_eq_append_getElem h]; simp [List.getD_eq_getElem?_getD, h]
/-- The first limbs, and one more (or 0, behind the last one). -/
theorem val_take_succ (l : List Int) (k : Nat) : val (l.take (k + 1)) = val (l.take k) + pw k * l.getD k 0 := by
  by_cases h : k < l.length
  · rw [take_snoc h, val_append]
    simp [val, Nat.min_eq_left (Nat.le_of_lt h)]
  · rw [List.take_of_length_le (by omega), List.take_of_length_le (by omega), List.getD_eq_getElem?_getD, List.getElem?_eq_none (by omega)]; simp
theorem val_snoc (l : List Int) (z : Int) : val (l ++ [z]) = val l + pw l.length * z := by rw [val_append]; simp [val]
theorem getD_out {l : List Int} {k : Nat} (h : l.length ≤ k) : l.getD k 0 = 0 := by rw [List.getD_eq_getElem?_getD, List.getElem?_eq_none (by omega)]; rfl
theorem getD_replicate (n k : Nat) : (List.replicate n (0 : Int)).getD k 0 = 0 := by
  rw [List.getD_eq_getElem?_getD]
  by_cases h : k < n
  · simp [h]
  · simp [h]

/-- A wide that is x: the limbs, the sign; what is answered where it may not fit. -/
def wl (x : Int) : List Int := lim x.natAbs
def wn (x : Int) : Bool := decide (x < 0)
def fits (x : Int) : Bool := decide ((wl x).length ≤ 200)
def outL (x : Int) : List Int := if fits x then wl x else []
def outN (x : Int) : Bool := fits x && wn x
/-- What a wide with this sign and limbs is. -/
def wv (ng : Bool) (zs : List Int) : Int := if ng then - val zs else val zs
theorem natAbs_wv {zs : List Int} (ng : Bool) (h : Dg zs) : (wv ng zs).natAbs = (val zs).toNat := by
  have := val_nonneg h
  unfold wv; cases ng <;> simp <;> omega
theorem wl_wv {zs : List Int} (ng : Bool) (h : Dg zs) : wl (wv ng zs) = trim zs := by
  unfold wl; rw [natAbs_wv ng h, trim_lim h]
theorem wn_wv {zs : List Int} (ng : Bool) (h : Dg zs) : wn (wv ng zs) = (ng && !decide ((trim zs).length = 0)) := by
  have h0 := val_nonneg h
  have h1 : (trim zs).length = 0 ↔ val zs = 0 := by rw [trim_lim h, lim_length_zero]; omega
  unfold wn wv
  by_cases e : val zs = 0
  · rw [decide_eq_true (h1.2 e), e]; cases ng <;> simp
  · rw [decide_eq_false (fun h => e (h1.1 h))]; cases ng
    · simp; omega
    · simp; omega
theorem wl_dg (x : Int) : Dg (wl x) := lim_dg _
theorem wl_nz (x : Int) : Nz (wl x) := lim_nz _
theorem val_wl (x : Int) : val (wl x) = x.natAbs := lim_val _
theorem wv_out (x : Int) : wv (wn x) (wl x) = x := by
  unfold wv wn; rw [val_wl]; by_cases h : x < 0 <;> simp [h] <;> omega
/-- A sum: k limbs are done, c is carried. -/
def AddAt (xs ys os : List Int) (k : Nat) (c : Int) : Prop := val (os.take k) + pw k * c = val (xs.take k) + val (ys.take k)
theorem AddAt.zero (xs ys os : List Int) : AddAt xs ys os 0 0 := by simp [AddAt, val]
/-- One limb more: the sum of both limbs and what is carried is parted. -/
theorem AddAt.step {xs ys os : List Int} {k : Nat} {c d c' : Int} (h : AddAt xs ys os k c) (hk : k < os.length) (e : d + 4294967296 * c' = xs.getD k 0 + ys.getD k 0 + c) : AddAt xs ys (os.set k d) (k + 1) c' := by
  unfold AddAt at *
  rw [val_take_succ, val_take_succ, val_take_succ, List.take_set_of_le (Nat.le_refl k), getD_set _ _ _ _ hk, if_pos rfl]
  have e2 : pw k * d + pw (k + 1) * c' = pw k * (xs.getD k 0 + ys.getD k 0 + c) := by
    rw [← e, Int.mul_add, show pw (k + 1) = 4294967296 * pw k from rfl, ← Int.mul_assoc, Int.mul_comm (pw k) 4294967296]
  rw [Int.mul_add, Int.mul_add] at e2
  omega
theorem AddAt.stepSnoc {xs ys os : List Int} {c d c' : Int} (h : AddAt xs ys os os.length c) (e : d + 4294967296 * c' = xs.getD os.length 0 + ys.getD os.length 0 + c) : AddAt xs ys (os ++ [d]) (os ++ [d]).length c' := by
  have h1 : AddAt xs ys (os ++ [0]) os.length c := by unfold AddAt at *; simpa using h
  have h2 := AddAt.step h1 (by simp) e
  simpa using h2
theorem AddAt.full {xs ys os : List Int} {k : Nat} {c : Int} (h : AddAt xs ys os k c) (hx : xs.length ≤ k) (hy : ys.length ≤ k) (ho : os.length = k) : val os + pw k * c = val xs + val ys := by
  unfold AddAt at h; rwa [List.take_of_length_le (by omega), List.take_of_length_le hx, List.take_of_length_le hy] at h

/-- A difference: k limbs are done, c is borrowed. -/
def SubAt (xs ys os : List Int) (k : Nat) (c : Int) : Prop := val (os.take k) - pw k * c = val (xs.take k) - val (ys.take k)
theorem SubAt.zero (xs ys os : List Int) : SubAt xs ys os 0 0 := by simp [SubAt, val]
theorem SubAt.step {xs ys os : List Int} {k : Nat} {c d c' : Int} (h : SubAt xs ys os k c) (hk : k < os.length) (e : d - 4294967296 * c' = xs.getD k 0 - ys.getD k 0 - c) : SubAt xs ys (os.set k d) (k + 1) c' := by
  unfold SubAt at *
  rw [val_take_succ, val_take_succ, val_take_succ, List.take_set_of_le (Nat.le_refl k), getD_set _ _ _ _ hk, if_pos rfl]
  have e2 : pw k * d - pw (k + 1) * c' = pw k * (xs.getD k 0 - ys.getD k 0 - c) := by
    rw [← e, Int.mul_sub, show pw (k + 1) = 4294967296 * pw k from rfl, ← Int.mul_assoc, Int.mul_comm (pw k) 4294967296]
  rw [Int.mul_sub, Int.mul_sub] at e2
  omega
theorem SubAt.stepSnoc {xs ys os : List Int} {c d c' : Int} (h : SubAt xs ys os os.length c) (e : d - 4294967296 * c' = xs.getD os.length 0 - ys.getD os.length 0 - c) : SubAt xs ys (os ++ [d]) (os ++ [d]).length c' := by
  have h1 : SubAt xs ys (os ++ [0]) os.length c := by unfold SubAt at *; simpa using h
  have h2 := SubAt.step h1 (by simp) e
  simpa using h2
/-- Where the first is not less than the other nothing is borrowed at the end. -/
theorem SubAt.full {xs ys os : List Int} {c : Int} (h : SubAt xs ys os os.length c) (hx : xs.length = os.length) (hy : ys.length ≤ os.length) (dx : Dg xs) (dy : Dg ys) (dos : Dg os) (hc : 0 ≤ c) (hge : val ys ≤ val xs) : val os = val xs - val ys := by
  unfold SubAt at h
  rw [List.take_of_length_le (Nat.le_refl _), List.take_of_length_le (by omega), List.take_of_length_le hy] at h
  have h1 := val_lt dos
  have h2 := val_nonneg dos
  have hz : c = 0 := by
    rcases Int.lt_or_le 0 c with h3 | h3
    · exfalso
      have := pw_pos os.length
      have h4 : pw os.length * 1 ≤ pw os.length * c := Int.mul_le_mul_of_nonneg_left (by omega) (by omega)
      omega
    · omega
  subst hz
  omega

/-- A product: i limbs of the first are done, and j of the other with the next one, c is carried. -/
def MulAt (xs ys os : List Int) (i j : Nat) (c : Int) : Prop := val os + pw (i + j) * c = val (xs.take i) * val ys + pw i * (xs.getD i 0 * val (ys.take j))
theorem MulAt.zero (xs ys os : List Int) (h : val os = 0) : MulAt xs ys os 0 0 0 := by simp [MulAt, val, h]
theorem MulAt.step {xs ys os : List Int} {i j : Nat} {c d c' : Int} (h : MulAt xs ys os i j c) (hk : i + j < os.length) (e : d + 4294967296 * c' = xs.getD i 0 * ys.getD j 0 + os.getD (i + j) 0 + c) : MulAt xs ys (os.set (i + j) d) i (j + 1) c' := by
  unfold MulAt at *
  rw [val_set _ _ _ hk, val_take_succ]
  have e2 : pw (i + j) * d + pw (i + (j + 1)) * c' = pw (i + j) * (xs.getD i 0 * ys.getD j 0) + pw (i + j) * os.getD (i + j) 0 + pw (i + j) * c := by
    rw [← Int.mul_add, ← Int.mul_add, ← e, Int.mul_add, show i + (j + 1) = (i + j) + 1 by omega, show pw (i + j + 1) = 4294967296 * pw (i + j) from rfl, ← Int.mul_assoc, Int.mul_comm (pw (i + j)) 4294967296]
  have e3 : pw i * (xs.getD i 0 * (val (ys.take j) + pw j * ys.getD j 0)) = pw i * (xs.getD i 0 * val (ys.take j)) + pw (i + j) * (xs.getD i 0 * ys.getD j 0) := by
    rw [pw_add, Int.mul_add, Int.mul_add, ← Int.mul_assoc (xs.getD i 0) (pw j), Int.mul_comm (xs.getD i 0) (pw j), Int.mul_assoc, Int.mul_assoc]
  rw [e3, Int.mul_sub]
  omega
/-- All of the other is done: the next limb of the first. -/
theorem MulAt.next {xs ys os : List Int} {i j : Nat} (h : MulAt xs ys os i j 0) (hj : ys.length ≤ j) : MulAt xs ys os (i + 1) 0 0 := by
  unfold MulAt at *
  rw [List.take_of_length_le hj] at h
  rw [val_take_succ]
  simp [val]
  rw [Int.add_mul, Int.mul_assoc]
  simpa using h
theorem MulAt.full {xs ys os : List Int} {i : Nat} (h : MulAt xs ys os i 0 0) (hi : xs.length ≤ i) : val os = val xs * val ys := by
  unfold MulAt at h; rw [List.take_of_length_le hi] at h; simpa [val] using h

/-- What two limbs' product, a limb and what is carried come to. -/
theorem prod_bound {x y o c : Int} (hx : 0 ≤ x ∧ x < 4294967296) (hy : 0 ≤ y ∧ y < 4294967296) (ho : 0 ≤ o ∧ o < 4294967296) (hc : 0 ≤ c ∧ c < 4294967296) : 0 ≤ x * y ∧ x * y ≤ 18446744065119617025 ∧ x * y + o + c < 18446744073709551616 ∧ (x * y + o + c) / 4294967296 < 4294967296 ∧ 0 ≤ (x * y + o + c) / 4294967296 := by
  have h1 : x * y ≤ 4294967295 * 4294967295 := Int.mul_le_mul (by omega) (by omega) hy.1 (by omega)
  have h0 : 0 ≤ x * y := Int.mul_nonneg hx.1 hy.1
  refine ⟨h0, by omega, by omega, by omega, by omega⟩
end Nm
end Go.Proofs.YtkfjmcdniohljaaGreatDoor
