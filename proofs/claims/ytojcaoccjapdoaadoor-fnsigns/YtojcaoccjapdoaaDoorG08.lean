/-
  Several texts in one: RA, Bits, FloatA.
-/
import Derived.Test.YtojcaoccjapdoaaDoorG06
import Derived.Test.YtojcaoccjapdoaaDoorG07
import Derived.WalkKit
import Derived.Test.YtojcaoccjapdoaaDoorRows
import Derived.WalkSpells
import Derived.WalkLawsBesides
import Derived.Test.YtojcaoccjapdoaaDoorG00
import Derived.Deep.RegionHeld3
/-
  Wides that are not below 0, by the specification: shifted, counted, compared, added: told by the number itself.
-/
namespace Go.Proofs.YtojcaoccjapdoaaDoor
set_option linter.unusedVariables false
set_option linter.unusedSimpArgs false
open Go.RowKit Go.Deep
theorem lim_len {x k : Nat} (h : bitLen x ≤ 32 * k) : (Nm.lim x).length ≤ k := (Nm.lim_length x k).2 (by rw [Nm.pw_two]; exact Int.ofNat_lt.2 ((Nm.bl_le_iff x (32 * k)).1 h))
theorem len_bl {x k : Nat} (h : (Nm.lim x).length ≤ k) : bitLen x ≤ 32 * k := (Nm.bl_le_iff x (32 * k)).2 (by have := (Nm.lim_length x k).1 h; rw [Nm.pw_two] at this; exact Int.ofNat_lt.1 this)
theorem wl_nat (x : Nat) : Nm.wl (x : Int) = Nm.lim x := by unfold Nm.wl; simp
theorem wn_nat (x : Nat) : Nm.wn (x : Int) = false := by unfold Nm.wn; exact decide_eq_false (by omega)
theorem wv_nat (x : Nat) : Nm.wv false (Nm.lim x) = (x : Int) := by unfold Nm.wv; simpa using Nm.lim_val x
/-- How many bits limbs are written with, by what they are worth. -/
theorem blL_val {zs : List Int} (d : Nm.Dg zs) (z : Nm.Nz zs) : blL zs = (bitLen (Nm.val zs).toNat : Int) := by
  unfold blL
  by_cases h0 : zs.length = 0
  · have : zs = [] := List.eq_nil_of_length_eq_zero h0
    subst this
    rw [if_pos h0]; simp [Nm.val, Nm.bl_zero]
  · rw [if_neg h0]
    have hlt : zs.length - 1 < zs.length := by omega
    have hv := Nm.val_take_succ zs (zs.length - 1)
    rw [show zs.length - 1 + 1 = zs.length by omega, List.take_length] at hv
    have hf := Nm.val_take_lt d (zs.length - 1)
    have ht := d.getD (zs.length - 1)
    have htop : zs.getD (zs.length - 1) 0 ≠ 0 := by
      apply z
      rw [List.getLast?_eq_getElem?, List.getD_eq_getElem?_getD, List.getElem?_eq_getElem hlt]; rfl
    rw [Nm.pw_two] at hv hf
    generalize zs.getD (zs.length - 1) 0 = t at *
    generalize Nm.val (zs.take (zs.length - 1)) = f at *
    have hn : (zs.length : Int) - 1 = ((zs.length - 1 : Nat) : Int) := by omega
    rw [hn]
    clear hn hlt h0
    generalize zs.length - 1 = n at *
    obtain ⟨T, rfl⟩ : ∃ T : Nat, t = T := ⟨t.toNat, by omega⟩
    obtain ⟨F, rfl⟩ : ∃ F : Nat, f = F := ⟨f.toNat, by omega⟩
    have hF : F < 2 ^ (32 * n) := Int.ofNat_lt.1 hf.2
    have hV : (Nm.val zs).toNat = F + 2 ^ (32 * n) * T := by rw [hv]; rw [← Int.natCast_mul, ← Int.natCast_add, Int.toNat_natCast]
    have hdiv : (F + 2 ^ (32 * n) * T) / 2 ^ (32 * n) = T := by
      rw [Nat.add_mul_div_left _ _ (Nm.pw_pos2 _), Nat.div_eq_of_lt hF]; omega
    have hb := bitLen_shift (F + 2 ^ (32 * n) * T) (32 * n) (by rw [hdiv]; omega)
    rw [hV, hb, hdiv]
    simp
theorem blL_lim (x : Nat) : blL (Nm.lim x) = (bitLen x : Int) := by
  rw [blL_val (Nm.lim_dg x) (Nm.lim_nz x), Nm.lim_val]; simp
theorem shift_n (x : Nat) (n : Int) (a : Option Addr) (c : Nat) (w : World) (hx : Sl .u32 w (.slice a (Nm.lim x).length c) (Nm.lim x)) (hl : bitLen x ≤ 100000) (h0 : -1000000 ≤ n) (h1 : n ≤ 1000000) :
    Calls Tryd.prog 125 #[.agg #[.bool false, .slice a (Nm.lim x).length c], .int .i64 n] w fun e w' => ∃ a' c', e = .returned (.agg #[.bool false, .slice a' (Nm.lim (Nm.sh x n)).length c']) ∧ Own w' w.heap.size a' c' (Nm.lim (Nm.sh x n)) ∧ Below w.heap.size w w' := by
  have h := l1shift_any false a c (Nm.lim x) n w hx (Nm.lim_dg x) (by have := lim_len (x := x) (k := 100000) (by omega); omega) h0 h1 ((Nm.sh x n : Nat) : Int) (by rw [Nm.lim_val, Nm.shV_sh])
  rw [wn_nat, wl_nat] at h
  exact h
theorem bits_n (x : Nat) (ng : Bool) (a : Option Addr) (c : Nat) (w : World) (hx : Sl .u32 w (.slice a (Nm.lim x).length c) (Nm.lim x)) (hl : bitLen x ≤ 1000000) :
    Calls Tryd.prog 134 #[.agg #[.bool ng, .slice a (Nm.lim x).length c]] w fun e w' => e = .returned (.int .i64 (bitLen x : Nat)) ∧ Below w.heap.size w w' := by
  have h := l1Bits_any ng a c (Nm.lim x) w hx (Nm.lim_dg x) (by have := lim_len (x := x) (k := 1000000) (by omega); omega)
  rw [blL_lim] at h
  exact h
theorem cmpL_nat (x y : Nat) : cmpL (Nm.lim x) (Nm.lim y) = Nm.cmp2 x y := by
  have h := cmpL_val (Nm.lim_dg x) (Nm.lim_dg y) (Nm.lim_nz x) (Nm.lim_nz y)
  have hr := cmpL_rng (Nm.lim x) (Nm.lim y)
  rw [Nm.lim_val, Nm.lim_val] at h
  unfold Nm.cmp2
  split
  · omega
  · split <;> omega
theorem cmp_n (x y : Nat) (a a' : Option Addr) (c c' : Nat) (w : World) (hx : Sl .u32 w (.slice a (Nm.lim x).length c) (Nm.lim x)) (hy : Sl .u32 w (.slice a' (Nm.lim y).length c') (Nm.lim y)) (hl : bitLen x ≤ 1000000) (hl' : bitLen y ≤ 1000000) :
    Calls Tryd.prog 136 #[.agg #[.bool false, .slice a (Nm.lim x).length c], .agg #[.bool false, .slice a' (Nm.lim y).length c']] w fun e w' => e = .returned (.int .i64 (Nm.cmp2 x y)) ∧ Below w.heap.size w w' := by
  have h := l1Cmp_any false false a a' c c' (Nm.lim x) (Nm.lim y) w hx hy (by have := lim_len (x := x) (k := 1000000) (by omega); omega) (by have := lim_len (x := y) (k := 1000000) (by omega); omega)
  have e : lcmp false false (Nm.lim x) (Nm.lim y) = Nm.cmp2 x y := cmpL_nat x y
  rw [e] at h
  exact h
theorem add_n (x y r : Nat) (ng : Bool) (hng : ng = Nm.wn (-(y : Int))) (hr : r + y = x) (a a' : Option Addr) (c c' : Nat) (w : World) (hx : Sl .u32 w (.slice a (Nm.lim x).length c) (Nm.lim x)) (hy : Sl .u32 w (.slice a' (Nm.lim y).length c') (Nm.lim y)) (hl : bitLen x ≤ 1000000) :
    Calls Tryd.prog 124 #[.agg #[.bool false, .slice a (Nm.lim x).length c], .agg #[.bool ng, .slice a' (Nm.lim y).length c']] w fun e w' => ∃ a1 c1, e = .returned (.agg #[.bool false, .slice a1 (Nm.lim r).length c1]) ∧ Own w' w.heap.size a1 c1 (Nm.lim r) ∧ Below w.heap.size w w' := by
  have hy' : bitLen y ≤ 1000000 := by have := Nm.bl_mono (show y ≤ x by omega); omega
  have hv : Nm.wv ng (Nm.lim y) = -(y : Int) := by
    have := Nm.wv_out (-(y : Int))
    rw [← hng] at this
    unfold Nm.wl at this; simpa using this
  have h := l1add_any false ng a a' c c' (Nm.lim x) (Nm.lim y) w hx hy (Nm.lim_dg x) (Nm.lim_dg y) (Nm.lim_nz x) (Nm.lim_nz y) (by have := lim_len (x := x) (k := 40000) (by omega); omega) (by have := lim_len (x := y) (k := 40000) (by omega); omega) (r : Int) (by rw [wv_nat, hv]; omega)
  rw [wn_nat, wl_nat] at h
  exact h
theorem plus_n (x y : Nat) (a a' : Option Addr) (c c' : Nat) (w : World) (hx : Sl .u32 w (.slice a (Nm.lim x).length c) (Nm.lim x)) (hy : Sl .u32 w (.slice a' (Nm.lim y).length c') (Nm.lim y)) (hl : bitLen x ≤ 1000000) (hl' : bitLen y ≤ 1000000) :
    Calls Tryd.prog 124 #[.agg #[.bool false, .slice a (Nm.lim x).length c], .agg #[.bool false, .slice a' (Nm.lim y).length c']] w fun e w' => ∃ a1 c1, e = .returned (.agg #[.bool false, .slice a1 (Nm.lim (x + y)).length c1]) ∧ Own w' w.heap.size a1 c1 (Nm.lim (x + y)) ∧ Below w.heap.size w w' := by
  have h := l1add_any false false a a' c c' (Nm.lim x) (Nm.lim y) w hx hy (Nm.lim_dg x) (Nm.lim_dg y) (Nm.lim_nz x) (Nm.lim_nz y) (by have := lim_len (x := x) (k := 40000) (by omega); omega) (by have := lim_len (x := y) (k := 40000) (by omega); omega) ((x + y : Nat) : Int) (by rw [wv_nat, wv_nat]; simp)
  rw [wn_nat, wl_nat] at h
  exact h
theorem one_n (w : World) :
    Calls Tryd.prog 126 #[.int .i64 1] w fun e w' => ∃ a' c', e = .returned (.agg #[.bool false, .slice a' (Nm.lim 1).length c']) ∧ Own w' w.heap.size a' c' (Nm.lim 1) ∧ Below w.heap.size w w' := by
  have h := wof_spec 1 w (by decide) (by decide)
  have e1 : Nm.wn 1 = false := by decide
  have e2 : Nm.wl 1 = Nm.lim 1 := wl_nat 1
  rw [e1, e2] at h
  exact h
set_option maxHeartbeats 1000000 in
theorem l1neg_v (ng : Bool) (a : Option Addr) (cap : Nat) (zs : List Int) (w : World) (hs : Sl .u32 w (.slice a zs.length cap) zs) (hz : Nm.Dg zs) (hl : zs.length ≤ 1048576) (x : Int) (hx : x = Nm.wv (!ng) zs) :
    Calls Tryd.prog 135 #[.agg #[.bool ng, .slice a zs.length cap]] w fun e w' => ∃ a' c', e = .returned (.agg #[.bool (Nm.wn x), .slice a' (Nm.wl x).length c']) ∧ Own w' w.heap.size a' c' (Nm.wl x) ∧ Below w.heap.size w w' := by
  have HX := hid hx
  clear hx
  go_enter Tryd.func135, Tryd.ntmps135
  go_wp2_with fail
  refine (made_v (!ng) a cap zs _ ((hs.alloc _).alloc _) hz hl x HX.out).mono ?_
  rintro e w1 ⟨a', c', rfl, ho, hb⟩
  obtain ⟨r0, r1, f0, f1⟩ := (R2.new2 w (.cells #[.bool ng, .slice a zs.length cap] 31) (.bool false) (.slice none 0 0) 31).below hb
  have ho : Own w1 (w.heap.size + 1 + 1) a' c' (Nm.wl x) := by simpa using ho
  go_wp2
  refine bodyPost_ret (v := .agg #[.bool (Nm.wn x), .slice a' (Nm.wl x).length c']) (by simp [results, Tryd.results135, go_sem, r0, r1]) rfl ⟨a', c', rfl, ?_, (by repeat (first | exact Below.refl _ _ | refine Below.drew ?_ | refine bel_dn ?_ _ | refine bel_al ?_ _ | refine bel_go ?_ hb | refine Below.setCell ?_ (by first | omega | (simp; done) | (simp; omega)) _ | refine Below.alloc ?_ (by first | omega | (simp; done) | (simp; omega)) _ | refine Below.trans ?_ (Below.mono hb (by first | omega | (simp; done) | (simp; omega)))))⟩
  exact Own.base ((ho.setBelow (by simp) _).setBelow (by simp) _) (by omega)
theorem neg_n (x : Nat) (a : Option Addr) (c : Nat) (w : World) (hx : Sl .u32 w (.slice a (Nm.lim x).length c) (Nm.lim x)) (hl : bitLen x ≤ 1000000) :
    Calls Tryd.prog 135 #[.agg #[.bool false, .slice a (Nm.lim x).length c]] w fun e w' => ∃ a1 c1, e = .returned (.agg #[.bool (Nm.wn (-(x : Int))), .slice a1 (Nm.lim x).length c1]) ∧ Own w' w.heap.size a1 c1 (Nm.lim x) ∧ Below w.heap.size w w' := by
  have e2 : Nm.wl (-(x : Int)) = Nm.lim x := by unfold Nm.wl; simp
  have hv : -(x : Int) = Nm.wv (!false) (Nm.lim x) := by unfold Nm.wv; simp [Nm.lim_val]
  have h := l1neg_v false a c (Nm.lim x) w hx (Nm.lim_dg x) (by have := lim_len (x := x) (k := 1000000) (by omega); omega) (-(x : Int)) hv
  rw [e2] at h
  exact h
theorem lim_two {x : Nat} (h : x < 18446744073709551616) : (Nm.lim x).length ≤ 2 := lim_len (k := 2) ((Nm.bl_le_iff x 64).2 (by simpa using h))
theorem two_val {x : Nat} {zs : List Int} (h : zs = Nm.lim x) (h2 : zs.length ≤ 2) : zs.getD 0 0 + zs.getD 1 0 * 4294967296 = (x : Int) := by
  have hv : Nm.val zs = x := by rw [h]; exact Nm.lim_val x
  match zs, h2, hv with
  | [], _, hv => simpa [Nm.val] using hv
  | [a], _, hv => simp [Nm.val] at hv ⊢; omega
  | [a, b], _, hv => simp [Nm.val] at hv ⊢; omega
  | _ :: _ :: _ :: _, h2, _ => simp at h2
theorem low_any (ng : Bool) (a : Option Addr) (c : Nat) (zs : List Int) (w : World) (hx : Sl .u32 w (.slice a zs.length c) zs) (hz : Nm.Dg zs) (h2 : zs.length ≤ 2) :
    Calls Tryd.prog 138 #[.agg #[.bool ng, .slice a zs.length c]] w fun e w' => e = .returned (.int .u64 (zs.getD 0 0 + zs.getD 1 0 * 4294967296)) ∧ Below w.heap.size w w' := by
  match zs, hx, hz, h2 with
  | [], hs, hz, _ => exact low0 ng a c w hs
  | [x], hs, hz, _ =>
    obtain ⟨-, _, _, hc3⟩ := hs.cells
    obtain ⟨b, off, rfl, _⟩ := hc3 (by simp)
    have hx := hz.head
    have := low1 ng b off x c w hs hx.1 hx.2
    simpa using this
  | [x, y], hs, hz, _ =>
    obtain ⟨-, _, _, hc3⟩ := hs.cells
    obtain ⟨b, off, rfl, _⟩ := hc3 (by simp)
    have hx := hz.head
    have hy := hz.tail.head
    exact low2 ng b off x y c w hs hx.1 hx.2 hy.1 hy.2
  | _ :: _ :: _ :: _, _, _, h2 => simp at h2
theorem low_n (x : Nat) (ng : Bool) (a : Option Addr) (c : Nat) (w : World) (hx : Sl .u32 w (.slice a (Nm.lim x).length c) (Nm.lim x)) (h : x < 18446744073709551616) :
    Calls Tryd.prog 138 #[.agg #[.bool ng, .slice a (Nm.lim x).length c]] w fun e w' => e = .returned (.int .u64 (x : Nat)) ∧ Below w.heap.size w w' := by
  have h2 := lim_two h
  have := low_any ng a c (Nm.lim x) w hx (Nm.lim_dg x) h2
  rw [two_val rfl h2] at this
  exact this
end Go.Proofs.YtojcaoccjapdoaaDoor
/-
  Plain mathematics: single bits of a number of 64 bits, by quotients and rests.
-/
namespace Go.Proofs.YtojcaoccjapdoaaDoor
set_option linter.unusedVariables false
set_option linter.unusedSimpArgs false
namespace Bt

theorem xor_one (q : Nat) : (q ^^^ 1) = if q % 2 = 0 then q + 1 else q - 1 := by
  have h1 : (q ^^^ 1) % 2 = (q % 2) ^^^ 1 := by have := Nat.xor_mod_two_pow (a := q) (b := 1) (n := 1); simpa using this
  have h2 : (q ^^^ 1) / 2 = q / 2 := by have := Nat.xor_div_two_pow (a := q) (b := 1) (n := 1); simpa using this
  rcases Nat.mod_two_eq_zero_or_one q with h | h
  · have h3 : (q ^^^ 1) % 2 = 1 := by rw [h1, h]; rfl
    rw [if_pos h]; omega
  · have h3 : (q ^^^ 1) % 2 = 0 := by rw [h1, h]; rfl
    rw [if_neg (by omega)]; omega

theorem nxor31 (x : Nat) : x ^^^ 2147483648 = if x / 2147483648 % 2 = 0 then x + 2147483648 else x - 2147483648 := by
  have h1 : (x ^^^ 2147483648) % 2147483648 = x % 2147483648 := by have := Nat.xor_mod_two_pow (a := x) (b := 2147483648) (n := 31); simpa using this
  have h2 : (x ^^^ 2147483648) / 2147483648 = (x / 2147483648) ^^^ 1 := by have := Nat.xor_div_two_pow (a := x) (b := 2147483648) (n := 31); simpa using this
  have h3 := xor_one (x / 2147483648)
  rw [h3] at h2
  split at h2
  · rename_i h; rw [if_pos h]; omega
  · rename_i h; rw [if_neg h]; omega

theorem nand31 (x : Nat) (h : x < 18446744073709551616) : x &&& (18446744073709551615 - 2147483648) = x - x / 2147483648 % 2 * 2147483648 := by
  have e : (18446744073709551615 - 2147483648 : Nat) = 18446744073709551615 ^^^ 2147483648 := by decide
  have hm : x &&& 18446744073709551615 = x := by have := Nat.and_two_pow_sub_one_eq_mod x 64; simp at this; rw [this]; omega
  have hb : x &&& 2147483648 = x / 2147483648 % 2 * 2147483648 := nat_bit 31 x
  rw [e, Nat.and_xor_distrib_left, hm, hb]
  rcases Nat.mod_two_eq_zero_or_one (x / 2147483648) with h0 | h0
  · rw [h0]; simp
  · rw [h0, Nat.one_mul, nxor31, if_neg (by omega)]

theorem nor31 (x : Nat) (h : x < 2147483648) : x ||| 2147483648 = x + 2147483648 := by
  rw [Nat.or_comm, nat_join 31 2147483648 x (by decide) h]; omega

theorem xor31 (x : Int) (h0 : 0 ≤ x) (h1 : x < 18446744073709551616) : bits .xor .u64 x 2147483648 = if x / 2147483648 % 2 = 0 then x + 2147483648 else x - 2147483648 := by
  obtain ⟨n, rfl⟩ := Int.eq_ofNat_of_zero_le h0
  have := u64_xor_nat n 2147483648 (by omega) (by decide)
  rw [show ((2147483648 : Nat) : Int) = 2147483648 from rfl] at this
  rw [this, nxor31]
  split <;> split <;> omega

theorem andNot31 (x : Int) (h0 : 0 ≤ x) (h1 : x < 18446744073709551616) : bits .andNot .u64 x 2147483648 = x - x / 2147483648 % 2 * 2147483648 := by
  obtain ⟨n, rfl⟩ := Int.eq_ofNat_of_zero_le h0
  have := u64_andNot_nat n 2147483648 (by omega) (by decide)
  rw [show ((2147483648 : Nat) : Int) = 2147483648 from rfl] at this
  rw [this, nand31 n (by omega)]
  omega

theorem and31 (x : Int) (h0 : 0 ≤ x) (h1 : x < 18446744073709551616) : bits .and .u64 x 2147483648 = x / 2147483648 % 2 * 2147483648 := by
  obtain ⟨n, rfl⟩ := Int.eq_ofNat_of_zero_le h0
  have := u64_and_nat n 2147483648 (by omega) (by decide)
  rw [show ((2147483648 : Nat) : Int) = 2147483648 from rfl] at this
  rw [this, show n &&& 2147483648 = n / 2147483648 % 2 * 2147483648 from nat_bit 31 n]
  omega

theorem or31 (x : Int) (h0 : 0 ≤ x) (h1 : x < 2147483648) : bits .or .u64 x 2147483648 = x + 2147483648 := by
  obtain ⟨n, rfl⟩ := Int.eq_ofNat_of_zero_le h0
  have := u64_or_nat n 2147483648 (by omega) (by decide)
  rw [show ((2147483648 : Nat) : Int) = 2147483648 from rfl] at this
  rw [this, nor31 n (by omega)]
  omega
theorem nxor63 (x : Nat) : x ^^^ 9223372036854775808 = if x / 9223372036854775808 % 2 = 0 then x + 9223372036854775808 else x - 9223372036854775808 := by
  have h1 : (x ^^^ 9223372036854775808) % 9223372036854775808 = x % 9223372036854775808 := by have := Nat.xor_mod_two_pow (a := x) (b := 9223372036854775808) (n := 63); simpa using this
  have h2 : (x ^^^ 9223372036854775808) / 9223372036854775808 = (x / 9223372036854775808) ^^^ 1 := by have := Nat.xor_div_two_pow (a := x) (b := 9223372036854775808) (n := 63); simpa using this
  have h3 := xor_one (x / 9223372036854775808)
  rw [h3] at h2
  split at h2
  · rename_i h; rw [if_pos h]; omega
  · rename_i h; rw [if_neg h]; omega

theorem nand63 (x : Nat) (h : x < 18446744073709551616) : x &&& (18446744073709551615 - 9223372036854775808) = x - x / 9223372036854775808 % 2 * 9223372036854775808 := by
  have e : (18446744073709551615 - 9223372036854775808 : Nat) = 18446744073709551615 ^^^ 9223372036854775808 := by decide
  have hm : x &&& 18446744073709551615 = x := by have := Nat.and_two_pow_sub_one_eq_mod x 64; simp at this; rw [this]; omega
  have hb : x &&& 9223372036854775808 = x / 9223372036854775808 % 2 * 9223372036854775808 := nat_bit 63 x
  rw [e, Nat.and_xor_distrib_left, hm, hb]
  rcases Nat.mod_two_eq_zero_or_one (x / 9223372036854775808) with h0 | h0
  · rw [h0]; simp
  · rw [h0, Nat.one_mul, nxor63, if_neg (by omega)]

theorem nor63 (x : Nat) (h : x < 9223372036854775808) : x ||| 9223372036854775808 = x + 9223372036854775808 := by
  rw [Nat.or_comm, nat_join 63 9223372036854775808 x (by decide) h]; omega

theorem xor63 (x : Int) (h0 : 0 ≤ x) (h1 : x < 18446744073709551616) : bits .xor .u64 x 9223372036854775808 = if x / 9223372036854775808 % 2 = 0 then x + 9223372036854775808 else x - 9223372036854775808 := by
  obtain ⟨n, rfl⟩ := Int.eq_ofNat_of_zero_le h0
  have := u64_xor_nat n 9223372036854775808 (by omega) (by decide)
  rw [show ((9223372036854775808 : Nat) : Int) = 9223372036854775808 from rfl] at this
  rw [this, nxor63]
  split <;> split <;> omega

theorem andNot63 (x : Int) (h0 : 0 ≤ x) (h1 : x < 18446744073709551616) : bits .andNot .u64 x 9223372036854775808 = x - x / 9223372036854775808 % 2 * 9223372036854775808 := by
  obtain ⟨n, rfl⟩ := Int.eq_ofNat_of_zero_le h0
  have := u64_andNot_nat n 9223372036854775808 (by omega) (by decide)
  rw [show ((9223372036854775808 : Nat) : Int) = 9223372036854775808 from rfl] at this
  rw [this, nand63 n (by omega)]
  omega

theorem and63 (x : Int) (h0 : 0 ≤ x) (h1 : x < 18446744073709551616) : bits .and .u64 x 9223372036854775808 = x / 9223372036854775808 % 2 * 9223372036854775808 := by
  obtain ⟨n, rfl⟩ := Int.eq_ofNat_of_zero_le h0
  have := u64_and_nat n 9223372036854775808 (by omega) (by decide)
  rw [show ((9223372036854775808 : Nat) : Int) = 9223372036854775808 from rfl] at this
  rw [this, show n &&& 9223372036854775808 = n / 9223372036854775808 % 2 * 9223372036854775808 from nat_bit 63 n]
  omega

theorem or63 (x : Int) (h0 : 0 ≤ x) (h1 : x < 9223372036854775808) : bits .or .u64 x 9223372036854775808 = x + 9223372036854775808 := by
  obtain ⟨n, rfl⟩ := Int.eq_ofNat_of_zero_le h0
  have := u64_or_nat n 9223372036854775808 (by omega) (by decide)
  rw [show ((9223372036854775808 : Nat) : Int) = 9223372036854775808 from rfl] at this
  rw [this, nor63 n (by omega)]
  omega

theorem bit22 (x : Int) (h0 : 0 ≤ x) (h1 : x < 18446744073709551616) : bits .and .u64 x 4194304 = x / 4194304 % 2 * 4194304 := by
  obtain ⟨n, rfl⟩ := Int.eq_ofNat_of_zero_le h0
  have := u64_and_nat n 4194304 (by omega) (by decide)
  rw [show ((4194304 : Nat) : Int) = 4194304 from rfl] at this
  rw [this, show n &&& 4194304 = n / 4194304 % 2 * 4194304 from nat_bit 22 n]
  omega
theorem bit51 (x : Int) (h0 : 0 ≤ x) (h1 : x < 18446744073709551616) : bits .and .u64 x 2251799813685248 = x / 2251799813685248 % 2 * 2251799813685248 := by
  obtain ⟨n, rfl⟩ := Int.eq_ofNat_of_zero_le h0
  have := u64_and_nat n 2251799813685248 (by omega) (by decide)
  rw [show ((2251799813685248 : Nat) : Int) = 2251799813685248 from rfl] at this
  rw [this, show n &&& 2251799813685248 = n / 2251799813685248 % 2 * 2251799813685248 from nat_bit 51 n]
  omega

theorem mask8 (x : Int) (h0 : 0 ≤ x) (h1 : x < 18446744073709551616) : bits .and .u64 x 255 = x % 256 := by
  obtain ⟨n, rfl⟩ := Int.eq_ofNat_of_zero_le h0
  have := u64_and_nat n 255 (by omega) (by decide)
  rw [show ((255 : Nat) : Int) = 255 from rfl] at this
  rw [this, show n &&& 255 = n % 256 from Nat.and_two_pow_sub_one_eq_mod n 8]
  omega
theorem mask11 (x : Int) (h0 : 0 ≤ x) (h1 : x < 18446744073709551616) : bits .and .u64 x 2047 = x % 2048 := by
  obtain ⟨n, rfl⟩ := Int.eq_ofNat_of_zero_le h0
  have := u64_and_nat n 2047 (by omega) (by decide)
  rw [show ((2047 : Nat) : Int) = 2047 from rfl] at this
  rw [this, show n &&& 2047 = n % 2048 from Nat.and_two_pow_sub_one_eq_mod n 11]
  omega
theorem mask23 (x : Int) (h0 : 0 ≤ x) (h1 : x < 18446744073709551616) : bits .and .u64 x 8388607 = x % 8388608 := by
  obtain ⟨n, rfl⟩ := Int.eq_ofNat_of_zero_le h0
  have := u64_and_nat n 8388607 (by omega) (by decide)
  rw [show ((8388607 : Nat) : Int) = 8388607 from rfl] at this
  rw [this, show n &&& 8388607 = n % 8388608 from Nat.and_two_pow_sub_one_eq_mod n 23]
  omega
theorem mask52 (x : Int) (h0 : 0 ≤ x) (h1 : x < 18446744073709551616) : bits .and .u64 x 4503599627370495 = x % 4503599627370496 := by
  obtain ⟨n, rfl⟩ := Int.eq_ofNat_of_zero_le h0
  have := u64_and_nat n 4503599627370495 (by omega) (by decide)
  rw [show ((4503599627370495 : Nat) : Int) = 4503599627370495 from rfl] at this
  rw [this, show n &&& 4503599627370495 = n % 4503599627370496 from Nat.and_two_pow_sub_one_eq_mod n 52]
  omega
end Bt
end Go.Proofs.YtojcaoccjapdoaaDoor
/-
  Floats: the table of sizes, and what the program's own methods on it answer.
-/
namespace Go.Proofs.YtojcaoccjapdoaaDoor
set_option linter.unusedVariables false
set_option linter.unusedSimpArgs false
open Go.RowKit

/-- The table of the formats' sizes, as it lies. -/
structure Tab (w : World) : Prop where
  c0 : w.cell? ⟨0, 0, none⟩ = some (.int .u64 0)
  c1 : w.cell? ⟨0, 1, none⟩ = some (.int .u64 0)
  c2 : w.cell? ⟨0, 2, none⟩ = some (.int .i64 0)
  c3 : w.cell? ⟨0, 3, none⟩ = some (.int .u64 23)
  c4 : w.cell? ⟨0, 4, none⟩ = some (.int .u64 255)
  c5 : w.cell? ⟨0, 5, none⟩ = some (.int .i64 (-149))
  c6 : w.cell? ⟨0, 6, none⟩ = some (.int .u64 52)
  c7 : w.cell? ⟨0, 7, none⟩ = some (.int .u64 2047)
  c8 : w.cell? ⟨0, 8, none⟩ = some (.int .i64 (-1074))
theorem Tab.below {w w' : World} (h : Tab w) (hb : Below w.heap.size w w') : Tab w' := by
  have hlt := World.block_lt_of_cell? w _ h.c0
  have e : ∀ i, w'.cell? ⟨0, i, none⟩ = w.cell? ⟨0, i, none⟩ := fun i => hb.cell (p := ⟨0, i, none⟩) hlt
  exact ⟨(e 0).trans h.c0, (e 1).trans h.c1, (e 2).trans h.c2, (e 3).trans h.c3, (e 4).trans h.c4, (e 5).trans h.c5, (e 6).trans h.c6, (e 7).trans h.c7, (e 8).trans h.c8⟩

/-- With the sign S, where there is one. -/
def sgn (S x : Int) (ng : Bool) : Int := if ng then x + S else x
/-- A format's sizes. -/
def sz32 : Value := .agg #[.int .u64 23, .int .u64 255, .int .i64 (-149)]
def sz64 : Value := .agg #[.int .u64 52, .int .u64 2047, .int .i64 (-1074)]
def sz0 : Value := .agg #[.int .u64 0, .int .u64 0, .int .i64 0]

theorem Tab.pos {w : World} (h : Tab w) : 0 < w.heap.size := World.block_lt_of_cell? w _ h.c0

set_option maxHeartbeats 1000000 in
theorem sizes32 (w : World) (h : Tab w) :
    Calls Tryd.prog 54 #[.int .i64 32] w fun e w' => e = .returned (.tuple #[.agg #[.int .u64 23, .int .u64 255, .int .i64 (-149)], .bool true]) ∧ Below w.heap.size w w' := by
  have hp := h.pos
  obtain ⟨h0, h1, h2, h3, h4, h5, h6, h7, h8⟩ := h
  go_enter Tryd.func54, Tryd.ntmps54
  go_wp2
  exact bodyPost_ret (v := .tuple #[.agg #[.int .u64 23, .int .u64 255, .int .i64 (-149)], .bool true]) (by simp [results, Tryd.results54, go_sem]) rfl ⟨rfl, (by repeat (first | exact Below.refl _ _ | refine Below.drew ?_ | refine bel_dn ?_ _ | refine bel_al ?_ _ | refine Below.setCell ?_ (by first | omega | (simp; done) | (simp; omega)) _ | refine Below.alloc ?_ (by first | omega | (simp; done) | (simp; omega)) _))⟩
set_option maxHeartbeats 1000000 in
theorem sizes64 (w : World) (h : Tab w) :
    Calls Tryd.prog 54 #[.int .i64 64] w fun e w' => e = .returned (.tuple #[.agg #[.int .u64 52, .int .u64 2047, .int .i64 (-1074)], .bool true]) ∧ Below w.heap.size w w' := by
  have hp := h.pos
  obtain ⟨h0, h1, h2, h3, h4, h5, h6, h7, h8⟩ := h
  go_enter Tryd.func54, Tryd.ntmps54
  go_wp2
  exact bodyPost_ret (v := .tuple #[.agg #[.int .u64 52, .int .u64 2047, .int .i64 (-1074)], .bool true]) (by simp [results, Tryd.results54, go_sem]) rfl ⟨rfl, (by repeat (first | exact Below.refl _ _ | refine Below.drew ?_ | refine bel_dn ?_ _ | refine bel_al ?_ _ | refine Below.setCell ?_ (by first | omega | (simp; done) | (simp; omega)) _ | refine Below.alloc ?_ (by first | omega | (simp; done) | (simp; omega)) _))⟩
theorem sizes0 (fm : Int) (w : World) (h : Tab w) (h32 : fm ≠ 32) (h64 : fm ≠ 64) :
    Calls Tryd.prog 54 #[.int .i64 fm] w fun e w' => e = .returned (.tuple #[.agg #[.int .u64 0, .int .u64 0, .int .i64 0], .bool false]) ∧ Below w.heap.size w w' := by
  have hp := h.pos
  obtain ⟨h0, h1, h2, h3, h4, h5, h6, h7, h8⟩ := h
  have e1 : (fm == 32) = false := by simpa using h32
  have e2 : (fm == 64) = false := by simpa using h64
  clear h32 h64
  go_enter Tryd.func54, Tryd.ntmps54
  go_wp2
  exact bodyPost_ret (v := .tuple #[.agg #[.int .u64 0, .int .u64 0, .int .i64 0], .bool false]) (by simp [results, Tryd.results54, go_sem]) rfl ⟨rfl, (by repeat (first | exact Below.refl _ _ | refine Below.drew ?_ | refine bel_dn ?_ _ | refine bel_al ?_ _ | refine Below.setCell ?_ (by first | omega | (simp; done) | (simp; omega)) _ | refine Below.alloc ?_ (by first | omega | (simp; done) | (simp; omega)) _))⟩

set_option maxHeartbeats 1000000 in
theorem sign32 (w : World) :
    Calls Tryd.prog 63 #[.agg #[.int .u64 23, .int .u64 255, .int .i64 (-149)]] w fun e w' => e = .returned (.int .u64 2147483648) ∧ Below w.heap.size w w' := by
  go_enter Tryd.func63, Tryd.ntmps63
  go_wp2
  all_goals go_ret
  all_goals exact ⟨rfl, (by repeat (first | exact Below.refl _ _ | refine Below.drew ?_ | refine bel_dn ?_ _ | refine bel_al ?_ _ | refine Below.setCell ?_ (by first | omega | (simp; done) | (simp; omega)) _ | refine Below.alloc ?_ (by first | omega | (simp; done) | (simp; omega)) _))⟩
set_option maxHeartbeats 1000000 in
theorem infinity32 (w : World) :
    Calls Tryd.prog 55 #[.agg #[.int .u64 23, .int .u64 255, .int .i64 (-149)]] w fun e w' => e = .returned (.int .u64 2139095040) ∧ Below w.heap.size w w' := by
  go_enter Tryd.func55, Tryd.ntmps55
  go_wp2
  all_goals go_ret
  all_goals exact ⟨rfl, (by repeat (first | exact Below.refl _ _ | refine Below.drew ?_ | refine bel_dn ?_ _ | refine bel_al ?_ _ | refine Below.setCell ?_ (by first | omega | (simp; done) | (simp; omega)) _ | refine Below.alloc ?_ (by first | omega | (simp; done) | (simp; omega)) _))⟩
set_option maxHeartbeats 1000000 in
theorem quiet32 (w : World) :
    Calls Tryd.prog 56 #[.agg #[.int .u64 23, .int .u64 255, .int .i64 (-149)]] w fun e w' => e = .returned (.int .u64 4194304) ∧ Below w.heap.size w w' := by
  go_enter Tryd.func56, Tryd.ntmps56
  go_wp2
  all_goals go_ret
  all_goals exact ⟨rfl, (by repeat (first | exact Below.refl _ _ | refine Below.drew ?_ | refine bel_dn ?_ _ | refine bel_al ?_ _ | refine Below.setCell ?_ (by first | omega | (simp; done) | (simp; omega)) _ | refine Below.alloc ?_ (by first | omega | (simp; done) | (simp; omega)) _))⟩
set_option maxHeartbeats 1000000 in
theorem sign64 (w : World) :
    Calls Tryd.prog 63 #[.agg #[.int .u64 52, .int .u64 2047, .int .i64 (-1074)]] w fun e w' => e = .returned (.int .u64 9223372036854775808) ∧ Below w.heap.size w w' := by
  go_enter Tryd.func63, Tryd.ntmps63
  go_wp2
  all_goals go_ret
  all_goals exact ⟨rfl, (by repeat (first | exact Below.refl _ _ | refine Below.drew ?_ | refine bel_dn ?_ _ | refine bel_al ?_ _ | refine Below.setCell ?_ (by first | omega | (simp; done) | (simp; omega)) _ | refine Below.alloc ?_ (by first | omega | (simp; done) | (simp; omega)) _))⟩
set_option maxHeartbeats 1000000 in
theorem infinity64 (w : World) :
    Calls Tryd.prog 55 #[.agg #[.int .u64 52, .int .u64 2047, .int .i64 (-1074)]] w fun e w' => e = .returned (.int .u64 9218868437227405312) ∧ Below w.heap.size w w' := by
  go_enter Tryd.func55, Tryd.ntmps55
  go_wp2
  all_goals go_ret
  all_goals exact ⟨rfl, (by repeat (first | exact Below.refl _ _ | refine Below.drew ?_ | refine bel_dn ?_ _ | refine bel_al ?_ _ | refine Below.setCell ?_ (by first | omega | (simp; done) | (simp; omega)) _ | refine Below.alloc ?_ (by first | omega | (simp; done) | (simp; omega)) _))⟩
set_option maxHeartbeats 1000000 in
theorem quiet64 (w : World) :
    Calls Tryd.prog 56 #[.agg #[.int .u64 52, .int .u64 2047, .int .i64 (-1074)]] w fun e w' => e = .returned (.int .u64 2251799813685248) ∧ Below w.heap.size w w' := by
  go_enter Tryd.func56, Tryd.ntmps56
  go_wp2
  all_goals go_ret
  all_goals exact ⟨rfl, (by repeat (first | exact Below.refl _ _ | refine Below.drew ?_ | refine bel_dn ?_ _ | refine bel_al ?_ _ | refine Below.setCell ?_ (by first | omega | (simp; done) | (simp; omega)) _ | refine Below.alloc ?_ (by first | omega | (simp; done) | (simp; omega)) _))⟩
set_option maxHeartbeats 1000000 in
theorem signed32 (x : Int) (ng : Bool) (w : World) (h0 : 0 ≤ x) (h1 : x < 2147483648) :
    Calls Tryd.prog 57 #[.agg #[.int .u64 23, .int .u64 255, .int .i64 (-149)], .int .u64 x, .bool ng] w fun e w' => e = .returned (.int .u64 (sgn 2147483648 x ng)) ∧ Below w.heap.size w w' := by
  have e := Bt.or31 x h0 h1
  cases ng
  · have HR : Hid (x = sgn 2147483648 x false) := hid rfl
    go_enter Tryd.func57, Tryd.ntmps57
    go_wp2
    go_ret
    exact ⟨ret_int HR.out, (by repeat (first | exact Below.refl _ _ | refine Below.drew ?_ | refine bel_dn ?_ _ | refine bel_al ?_ _ | refine Below.setCell ?_ (by first | omega | (simp; done) | (simp; omega)) _ | refine Below.alloc ?_ (by first | omega | (simp; done) | (simp; omega)) _))⟩
  · have HR : Hid (x + 2147483648 = sgn 2147483648 x true) := hid rfl
    go_enter Tryd.func57, Tryd.ntmps57
    go_wp2
    go_ret
    exact ⟨ret_int HR.out, (by repeat (first | exact Below.refl _ _ | refine Below.drew ?_ | refine bel_dn ?_ _ | refine bel_al ?_ _ | refine Below.setCell ?_ (by first | omega | (simp; done) | (simp; omega)) _ | refine Below.alloc ?_ (by first | omega | (simp; done) | (simp; omega)) _))⟩
set_option maxHeartbeats 1000000 in
theorem parted32 (x : Int) (w : World) (h0 : 0 ≤ x) (h1 : x < 18446744073709551616) :
    Calls Tryd.prog 60 #[.agg #[.int .u64 23, .int .u64 255, .int .i64 (-149)], .int .u64 x] w fun e w' => e = .returned (.tuple #[.int .u64 (x / 8388608 % 256), .int .u64 (x % 8388608)]) ∧ Below w.heap.size w w' := by
  have e1 := Bt.mask8 (x / 8388608) (by omega) (by omega)
  have e2 := Bt.mask23 x h0 h1
  go_enter Tryd.func60, Tryd.ntmps60
  go_wp2
  go_region
  all_goals go_wp2
  all_goals go_ret2
  all_goals exact ⟨rfl, (by repeat (first | exact Below.refl _ _ | refine Below.drew ?_ | refine bel_dn ?_ _ | refine bel_al ?_ _ | refine Below.setCell ?_ (by first | omega | (simp; done) | (simp; omega)) _ | refine Below.alloc ?_ (by first | omega | (simp; done) | (simp; omega)) _))⟩
set_option maxHeartbeats 1000000 in
theorem signed64 (x : Int) (ng : Bool) (w : World) (h0 : 0 ≤ x) (h1 : x < 9223372036854775808) :
    Calls Tryd.prog 57 #[.agg #[.int .u64 52, .int .u64 2047, .int .i64 (-1074)], .int .u64 x, .bool ng] w fun e w' => e = .returned (.int .u64 (sgn 9223372036854775808 x ng)) ∧ Below w.heap.size w w' := by
  have e := Bt.or63 x h0 h1
  cases ng
  · have HR : Hid (x = sgn 9223372036854775808 x false) := hid rfl
    go_enter Tryd.func57, Tryd.ntmps57
    go_wp2
    go_ret
    exact ⟨ret_int HR.out, (by repeat (first | exact Below.refl _ _ | refine Below.drew ?_ | refine bel_dn ?_ _ | refine bel_al ?_ _ | refine Below.setCell ?_ (by first | omega | (simp; done) | (simp; omega)) _ | refine Below.alloc ?_ (by first | omega | (simp; done) | (simp; omega)) _))⟩
  · have HR : Hid (x + 9223372036854775808 = sgn 9223372036854775808 x true) := hid rfl
    go_enter Tryd.func57, Tryd.ntmps57
    go_wp2
    go_ret
    exact ⟨ret_int HR.out, (by repeat (first | exact Below.refl _ _ | refine Below.drew ?_ | refine bel_dn ?_ _ | refine bel_al ?_ _ | refine Below.setCell ?_ (by first | omega | (simp; done) | (simp; omega)) _ | refine Below.alloc ?_ (by first | omega | (simp; done) | (simp; omega)) _))⟩
set_option maxHeartbeats 1000000 in
theorem parted64 (x : Int) (w : World) (h0 : 0 ≤ x) (h1 : x < 18446744073709551616) :
    Calls Tryd.prog 60 #[.agg #[.int .u64 52, .int .u64 2047, .int .i64 (-1074)], .int .u64 x] w fun e w' => e = .returned (.tuple #[.int .u64 (x / 4503599627370496 % 2048), .int .u64 (x % 4503599627370496)]) ∧ Below w.heap.size w w' := by
  have e1 := Bt.mask11 (x / 4503599627370496) (by omega) (by omega)
  have e2 := Bt.mask52 x h0 h1
  go_enter Tryd.func60, Tryd.ntmps60
  go_wp2
  go_region
  all_goals go_wp2
  all_goals go_ret2
  all_goals exact ⟨rfl, (by repeat (first | exact Below.refl _ _ | refine Below.drew ?_ | refine bel_dn ?_ _ | refine bel_al ?_ _ | refine Below.setCell ?_ (by first | omega | (simp; done) | (simp; omega)) _ | refine Below.alloc ?_ (by first | omega | (simp; done) | (simp; omega)) _))⟩
end Go.Proofs.YtojcaoccjapdoaaDoor
