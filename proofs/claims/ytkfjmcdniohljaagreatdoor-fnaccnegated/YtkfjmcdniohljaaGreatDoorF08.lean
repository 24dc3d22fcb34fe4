/-
  What is needed of WideB, IA.
-/
import Derived.Deep.RegionHeld3
import Derived.Lib.TrailingZeros
import Derived.Test.YtkfjmcdniohljaaGreatDoorF04
import Derived.Test.YtkfjmcdniohljaaGreatDoorF06
set_option maxHeartbeats 16000000
set_option maxRecDepth 1000000
namespace Go.Proofs.YtkfjmcdniohljaaGreatDoor
set_option linter.unusedVariables false
set_option linter.unusedSimpArgs false
open Go.RowKit Go.Deep
theorem two_below {w w' : World} {p q : Addr} {u v : Value} (h : w.cell? p = some u) (k : w.cell? q = some v) (hb : Below w.heap.size w w') : w'.cell? p = some u ∧ w'.cell? q = some v :=
 ⟨(hb.cell (World.block_lt_of_cell? w _ h)).trans h, (hb.cell (World.block_lt_of_cell? w _ k)).trans k⟩
def cmpFrom (xs ys : List Int) : Nat → Int
 | 0 => 0
 | n + 1 => if xs.getD n 0 < ys.getD n 0 then -1 else if ys.getD n 0 < xs.getD n 0 then 1 else cmpFrom xs ys n
def cmpL (xs ys : List Int) : Int := if xs.length < ys.length then -1 else if ys.length < xs.length then 1 else cmpFrom xs ys xs.length
theorem cmpFrom_rng (xs ys : List Int) (n : Nat) : -1 ≤ cmpFrom xs ys n ∧ cmpFrom xs ys n ≤ 1 := by
 induction n with
 | zero => simp [cmpFrom]
 | succ n ih =>
  unfold cmpFrom
  split
  ·omega
  ·split <;> omega
theorem cmpL_lt {xs ys : List Int} (h : xs.length < ys.length) : cmpL xs ys = -1 := by unfold cmpL; rw [if_pos h]
theorem cmpL_gt {xs ys : List Int} (h : ys.length < xs.length) : cmpL xs ys = 1 := by unfold cmpL; rw [if_neg (by omega), if_pos h]
theorem cmpL_eq {xs ys : List Int} (h : xs.length = ys.length) : cmpL xs ys = cmpFrom xs ys xs.length := by unfold cmpL; rw [if_neg (by omega), if_neg (by omega)]

theorem mag_any (a a' : Option Addr) (cap cap' : Nat) (xs ys : List Int) (w : World) (hx : Sl .u32 w (.slice a xs.length cap) xs) (hy : Sl .u32 w (.slice a' ys.length cap') ys) (hl : xs.length ≤ 140737488355328) (hl' : ys.length ≤ 140737488355328) :
  Calls Tryz.prog 144 #[.slice a xs.length cap, .slice a' ys.length cap'] w fun e w' => e = .returned (.int .i64 (cmpL xs ys)) ∧ Below w.heap.size w w' := by
 obtain ⟨-, hx1, hx2, hx3⟩ := hx.cells
 obtain ⟨-, hy1, hy2, hy3⟩ := hy.cells
 by_cases hn : xs.length = ys.length
 ·have hne : ((xs.length : Int) != (ys.length : Int)) = false := by simp [hn]
  have HN : Hid (cmpL xs ys = cmpFrom xs ys xs.length) := hid (cmpL_eq hn)
  have hn1 : xs.length ≤ ys.length := by omega
  have hn2 : ys.length ≤ xs.length := by omega
  clear hn
  go_enter Tryz.func144, Tryz.ntmps144
  go_wp2_with fail
  go_loopw [5] (fun i wr => ∃ n : Nat, n ≤ xs.length ∧ i = .int .i64 ((n : Int) - 1) ∧ cmpFrom xs ys xs.length = cmpFrom xs ys n ∧ Below w.heap.size w wr) (fun i _ => (intOf i + 1).toNat)
  case atStart => exact ⟨xs.length, Nat.le_refl _, rfl, rfl, Below.refl _ _⟩
  case round =>
   obtain ⟨n, hk, rfl, hpre, hb⟩ := hrel
   have PRE := hid hpre
   clear hpre
   by_cases h0 : n = 0
   ·subst h0
    have HR : Hid (cmpL xs ys = 0) := hid (by rw [HN.out, PRE.out]; rfl)
    clear hx3 hy3
    go_wp2
    go_ret
    exact ⟨ret_int HR.out.symm, hb⟩
   ·obtain ⟨m, rfl⟩ : ∃ m, n = m + 1 := ⟨n - 1, by omega⟩
    have em : (((m + 1 : Nat) : Int) - 1) = (m : Int) := by omega
    rw [em]
    clear em h0
    obtain ⟨b, off, rfl, hcx⟩ := hx3 (by omega)
    obtain ⟨b', off', rfl, hcy⟩ := hy3 (by omega)
    have h1 := hcx m (by omega)
    have h2 := hcy m (by omega)
    have h1 : wr.cell? ⟨b, off + m, none⟩ = some (.int .u32 (xs.getD m 0)) := (hb.cell (p := ⟨b, off + m, none⟩) (World.block_lt_of_cell? w _ h1)).trans h1
    have h2 : wr.cell? ⟨b', off' + m, none⟩ = some (.int .u32 (ys.getD m 0)) := (hb.cell (p := ⟨b', off' + m, none⟩) (World.block_lt_of_cell? w _ h2)).trans h2
    clear hx3 hy3 hcx hcy
    obtain ⟨x, hxk⟩ : ∃ x, x = xs.getD m 0 := ⟨_, rfl⟩
    obtain ⟨y, hyk⟩ : ∃ y, y = ys.getD m 0 := ⟨_, rfl⟩
    have ST : Hid (cmpFrom xs ys xs.length = if x < y then -1 else if y < x then 1 else cmpFrom xs ys m) := hid (by rw [PRE.out, hxk, hyk]; rfl)
    rw [← hxk] at h1; rw [← hyk] at h2
    clear hxk hyk
    by_cases hlt : x < y
    ·have HR : Hid (cmpL xs ys = -1) := hid (by rw [HN.out, ST.out, if_pos hlt])
     go_wp2
     go_region
     all_goals go_wp2
     all_goals go_ret
     all_goals exact ⟨ret_int HR.out.symm, (by repeat (first | exact bz0 _ _ | refine bz1 ?_ | refine bz2 ?_ _ | refine bz3 ?_ _ | refine bz4 ?_ hb | refine bz5 ?_ _ | refine bz6 ?_ _ | refine bz7 ?_ hb))⟩
    by_cases hgt : y < x
    ·have HR : Hid (cmpL xs ys = 1) := hid (by rw [HN.out, ST.out, if_neg hlt, if_pos hgt])
     go_wp2
     go_region
     all_goals go_wp2
     all_goals go_region
     all_goals go_wp2
     all_goals go_ret
     all_goals exact ⟨ret_int HR.out.symm, (by repeat (first | exact bz0 _ _ | refine bz1 ?_ | refine bz2 ?_ _ | refine bz3 ?_ _ | refine bz4 ?_ hb | refine bz5 ?_ _ | refine bz6 ?_ _ | refine bz7 ?_ hb))⟩
    ·have HR : Hid (cmpFrom xs ys xs.length = cmpFrom xs ys m) := hid (by rw [ST.out, if_neg hlt, if_neg hgt])
     go_wp2
     go_region
     all_goals go_wp2
     all_goals go_region
     all_goals go_wp2
     all_goals go_roundw
     case rel => exact ⟨m, by omega, rfl, HR.out, (by repeat (first | exact bz0 _ _ | refine bz1 ?_ | refine bz2 ?_ _ | refine bz3 ?_ _ | refine bz4 ?_ hb | refine bz5 ?_ _ | refine bz6 ?_ _ | refine bz7 ?_ hb))⟩
     case measure => simp [intOf]
 ·have hne : ((xs.length : Int) != (ys.length : Int)) = true := by simp; omega
  clear hx3 hy3
  by_cases hlt : xs.length < ys.length
  ·have HR := hid (cmpL_lt hlt)
   go_enter Tryz.func144, Tryz.ntmps144
   go_wp2
   go_ret
   exact ⟨ret_int HR.out.symm, Below.refl _ _⟩
  ·have hgt : ys.length < xs.length := by omega
   have HR := hid (cmpL_gt hgt)
   go_enter Tryz.func144, Tryz.ntmps144
   go_wp2
   go_ret
   exact ⟨ret_int HR.out.symm, Below.refl _ _⟩

theorem cmpLimbs_any (a a' : Option Addr) (cap cap' : Nat) (xs ys : List Int) (w : World) (hx : Sl .u32 w (.slice a xs.length cap) xs) (hy : Sl .u32 w (.slice a' ys.length cap') ys) (hl : xs.length ≤ 140737488355328) (hl' : ys.length ≤ 140737488355328) :
  Calls Tryz.prog 109 #[.slice a xs.length cap, .slice a' ys.length cap'] w fun e w' => e = .returned (.int .i64 (cmpL xs ys)) ∧ Below w.heap.size w w' := by
 obtain ⟨-, hx1, hx2, hx3⟩ := hx.cells
 obtain ⟨-, hy1, hy2, hy3⟩ := hy.cells
 by_cases hn : xs.length = ys.length
 ·have hne : ((xs.length : Int) != (ys.length : Int)) = false := by simp [hn]
  have HN : Hid (cmpL xs ys = cmpFrom xs ys xs.length) := hid (cmpL_eq hn)
  have hn1 : xs.length ≤ ys.length := by omega
  have hn2 : ys.length ≤ xs.length := by omega
  clear hn
  go_enter Tryz.func109, Tryz.ntmps109
  go_wp2_with fail
  go_loopw [5] (fun i wr => ∃ n : Nat, n ≤ xs.length ∧ i = .int .i64 ((n : Int) - 1) ∧ cmpFrom xs ys xs.length = cmpFrom xs ys n ∧ Below w.heap.size w wr) (fun i _ => (intOf i + 1).toNat)
  case atStart => exact ⟨xs.length, Nat.le_refl _, rfl, rfl, Below.refl _ _⟩
  case round =>
   obtain ⟨n, hk, rfl, hpre, hb⟩ := hrel
   have PRE := hid hpre
   clear hpre
   by_cases h0 : n = 0
   ·subst h0
    have HR : Hid (cmpL xs ys = 0) := hid (by rw [HN.out, PRE.out]; rfl)
    clear hx3 hy3
    go_wp2
    go_ret
    exact ⟨ret_int HR.out.symm, hb⟩
   ·obtain ⟨m, rfl⟩ : ∃ m, n = m + 1 := ⟨n - 1, by omega⟩
    have em : (((m + 1 : Nat) : Int) - 1) = (m : Int) := by omega
    rw [em]
    clear em h0
    obtain ⟨b, off, rfl, hcx⟩ := hx3 (by omega)
    obtain ⟨b', off', rfl, hcy⟩ := hy3 (by omega)
    have h1 := hcx m (by omega)
    have h2 := hcy m (by omega)
    have h1 : wr.cell? ⟨b, off + m, none⟩ = some (.int .u32 (xs.getD m 0)) := (hb.cell (p := ⟨b, off + m, none⟩) (World.block_lt_of_cell? w _ h1)).trans h1
    have h2 : wr.cell? ⟨b', off' + m, none⟩ = some (.int .u32 (ys.getD m 0)) := (hb.cell (p := ⟨b', off' + m, none⟩) (World.block_lt_of_cell? w _ h2)).trans h2
    clear hx3 hy3 hcx hcy
    obtain ⟨x, hxk⟩ : ∃ x, x = xs.getD m 0 := ⟨_, rfl⟩
    obtain ⟨y, hyk⟩ : ∃ y, y = ys.getD m 0 := ⟨_, rfl⟩
    have ST : Hid (cmpFrom xs ys xs.length = if x < y then -1 else if y < x then 1 else cmpFrom xs ys m) := hid (by rw [PRE.out, hxk, hyk]; rfl)
    rw [← hxk] at h1; rw [← hyk] at h2
    clear hxk hyk
    have ⟨r0, r1⟩ := cmpI_rng x y
    have i0 : (0 : Int) ≤ (m : Int) := by omega
    have i1 : (m : Int) < (xs.length : Int) := by omega
    have i2 : (m : Int) < (ys.length : Int) := by omega
    by_cases hxy : x = y
    ·have hbe : (x != y) = false := by simp [hxy]
     have HR : Hid (cmpFrom xs ys xs.length = cmpFrom xs ys m) := hid (by rw [ST.out, if_neg (by omega), if_neg (by omega)])
     clear hxy
     go_wp2
     go_region
     all_goals go_wp2
     all_goals go_roundw
     case rel => exact ⟨m, by omega, rfl, HR.out, (by repeat (first | exact bz0 _ _ | refine bz1 ?_ | refine bz2 ?_ _ | refine bz3 ?_ _ | refine bz4 ?_ hb | refine bz5 ?_ _ | refine bz6 ?_ _ | refine bz7 ?_ hb))⟩
     case measure => simp [intOf]
    ·have hbe : (x != y) = true := by simp [hxy]
     have HR : Hid (cmpL xs ys = cmpI x y) := hid (by
      rw [HN.out, ST.out]; unfold cmpI
      split
      ·rfl
      ·split
       ·rfl
       ·omega)
     clear hxy
     go_wp2
     go_region
     all_goals go_wp2
     go_region_held3 (fun w' => w'.cell? ⟨b, off + m, none⟩ = some (.int .u32 x) ∧ w'.cell? ⟨b', off' + m, none⟩ = some (.int .u32 y)) (first | assumption | exact ⟨h1, h2⟩)
      ((go_at_call 196; refine (compare_uint32 x y _).mono ?_; rintro e w1 ⟨rfl, hb1⟩; have s1 := two_below (w := wr.drew.drew) h1 h2 hb1))
     go_wp2
     go_ret
     exact ⟨ret_int HR.out.symm, (by repeat (first | exact bz0 _ _ | refine bz1 ?_ | refine bz2 ?_ _ | refine bz3 ?_ _ | refine bz4 ?_ hb1 | refine bz4 ?_ hb | refine bz5 ?_ _ | refine bz6 ?_ _ | refine bz7 ?_ hb1 | refine bz7 ?_ hb))⟩
 ·have hne : ((xs.length : Int) != (ys.length : Int)) = true := by simp; omega
  have HR : Hid (cmpL xs ys = cmpI xs.length ys.length) := hid (by unfold cmpL cmpI; split <;> split <;> (try split) <;> omega)
  have ⟨r0, r1⟩ := cmpI_rng xs.length ys.length
  clear hx3 hy3
  go_enter Tryz.func109, Tryz.ntmps109
  go_wp2_with fail
  refine (compare_int _ _ _).mono ?_
  rintro e w1 ⟨rfl, hb1⟩
  go_wp2
  go_ret
  exact ⟨ret_int HR.out.symm, (by repeat (first | exact bz0 _ _ | refine bz1 ?_ | refine bz2 ?_ _ | refine bz3 ?_ _ | refine bz4 ?_ hb1 | refine bz5 ?_ _ | refine bz6 ?_ _ | refine bz7 ?_ hb1))⟩
def Tb (w : World) (g : Nat) (zs : List Nat) : Prop := ∀ i, i < zs.length → w.cell? ⟨g, i, none⟩ = some (.int .u8 ((zs.getD i 0 : Nat) : Int))
theorem Tb.below {w w' : World} {g : Nat} {zs : List Nat} (h : Tb w g zs) (hp : 0 < zs.length) (hb : Below w.heap.size w w') : Tb w' g zs := fun i hi =>
 (hb.cell (p := ⟨g, i, none⟩) (World.block_lt_of_cell? w ⟨g, i, none⟩ (h i hi))).trans (h i hi)
theorem nat_div_cast (a d n f : Nat) : (a : Int) * (d : Int) % (n : Int) / (f : Int) = ((a * d % n / f : Nat) : Int) := by simp
theorem ctz_tz (n x : Nat) (h0 : x ≠ 0) (h : x < 2 ^ n) : Lib.ctz n x = Nm.tz x := by
 obtain ⟨m, hm, hk⟩ := Lib.ctzFrom_spec n x (by omega) h
 have e : Lib.ctz n x = Lib.ctzFrom n x := by simp [Lib.ctz, h0]
 rw [e]
 generalize Lib.ctzFrom n x = t at *
 rw [hm, Nat.mul_comm]
 exact (Nm.tz_mul (by omega) t).symm
theorem low_32 (x : Int) (h0 : 0 < x) (h1 : x < 4294967296) : bits .and .u32 x (4294967296 - x) = ((2 ^ Nm.tz x.toNat : Nat) : Int) ∧ Nm.tz x.toNat < 32 := by
 have hx : x.toNat < 2 ^ 32 := by omega
 have h := Lib.lowest_bit 32 x.toNat (by omega) hx
 rw [ctz_tz 32 x.toNat (by omega) hx] at h
 refine ⟨?_, h.2⟩
 rw [← h.1]
 obtain ⟨n, rfl⟩ := Int.eq_ofNat_of_zero_le (show 0 ≤ x by omega)
 have hn := u32_and_nat n (4294967296 - n) (by omega) (by omega)
 rw [show ((4294967296 - n : Nat) : Int) = 4294967296 - (n : Int) by omega] at hn
 rw [hn]
 simp
theorem tab_32 (x : Int) (h0 : 0 < x) (h1 : x < 4294967296) : ∃ j : Nat, ((2 ^ Nm.tz x.toNat : Nat) : Int) * 125613361 % 4294967296 / 134217728 = (j : Int) ∧ j < 32 ∧ Lib.deBruijn32tab.getD j 0 = Nm.tz x.toNat := by
 have ht := (low_32 x h0 h1).2
 have h := Lib.deBruijn32_at _ ht
 exact ⟨_, nat_div_cast _ _ _ _, h.1, h.2⟩
theorem tz_32 (x : Int) (w : World) (hT : Tb w 3 Lib.deBruijn32tab) (h0 : 0 < x) (h1 : x < 4294967296) :
  Calls Tryz.prog 230 #[.int .u32 x] w fun e w' => e = .returned (.int .i64 (Nm.tz x.toNat : Nat)) ∧ w' = w := by
 have hneg : IntKind.u32.wrap (-x) = 4294967296 - x := by rw [IntKind.wrap_u32]; omega
 have hl := low_32 x h0 h1
 obtain ⟨j, hj, hjk, hjt⟩ := tab_32 x h0 h1
 obtain ⟨p, hp⟩ : ∃ p : Int, p = ((2 ^ Nm.tz x.toNat : Nat) : Int) := ⟨_, rfl⟩
 rw [← hp] at hj
 have hj2 : IntKind.u32.wrap (p * 125613361) / 134217728 = (j : Int) := by rw [IntKind.wrap_u32]; exact hj
 have hand : bits .and .u32 x (4294967296 - x) = p := by rw [hp]; exact hl.1
 have hc := hT j (by (have : Lib.deBruijn32tab.length = 32 := by decide); omega)
 rw [hjt] at hc
 have hx0 : (x == 0) = false := by rw [beq_eq_false_iff_ne]; omega
 have hp0 : 0 ≤ p := by rw [hp]; exact Int.natCast_nonneg _
 have HWR : Hid (wrap64 ((Nm.tz x.toNat : Nat) : Int) = ((Nm.tz x.toNat : Nat) : Int)) := hid (wrap_small _ (by omega) (by have := hl.2; omega))
 clear hp hjt hT hl
 go_enter Tryz.func230, Tryz.ntmps230
 go_wp2
 go_ret
 exact ⟨ret_int HWR.out, rfl⟩
theorem low_64 (x : Int) (h0 : 0 < x) (h1 : x < 18446744073709551616) : bits .and .u64 x (18446744073709551616 - x) = ((2 ^ Nm.tz x.toNat : Nat) : Int) ∧ Nm.tz x.toNat < 64 := by
 have hx : x.toNat < 2 ^ 64 := by omega
 have h := Lib.lowest_bit 64 x.toNat (by omega) hx
 rw [ctz_tz 64 x.toNat (by omega) hx] at h
 refine ⟨?_, h.2⟩
 rw [← h.1]
 obtain ⟨n, rfl⟩ := Int.eq_ofNat_of_zero_le (show 0 ≤ x by omega)
 have hn := u64_and_nat n (18446744073709551616 - n) (by omega) (by omega)
 rw [show ((18446744073709551616 - n : Nat) : Int) = 18446744073709551616 - (n : Int) by omega] at hn
 rw [hn]
 simp
theorem tab_64 (x : Int) (h0 : 0 < x) (h1 : x < 18446744073709551616) : ∃ j : Nat, ((2 ^ Nm.tz x.toNat : Nat) : Int) * 285870213051353865 % 18446744073709551616 / 288230376151711744 = (j : Int) ∧ j < 64 ∧ Lib.deBruijn64tab.getD j 0 = Nm.tz x.toNat := by
 have ht := (low_64 x h0 h1).2
 have h := Lib.deBruijn64_at _ ht
 exact ⟨_, nat_div_cast _ _ _ _, h.1, h.2⟩
theorem tz_64 (x : Int) (w : World) (hT : Tb w 4 Lib.deBruijn64tab) (h0 : 0 < x) (h1 : x < 18446744073709551616) :
  Calls Tryz.prog 231 #[.int .u64 x] w fun e w' => e = .returned (.int .i64 (Nm.tz x.toNat : Nat)) ∧ w' = w := by
 have hneg : IntKind.u64.wrap (-x) = 18446744073709551616 - x := by rw [IntKind.wrap_u64]; omega
 have hl := low_64 x h0 h1
 obtain ⟨j, hj, hjk, hjt⟩ := tab_64 x h0 h1
 obtain ⟨p, hp⟩ : ∃ p : Int, p = ((2 ^ Nm.tz x.toNat : Nat) : Int) := ⟨_, rfl⟩
 rw [← hp] at hj
 have hj2 : IntKind.u64.wrap (p * 285870213051353865) / 288230376151711744 = (j : Int) := by rw [IntKind.wrap_u64]; exact hj
 have hand : bits .and .u64 x (18446744073709551616 - x) = p := by rw [hp]; exact hl.1
 have hc := hT j (by (have : Lib.deBruijn64tab.length = 64 := by decide); omega)
 rw [hjt] at hc
 have hx0 : (x == 0) = false := by rw [beq_eq_false_iff_ne]; omega
 have hp0 : 0 ≤ p := by rw [hp]; exact Int.natCast_nonneg _
 have HWR : Hid (wrap64 ((Nm.tz x.toNat : Nat) : Int) = ((Nm.tz x.toNat : Nat) : Int)) := hid (wrap_small _ (by omega) (by have := hl.2; omega))
 clear hp hjt hT hl
 go_enter Tryz.func231, Tryz.ntmps231
 go_wp2
 go_ret
 exact ⟨ret_int HWR.out, rfl⟩
theorem len64_any (x : Int) (w : World) (h0 : 0 ≤ x) (h1 : x < 18446744073709551616) :
  Calls Tryz.prog 232 #[.int .u64 x] w fun e w' => e = .returned (.int .i64 (bitLen x.toNat : Nat)) ∧ w' = w := by
 by_cases c32 : 4294967296 ≤ x
 ·by_cases c16 : 65536 ≤ x / 4294967296
  ·by_cases c8 : 256 ≤ x / 4294967296 / 65536
   ·have HB : Hid ((bitLen x.toNat : Int) = 56 + bitLen (x / 4294967296 / 65536 / 256).toNat) := hid (by
     have h := bitLen_div x 56 h0 (by simp; omega)
     rw [h, show (x / ((2 ^ 56 : Nat) : Int)) = x / 4294967296 / 65536 / 256 by first | (simp; done) | (simp; omega)]; simp)
    have HL := hid (bl_le (x / 4294967296 / 65536 / 256).toNat (by omega))
    go_enter Tryz.func232, Tryz.ntmps232
    go_wp2
    go_ret
    refine ⟨ret_int ?_, rfl⟩
    simp only [len8tab_get]
    rw [wrap_two _ _ (by decide) (by decide) (by omega) HL.out, HB.out]
   ·have HB : Hid ((bitLen x.toNat : Int) = 48 + bitLen (x / 4294967296 / 65536).toNat) := hid (by
     have h := bitLen_div x 48 h0 (by simp; omega)
     rw [h, show (x / ((2 ^ 48 : Nat) : Int)) = x / 4294967296 / 65536 by first | (simp; done) | (simp; omega)]; simp)
    have HL := hid (bl_le (x / 4294967296 / 65536).toNat (by omega))
    go_enter Tryz.func232, Tryz.ntmps232
    go_wp2
    go_ret
    refine ⟨ret_int ?_, rfl⟩
    simp only [len8tab_get]
    rw [wrap_two _ _ (by decide) (by decide) (by omega) HL.out, HB.out]
  ·by_cases c8 : 256 ≤ x / 4294967296
   ·have HB : Hid ((bitLen x.toNat : Int) = 40 + bitLen (x / 4294967296 / 256).toNat) := hid (by
     have h := bitLen_div x 40 h0 (by simp; omega)
     rw [h, show (x / ((2 ^ 40 : Nat) : Int)) = x / 4294967296 / 256 by first | (simp; done) | (simp; omega)]; simp)
    have HL := hid (bl_le (x / 4294967296 / 256).toNat (by omega))
    go_enter Tryz.func232, Tryz.ntmps232
    go_wp2
    go_ret
    refine ⟨ret_int ?_, rfl⟩
    simp only [len8tab_get]
    rw [wrap_two _ _ (by decide) (by decide) (by omega) HL.out, HB.out]
   ·have HB : Hid ((bitLen x.toNat : Int) = 32 + bitLen (x / 4294967296).toNat) := hid (by
     have h := bitLen_div x 32 h0 (by simp; omega)
     rw [h, show (x / ((2 ^ 32 : Nat) : Int)) = x / 4294967296 by first | (simp; done) | (simp; omega)]; simp)
    have HL := hid (bl_le (x / 4294967296).toNat (by omega))
    go_enter Tryz.func232, Tryz.ntmps232
    go_wp2
    go_ret
    refine ⟨ret_int ?_, rfl⟩
    simp only [len8tab_get]
    rw [wrap_two _ _ (by decide) (by decide) (by omega) HL.out, HB.out]
 ·by_cases c16 : 65536 ≤ x
  ·by_cases c8 : 256 ≤ x / 65536
   ·have HB : Hid ((bitLen x.toNat : Int) = 24 + bitLen (x / 65536 / 256).toNat) := hid (by
     have h := bitLen_div x 24 h0 (by simp; omega)
     rw [h, show (x / ((2 ^ 24 : Nat) : Int)) = x / 65536 / 256 by first | (simp; done) | (simp; omega)]; simp)
    have HL := hid (bl_le (x / 65536 / 256).toNat (by omega))
    go_enter Tryz.func232, Tryz.ntmps232
    go_wp2
    go_ret
    refine ⟨ret_int ?_, rfl⟩
    simp only [len8tab_get]
    rw [wrap_two _ _ (by decide) (by decide) (by omega) HL.out, HB.out]
   ·have HB : Hid ((bitLen x.toNat : Int) = 16 + bitLen (x / 65536).toNat) := hid (by
     have h := bitLen_div x 16 h0 (by simp; omega)
     rw [h, show (x / ((2 ^ 16 : Nat) : Int)) = x / 65536 by first | (simp; done) | (simp; omega)]; simp)
    have HL := hid (bl_le (x / 65536).toNat (by omega))
    go_enter Tryz.func232, Tryz.ntmps232
    go_wp2
    go_ret
    refine ⟨ret_int ?_, rfl⟩
    simp only [len8tab_get]
    rw [wrap_two _ _ (by decide) (by decide) (by omega) HL.out, HB.out]
  ·by_cases c8 : 256 ≤ x
   ·have HB : Hid ((bitLen x.toNat : Int) = 8 + bitLen (x / 256).toNat) := hid (by
     have h := bitLen_div x 8 h0 (by simp; omega)
     rw [h, show (x / ((2 ^ 8 : Nat) : Int)) = x / 256 by first | (simp; done) | (simp; omega)]; simp)
    have HL := hid (bl_le (x / 256).toNat (by omega))
    go_enter Tryz.func232, Tryz.ntmps232
    go_wp2
    go_ret
    refine ⟨ret_int ?_, rfl⟩
    simp only [len8tab_get]
    rw [wrap_two _ _ (by decide) (by decide) (by omega) HL.out, HB.out]
   ·have HL := hid (bl_le x.toNat (by omega))
    go_enter Tryz.func232, Tryz.ntmps232
    go_wp2
    go_ret
    refine ⟨ret_int ?_, rfl⟩
    simp only [len8tab_get]
    have h8 := HL.out
    rw [wrap_small (wrap64 _) (by rw [wrap_small _ (by omega) (by omega)]; omega) (by rw [wrap_small _ (by omega) (by omega)]; omega), wrap_small _ (by omega) (by omega)]
end Go.Proofs.YtkfjmcdniohljaaGreatDoor
