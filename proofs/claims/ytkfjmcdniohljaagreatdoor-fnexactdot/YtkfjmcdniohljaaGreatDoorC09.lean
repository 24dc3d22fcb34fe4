/-
  What is needed of WideF, FloatD, NumsF, WideB, WideK.
-/
import Derived.Deep.AppendLies
import Derived.Laws.MathBits
import Derived.Deep.QuietTactic
import Derived.BigQuiet
import Derived.Deep.RegionWith
import Derived.Deep.DeepCutAuto
import Derived.Deep.RegionHeldLaw
import Derived.Deep.DrawnRows
import Derived.Test.YtkfjmcdniohljaaGreatDoorC05
import Derived.Test.YtkfjmcdniohljaaGreatDoorC06
set_option maxHeartbeats 16000000
set_option maxRecDepth 1000000
namespace Go.Proofs.YtkfjmcdniohljaaGreatDoor
set_option linter.unusedVariables false
set_option linter.unusedSimpArgs false
open Go.RowKit Go.Deep
theorem wrap_small (t : Int) (h0 : 0 ≤ t) (h1 : t ≤ 1000) : wrap64 t = t := IntWalk.wrap64_in t ⟨by omega, by omega⟩
theorem bitLen_div (x : Int) (k : Nat) (h0 : 0 ≤ x) (hx : x / (2 ^ k : Nat) ≠ 0) : bitLen x.toNat = k + bitLen (x / (2 ^ k : Nat)).toNat := by
  obtain ⟨n, rfl⟩ := Int.eq_ofNat_of_zero_le h0
  have e : (((n : Int) / (2 ^ k : Nat)).toNat) = n / 2 ^ k := by rw [← Int.natCast_ediv]; exact Int.toNat_natCast _
  rw [e]
  simp only [Int.toNat_natCast]
  apply bitLen_shift
  intro h
  apply hx
  rw [← Int.natCast_ediv, h]; rfl
theorem wrap_two (c t : Int) (h0 : 0 ≤ c) (h1 : c ≤ 100) (t0 : 0 ≤ t) (t1 : t ≤ 8) : wrap64 (c + wrap64 t) = c + t := by rw [wrap_small t t0 (by omega), wrap_small _ (by omega) (by omega)]
theorem bl_le (i : Nat) (h : i < 256) : (bitLen i : Int) ≤ 8 := by have := bitLen_le8 i h; omega

theorem len32_any (x : Int) (w : World) (h0 : 0 ≤ x) (h1 : x < 4294967296) :
    Calls Tryz.prog 210 #[.int .u32 x] w fun e w' => e = .returned (.int .i64 (bitLen x.toNat)) ∧ w' = w := by
  by_cases c2 : 65536 ≤ x
  · by_cases c1 : 256 ≤ x / 65536
    · have HB : Hid ((bitLen x.toNat : Int) = 24 + bitLen (x / 65536 / 256).toNat) := hid (by
        have h := bitLen_div x 24 h0 (by simp; omega)
        rw [h, show (x / ((2 ^ 24 : Nat) : Int)) = x / 65536 / 256 by first | (simp; done) | (simp; omega)]; simp)
      have HL := hid (bl_le (x / 65536 / 256).toNat (by omega))
      go_enter Tryz.func210, Tryz.ntmps210
      go_wp2
      go_ret
      refine ⟨ret_int ?_, rfl⟩
      simp only [len8tab_get]
      rw [wrap_two _ _ (by decide) (by decide) (by omega) HL.out, HB.out]
    · have HB : Hid ((bitLen x.toNat : Int) = 16 + bitLen (x / 65536).toNat) := hid (by
        have h := bitLen_div x 16 h0 (by simp; omega)
        rw [h, show (x / ((2 ^ 16 : Nat) : Int)) = x / 65536 by first | (simp; done) | (simp; omega)]; simp)
      have HL := hid (bl_le (x / 65536).toNat (by omega))
      go_enter Tryz.func210, Tryz.ntmps210
      go_wp2
      go_ret
      refine ⟨ret_int ?_, rfl⟩
      simp only [len8tab_get]
      rw [wrap_two _ _ (by decide) (by decide) (by omega) HL.out, HB.out]
  · by_cases c1 : 256 ≤ x
    · have HB : Hid ((bitLen x.toNat : Int) = 8 + bitLen (x / 256).toNat) := hid (by
        have h := bitLen_div x 8 h0 (by simp; omega)
        rw [h, show (x / ((2 ^ 8 : Nat) : Int)) = x / 256 by first | (simp; done) | (simp; omega)]; simp)
      have HL := hid (bl_le (x / 256).toNat (by omega))
      go_enter Tryz.func210, Tryz.ntmps210
      go_wp2
      go_ret
      refine ⟨ret_int ?_, rfl⟩
      simp only [len8tab_get]
      rw [wrap_two _ _ (by decide) (by decide) (by omega) HL.out, HB.out]
    · have HL := hid (bl_le x.toNat (by omega))
      go_enter Tryz.func210, Tryz.ntmps210
      go_wp2
      go_ret
      refine ⟨ret_int ?_, rfl⟩
      simp only [len8tab_get]
      have h8 := HL.out
      rw [wrap_small (wrap64 _) (by rw [wrap_small _ (by omega) (by omega)]; omega) (by rw [wrap_small _ (by omega) (by omega)]; omega), wrap_small _ (by omega) (by omega)]
end Go.Proofs.YtkfjmcdniohljaaGreatDoor
namespace Go.Proofs.YtkfjmcdniohljaaGreatDoor
set_option linter.unusedVariables false
set_option linter.unusedSimpArgs false
open Go.RowKit
/-- Whether it is a float of the format. -/
def okF (fm x : Int) : Bool := fm == 64 || (fm == 32 && decide (x < 4294967296))
theorem okF0 {fm x : Int} (h32 : fm ≠ 32) (h64 : fm ≠ 64) : okF fm x = false := by simp [okF, h32, h64]

theorem impl_ok32 (x : Int) (w : World) (h : Tab w) (h0 : 0 ≤ x) (h1 : x < 18446744073709551616) :
    Calls Tryz.prog 147 #[.int .i64 32, .int .u64 x] w fun e w' => e = .returned (.bool (decide (x < 4294967296))) ∧ Below w.heap.size w w' := by
  have e := Bt.andNot31 x h0 h1
  have HX : Hid (decide (bits .andNot .u64 x 2147483648 < 2147483648) = decide (x < 4294967296)) := hid (by rw [e]; congr 1; apply propext; omega)
  clear e
  go_enter Tryz.func147, Tryz.ntmps147
  go_wp2_with fail
  refine (sizes32 _ h).mono ?_
  rintro e w1 ⟨rfl, hb1⟩
  go_wp2_with fail
  have z1 := Z3.new w1 (.int .u64 23) (.int .u64 255) (.int .i64 (-149)) 121
  go_region_held3 (fun w' => w'.cell? ⟨w1.heap.size, 0, none⟩ = some (.int .u64 23) ∧ w'.cell? ⟨w1.heap.size, 1, none⟩ = some (.int .u64 255) ∧ w'.cell? ⟨w1.heap.size, 2, none⟩ = some (.int .i64 (-149))) (first | assumption | exact z1.drew)
    (first
      | (go_at_call 148; refine (sign32 _).mono ?_; rintro e w2 ⟨rfl, hb2⟩; have z2 := Z3.below (Z3.drew z1) hb2)
      | (go_at_call 148; refine (sign32 _).mono ?_; rintro e w3 ⟨rfl, hb3⟩; have z3 := Z3.below z2 hb3))
  go_wp2
  go_ret
  exact ⟨ret_bool HX.out, (by repeat (first | exact bz0 _ _ | refine bz1 ?_ | refine bz2 ?_ _ | refine bz3 ?_ _ | refine bz4 ?_ hb3 | refine bz4 ?_ hb2 | refine bz4 ?_ hb1 | refine bz5 ?_ _ | refine bz6 ?_ _ | refine bz7 ?_ hb3 | refine bz7 ?_ hb2 | refine bz7 ?_ hb1))⟩
theorem impl_ok64 (x : Int) (w : World) (h : Tab w) (h0 : 0 ≤ x) (h1 : x < 18446744073709551616) :
    Calls Tryz.prog 147 #[.int .i64 64, .int .u64 x] w fun e w' => e = .returned (.bool (decide (x < 18446744073709551616))) ∧ Below w.heap.size w w' := by
  have e := Bt.andNot63 x h0 h1
  have HX : Hid (decide (bits .andNot .u64 x 9223372036854775808 < 9223372036854775808) = decide (x < 18446744073709551616)) := hid (by rw [e]; congr 1; apply propext; omega)
  clear e
  go_enter Tryz.func147, Tryz.ntmps147
  go_wp2_with fail
  refine (sizes64 _ h).mono ?_
  rintro e w1 ⟨rfl, hb1⟩
  go_wp2_with fail
  have z1 := Z3.new w1 (.int .u64 52) (.int .u64 2047) (.int .i64 (-1074)) 121
  go_region_held3 (fun w' => w'.cell? ⟨w1.heap.size, 0, none⟩ = some (.int .u64 52) ∧ w'.cell? ⟨w1.heap.size, 1, none⟩ = some (.int .u64 2047) ∧ w'.cell? ⟨w1.heap.size, 2, none⟩ = some (.int .i64 (-1074))) (first | assumption | exact z1.drew)
    (first
      | (go_at_call 148; refine (sign64 _).mono ?_; rintro e w2 ⟨rfl, hb2⟩; have z2 := Z3.below (Z3.drew z1) hb2)
      | (go_at_call 148; refine (sign64 _).mono ?_; rintro e w3 ⟨rfl, hb3⟩; have z3 := Z3.below z2 hb3))
  go_wp2
  go_ret
  exact ⟨ret_bool HX.out, (by repeat (first | exact bz0 _ _ | refine bz1 ?_ | refine bz2 ?_ _ | refine bz3 ?_ _ | refine bz4 ?_ hb3 | refine bz4 ?_ hb2 | refine bz4 ?_ hb1 | refine bz5 ?_ _ | refine bz6 ?_ _ | refine bz7 ?_ hb3 | refine bz7 ?_ hb2 | refine bz7 ?_ hb1))⟩

theorem impl_ok0 (fm x : Int) (w : World) (h : Tab w) (h32 : fm ≠ 32) (h64 : fm ≠ 64) :
    Calls Tryz.prog 147 #[.int .i64 fm, .int .u64 x] w fun e w' => e = .returned (.bool false) ∧ Below w.heap.size w w' := by
  go_enter Tryz.func147, Tryz.ntmps147
  go_wp2_with fail
  refine (sizes0 fm _ h h32 h64).mono ?_
  rintro e w1 ⟨rfl, hb1⟩
  go_wp2_with fail
  have z1 := Z3.new w1 (.int .u64 0) (.int .u64 0) (.int .i64 0) 121
  go_quiet (fail)
  go_wp2
  go_ret
  exact ⟨rfl, (by repeat (first | exact bz0 _ _ | refine bz1 ?_ | refine bz2 ?_ _ | refine bz3 ?_ _ | refine bz4 ?_ hb1 | refine bz5 ?_ _ | refine bz6 ?_ _ | refine bz7 ?_ hb1))⟩

theorem spec_ok (fm x : Int) (w : World) :
    Calls Tryz.prog 126 #[.int .i64 fm, .int .u64 x] w fun e w' => e = .returned (.bool (okF fm x)) ∧ Below w.heap.size w w' := by
  by_cases h64 : fm = 64
  · subst h64
    have HX : Hid (okF 64 x = true) := hid (by simp [okF])
    go_enter Tryz.func126, Tryz.ntmps126
    go_wp2
    go_ret
    exact ⟨ret_bool HX.out.symm, (by repeat (first | exact bz0 _ _ | refine bz1 ?_ | refine bz2 ?_ _ | refine bz3 ?_ _ | refine bz5 ?_ _ | refine bz6 ?_ _))⟩
  · have e2 : (fm == 64) = false := by simpa using h64
    by_cases h32 : fm = 32
    · subst h32
      have HX : Hid (okF 32 x = decide (x < 4294967296)) := hid (by simp [okF])
      clear h64 e2
      go_enter Tryz.func126, Tryz.ntmps126
      go_wp2
      go_ret
      exact ⟨ret_bool HX.out.symm, (by repeat (first | exact bz0 _ _ | refine bz1 ?_ | refine bz2 ?_ _ | refine bz3 ?_ _ | refine bz5 ?_ _ | refine bz6 ?_ _))⟩
    · have e1 : (fm == 32) = false := by simpa using h32
      have HX : Hid (okF fm x = false) := hid (okF0 h32 h64)
      clear h32 h64
      go_enter Tryz.func126, Tryz.ntmps126
      go_wp2
      go_ret
      exact ⟨ret_bool HX.out.symm, (by repeat (first | exact bz0 _ _ | refine bz1 ?_ | refine bz2 ?_ _ | refine bz3 ?_ _ | refine bz5 ?_ _ | refine bz6 ?_ _))⟩

theorem impl_ok (fm x : Int) (w : World) (h : Tab w) (h0 : 0 ≤ x) (h1 : x < 18446744073709551616) :
    Calls Tryz.prog 147 #[.int .i64 fm, .int .u64 x] w fun e w' => e = .returned (.bool (okF fm x)) ∧ Below w.heap.size w w' := by
  by_cases h32 : fm = 32
  · subst h32; have := impl_ok32 x w h h0 h1; rwa [show okF 32 x = decide (x < 4294967296) by simp [okF]]
  by_cases h64 : fm = 64
  · subst h64; have := impl_ok64 x w h h0 h1; rwa [show okF 64 x = decide (x < 18446744073709551616) by simp [okF, h1]]
  rw [okF0 h32 h64]; exact impl_ok0 fm x w h h32 h64
end Go.Proofs.YtkfjmcdniohljaaGreatDoor
namespace Go.Proofs.YtkfjmcdniohljaaGreatDoor
set_option linter.unusedVariables false
namespace Nm
/-- m times 2 to the n, cut. (m is not below 0.) -/
def shM (m n : Int) : Int := if n < 0 then m / (2 : Int) ^ (-n).toNat else m * (2 : Int) ^ n.toNat
/-- A wide's value shifted: towards 0. -/
def shV (ng : Bool) (m n : Int) : Int := if ng then - shM m n else shM m n
theorem pw_pow (n : Nat) : pw n = (2 : Int) ^ (32 * n) := by rw [pw_two]; simp
theorem shM_up {m n : Int} {wh r : Nat} (h0 : 0 ≤ n) (hq : n / 32 = (wh : Int)) (hm : n % 32 = (r : Int)) : pw wh * ((2 : Int) ^ r * m) = shM m n := by
  unfold shM
  rw [if_neg (by omega), pw_pow, show n.toNat = 32 * wh + r by omega, Int.pow_add, Int.mul_comm m, Int.mul_assoc]
theorem shM_down {m n : Int} {wh r : Nat} (h0 : n < 0) (hq : -n / 32 = (wh : Int)) (hm : -n % 32 = (r : Int)) : m / pw wh / (2 : Int) ^ r = shM m n := by
  unfold shM
  have hp := pw_pos wh
  rw [if_pos h0, show (-n).toNat = 32 * wh + r by omega, Int.pow_add, ← pw_pow, Int.ediv_ediv_of_nonneg (by omega)]
theorem shV_wv {ng : Bool} {m n : Int} {os : List Int} (h : val os = shM m n) : shV ng m n = wv ng os := by unfold shV wv; rw [h]
end Nm
set_option linter.unusedSimpArgs false
open Go.RowKit Go.Deep
theorem two_below {w w' : World} {p q : Addr} {u v : Value} (h : w.cell? p = some u) (k : w.cell? q = some v) (hb : Below w.heap.size w w') : w'.cell? p = some u ∧ w'.cell? q = some v :=
  ⟨(hb.cell (World.block_lt_of_cell? w _ h)).trans h, (hb.cell (World.block_lt_of_cell? w _ k)).trans k⟩
/-- -1, 0 or 1, as limbs are less, the same, or greater (the longer is the greater; else from the top down). -/
def cmpFrom (xs ys : List Int) : Nat → Int
  | 0 => 0
  | n + 1 => if xs.getD n 0 < ys.getD n 0 then -1 else if ys.getD n 0 < xs.getD n 0 then 1 else cmpFrom xs ys n
def cmpL (xs ys : List Int) : Int := if xs.length < ys.length then -1 else if ys.length < xs.length then 1 else cmpFrom xs ys xs.length
theorem cmpFrom_rng (xs ys : List Int) (n : Nat) : -1 ≤ cmpFrom xs ys n ∧ cmpFrom xs ys n ≤ 1 := by
  induction n with
  | zero => simp [cmpFrom]
  | succ n ih =>
    unfold cmpFrom
    split
    · omega
    · split <;> omega
theorem cmpL_lt {xs ys : List Int} (h : xs.length < ys.length) : cmpL xs ys = -1 := by unfold cmpL; rw [if_pos h]
theorem cmpL_gt {xs ys : List Int} (h : ys.length < xs.length) : cmpL xs ys = 1 := by unfold cmpL; rw [if_neg (by omega), if_pos h]
theorem cmpL_eq {xs ys : List Int} (h : xs.length = ys.length) : cmpL xs ys = cmpFrom xs ys xs.length := by unfold cmpL; rw [if_neg (by omega), if_neg (by omega)]

theorem mag_any (a a' : Option Addr) (cap cap' : Nat) (xs ys : List Int) (w : World) (hx : Sl .u32 w (.slice a xs.length cap) xs) (hy : Sl .u32 w (.slice a' ys.length cap') ys) (hl : xs.length ≤ 140737488355328) (hl' : ys.length ≤ 140737488355328) :
    Calls Tryz.prog 144 #[.slice a xs.length cap, .slice a' ys.length cap'] w fun e w' => e = .returned (.int .i64 (cmpL xs ys)) ∧ Below w.heap.size w w' := by
  obtain ⟨-, hx1, hx2, hx3⟩ := hx.cells
  obtain ⟨-, hy1, hy2, hy3⟩ := hy.cells
  by_cases hn : xs.length = ys.length
  · have hne : ((xs.length : Int) != (ys.length : Int)) = false := by simp [hn]
    have HN : Hid (cmpL xs ys = cmpFrom xs ys xs.length) := hid (cmpL_eq hn)
    have hn1 : xs.length ≤ ys.length := by omega
    have hn2 : ys.length ≤ xs.length := by omega
    clear hn
    go_enter Tryz.func144, Tryz.ntmps144
    go_wp2_with fail
    go_loopw [5] (fun i wr => ∃ n : Nat, n ≤ xs.length ∧ i = .int .i64 ((n : Int) - 1) ∧ cmpFrom xs ys xs.length = cmpFrom xs ys n ∧ Below w.heap.size w wr) (fun i _ => (intOf i + 1).toNat)
    case atStart => exact ⟨xs.length, Nat.le_refl _, rfl, rfl, Below.refl _ _⟩
    case round =>
      obtain ⟨n, hk, rfl, hpre, hb⟩ := hrel
      have PRE := hid hpre
      clear hpre
      by_cases h0 : n = 0
      · subst h0
        have HR : Hid (cmpL xs ys = 0) := hid (by rw [HN.out, PRE.out]; rfl)
        clear hx3 hy3
        go_wp2
        go_ret
        exact ⟨ret_int HR.out.symm, hb⟩
      · obtain ⟨m, rfl⟩ : ∃ m, n = m + 1 := ⟨n - 1, by omega⟩
        have em : (((m + 1 : Nat) : Int) - 1) = (m : Int) := by omega
        rw [em]
        clear em h0
        obtain ⟨b, off, rfl, hcx⟩ := hx3 (by omega)
        obtain ⟨b', off', rfl, hcy⟩ := hy3 (by omega)
        have h1 := hcx m (by omega)
        have h2 := hcy m (by omega)
        have h1 : wr.cell? ⟨b, off + m, none⟩ = some (.int .u32 (xs.getD m 0)) := (hb.cell (p := ⟨b, off + m, none⟩) (World.block_lt_of_cell? w _ h1)).trans h1
        have h2 : wr.cell? ⟨b', off' + m, none⟩ = some (.int .u32 (ys.getD m 0)) := (hb.cell (p := ⟨b', off' + m, none⟩) (World.block_lt_of_cell? w _ h2)).trans h2
        clear hx3 hy3 hcx hcy
        obtain ⟨x, hxk⟩ : ∃ x, x = xs.getD m 0 := ⟨_, rfl⟩
        obtain ⟨y, hyk⟩ : ∃ y, y = ys.getD m 0 := ⟨_, rfl⟩
        have ST : Hid (cmpFrom xs ys xs.length = if x < y then -1 else if y < x then 1 else cmpFrom xs ys m) := hid (by rw [PRE.out, hxk, hyk]; rfl)
        rw [← hxk] at h1; rw [← hyk] at h2
        clear hxk hyk
        by_cases hlt : x < y
        · have HR : Hid (cmpL xs ys = -1) := hid (by rw [HN.out, ST.out, if_pos hlt])
          go_wp2
          go_region
          all_goals go_wp2
          all_goals go_ret
          all_goals exact ⟨ret_int HR.out.symm, (by repeat (first | exact bz0 _ _ | refine bz1 ?_ | refine bz2 ?_ _ | refine bz3 ?_ _ | refine bz4 ?_ hb | refine bz5 ?_ _ | refine bz6 ?_ _ | refine bz7 ?_ hb))⟩
        by_cases hgt : y < x
        · have HR : Hid (cmpL xs ys = 1) := hid (by rw [HN.out, ST.out, if_neg hlt, if_pos hgt])
          go_wp2
          go_region
          all_goals go_wp2
          all_goals go_region
          all_goals go_wp2
          all_goals go_ret
          all_goals exact ⟨ret_int HR.out.symm, (by repeat (first | exact bz0 _ _ | refine bz1 ?_ | refine bz2 ?_ _ | refine bz3 ?_ _ | refine bz4 ?_ hb | refine bz5 ?_ _ | refine bz6 ?_ _ | refine bz7 ?_ hb))⟩
        · have HR : Hid (cmpFrom xs ys xs.length = cmpFrom xs ys m) := hid (by rw [ST.out, if_neg hlt, if_neg hgt])
          go_wp2
          go_region
          all_goals go_wp2
          all_goals go_region
          all_goals go_wp2
          all_goals go_roundw
          case rel => exact ⟨m, by omega, rfl, HR.out, (by repeat (first | exact bz0 _ _ | refine bz1 ?_ | refine bz2 ?_ _ | refine bz3 ?_ _ | refine bz4 ?_ hb | refine bz5 ?_ _ | refine bz6 ?_ _ | refine bz7 ?_ hb))⟩
          case measure => simp [intOf]
  · have hne : ((xs.length : Int) != (ys.length : Int)) = true := by simp; omega
    clear hx3 hy3
    by_cases hlt : xs.length < ys.length
    · have HR := hid (cmpL_lt hlt)
      go_enter Tryz.func144, Tryz.ntmps144
      go_wp2
      go_ret
      exact ⟨ret_int HR.out.symm, Below.refl _ _⟩
    · have hgt : ys.length < xs.length := by omega
      have HR := hid (cmpL_gt hgt)
      go_enter Tryz.func144, Tryz.ntmps144
      go_wp2
      go_ret
      exact ⟨ret_int HR.out.symm, Below.refl _ _⟩

theorem cmpLimbs_any (a a' : Option Addr) (cap cap' : Nat) (xs ys : List Int) (w : World) (hx : Sl .u32 w (.slice a xs.length cap) xs) (hy : Sl .u32 w (.slice a' ys.length cap') ys) (hl : xs.length ≤ 140737488355328) (hl' : ys.length ≤ 140737488355328) :
    Calls Tryz.prog 109 #[.slice a xs.length cap, .slice a' ys.length cap'] w fun e w' => e = .returned (.int .i64 (cmpL xs ys)) ∧ Below w.heap.size w w' := by
  obtain ⟨-, hx1, hx2, hx3⟩ := hx.cells
  obtain ⟨-, hy1, hy2, hy3⟩ := hy.cells
  by_cases hn : xs.length = ys.length
  · have hne : ((xs.length : Int) != (ys.length : Int)) = false := by simp [hn]
    have HN : Hid (cmpL xs ys = cmpFrom xs ys xs.length) := hid (cmpL_eq hn)
    have hn1 : xs.length ≤ ys.length := by omega
    have hn2 : ys.length ≤ xs.length := by omega
    clear hn
    go_enter Tryz.func109, Tryz.ntmps109
    go_wp2_with fail
    go_loopw [5] (fun i wr => ∃ n : Nat, n ≤ xs.length ∧ i = .int .i64 ((n : Int) - 1) ∧ cmpFrom xs ys xs.length = cmpFrom xs ys n ∧ Below w.heap.size w wr) (fun i _ => (intOf i + 1).toNat)
    case atStart => exact ⟨xs.length, Nat.le_refl _, rfl, rfl, Below.refl _ _⟩
    case round =>
      obtain ⟨n, hk, rfl, hpre, hb⟩ := hrel
      have PRE := hid hpre
      clear hpre
      by_cases h0 : n = 0
      · subst h0
        have HR : Hid (cmpL xs ys = 0) := hid (by rw [HN.out, PRE.out]; rfl)
        clear hx3 hy3
        go_wp2
        go_ret
        exact ⟨ret_int HR.out.symm, hb⟩
      · obtain ⟨m, rfl⟩ : ∃ m, n = m + 1 := ⟨n - 1, by omega⟩
        have em : (((m + 1 : Nat) : Int) - 1) = (m : Int) := by omega
        rw [em]
        clear em h0
        obtain ⟨b, off, rfl, hcx⟩ := hx3 (by omega)
        obtain ⟨b', off', rfl, hcy⟩ := hy3 (by omega)
        have h1 := hcx m (by omega)
        have h2 := hcy m (by omega)
        have h1 : wr.cell? ⟨b, off + m, none⟩ = some (.int .u32 (xs.getD m 0)) := (hb.cell (p := ⟨b, off + m, none⟩) (World.block_lt_of_cell? w _ h1)).trans h1
        have h2 : wr.cell? ⟨b', off' + m, none⟩ = some (.int .u32 (ys.getD m 0)) := (hb.cell (p := ⟨b', off' + m, none⟩) (World.block_lt_of_cell? w _ h2)).trans h2
        clear hx3 hy3 hcx hcy
        obtain ⟨x, hxk⟩ : ∃ x, x = xs.getD m 0 := ⟨_, rfl⟩
        obtain ⟨y, hyk⟩ : ∃ y, y = ys.getD m 0 := ⟨_, rfl⟩
        have ST : Hid (cmpFrom xs ys xs.length = if x < y then -1 else if y < x then 1 else cmpFrom xs ys m) := hid (by rw [PRE.out, hxk, hyk]; rfl)
        rw [← hxk] at h1; rw [← hyk] at h2
        clear hxk hyk
        have ⟨r0, r1⟩ := cmpI_rng x y
        have i0 : (0 : Int) ≤ (m : Int) := by omega
        have i1 : (m : Int) < (xs.length : Int) := by omega
        have i2 : (m : Int) < (ys.length : Int) := by omega
        by_cases hxy : x = y
        · have hbe : (x != y) = false := by simp [hxy]
          have HR : Hid (cmpFrom xs ys xs.length = cmpFrom xs ys m) := hid (by rw [ST.out, if_neg (by omega), if_neg (by omega)])
          clear hxy
          go_wp2
          go_region
          all_goals go_wp2
          all_goals go_roundw
          case rel => exact ⟨m, by omega, rfl, HR.out, (by repeat (first | exact bz0 _ _ | refine bz1 ?_ | refine bz2 ?_ _ | refine bz3 ?_ _ | refine bz4 ?_ hb | refine bz5 ?_ _ | refine bz6 ?_ _ | refine bz7 ?_ hb))⟩
          case measure => simp [intOf]
        · have hbe : (x != y) = true := by simp [hxy]
          have HR : Hid (cmpL xs ys = cmpI x y) := hid (by
            rw [HN.out, ST.out]; unfold cmpI
            split
            · rfl
            · split
              · rfl
              · omega)
          clear hxy
          go_wp2
          go_region
          all_goals go_wp2
          go_region_held3 (fun w' => w'.cell? ⟨b, off + m, none⟩ = some (.int .u32 x) ∧ w'.cell? ⟨b', off' + m, none⟩ = some (.int .u32 y)) (first | assumption | exact ⟨h1, h2⟩)
            ((go_at_call 196; refine (compare_uint32 x y _).mono ?_; rintro e w1 ⟨rfl, hb1⟩; have s1 := two_below (w := wr.drew.drew) h1 h2 hb1))
          go_wp2
          go_ret
          exact ⟨ret_int HR.out.symm, (by repeat (first | exact bz0 _ _ | refine bz1 ?_ | refine bz2 ?_ _ | refine bz3 ?_ _ | refine bz4 ?_ hb1 | refine bz4 ?_ hb | refine bz5 ?_ _ | refine bz6 ?_ _ | refine bz7 ?_ hb1 | refine bz7 ?_ hb))⟩
  · have hne : ((xs.length : Int) != (ys.length : Int)) = true := by simp; omega
    have HR : Hid (cmpL xs ys = cmpI xs.length ys.length) := hid (by unfold cmpL cmpI; split <;> split <;> (try split) <;> omega)
    have ⟨r0, r1⟩ := cmpI_rng xs.length ys.length
    clear hx3 hy3
    go_enter Tryz.func109, Tryz.ntmps109
    go_wp2_with fail
    refine (compare_int _ _ _).mono ?_
    rintro e w1 ⟨rfl, hb1⟩
    go_wp2
    go_ret
    exact ⟨ret_int HR.out.symm, (by repeat (first | exact bz0 _ _ | refine bz1 ?_ | refine bz2 ?_ _ | refine bz3 ?_ _ | refine bz4 ?_ hb1 | refine bz5 ?_ _ | refine bz6 ?_ _ | refine bz7 ?_ hb1))⟩
/-- A right wide's limbs end in no nought. -/
theorem okB_nz {ng : Bool} {zs : List Int} (h : okB ng zs = true) : Nm.Nz zs ∧ zs.length ≤ 200 := by
  unfold okB at h
  split at h
  · rename_i h0
    have : zs = [] := List.eq_nil_of_length_eq_zero h0
    subst this; exact ⟨Nm.Nz.nil, by simp⟩
  · rename_i h0
    simp at h
    refine ⟨fun z hz => ?_, h.1⟩
    have h2 := h.2
    rw [List.getLast?_eq_getElem?] at hz
    rw [hz] at h2
    simpa using h2
theorem ok_fits {ng : Bool} {zs : List Int} (hd : Nm.Dg zs) (h : okB ng zs = true) (m : Bool) : Nm.fits (Nm.wv m zs) = true := by
  obtain ⟨h1, h2⟩ := okB_nz h
  unfold Nm.fits
  rw [Nm.wl_wv m hd, Nm.trim_eq hd h1]; simpa using h2

end Go.Proofs.YtkfjmcdniohljaaGreatDoor
