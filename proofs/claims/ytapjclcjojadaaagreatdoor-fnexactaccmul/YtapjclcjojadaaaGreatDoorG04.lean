/-
  Several texts in one: Cmp, WideB, NumsE, WideS, AppendZ, WideK, WideT, NumsF.
-/
import Derived.Test.YtapjclcjojadaaaGreatDoorRows
import Derived.Test.YtapjclcjojadaaaGreatDoorG00
import Derived.WalkKit
import Derived.WalkSpells
import Derived.WalkLawsBesides
import Derived.Test.YtapjclcjojadaaaGreatDoorG01
import Derived.Deep.RegionHeld3
import Derived.Test.YtapjclcjojadaaaGreatDoorG02
import Derived.Test.YtapjclcjojadaaaGreatDoorG03
import Derived.Deep.AppendLies
import Derived.Deep.RegionWith
import Derived.Deep.DeepCutAuto
import Derived.Deep.RegionHeldLaw
import Derived.Deep.DrawnRows
/-
  The library's cmp.Compare at integers.
-/
namespace Go.Proofs.YtapjclcjojadaaaGreatDoor
set_option linter.unusedVariables false
set_option linter.unusedSimpArgs false
open Go.RowKit
/-- Less, the same, greater. -/
def cmpI (x y : Int) : Int := if x < y then -1 else if y < x then 1 else 0
set_option maxHeartbeats 1000000 in
theorem compare_int (x y : Int) (w : World) :
    Calls Tryz.prog 208 #[.int .i64 x, .int .i64 y] w fun e w' => e = .returned (.int .i64 (cmpI x y)) ∧ Below w.heap.size w w' := by
  have ex : (x != x) = false := by simp
  have ey : (y != y) = false := by simp
  by_cases h1 : x < y
  · have HR : Hid (cmpI x y = -1) := hid (by unfold cmpI; rw [if_pos h1])
    go_enter Tryz.func208, Tryz.ntmps208
    go_wp2
    go_ret
    exact ⟨ret_int HR.out.symm, (by repeat (first | exact Below.refl _ _ | refine Below.drew ?_ | refine bel_dn ?_ _ | refine bel_al ?_ _ | refine Below.setCell ?_ (by first | omega | (simp; done) | (simp; omega)) _ | refine Below.alloc ?_ (by first | omega | (simp; done) | (simp; omega)) _))⟩
  by_cases h2 : y < x
  · have HR : Hid (cmpI x y = 1) := hid (by unfold cmpI; rw [if_neg h1, if_pos h2])
    go_enter Tryz.func208, Tryz.ntmps208
    go_wp2
    go_ret
    exact ⟨ret_int HR.out.symm, (by repeat (first | exact Below.refl _ _ | refine Below.drew ?_ | refine bel_dn ?_ _ | refine bel_al ?_ _ | refine Below.setCell ?_ (by first | omega | (simp; done) | (simp; omega)) _ | refine Below.alloc ?_ (by first | omega | (simp; done) | (simp; omega)) _))⟩
  · have HR : Hid (cmpI x y = 0) := hid (by unfold cmpI; rw [if_neg h1, if_neg h2])
    go_enter Tryz.func208, Tryz.ntmps208
    go_wp2
    go_ret
    exact ⟨ret_int HR.out.symm, (by repeat (first | exact Below.refl _ _ | refine Below.drew ?_ | refine bel_dn ?_ _ | refine bel_al ?_ _ | refine Below.setCell ?_ (by first | omega | (simp; done) | (simp; omega)) _ | refine Below.alloc ?_ (by first | omega | (simp; done) | (simp; omega)) _))⟩
set_option maxHeartbeats 1000000 in
theorem compare_uint32 (x y : Int) (w : World) :
    Calls Tryz.prog 209 #[.int .u32 x, .int .u32 y] w fun e w' => e = .returned (.int .i64 (cmpI x y)) ∧ Below w.heap.size w w' := by
  have ex : (x != x) = false := by simp
  have ey : (y != y) = false := by simp
  by_cases h1 : x < y
  · have HR : Hid (cmpI x y = -1) := hid (by unfold cmpI; rw [if_pos h1])
    go_enter Tryz.func209, Tryz.ntmps209
    go_wp2
    go_ret
    exact ⟨ret_int HR.out.symm, (by repeat (first | exact Below.refl _ _ | refine Below.drew ?_ | refine bel_dn ?_ _ | refine bel_al ?_ _ | refine Below.setCell ?_ (by first | omega | (simp; done) | (simp; omega)) _ | refine Below.alloc ?_ (by first | omega | (simp; done) | (simp; omega)) _))⟩
  by_cases h2 : y < x
  · have HR : Hid (cmpI x y = 1) := hid (by unfold cmpI; rw [if_neg h1, if_pos h2])
    go_enter Tryz.func209, Tryz.ntmps209
    go_wp2
    go_ret
    exact ⟨ret_int HR.out.symm, (by repeat (first | exact Below.refl _ _ | refine Below.drew ?_ | refine bel_dn ?_ _ | refine bel_al ?_ _ | refine Below.setCell ?_ (by first | omega | (simp; done) | (simp; omega)) _ | refine Below.alloc ?_ (by first | omega | (simp; done) | (simp; omega)) _))⟩
  · have HR : Hid (cmpI x y = 0) := hid (by unfold cmpI; rw [if_neg h1, if_neg h2])
    go_enter Tryz.func209, Tryz.ntmps209
    go_wp2
    go_ret
    exact ⟨ret_int HR.out.symm, (by repeat (first | exact Below.refl _ _ | refine Below.drew ?_ | refine bel_dn ?_ _ | refine bel_al ?_ _ | refine Below.setCell ?_ (by first | omega | (simp; done) | (simp; omega)) _ | refine Below.alloc ?_ (by first | omega | (simp; done) | (simp; omega)) _))⟩
theorem cmpI_rng (x y : Int) : -1 ≤ cmpI x y ∧ cmpI x y ≤ 1 := by unfold cmpI; repeat' split <;> omega

end Go.Proofs.YtapjclcjojadaaaGreatDoor
/-
  Limbs compared, by the program and by the specification.
-/
namespace Go.Proofs.YtapjclcjojadaaaGreatDoor
set_option linter.unusedVariables false
set_option linter.unusedSimpArgs false
open Go.RowKit Go.Deep

theorem two_below {w w' : World} {p q : Addr} {u v : Value} (h : w.cell? p = some u) (k : w.cell? q = some v) (hb : Below w.heap.size w w') : w'.cell? p = some u ∧ w'.cell? q = some v :=
  ⟨(hb.cell (World.block_lt_of_cell? w _ h)).trans h, (hb.cell (World.block_lt_of_cell? w _ k)).trans k⟩
/-- -1, 0 or 1, as limbs are less, the same, or greater (the longer is the greater; else from the top down). -/
def cmpFrom (xs ys : List Int) : Nat → Int
  | 0 => 0
  | n + 1 => if xs.getD n 0 < ys.getD n 0 then -1 else if ys.getD n 0 < xs.getD n 0 then 1 else cmpFrom xs ys n
def cmpL (xs ys : List Int) : Int := if xs.length < ys.length then -1 else if ys.length < xs.length then 1 else cmpFrom xs ys xs.length
theorem cmpFrom_rng (xs ys : List Int) (n : Nat) : -1 ≤ cmpFrom xs ys n ∧ cmpFrom xs ys n ≤ 1 := by
  induction n with
  | zero => simp [cmpFrom]
  | succ n ih =>
    unfold cmpFrom
    split
    · omega
    · split <;> omega
theorem cmpL_lt {xs ys : List Int} (h : xs.length < ys.length) : cmpL xs ys = -1 := by unfold cmpL; rw [if_pos h]
theorem cmpL_gt {xs ys : List Int} (h : ys.length < xs.length) : cmpL xs ys = 1 := by unfold cmpL; rw [if_neg (by omega), if_pos h]
theorem cmpL_eq {xs ys : List Int} (h : xs.length = ys.length) : cmpL xs ys = cmpFrom xs ys xs.length := by unfold cmpL; rw [if_neg (by omega), if_neg (by omega)]

set_option maxHeartbeats 1000000 in
theorem mag_any (a a' : Option Addr) (cap cap' : Nat) (xs ys : List Int) (w : World) (hx : Sl .u32 w (.slice a xs.length cap) xs) (hy : Sl .u32 w (.slice a' ys.length cap') ys) (hl : xs.length ≤ 140737488355328) (hl' : ys.length ≤ 140737488355328) :
    Calls Tryz.prog 123 #[.slice a xs.length cap, .slice a' ys.length cap'] w fun e w' => e = .returned (.int .i64 (cmpL xs ys)) ∧ Below w.heap.size w w' := by
  obtain ⟨-, hx1, hx2, hx3⟩ := hx.cells
  obtain ⟨-, hy1, hy2, hy3⟩ := hy.cells
  by_cases hn : xs.length = ys.length
  · have hne : ((xs.length : Int) != (ys.length : Int)) = false := by simp [hn]
    have HN : Hid (cmpL xs ys = cmpFrom xs ys xs.length) := hid (cmpL_eq hn)
    have hn1 : xs.length ≤ ys.length := by omega
    have hn2 : ys.length ≤ xs.length := by omega
    clear hn
    go_enter Tryz.func123, Tryz.ntmps123
    go_wp2_with fail
    go_loopw [5] (fun i wr => ∃ n : Nat, n ≤ xs.length ∧ i = .int .i64 ((n : Int) - 1) ∧ cmpFrom xs ys xs.length = cmpFrom xs ys n ∧ Below w.heap.size w wr) (fun i _ => (intOf i + 1).toNat)
    case atStart => exact ⟨xs.length, Nat.le_refl _, rfl, rfl, Below.refl _ _⟩
    case round =>
      obtain ⟨n, hk, rfl, hpre, hb⟩ := hrel
      have PRE := hid hpre
      clear hpre
      by_cases h0 : n = 0
      · subst h0
        have HR : Hid (cmpL xs ys = 0) := hid (by rw [HN.out, PRE.out]; rfl)
        clear hx3 hy3
        go_wp2
        go_ret
        exact ⟨ret_int HR.out.symm, hb⟩
      · obtain ⟨m, rfl⟩ : ∃ m, n = m + 1 := ⟨n - 1, by omega⟩
        have em : (((m + 1 : Nat) : Int) - 1) = (m : Int) := by omega
        rw [em]
        clear em h0
        obtain ⟨b, off, rfl, hcx⟩ := hx3 (by omega)
        obtain ⟨b', off', rfl, hcy⟩ := hy3 (by omega)
        have h1 := hcx m (by omega)
        have h2 := hcy m (by omega)
        have h1 : wr.cell? ⟨b, off + m, none⟩ = some (.int .u32 (xs.getD m 0)) := (hb.cell (p := ⟨b, off + m, none⟩) (World.block_lt_of_cell? w _ h1)).trans h1
        have h2 : wr.cell? ⟨b', off' + m, none⟩ = some (.int .u32 (ys.getD m 0)) := (hb.cell (p := ⟨b', off' + m, none⟩) (World.block_lt_of_cell? w _ h2)).trans h2
        clear hx3 hy3 hcx hcy
        obtain ⟨x, hxk⟩ : ∃ x, x = xs.getD m 0 := ⟨_, rfl⟩
        obtain ⟨y, hyk⟩ : ∃ y, y = ys.getD m 0 := ⟨_, rfl⟩
        have ST : Hid (cmpFrom xs ys xs.length = if x < y then -1 else if y < x then 1 else cmpFrom xs ys m) := hid (by rw [PRE.out, hxk, hyk]; rfl)
        rw [← hxk] at h1; rw [← hyk] at h2
        clear hxk hyk
        by_cases hlt : x < y
        · have HR : Hid (cmpL xs ys = -1) := hid (by rw [HN.out, ST.out, if_pos hlt])
          go_wp2
          go_region
          all_goals go_wp2
          all_goals go_ret
          all_goals exact ⟨ret_int HR.out.symm, (by repeat (first | exact Below.refl _ _ | refine Below.drew ?_ | refine bel_dn ?_ _ | refine bel_al ?_ _ | refine bel_go ?_ hb | refine Below.setCell ?_ (by first | omega | (simp; done) | (simp; omega)) _ | refine Below.alloc ?_ (by first | omega | (simp; done) | (simp; omega)) _ | refine Below.trans ?_ (Below.mono hb (by first | omega | (simp; done) | (simp; omega)))))⟩
        by_cases hgt : y < x
        · have HR : Hid (cmpL xs ys = 1) := hid (by rw [HN.out, ST.out, if_neg hlt, if_pos hgt])
          go_wp2
          go_region
          all_goals go_wp2
          all_goals go_region
          all_goals go_wp2
          all_goals go_ret
          all_goals exact ⟨ret_int HR.out.symm, (by repeat (first | exact Below.refl _ _ | refine Below.drew ?_ | refine bel_dn ?_ _ | refine bel_al ?_ _ | refine bel_go ?_ hb | refine Below.setCell ?_ (by first | omega | (simp; done) | (simp; omega)) _ | refine Below.alloc ?_ (by first | omega | (simp; done) | (simp; omega)) _ | refine Below.trans ?_ (Below.mono hb (by first | omega | (simp; done) | (simp; omega)))))⟩
        · have HR : Hid (cmpFrom xs ys xs.length = cmpFrom xs ys m) := hid (by rw [ST.out, if_neg hlt, if_neg hgt])
          go_wp2
          go_region
          all_goals go_wp2
          all_goals go_region
          all_goals go_wp2
          all_goals go_roundw
          case rel => exact ⟨m, by omega, rfl, HR.out, (by repeat (first | exact Below.refl _ _ | refine Below.drew ?_ | refine bel_dn ?_ _ | refine bel_al ?_ _ | refine bel_go ?_ hb | refine Below.setCell ?_ (by first | omega | (simp; done) | (simp; omega)) _ | refine Below.alloc ?_ (by first | omega | (simp; done) | (simp; omega)) _ | refine Below.trans ?_ (Below.mono hb (by first | omega | (simp; done) | (simp; omega)))))⟩
          case measure => simp [intOf]
  · have hne : ((xs.length : Int) != (ys.length : Int)) = true := by simp; omega
    clear hx3 hy3
    by_cases hlt : xs.length < ys.length
    · have HR := hid (cmpL_lt hlt)
      go_enter Tryz.func123, Tryz.ntmps123
      go_wp2
      go_ret
      exact ⟨ret_int HR.out.symm, Below.refl _ _⟩
    · have hgt : ys.length < xs.length := by omega
      have HR := hid (cmpL_gt hgt)
      go_enter Tryz.func123, Tryz.ntmps123
      go_wp2
      go_ret
      exact ⟨ret_int HR.out.symm, Below.refl _ _⟩

set_option maxHeartbeats 1000000 in
theorem cmpLimbs_any (a a' : Option Addr) (cap cap' : Nat) (xs ys : List Int) (w : World) (hx : Sl .u32 w (.slice a xs.length cap) xs) (hy : Sl .u32 w (.slice a' ys.length cap') ys) (hl : xs.length ≤ 140737488355328) (hl' : ys.length ≤ 140737488355328) :
    Calls Tryz.prog 181 #[.slice a xs.length cap, .slice a' ys.length cap'] w fun e w' => e = .returned (.int .i64 (cmpL xs ys)) ∧ Below w.heap.size w w' := by
  obtain ⟨-, hx1, hx2, hx3⟩ := hx.cells
  obtain ⟨-, hy1, hy2, hy3⟩ := hy.cells
  by_cases hn : xs.length = ys.length
  · have hne : ((xs.length : Int) != (ys.length : Int)) = false := by simp [hn]
    have HN : Hid (cmpL xs ys = cmpFrom xs ys xs.length) := hid (cmpL_eq hn)
    have hn1 : xs.length ≤ ys.length := by omega
    have hn2 : ys.length ≤ xs.length := by omega
    clear hn
    go_enter Tryz.func181, Tryz.ntmps181
    go_wp2_with fail
    go_loopw [5] (fun i wr => ∃ n : Nat, n ≤ xs.length ∧ i = .int .i64 ((n : Int) - 1) ∧ cmpFrom xs ys xs.length = cmpFrom xs ys n ∧ Below w.heap.size w wr) (fun i _ => (intOf i + 1).toNat)
    case atStart => exact ⟨xs.length, Nat.le_refl _, rfl, rfl, Below.refl _ _⟩
    case round =>
      obtain ⟨n, hk, rfl, hpre, hb⟩ := hrel
      have PRE := hid hpre
      clear hpre
      by_cases h0 : n = 0
      · subst h0
        have HR : Hid (cmpL xs ys = 0) := hid (by rw [HN.out, PRE.out]; rfl)
        clear hx3 hy3
        go_wp2
        go_ret
        exact ⟨ret_int HR.out.symm, hb⟩
      · obtain ⟨m, rfl⟩ : ∃ m, n = m + 1 := ⟨n - 1, by omega⟩
        have em : (((m + 1 : Nat) : Int) - 1) = (m : Int) := by omega
        rw [em]
        clear em h0
        obtain ⟨b, off, rfl, hcx⟩ := hx3 (by omega)
        obtain ⟨b', off', rfl, hcy⟩ := hy3 (by omega)
        have h1 := hcx m (by omega)
        have h2 := hcy m (by omega)
        have h1 : wr.cell? ⟨b, off + m, none⟩ = some (.int .u32 (xs.getD m 0)) := (hb.cell (p := ⟨b, off + m, none⟩) (World.block_lt_of_cell? w _ h1)).trans h1
        have h2 : wr.cell? ⟨b', off' + m, none⟩ = some (.int .u32 (ys.getD m 0)) := (hb.cell (p := ⟨b', off' + m, none⟩) (World.block_lt_of_cell? w _ h2)).trans h2
        clear hx3 hy3 hcx hcy
        obtain ⟨x, hxk⟩ : ∃ x, x = xs.getD m 0 := ⟨_, rfl⟩
        obtain ⟨y, hyk⟩ : ∃ y, y = ys.getD m 0 := ⟨_, rfl⟩
        have ST : Hid (cmpFrom xs ys xs.length = if x < y then -1 else if y < x then 1 else cmpFrom xs ys m) := hid (by rw [PRE.out, hxk, hyk]; rfl)
        rw [← hxk] at h1; rw [← hyk] at h2
        clear hxk hyk
        have ⟨r0, r1⟩ := cmpI_rng x y
        have i0 : (0 : Int) ≤ (m : Int) := by omega
        have i1 : (m : Int) < (xs.length : Int) := by omega
        have i2 : (m : Int) < (ys.length : Int) := by omega
        by_cases hxy : x = y
        · have hbe : (x != y) = false := by simp [hxy]
          have HR : Hid (cmpFrom xs ys xs.length = cmpFrom xs ys m) := hid (by rw [ST.out, if_neg (by omega), if_neg (by omega)])
          clear hxy
          go_wp2
          go_region
          all_goals go_wp2
          all_goals go_roundw
          case rel => exact ⟨m, by omega, rfl, HR.out, (by repeat (first | exact Below.refl _ _ | refine Below.drew ?_ | refine bel_dn ?_ _ | refine bel_al ?_ _ | refine bel_go ?_ hb | refine Below.setCell ?_ (by first | omega | (simp; done) | (simp; omega)) _ | refine Below.alloc ?_ (by first | omega | (simp; done) | (simp; omega)) _ | refine Below.trans ?_ (Below.mono hb (by first | omega | (simp; done) | (simp; omega)))))⟩
          case measure => simp [intOf]
        · have hbe : (x != y) = true := by simp [hxy]
          have HR : Hid (cmpL xs ys = cmpI x y) := hid (by
            rw [HN.out, ST.out]; unfold cmpI
            split
            · rfl
            · split
              · rfl
              · omega)
          clear hxy
          go_wp2
          go_region
          all_goals go_wp2
          go_region_held3 (fun w' => w'.cell? ⟨b, off + m, none⟩ = some (.int .u32 x) ∧ w'.cell? ⟨b', off' + m, none⟩ = some (.int .u32 y)) (first | assumption | exact ⟨h1, h2⟩)
            ((go_at_call 209; refine (compare_uint32 x y _).mono ?_; rintro e w1 ⟨rfl, hb1⟩; have s1 := two_below (w := wr.drew.drew) h1 h2 hb1))
          go_wp2
          go_ret
          exact ⟨ret_int HR.out.symm, (by repeat (first | exact Below.refl _ _ | refine Below.drew ?_ | refine bel_dn ?_ _ | refine bel_al ?_ _ | refine bel_go ?_ hb1 | refine bel_go ?_ hb | refine Below.setCell ?_ (by first | omega | (simp; done) | (simp; omega)) _ | refine Below.alloc ?_ (by first | omega | (simp; done) | (simp; omega)) _ | refine Below.trans ?_ (Below.mono hb1 (by first | omega | (simp; done) | (simp; omega))) | refine Below.trans ?_ (Below.mono hb (by first | omega | (simp; done) | (simp; omega)))))⟩
  · have hne : ((xs.length : Int) != (ys.length : Int)) = true := by simp; omega
    have HR : Hid (cmpL xs ys = cmpI xs.length ys.length) := hid (by unfold cmpL cmpI; split <;> split <;> (try split) <;> omega)
    have ⟨r0, r1⟩ := cmpI_rng xs.length ys.length
    clear hx3 hy3
    go_enter Tryz.func181, Tryz.ntmps181
    go_wp2_with fail
    refine (compare_int _ _ _).mono ?_
    rintro e w1 ⟨rfl, hb1⟩
    go_wp2
    go_ret
    exact ⟨ret_int HR.out.symm, (by repeat (first | exact Below.refl _ _ | refine Below.drew ?_ | refine bel_dn ?_ _ | refine bel_al ?_ _ | refine bel_go ?_ hb1 | refine Below.setCell ?_ (by first | omega | (simp; done) | (simp; omega)) _ | refine Below.alloc ?_ (by first | omega | (simp; done) | (simp; omega)) _ | refine Below.trans ?_ (Below.mono hb1 (by first | omega | (simp; done) | (simp; omega)))))⟩
end Go.Proofs.YtapjclcjojadaaaGreatDoor
/-
  Plain mathematics, no Go: limbs compared from the top down are numbers compared; sums of wides.
-/
namespace Go.Proofs.YtapjclcjojadaaaGreatDoor
set_option linter.unusedVariables false
namespace Nm
/-- Compared from the top down. -/
def cmpF (xs ys : List Int) : Nat → Int
  | 0 => 0
  | n + 1 => if xs.getD n 0 < ys.getD n 0 then -1 else if ys.getD n 0 < xs.getD n 0 then 1 else cmpF xs ys n
def cmpB (xs ys : List Int) : Int := if xs.length < ys.length then -1 else if ys.length < xs.length then 1 else cmpF xs ys xs.length
theorem val_take_lt {xs : List Int} (d : Dg xs) (n : Nat) : 0 ≤ val (xs.take n) ∧ val (xs.take n) < pw n := by
  refine ⟨val_nonneg (d.take n), ?_⟩
  have h1 := val_lt (d.take n)
  have h2 := pw_mono (show (xs.take n).length ≤ n by simp; omega)
  omega
theorem mul_step {p u v : Int} (hp : 1 ≤ p) (h : u < v) : p * u + p ≤ p * v := by
  have : p * (u + 1) ≤ p * v := Int.mul_le_mul_of_nonneg_left (by omega) (by omega)
  rw [Int.mul_add] at this; omega
theorem cmpF_val {xs ys : List Int} (dx : Dg xs) (dy : Dg ys) (n : Nat) : (cmpF xs ys n < 0 ↔ val (xs.take n) < val (ys.take n)) ∧ (0 < cmpF xs ys n ↔ val (ys.take n) < val (xs.take n)) := by
  induction n with
  | zero => simp [cmpF]
  | succ n ih =>
    rw [val_take_succ, val_take_succ]
    have h1 := val_take_lt dx n
    have h2 := val_take_lt dy n
    have hp := pw_pos n
    simp only [cmpF]
    by_cases c1 : xs.getD n 0 < ys.getD n 0
    · have := mul_step hp c1
      rw [if_pos c1]; constructor <;> constructor <;> intro _ <;> omega
    · rw [if_neg c1]
      by_cases c2 : ys.getD n 0 < xs.getD n 0
      · have := mul_step hp c2
        rw [if_pos c2]; constructor <;> constructor <;> intro _ <;> omega
      · rw [if_neg c2, show xs.getD n 0 = ys.getD n 0 by omega]
        constructor
        · rw [ih.1]; omega
        · rw [ih.2]; omega
theorem val_len_lt {xs ys : List Int} (dx : Dg xs) (dy : Dg ys) (ny : Nz ys) (h : xs.length < ys.length) : val xs < val ys := by
  have h1 := val_lt dx
  have h2 : ¬ val ys < pw xs.length := fun h' => by have := (length_le_iff dy ny xs.length).2 h'; omega
  omega
theorem cmpB_val {xs ys : List Int} (dx : Dg xs) (dy : Dg ys) (nx : Nz xs) (ny : Nz ys) : (cmpB xs ys < 0 ↔ val xs < val ys) ∧ (0 < cmpB xs ys ↔ val ys < val xs) := by
  unfold cmpB
  by_cases c1 : xs.length < ys.length
  · have := val_len_lt dx dy ny c1
    rw [if_pos c1]; constructor <;> constructor <;> intro _ <;> omega
  · rw [if_neg c1]
    by_cases c2 : ys.length < xs.length
    · have := val_len_lt dy dx nx c2
      rw [if_pos c2]; constructor <;> constructor <;> intro _ <;> omega
    · rw [if_neg c2]
      have h := cmpF_val dx dy xs.length
      rwa [List.take_of_length_le (Nat.le_refl _), List.take_of_length_le (l := ys) (by omega)] at h
theorem len_le_of_val {xs ys : List Int} (dx : Dg xs) (dy : Dg ys) (ny : Nz ys) (h : val ys ≤ val xs) : ys.length ≤ xs.length := by
  have := val_lt dx
  exact (length_le_iff dy ny xs.length).2 (by omega)
/-- The sum of two wides, with one sign or with two. -/
theorem wv_same {n : Bool} {xs ys os : List Int} (h : val os = val xs + val ys) : wv n xs + wv n ys = wv n os := by
  unfold wv; cases n <;> simp <;> omega
theorem wv_less {n m : Bool} {xs ys os : List Int} (hn : (n == m) = false) (h : val os = val xs - val ys) : wv n xs + wv m ys = wv n os := by
  unfold wv; cases n <;> cases m <;> simp at hn ⊢ <;> omega
theorem wv_less' {n m : Bool} {xs ys os : List Int} (hn : (n == m) = false) (h : val os = val ys - val xs) : wv n xs + wv m ys = wv m os := by
  unfold wv; cases n <;> cases m <;> simp at hn ⊢ <;> omega
theorem wv_mul {n m : Bool} {xs ys os : List Int} (h : val os = val xs * val ys) : wv n xs * wv m ys = wv (n != m) os := by
  unfold wv; cases n <;> cases m <;> simp [h, Int.neg_mul, Int.mul_neg]
end Nm
end Go.Proofs.YtapjclcjojadaaaGreatDoor
/-
  Sums of wides, by the specification.
-/
namespace Go.Proofs.YtapjclcjojadaaaGreatDoor
set_option linter.unusedVariables false
set_option linter.unusedSimpArgs false
open Go.RowKit Go.Deep
theorem cmpFrom_F (xs ys : List Int) (n : Nat) : cmpFrom xs ys n = Nm.cmpF xs ys n := by
  induction n with
  | zero => rfl
  | succ n ih => simp only [cmpFrom, Nm.cmpF, ih]
theorem cmpL_val {xs ys : List Int} (dx : Nm.Dg xs) (dy : Nm.Dg ys) (nx : Nm.Nz xs) (ny : Nm.Nz ys) : (cmpL xs ys < 0 ↔ Nm.val xs < Nm.val ys) ∧ (0 < cmpL xs ys ↔ Nm.val ys < Nm.val xs) := by
  have e : cmpL xs ys = Nm.cmpB xs ys := by unfold cmpL Nm.cmpB; rw [cmpFrom_F]
  rw [e]; exact Nm.cmpB_val dx dy nx ny
theorem keep3 {w w' : World} {b b' : Nat} {v0 v1 u1 : Value} (h0 : w.cell? ⟨b, 0, none⟩ = some v0) (h1 : w.cell? ⟨b, 1, none⟩ = some v1) (k1 : w.cell? ⟨b', 1, none⟩ = some u1) (hb : Below w.heap.size w w') :
    w'.cell? ⟨b, 0, none⟩ = some v0 ∧ w'.cell? ⟨b, 1, none⟩ = some v1 ∧ w'.cell? ⟨b', 1, none⟩ = some u1 :=
  ⟨(hb.cell (World.block_lt_of_cell? w _ h0)).trans h0, (hb.cell (World.block_lt_of_cell? w _ h1)).trans h1, (hb.cell (World.block_lt_of_cell? w _ k1)).trans k1⟩
theorem keep3_set {w : World} {b b' z : Nat} {v0 v1 u1 : Value} (h0 : w.cell? ⟨b, 0, none⟩ = some v0) (h1 : w.cell? ⟨b, 1, none⟩ = some v1) (k1 : w.cell? ⟨b', 1, none⟩ = some u1) (n1 : b ≠ z) (n2 : b' ≠ z) (p q : Value) :
    ((w.setCell ⟨z, 0, none⟩ p).setCell ⟨z, 1, none⟩ q).cell? ⟨b, 0, none⟩ = some v0 ∧ ((w.setCell ⟨z, 0, none⟩ p).setCell ⟨z, 1, none⟩ q).cell? ⟨b, 1, none⟩ = some v1 ∧ ((w.setCell ⟨z, 0, none⟩ p).setCell ⟨z, 1, none⟩ q).cell? ⟨b', 1, none⟩ = some u1 := by
  have e1 := Below.heap_setCell w ⟨z, 0, none⟩ p b n1
  have e2 := Below.heap_setCell (w.setCell ⟨z, 0, none⟩ p) ⟨z, 1, none⟩ q b n1
  have f1 := Below.heap_setCell w ⟨z, 0, none⟩ p b' n2
  have f2 := Below.heap_setCell (w.setCell ⟨z, 0, none⟩ p) ⟨z, 1, none⟩ q b' n2
  exact ⟨(World.cell?_of_block (a := ⟨b, 0, none⟩) (e2.trans e1)).trans h0, (World.cell?_of_block (a := ⟨b, 1, none⟩) (e2.trans e1)).trans h1, (World.cell?_of_block (a := ⟨b', 1, none⟩) (f2.trans f1)).trans k1⟩
set_option maxHeartbeats 1000000 in
theorem l1add_same (na nb : Bool) (a b : Option Addr) (cap cap' : Nat) (xs ys : List Int) (w : World) (hx : Sl .u32 w (.slice a xs.length cap) xs) (hy : Sl .u32 w (.slice b ys.length cap') ys) (dx : Nm.Dg xs) (dy : Nm.Dg ys) (nx : Nm.Nz xs) (ny : Nm.Nz ys) (hl : xs.length ≤ 500000) (hl' : ys.length ≤ 500000) (x : Int) (hx0 : x = Nm.wv na xs + Nm.wv nb ys) (hc : (na == nb) = true) :
    Calls Tryz.prog 59 #[.agg #[.bool na, .slice a xs.length cap], .agg #[.bool nb, .slice b ys.length cap']] w fun e w' => ∃ a' c', e = .returned (.agg #[.bool (Nm.wn x), .slice a' (Nm.wl x).length c']) ∧ Own w' w.heap.size a' c' (Nm.wl x) ∧ Below w.heap.size w w' := by
  have HX : Hid (∀ os, Nm.val os = Nm.val xs + Nm.val ys → x = Nm.wv na os) := hid (fun os h => by
    have hc' : na = nb := by simpa using hc
    rw [hx0, ← hc']; exact Nm.wv_same h)
  clear hx0
  go_enter Tryz.func59, Tryz.ntmps59
  have Bx := ((Box.new w (.bool na) (.slice a xs.length cap) 29).alloc (.cells #[.bool nb, .slice b ys.length cap'] 29)).alloc (.cells #[.bool false, .slice none 0 0] 29)
  have By := (Box.new2 w (.cells #[.bool na, .slice a xs.length cap] 29) (.bool nb) (.slice b ys.length cap') 29).alloc (.cells #[.bool false, .slice none 0 0] 29)
  have Rz : R2 (((w.alloc (.cells #[.bool na, .slice a xs.length cap] 29)).alloc (.cells #[.bool nb, .slice b ys.length cap'] 29)).alloc (.cells #[.bool false, .slice none 0 0] 29)) (w.heap.size + 1 + 1) (.bool false) (.slice none 0 0) := by simpa using R2.new2 (w.alloc (.cells #[.bool na, .slice a xs.length cap] 29)) (.cells #[.bool nb, .slice b ys.length cap'] 29) (.bool false) (.slice none 0 0) 29
  have sx := ((hx.alloc (.cells #[.bool na, .slice a xs.length cap] 29)).alloc (.cells #[.bool nb, .slice b ys.length cap'] 29)).alloc (.cells #[.bool false, .slice none 0 0] 29)
  have sy := ((hy.alloc (.cells #[.bool na, .slice a xs.length cap] 29)).alloc (.cells #[.bool nb, .slice b ys.length cap'] 29)).alloc (.cells #[.bool false, .slice none 0 0] 29)
  have hbW : Below w.heap.size w (((w.alloc (.cells #[.bool na, .slice a xs.length cap] 29)).alloc (.cells #[.bool nb, .slice b ys.length cap'] 29)).alloc (.cells #[.bool false, .slice none 0 0] 29)) := (by repeat (first | exact Below.refl _ _ | refine Below.drew ?_ | refine bel_dn ?_ _ | refine bel_al ?_ _ | refine Below.setCell ?_ (by first | omega | (simp; done) | (simp; omega)) _ | refine Below.alloc ?_ (by first | omega | (simp; done) | (simp; omega)) _))
  go_wp2_with fail
  generalize ((w.alloc (.cells #[.bool na, .slice a xs.length cap] 29)).alloc (.cells #[.bool nb, .slice b ys.length cap'] 29)).alloc (.cells #[.bool false, .slice none 0 0] 29) = W at Bx By Rz sx sy hbW ⊢
  have lW : w.heap.size + 1 + 1 < W.heap.size := World.block_lt_of_cell? W _ Rz.c0
  go_region_held3 (fun w' => w'.cell? ⟨w.heap.size, 0, none⟩ = some (.bool na) ∧ w'.cell? ⟨w.heap.size, 1, none⟩ = some (.slice a xs.length cap) ∧ w'.cell? ⟨w.heap.size + 1, 1, none⟩ = some (.slice b ys.length cap')) (first | assumption | (refine keep3_set k3.1 k3.2.1 k3.2.2 ?_ ?_ _ _ <;> omega) | exact ⟨Bx.1, Bx.2, By.2⟩)
    (first
      | (go_at_call 127; refine (plus_any a b cap cap' xs ys _ (by exact sx.drew) (by exact sy.drew) dx dy hl hl' ).mono ?_; rintro e w2 ⟨a2, c2, os, rfl, ho2, dos, hv, hlo, hb2⟩; have k2 := keep3 (w := W.drew) Bx.1 Bx.2 By.2 hb2; have Rz2 := Rz.drew.below hb2)
      | (go_at_call 124; refine (made_v na a2 c2 os _ (by exact ho2.sl) dos hlo x (HX.out os hv)).mono ?_; rintro e w3 ⟨a3, c3, rfl, ho3, hb3⟩; have k3 := keep3 k2.1 k2.2.1 k2.2.2 hb3; have Rz3 := Rz2.below hb3; obtain ⟨z0, z1, zf0, zf1⟩ := Rz3))
  have l2 : W.heap.size ≤ w2.heap.size := hb2.size
  have l3 : w2.heap.size ≤ w3.heap.size := hb3.size
  go_wp2
  refine bodyPost_ret (v := .agg #[.bool (Nm.wn x), .slice a3 (Nm.wl x).length c3]) (by simp [results, Tryz.results59, go_sem, z0, z1]) rfl ⟨a3, c3, rfl, ?_, ?_⟩
  · exact Own.base ((ho3.setBelow (by simp; omega) _).setBelow (by simp; omega) _) (by omega)
  · exact ((bel_go (bel_go (Below.drew hbW) hb2) hb3).setCell (by simp; omega) _).setCell (by simp; omega) _
set_option maxHeartbeats 1000000 in
theorem l1add_low (na nb : Bool) (a b : Option Addr) (cap cap' : Nat) (xs ys : List Int) (w : World) (hx : Sl .u32 w (.slice a xs.length cap) xs) (hy : Sl .u32 w (.slice b ys.length cap') ys) (dx : Nm.Dg xs) (dy : Nm.Dg ys) (nx : Nm.Nz xs) (ny : Nm.Nz ys) (hl : xs.length ≤ 500000) (hl' : ys.length ≤ 500000) (x : Int) (hx0 : x = Nm.wv na xs + Nm.wv nb ys) (hc : (na == nb) = false) (hm : cmpL xs ys < 0) :
    Calls Tryz.prog 59 #[.agg #[.bool na, .slice a xs.length cap], .agg #[.bool nb, .slice b ys.length cap']] w fun e w' => ∃ a' c', e = .returned (.agg #[.bool (Nm.wn x), .slice a' (Nm.wl x).length c']) ∧ Own w' w.heap.size a' c' (Nm.wl x) ∧ Below w.heap.size w w' := by
  have HX : Hid (∀ os, Nm.val os = Nm.val ys - Nm.val xs → x = Nm.wv nb os) := hid (fun os h => by rw [hx0]; exact Nm.wv_less' hc h)
  have hge : Nm.val xs ≤ Nm.val ys := by have := (cmpL_val dx dy nx ny).1; omega
  have hln : xs.length ≤ ys.length := Nm.len_le_of_val dy dx nx hge
  have HGE := hid (And.intro hge hln)
  clear hx0 hge hln
  go_enter Tryz.func59, Tryz.ntmps59
  have Bx := ((Box.new w (.bool na) (.slice a xs.length cap) 29).alloc (.cells #[.bool nb, .slice b ys.length cap'] 29)).alloc (.cells #[.bool false, .slice none 0 0] 29)
  have By := (Box.new2 w (.cells #[.bool na, .slice a xs.length cap] 29) (.bool nb) (.slice b ys.length cap') 29).alloc (.cells #[.bool false, .slice none 0 0] 29)
  have Rz : R2 (((w.alloc (.cells #[.bool na, .slice a xs.length cap] 29)).alloc (.cells #[.bool nb, .slice b ys.length cap'] 29)).alloc (.cells #[.bool false, .slice none 0 0] 29)) (w.heap.size + 1 + 1) (.bool false) (.slice none 0 0) := by simpa using R2.new2 (w.alloc (.cells #[.bool na, .slice a xs.length cap] 29)) (.cells #[.bool nb, .slice b ys.length cap'] 29) (.bool false) (.slice none 0 0) 29
  have sx := ((hx.alloc (.cells #[.bool na, .slice a xs.length cap] 29)).alloc (.cells #[.bool nb, .slice b ys.length cap'] 29)).alloc (.cells #[.bool false, .slice none 0 0] 29)
  have sy := ((hy.alloc (.cells #[.bool na, .slice a xs.length cap] 29)).alloc (.cells #[.bool nb, .slice b ys.length cap'] 29)).alloc (.cells #[.bool false, .slice none 0 0] 29)
  have hbW : Below w.heap.size w (((w.alloc (.cells #[.bool na, .slice a xs.length cap] 29)).alloc (.cells #[.bool nb, .slice b ys.length cap'] 29)).alloc (.cells #[.bool false, .slice none 0 0] 29)) := (by repeat (first | exact Below.refl _ _ | refine Below.drew ?_ | refine bel_dn ?_ _ | refine bel_al ?_ _ | refine Below.setCell ?_ (by first | omega | (simp; done) | (simp; omega)) _ | refine Below.alloc ?_ (by first | omega | (simp; done) | (simp; omega)) _))
  go_wp2_with fail
  refine (mag_any a b cap cap' xs ys _ sx sy (by omega) (by omega)).mono ?_
  rintro e W ⟨rfl, hb1⟩
  replace Bx := Bx.below hb1
  replace By := By.below hb1
  replace Rz := Rz.below hb1
  replace sx := sx.below hb1
  replace sy := sy.below hb1
  replace hbW := bel_go hbW hb1
  have lW : w.heap.size + 1 + 1 < W.heap.size := World.block_lt_of_cell? W _ Rz.c0
  clear hb1
  go_wp2_with fail
  go_region_held3 (fun w' => w'.cell? ⟨w.heap.size + 1, 0, none⟩ = some (.bool nb) ∧ w'.cell? ⟨w.heap.size + 1, 1, none⟩ = some (.slice b ys.length cap') ∧ w'.cell? ⟨w.heap.size, 1, none⟩ = some (.slice a xs.length cap)) (first | assumption | (refine keep3_set k3.1 k3.2.1 k3.2.2 ?_ ?_ _ _ <;> omega) | exact ⟨By.1, By.2, Bx.2⟩)
    (first
      | (go_at_call 128; refine (less_any b a cap' cap ys xs _ (by exact sy.drew) (by exact sx.drew) dy dx hl' HGE.out.2 HGE.out.1).mono ?_; rintro e w2 ⟨a2, c2, os, rfl, ho2, dos, hv, hlo, hb2⟩; have k2 := keep3 (w := W.drew) By.1 By.2 Bx.2 hb2; have Rz2 := Rz.drew.below hb2)
      | (go_at_call 124; refine (made_v nb a2 c2 os _ (by exact ho2.sl) dos hlo x (HX.out os hv)).mono ?_; rintro e w3 ⟨a3, c3, rfl, ho3, hb3⟩; have k3 := keep3 k2.1 k2.2.1 k2.2.2 hb3; have Rz3 := Rz2.below hb3; obtain ⟨z0, z1, zf0, zf1⟩ := Rz3))
  have l2 : W.heap.size ≤ w2.heap.size := hb2.size
  have l3 : w2.heap.size ≤ w3.heap.size := hb3.size
  go_wp2
  refine bodyPost_ret (v := .agg #[.bool (Nm.wn x), .slice a3 (Nm.wl x).length c3]) (by simp [results, Tryz.results59, go_sem, z0, z1]) rfl ⟨a3, c3, rfl, ?_, ?_⟩
  · exact Own.base ((ho3.setBelow (by simp; omega) _).setBelow (by simp; omega) _) (by omega)
  · exact ((bel_go (bel_go (Below.drew hbW) hb2) hb3).setCell (by simp; omega) _).setCell (by simp; omega) _
set_option maxHeartbeats 1000000 in
theorem l1add_high (na nb : Bool) (a b : Option Addr) (cap cap' : Nat) (xs ys : List Int) (w : World) (hx : Sl .u32 w (.slice a xs.length cap) xs) (hy : Sl .u32 w (.slice b ys.length cap') ys) (dx : Nm.Dg xs) (dy : Nm.Dg ys) (nx : Nm.Nz xs) (ny : Nm.Nz ys) (hl : xs.length ≤ 500000) (hl' : ys.length ≤ 500000) (x : Int) (hx0 : x = Nm.wv na xs + Nm.wv nb ys) (hc : (na == nb) = false) (hm : ¬ cmpL xs ys < 0) :
    Calls Tryz.prog 59 #[.agg #[.bool na, .slice a xs.length cap], .agg #[.bool nb, .slice b ys.length cap']] w fun e w' => ∃ a' c', e = .returned (.agg #[.bool (Nm.wn x), .slice a' (Nm.wl x).length c']) ∧ Own w' w.heap.size a' c' (Nm.wl x) ∧ Below w.heap.size w w' := by
  have HX : Hid (∀ os, Nm.val os = Nm.val xs - Nm.val ys → x = Nm.wv na os) := hid (fun os h => by rw [hx0]; exact Nm.wv_less hc h)
  have hge : Nm.val ys ≤ Nm.val xs := by have := (cmpL_val dx dy nx ny).1; omega
  have hln : ys.length ≤ xs.length := Nm.len_le_of_val dx dy ny hge
  have HGE := hid (And.intro hge hln)
  clear hx0 hge hln
  go_enter Tryz.func59, Tryz.ntmps59
  have Bx := ((Box.new w (.bool na) (.slice a xs.length cap) 29).alloc (.cells #[.bool nb, .slice b ys.length cap'] 29)).alloc (.cells #[.bool false, .slice none 0 0] 29)
  have By := (Box.new2 w (.cells #[.bool na, .slice a xs.length cap] 29) (.bool nb) (.slice b ys.length cap') 29).alloc (.cells #[.bool false, .slice none 0 0] 29)
  have Rz : R2 (((w.alloc (.cells #[.bool na, .slice a xs.length cap] 29)).alloc (.cells #[.bool nb, .slice b ys.length cap'] 29)).alloc (.cells #[.bool false, .slice none 0 0] 29)) (w.heap.size + 1 + 1) (.bool false) (.slice none 0 0) := by simpa using R2.new2 (w.alloc (.cells #[.bool na, .slice a xs.length cap] 29)) (.cells #[.bool nb, .slice b ys.length cap'] 29) (.bool false) (.slice none 0 0) 29
  have sx := ((hx.alloc (.cells #[.bool na, .slice a xs.length cap] 29)).alloc (.cells #[.bool nb, .slice b ys.length cap'] 29)).alloc (.cells #[.bool false, .slice none 0 0] 29)
  have sy := ((hy.alloc (.cells #[.bool na, .slice a xs.length cap] 29)).alloc (.cells #[.bool nb, .slice b ys.length cap'] 29)).alloc (.cells #[.bool false, .slice none 0 0] 29)
  have hbW : Below w.heap.size w (((w.alloc (.cells #[.bool na, .slice a xs.length cap] 29)).alloc (.cells #[.bool nb, .slice b ys.length cap'] 29)).alloc (.cells #[.bool false, .slice none 0 0] 29)) := (by repeat (first | exact Below.refl _ _ | refine Below.drew ?_ | refine bel_dn ?_ _ | refine bel_al ?_ _ | refine Below.setCell ?_ (by first | omega | (simp; done) | (simp; omega)) _ | refine Below.alloc ?_ (by first | omega | (simp; done) | (simp; omega)) _))
  go_wp2_with fail
  refine (mag_any a b cap cap' xs ys _ sx sy (by omega) (by omega)).mono ?_
  rintro e W ⟨rfl, hb1⟩
  replace Bx := Bx.below hb1
  replace By := By.below hb1
  replace Rz := Rz.below hb1
  replace sx := sx.below hb1
  replace sy := sy.below hb1
  replace hbW := bel_go hbW hb1
  have lW : w.heap.size + 1 + 1 < W.heap.size := World.block_lt_of_cell? W _ Rz.c0
  clear hb1
  go_wp2_with fail
  go_region_held3 (fun w' => w'.cell? ⟨w.heap.size, 0, none⟩ = some (.bool na) ∧ w'.cell? ⟨w.heap.size, 1, none⟩ = some (.slice a xs.length cap) ∧ w'.cell? ⟨w.heap.size + 1, 1, none⟩ = some (.slice b ys.length cap')) (first | assumption | (refine keep3_set k3.1 k3.2.1 k3.2.2 ?_ ?_ _ _ <;> omega) | exact ⟨Bx.1, Bx.2, By.2⟩)
    (first
      | (go_at_call 128; refine (less_any a b cap cap' xs ys _ (by exact sx.drew) (by exact sy.drew) dx dy hl HGE.out.2 HGE.out.1).mono ?_; rintro e w2 ⟨a2, c2, os, rfl, ho2, dos, hv, hlo, hb2⟩; have k2 := keep3 (w := W.drew) Bx.1 Bx.2 By.2 hb2; have Rz2 := Rz.drew.below hb2)
      | (go_at_call 124; refine (made_v na a2 c2 os _ (by exact ho2.sl) dos hlo x (HX.out os hv)).mono ?_; rintro e w3 ⟨a3, c3, rfl, ho3, hb3⟩; have k3 := keep3 k2.1 k2.2.1 k2.2.2 hb3; have Rz3 := Rz2.below hb3; obtain ⟨z0, z1, zf0, zf1⟩ := Rz3))
  have l2 : W.heap.size ≤ w2.heap.size := hb2.size
  have l3 : w2.heap.size ≤ w3.heap.size := hb3.size
  go_wp2
  refine bodyPost_ret (v := .agg #[.bool (Nm.wn x), .slice a3 (Nm.wl x).length c3]) (by simp [results, Tryz.results59, go_sem, z0, z1]) rfl ⟨a3, c3, rfl, ?_, ?_⟩
  · exact Own.base ((ho3.setBelow (by simp; omega) _).setBelow (by simp; omega) _) (by omega)
  · exact ((bel_go (bel_go (Below.drew hbW) hb2) hb3).setCell (by simp; omega) _).setCell (by simp; omega) _
theorem l1add_any (na nb : Bool) (a b : Option Addr) (cap cap' : Nat) (xs ys : List Int) (w : World) (hx : Sl .u32 w (.slice a xs.length cap) xs) (hy : Sl .u32 w (.slice b ys.length cap') ys) (dx : Nm.Dg xs) (dy : Nm.Dg ys) (nx : Nm.Nz xs) (ny : Nm.Nz ys) (hl : xs.length ≤ 500000) (hl' : ys.length ≤ 500000) (x : Int) (hx0 : x = Nm.wv na xs + Nm.wv nb ys) :
    Calls Tryz.prog 59 #[.agg #[.bool na, .slice a xs.length cap], .agg #[.bool nb, .slice b ys.length cap']] w fun e w' => ∃ a' c', e = .returned (.agg #[.bool (Nm.wn x), .slice a' (Nm.wl x).length c']) ∧ Own w' w.heap.size a' c' (Nm.wl x) ∧ Below w.heap.size w w' := by
  cases hc : (na == nb)
  · by_cases hm : cmpL xs ys < 0
    · exact l1add_low na nb a b cap cap' xs ys w hx hy dx dy nx ny hl hl' x hx0 hc hm
    · exact l1add_high na nb a b cap cap' xs ys w hx hy dx dy nx ny hl hl' x hx0 hc hm
  · exact l1add_same na nb a b cap cap' xs ys w hx hy dx dy nx ny hl hl' x hx0 hc
end Go.Proofs.YtapjclcjojadaaaGreatDoor
/-
  Nothing is appended: at a step of a region that draws its order.
-/
namespace Go.Proofs.YtapjclcjojadaaaGreatDoor
set_option linter.unusedVariables false
set_option linter.unusedSimpArgs false
open Go.RowKit
theorem run_append_zero {P : Program} (w : World) (t ty e : TypeId) (i : TypeInfo) (ht : P.underlying t = some (.slice e)) (hi : P.info? e = some i) (g a : Option Addr) (cap : Nat) :
    (Builtin.append_ #[t, t] ty #[.slice g 0 0, .slice a 0 cap]).run P w = .ok (.slice g 0 0) w := by
  cases a <;> cases g <;> simp [Builtin.append_, run_underlying ht, sizeOf, typeInfo, hi, Builtin.lenOf, Builtin.firstCells, storeCells, go_sem, loadCellsFrom]
theorem step_append_zero {P : Program} {ops : Array Oper} {o : Oper} {a : Act} {w : World} {K : Act → World → Prop} {Q : Exit → Act → World → Prop} {E : Prop} (hgd : o.guard = none) (s x : Operand) (t : TypeId)
    (ho : o.op = .call { callee := .builtin .append, args := #[s, x], argTypes := #[t, t] })
    (e : TypeId) (i : TypeInfo) (ht : P.underlying t = some (.slice e)) (hi : P.info? e = some i) (g b : Option Addr) (cap : Nat) (hs : a.eval s = .slice g 0 0) (hx : a.eval x = .slice b 0 cap)
    (h : K (a.put o.dst (.slice g 0 0)) w) :
    if Region.wanted o (yielded ops a.tmps) = true then Oper.wp P o a w K Q else E := by
  have hw : Region.wanted o (yielded ops a.tmps) = true := by simp [Region.wanted, hgd]
  rw [if_pos hw]
  have hr := run_append_zero (P := P) w t o.type e i ht hi g b cap
  unfold Oper.wp execOp
  simp only [ho, resolve, invoke, builtin, Sem.run_bind, Sem.run_pure, Result.andThen_ok, List.map_toArray, List.map_cons, List.map_nil, hs, hx, hr]
  exact h
end Go.Proofs.YtapjclcjojadaaaGreatDoor
/-
  0 less a wide, by the program.
-/
namespace Go.Proofs.YtapjclcjojadaaaGreatDoor
set_option linter.unusedVariables false
set_option linter.unusedSimpArgs false
open Go.RowKit Go.Deep
/-- A right wide's limbs end in no nought. -/
theorem okB_nz {ng : Bool} {zs : List Int} (h : okB ng zs = true) : Nm.Nz zs ∧ zs.length ≤ 200 := by
  unfold okB at h
  split at h
  · rename_i h0
    have : zs = [] := List.eq_nil_of_length_eq_zero h0
    subst this; exact ⟨Nm.Nz.nil, by simp⟩
  · rename_i h0
    simp at h
    refine ⟨fun z hz => ?_, h.1⟩
    have h2 := h.2
    rw [List.getLast?_eq_getElem?] at hz
    rw [hz] at h2
    simpa using h2
theorem fit_ok {ng : Bool} {zs : List Int} (hd : Nm.Dg zs) (h : okB ng zs = true) (m : Bool) : fitL zs = zs ∧ fitN m zs = (m && !decide (zs.length = 0)) ∧ fitO zs = true := by
  obtain ⟨h1, h2⟩ := okB_nz h
  have ht := Nm.trim_eq hd h1
  unfold fitL fitN fitO
  rw [ht, if_pos h2, if_pos h2]
  exact ⟨rfl, rfl, by simpa using h2⟩
/-- 0 less a wide: its limbs and its sign. -/
def negL (ng : Bool) (zs : List Int) : List Int := if okB ng zs then Nm.wl (Nm.wv (!ng) zs) else []
def negN (ng : Bool) (zs : List Int) : Bool := if okB ng zs then Nm.wn (Nm.wv (!ng) zs) else false
theorem ok_fits {ng : Bool} {zs : List Int} (hd : Nm.Dg zs) (h : okB ng zs = true) (m : Bool) : Nm.fits (Nm.wv m zs) = true := by
  obtain ⟨h1, h2⟩ := okB_nz h
  unfold Nm.fits
  rw [Nm.wl_wv m hd, Nm.trim_eq hd h1]; simpa using h2

theorem sl_news {W : World} {b off cap : Nat} {zs : List Int} (h : Sl .u32 W (.slice (some ⟨b, off, none⟩) zs.length cap) zs) : ∀ j u, (zs.map (Value.int .u32))[j]? = some u → W.cell? ((⟨b, off, none⟩ : Addr).add j) = some u := fun j u hj => by
  have hjn : j < zs.length := by
    rcases Nat.lt_or_ge j zs.length with h | h
    · exact h
    · rw [List.getElem?_eq_none (by simpa using h)] at hj; cases hj
  obtain ⟨a, c, he, _, _, h3⟩ := h
  rcases h3 with h3 | ⟨b', off', ha, hc⟩
  · subst h3; simp at hjn
  · cases he
    cases ha
    have hju : u = .int .u32 (zs.getD j 0) := by
      rw [List.getElem?_map] at hj
      rw [List.getD_eq_getElem?_getD]
      cases hzj : zs[j]? with
      | none => rw [hzj] at hj; cases hj
      | some q => rw [hzj] at hj; simp at hj ⊢; exact hj.symm
    have e : (⟨b, off, none⟩ : Addr).add j = ⟨b, off + j, none⟩ := by unfold Addr.add; split <;> simp_all
    rw [e, hju]
    exact hc j hjn
theorem own_empty (W : World) {B : Nat} (hB : B ≤ W.heap.size) : (W.alloc (.cells #[] 147)).ownsRow B 147 1 (.slice (some ⟨W.heap.size, 0, none⟩) 0 0) 0 [] := by
  have := World.ownsRow_made (base := B) (e := 147) (size := 1) W #[] 0 (by simpa using hB) (by decide) rfl
  simpa using this
theorem emp1 (w1 : World) : (w1.alloc (.cells #[] 147)).ownsRow w1.heap.size 147 1 (.slice (some ⟨w1.heap.size, 0, none⟩) 0 0) 0 [] := own_empty w1 (Nat.le_refl _)
theorem emp2 (w1 : World) (o : Obj) : ((w1.alloc o).alloc (.cells #[] 147)).ownsRow w1.heap.size 147 1 (.slice (some ⟨w1.heap.size + 1, 0, none⟩) 0 0) 0 [] := by
  have := own_empty (w1.alloc o) (B := w1.heap.size) (by simp)
  simpa using this
theorem emp3 (w1 : World) (o : Obj) : ((w1.alloc (.cells #[] 147)).alloc o).ownsRow w1.heap.size 147 1 (.slice (some ⟨w1.heap.size, 0, none⟩) 0 0) 0 [] := (emp1 w1).alloc o
theorem grow_below {w1 W w2 : World} {row : Option Nat} (h : Below w1.heap.size w1 W) (hg : W.grownBy w2 row) (hge : ∀ k, row = some k → w1.heap.size ≤ k) : Below w1.heap.size w1 w2 := h.grown hg h.size hge
theorem keepS {w1 W : World} {B : Nat} {u v : Value} (hb : Below w1.heap.size w1 W) (hbw : B < w1.heap.size) (x10 : w1.cell? ⟨B, 0, none⟩ = some u) (x11 : w1.cell? ⟨B, 1, none⟩ = some v) : W.cell? ⟨B, 0, none⟩ = some u ∧ W.cell? ⟨B, 1, none⟩ = some v :=
  ⟨(hb.cell (p := ⟨B, 0, none⟩) hbw).trans x10, (hb.cell (p := ⟨B, 1, none⟩) hbw).trans x11⟩
theorem boxA {w1 w2 : World} {v0 v1 : Value} {t : TypeId} {o : Obj} (h : ((w1.alloc (.cells #[v0, v1] t)).alloc o).grownBy w2 (some (w1.heap.size + 1))) : R2 w2 w1.heap.size v0 v1 :=
  R2.grown ((R2.new w1 v0 v1 t).alloc o) h (by omega)
theorem boxB {w1 w2 : World} {v0 v1 : Value} {t : TypeId} {o : Obj} (h : ((w1.alloc o).alloc (.cells #[v0, v1] t)).grownBy w2 (some w1.heap.size)) : R2 w2 (w1.heap.size + 1) v0 v1 :=
  R2.grown (R2.new2 w1 o v0 v1 t) h (by omega)
attribute [local go_sem ↓] Go.wp_at_zero Go.wp_at_succ
end Go.Proofs.YtapjclcjojadaaaGreatDoor
/-
  Sums of wides: the specification's whole function.
-/
namespace Go.Proofs.YtapjclcjojadaaaGreatDoor
set_option linter.unusedVariables false
set_option linter.unusedSimpArgs false
open Go.RowKit Go.Deep
/-- What is answered where the arguments may not be right: x, or nothing. -/
def opL (ok : Bool) (x : Int) : List Int := if ok then Nm.outL x else []
def opN (ok : Bool) (x : Int) : Bool := ok && Nm.outN x
def opO (ok : Bool) (x : Int) : Bool := ok && Nm.fits x
theorem op_200 (ok : Bool) (x : Int) : (opL ok x).length ≤ 200 ∧ Nm.Dg (opL ok x) := by
  unfold opL; split
  · exact ⟨Nm.outL_length x, Nm.outL_dg x⟩
  · exact ⟨by simp, Nm.Dg.nil⟩
theorem op_no (x : Int) : opL false x = [] ∧ opN false x = false ∧ opO false x = false := ⟨rfl, rfl, rfl⟩
theorem op_yes (x : Int) : opL true x = Nm.outL x ∧ opN true x = Nm.outN x ∧ opO true x = Nm.fits x := ⟨rfl, rfl, rfl⟩
theorem val_200 {zs : List Int} (d : Nm.Dg zs) (h : zs.length ≤ 200) : 0 ≤ Nm.val zs ∧ Nm.val zs < Nm.pw 200 := by
  have h1 := Nm.val_lt d
  have h2 := Nm.pw_mono h
  have h3 := Nm.val_nonneg d
  exact ⟨h3, by omega⟩
theorem sum_short {na nb : Bool} {xs ys : List Int} {x : Int} (hx : x = Nm.wv na xs + Nm.wv nb ys) (dx : Nm.Dg xs) (dy : Nm.Dg ys) (lx : xs.length ≤ 200) (ly : ys.length ≤ 200) : (Nm.wl x).length ≤ 1048576 := by
  have h1 := val_200 dx lx
  have h2 := val_200 dy ly
  have h3 : Nm.pw 201 = 4294967296 * Nm.pw 200 := rfl
  have : (Nm.wl x).length ≤ 201 := by
    unfold Nm.wl
    rw [Nm.lim_length, hx]
    unfold Nm.wv
    cases na <;> cases nb <;> simp <;> omega
  omega
end Go.Proofs.YtapjclcjojadaaaGreatDoor
/-
  Plain mathematics, no Go: shifts as powers of 2.
-/
namespace Go.Proofs.YtapjclcjojadaaaGreatDoor
set_option linter.unusedVariables false
namespace Nm
/-- m times 2 to the n, cut. (m is not below 0.) -/
def shM (m n : Int) : Int := if n < 0 then m / (2 : Int) ^ (-n).toNat else m * (2 : Int) ^ n.toNat
/-- A wide's value shifted: towards 0. -/
def shV (ng : Bool) (m n : Int) : Int := if ng then - shM m n else shM m n
theorem pw_pow (n : Nat) : pw n = (2 : Int) ^ (32 * n) := by rw [pw_two]; simp
theorem shM_up {m n : Int} {wh r : Nat} (h0 : 0 ≤ n) (hq : n / 32 = (wh : Int)) (hm : n % 32 = (r : Int)) : pw wh * ((2 : Int) ^ r * m) = shM m n := by
  unfold shM
  rw [if_neg (by omega), pw_pow, show n.toNat = 32 * wh + r by omega, Int.pow_add, Int.mul_comm m, Int.mul_assoc]
theorem shM_down {m n : Int} {wh r : Nat} (h0 : n < 0) (hq : -n / 32 = (wh : Int)) (hm : -n % 32 = (r : Int)) : m / pw wh / (2 : Int) ^ r = shM m n := by
  unfold shM
  have hp := pw_pos wh
  rw [if_pos h0, show (-n).toNat = 32 * wh + r by omega, Int.pow_add, ← pw_pow, Int.ediv_ediv_of_nonneg (by omega)]
theorem shV_wv {ng : Bool} {m n : Int} {os : List Int} (h : val os = shM m n) : shV ng m n = wv ng os := by unfold shV wv; rw [h]
theorem shM_nonneg {m n : Int} (h : 0 ≤ m) : 0 ≤ shM m n := by
  unfold shM; split
  · exact Int.ediv_nonneg h (Int.le_of_lt (Int.pow_pos (by decide)))
  · exact Int.mul_nonneg h (Int.le_of_lt (Int.pow_pos (by decide)))
theorem shV_natAbs (ng : Bool) {m n : Int} (h : 0 ≤ m) : (shV ng m n).natAbs = (shM m n).toNat := by
  have := shM_nonneg (n := n) h
  unfold shV; cases ng <;> simp <;> omega
/-- How long what is shifted is. -/
theorem sh_len {m n : Int} {k : Nat} (ng : Bool) (h0 : 0 ≤ m) (h : m < pw k) (hn : n ≤ 10000) : (wl (shV ng m n)).length ≤ k + 313 := by
  unfold wl
  rw [lim_length, shV_natAbs ng h0]
  have hs := shM_nonneg (n := n) h0
  have h1 : shM m n < pw (k + 313) := by
    unfold shM
    have hp1 := pw_pos k
    have hp2 := pw_pos 313
    have hpa : pw (k + 313) = pw k * pw 313 := pw_add k 313
    split
    · have hd : m / (2 : Int) ^ (-n).toNat ≤ m := Int.ediv_le_self _ h0
      have : pw k ≤ pw (k + 313) := pw_mono (by omega)
      omega
    · rename_i hc
      have hle : (2 : Int) ^ n.toNat ≤ pw 313 := by
        rw [pw_pow]
        have := Nat.pow_le_pow_right (n := 2) (by decide) (show n.toNat ≤ 32 * 313 by omega)
        have h2 : ∀ k : Nat, ((2 ^ k : Nat) : Int) = (2 : Int) ^ k := fun k => by simp
        rw [← h2, ← h2]; exact Int.ofNat_le.2 this
      have hpp : (0 : Int) < (2 : Int) ^ n.toNat := Int.pow_pos (by decide)
      have e1 : m * (2 : Int) ^ n.toNat < pw k * (2 : Int) ^ n.toNat := Int.mul_lt_mul_of_pos_right h hpp
      have e2 : pw k * (2 : Int) ^ n.toNat ≤ pw k * pw 313 := Int.mul_le_mul_of_nonneg_left hle (by omega)
      omega
  omega
end Nm
end Go.Proofs.YtapjclcjojadaaaGreatDoor
