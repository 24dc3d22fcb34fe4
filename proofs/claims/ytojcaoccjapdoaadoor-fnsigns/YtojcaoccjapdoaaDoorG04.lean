/-
  Several texts in one: Cmp, WideB, NumsE, WideS.
-/
import Derived.Test.YtojcaoccjapdoaaDoorRows
import Derived.Test.YtojcaoccjapdoaaDoorG00
import Derived.WalkKit
import Derived.WalkSpells
import Derived.WalkLawsBesides
import Derived.Deep.RegionHeld3
import Derived.Test.YtojcaoccjapdoaaDoorG02
import Derived.Test.YtojcaoccjapdoaaDoorG03
/-
  The library's cmp.Compare at integers.
-/
namespace Go.Proofs.YtojcaoccjapdoaaDoor
set_option linter.unusedVariables false
set_option linter.unusedSimpArgs false
open Go.RowKit
/-- Less, the same, greater. -/
def cmpI (x y : Int) : Int := if x < y then -1 else if y < x then 1 else 0
set_option maxHeartbeats 1000000 in
theorem compare_int64 (x y : Int) (w : World) :
    Calls Tryd.prog 73 #[.int .i64 x, .int .i64 y] w fun e w' => e = .returned (.int .i64 (cmpI x y)) ∧ Below w.heap.size w w' := by
  have ex : (x != x) = false := by simp
  have ey : (y != y) = false := by simp
  by_cases h1 : x < y
  · have HR : Hid (cmpI x y = -1) := hid (by unfold cmpI; rw [if_pos h1])
    go_enter Tryd.func73, Tryd.ntmps73
    go_wp2
    go_ret
    exact ⟨ret_int HR.out.symm, (by repeat (first | exact Below.refl _ _ | refine Below.drew ?_ | refine bel_dn ?_ _ | refine bel_al ?_ _ | refine Below.setCell ?_ (by first | omega | (simp; done) | (simp; omega)) _ | refine Below.alloc ?_ (by first | omega | (simp; done) | (simp; omega)) _))⟩
  by_cases h2 : y < x
  · have HR : Hid (cmpI x y = 1) := hid (by unfold cmpI; rw [if_neg h1, if_pos h2])
    go_enter Tryd.func73, Tryd.ntmps73
    go_wp2
    go_ret
    exact ⟨ret_int HR.out.symm, (by repeat (first | exact Below.refl _ _ | refine Below.drew ?_ | refine bel_dn ?_ _ | refine bel_al ?_ _ | refine Below.setCell ?_ (by first | omega | (simp; done) | (simp; omega)) _ | refine Below.alloc ?_ (by first | omega | (simp; done) | (simp; omega)) _))⟩
  · have HR : Hid (cmpI x y = 0) := hid (by unfold cmpI; rw [if_neg h1, if_neg h2])
    go_enter Tryd.func73, Tryd.ntmps73
    go_wp2
    go_ret
    exact ⟨ret_int HR.out.symm, (by repeat (first | exact Below.refl _ _ | refine Below.drew ?_ | refine bel_dn ?_ _ | refine bel_al ?_ _ | refine Below.setCell ?_ (by first | omega | (simp; done) | (simp; omega)) _ | refine Below.alloc ?_ (by first | omega | (simp; done) | (simp; omega)) _))⟩
set_option maxHeartbeats 1000000 in
theorem compare_int (x y : Int) (w : World) :
    Calls Tryd.prog 111 #[.int .i64 x, .int .i64 y] w fun e w' => e = .returned (.int .i64 (cmpI x y)) ∧ Below w.heap.size w w' := by
  have ex : (x != x) = false := by simp
  have ey : (y != y) = false := by simp
  by_cases h1 : x < y
  · have HR : Hid (cmpI x y = -1) := hid (by unfold cmpI; rw [if_pos h1])
    go_enter Tryd.func111, Tryd.ntmps111
    go_wp2
    go_ret
    exact ⟨ret_int HR.out.symm, (by repeat (first | exact Below.refl _ _ | refine Below.drew ?_ | refine bel_dn ?_ _ | refine bel_al ?_ _ | refine Below.setCell ?_ (by first | omega | (simp; done) | (simp; omega)) _ | refine Below.alloc ?_ (by first | omega | (simp; done) | (simp; omega)) _))⟩
  by_cases h2 : y < x
  · have HR : Hid (cmpI x y = 1) := hid (by unfold cmpI; rw [if_neg h1, if_pos h2])
    go_enter Tryd.func111, Tryd.ntmps111
    go_wp2
    go_ret
    exact ⟨ret_int HR.out.symm, (by repeat (first | exact Below.refl _ _ | refine Below.drew ?_ | refine bel_dn ?_ _ | refine bel_al ?_ _ | refine Below.setCell ?_ (by first | omega | (simp; done) | (simp; omega)) _ | refine Below.alloc ?_ (by first | omega | (simp; done) | (simp; omega)) _))⟩
  · have HR : Hid (cmpI x y = 0) := hid (by unfold cmpI; rw [if_neg h1, if_neg h2])
    go_enter Tryd.func111, Tryd.ntmps111
    go_wp2
    go_ret
    exact ⟨ret_int HR.out.symm, (by repeat (first | exact Below.refl _ _ | refine Below.drew ?_ | refine bel_dn ?_ _ | refine bel_al ?_ _ | refine Below.setCell ?_ (by first | omega | (simp; done) | (simp; omega)) _ | refine Below.alloc ?_ (by first | omega | (simp; done) | (simp; omega)) _))⟩
set_option maxHeartbeats 1000000 in
theorem compare_uint32 (x y : Int) (w : World) :
    Calls Tryd.prog 112 #[.int .u32 x, .int .u32 y] w fun e w' => e = .returned (.int .i64 (cmpI x y)) ∧ Below w.heap.size w w' := by
  have ex : (x != x) = false := by simp
  have ey : (y != y) = false := by simp
  by_cases h1 : x < y
  · have HR : Hid (cmpI x y = -1) := hid (by unfold cmpI; rw [if_pos h1])
    go_enter Tryd.func112, Tryd.ntmps112
    go_wp2
    go_ret
    exact ⟨ret_int HR.out.symm, (by repeat (first | exact Below.refl _ _ | refine Below.drew ?_ | refine bel_dn ?_ _ | refine bel_al ?_ _ | refine Below.setCell ?_ (by first | omega | (simp; done) | (simp; omega)) _ | refine Below.alloc ?_ (by first | omega | (simp; done) | (simp; omega)) _))⟩
  by_cases h2 : y < x
  · have HR : Hid (cmpI x y = 1) := hid (by unfold cmpI; rw [if_neg h1, if_pos h2])
    go_enter Tryd.func112, Tryd.ntmps112
    go_wp2
    go_ret
    exact ⟨ret_int HR.out.symm, (by repeat (first | exact Below.refl _ _ | refine Below.drew ?_ | refine bel_dn ?_ _ | refine bel_al ?_ _ | refine Below.setCell ?_ (by first | omega | (simp; done) | (simp; omega)) _ | refine Below.alloc ?_ (by first | omega | (simp; done) | (simp; omega)) _))⟩
  · have HR : Hid (cmpI x y = 0) := hid (by unfold cmpI; rw [if_neg h1, if_neg h2])
    go_enter Tryd.func112, Tryd.ntmps112
    go_wp2
    go_ret
    exact ⟨ret_int HR.out.symm, (by repeat (first | exact Below.refl _ _ | refine Below.drew ?_ | refine bel_dn ?_ _ | refine bel_al ?_ _ | refine Below.setCell ?_ (by first | omega | (simp; done) | (simp; omega)) _ | refine Below.alloc ?_ (by first | omega | (simp; done) | (simp; omega)) _))⟩
theorem cmpI_rng (x y : Int) : -1 ≤ cmpI x y ∧ cmpI x y ≤ 1 := by unfold cmpI; repeat' split <;> omega

end Go.Proofs.YtojcaoccjapdoaaDoor
/-
  Limbs compared, by the program and by the specification.
-/
namespace Go.Proofs.YtojcaoccjapdoaaDoor
set_option linter.unusedVariables false
set_option linter.unusedSimpArgs false
open Go.RowKit Go.Deep

theorem two_below {w w' : World} {p q : Addr} {u v : Value} (h : w.cell? p = some u) (k : w.cell? q = some v) (hb : Below w.heap.size w w') : w'.cell? p = some u ∧ w'.cell? q = some v :=
  ⟨(hb.cell (World.block_lt_of_cell? w _ h)).trans h, (hb.cell (World.block_lt_of_cell? w _ k)).trans k⟩
/-- -1, 0 or 1, as limbs are less, the same, or greater (the longer is the greater; else from the top down). -/
def cmpFrom (xs ys : List Int) : Nat → Int
  | 0 => 0
  | n + 1 => if xs.getD n 0 < ys.getD n 0 then -1 else if ys.getD n 0 < xs.getD n 0 then 1 else cmpFrom xs ys n
def cmpL (xs ys : List Int) : Int := if xs.length < ys.length then -1 else if ys.length < xs.length then 1 else cmpFrom xs ys xs.length
theorem cmpFrom_rng (xs ys : List Int) (n : Nat) : -1 ≤ cmpFrom xs ys n ∧ cmpFrom xs ys n ≤ 1 := by
  induction n with
  | zero => simp [cmpFrom]
  | succ n ih =>
    unfold cmpFrom
    split
    · omega
    · split <;> omega
theorem cmpL_lt {xs ys : List Int} (h : xs.length < ys.length) : cmpL xs ys = -1 := by unfold cmpL; rw [if_pos h]
theorem cmpL_gt {xs ys : List Int} (h : ys.length < xs.length) : cmpL xs ys = 1 := by unfold cmpL; rw [if_neg (by omega), if_pos h]
theorem cmpL_eq {xs ys : List Int} (h : xs.length = ys.length) : cmpL xs ys = cmpFrom xs ys xs.length := by unfold cmpL; rw [if_neg (by omega), if_neg (by omega)]

set_option maxHeartbeats 1000000 in
theorem mag_any (a a' : Option Addr) (cap cap' : Nat) (xs ys : List Int) (w : World) (hx : Sl .u32 w (.slice a xs.length cap) xs) (hy : Sl .u32 w (.slice a' ys.length cap') ys) (hl : xs.length ≤ 140737488355328) (hl' : ys.length ≤ 140737488355328) :
    Calls Tryd.prog 142 #[.slice a xs.length cap, .slice a' ys.length cap'] w fun e w' => e = .returned (.int .i64 (cmpL xs ys)) ∧ Below w.heap.size w w' := by
  obtain ⟨-, hx1, hx2, hx3⟩ := hx.cells
  obtain ⟨-, hy1, hy2, hy3⟩ := hy.cells
  by_cases hn : xs.length = ys.length
  · have hne : ((xs.length : Int) != (ys.length : Int)) = false := by simp [hn]
    have HN : Hid (cmpL xs ys = cmpFrom xs ys xs.length) := hid (cmpL_eq hn)
    have hn1 : xs.length ≤ ys.length := by omega
    have hn2 : ys.length ≤ xs.length := by omega
    clear hn
    go_enter Tryd.func142, Tryd.ntmps142
    go_wp2_with fail
    go_loopw [5] (fun i wr => ∃ n : Nat, n ≤ xs.length ∧ i = .int .i64 ((n : Int) - 1) ∧ cmpFrom xs ys xs.length = cmpFrom xs ys n ∧ Below w.heap.size w wr) (fun i _ => (intOf i + 1).toNat)
    case atStart => exact ⟨xs.length, Nat.le_refl _, rfl, rfl, Below.refl _ _⟩
    case round =>
      obtain ⟨n, hk, rfl, hpre, hb⟩ := hrel
      have PRE := hid hpre
      clear hpre
      by_cases h0 : n = 0
      · subst h0
        have HR : Hid (cmpL xs ys = 0) := hid (by rw [HN.out, PRE.out]; rfl)
        clear hx3 hy3
        go_wp2
        go_ret
        exact ⟨ret_int HR.out.symm, hb⟩
      · obtain ⟨m, rfl⟩ : ∃ m, n = m + 1 := ⟨n - 1, by omega⟩
        have em : (((m + 1 : Nat) : Int) - 1) = (m : Int) := by omega
        rw [em]
        clear em h0
        obtain ⟨b, off, rfl, hcx⟩ := hx3 (by omega)
        obtain ⟨b', off', rfl, hcy⟩ := hy3 (by omega)
        have h1 := hcx m (by omega)
        have h2 := hcy m (by omega)
        have h1 : wr.cell? ⟨b, off + m, none⟩ = some (.int .u32 (xs.getD m 0)) := (hb.cell (p := ⟨b, off + m, none⟩) (World.block_lt_of_cell? w _ h1)).trans h1
        have h2 : wr.cell? ⟨b', off' + m, none⟩ = some (.int .u32 (ys.getD m 0)) := (hb.cell (p := ⟨b', off' + m, none⟩) (World.block_lt_of_cell? w _ h2)).trans h2
        clear hx3 hy3 hcx hcy
        obtain ⟨x, hxk⟩ : ∃ x, x = xs.getD m 0 := ⟨_, rfl⟩
        obtain ⟨y, hyk⟩ : ∃ y, y = ys.getD m 0 := ⟨_, rfl⟩
        have ST : Hid (cmpFrom xs ys xs.length = if x < y then -1 else if y < x then 1 else cmpFrom xs ys m) := hid (by rw [PRE.out, hxk, hyk]; rfl)
        rw [← hxk] at h1; rw [← hyk] at h2
        clear hxk hyk
        by_cases hlt : x < y
        · have HR : Hid (cmpL xs ys = -1) := hid (by rw [HN.out, ST.out, if_pos hlt])
          go_wp2
          go_region
          all_goals go_wp2
          all_goals go_ret
          all_goals exact ⟨ret_int HR.out.symm, (by repeat (first | exact Below.refl _ _ | refine Below.drew ?_ | refine bel_dn ?_ _ | refine bel_al ?_ _ | refine bel_go ?_ hb | refine Below.setCell ?_ (by first | omega | (simp; done) | (simp; omega)) _ | refine Below.alloc ?_ (by first | omega | (simp; done) | (simp; omega)) _ | refine Below.trans ?_ (Below.mono hb (by first | omega | (simp; done) | (simp; omega)))))⟩
        by_cases hgt : y < x
        · have HR : Hid (cmpL xs ys = 1) := hid (by rw [HN.out, ST.out, if_neg hlt, if_pos hgt])
          go_wp2
          go_region
          all_goals go_wp2
          all_goals go_region
          all_goals go_wp2
          all_goals go_ret
          all_goals exact ⟨ret_int HR.out.symm, (by repeat (first | exact Below.refl _ _ | refine Below.drew ?_ | refine bel_dn ?_ _ | refine bel_al ?_ _ | refine bel_go ?_ hb | refine Below.setCell ?_ (by first | omega | (simp; done) | (simp; omega)) _ | refine Below.alloc ?_ (by first | omega | (simp; done) | (simp; omega)) _ | refine Below.trans ?_ (Below.mono hb (by first | omega | (simp; done) | (simp; omega)))))⟩
        · have HR : Hid (cmpFrom xs ys xs.length = cmpFrom xs ys m) := hid (by rw [ST.out, if_neg hlt, if_neg hgt])
          go_wp2
          go_region
          all_goals go_wp2
          all_goals go_region
          all_goals go_wp2
          all_goals go_roundw
          case rel => exact ⟨m, by omega, rfl, HR.out, (by repeat (first | exact Below.refl _ _ | refine Below.drew ?_ | refine bel_dn ?_ _ | refine bel_al ?_ _ | refine bel_go ?_ hb | refine Below.setCell ?_ (by first | omega | (simp; done) | (simp; omega)) _ | refine Below.alloc ?_ (by first | omega | (simp; done) | (simp; omega)) _ | refine Below.trans ?_ (Below.mono hb (by first | omega | (simp; done) | (simp; omega)))))⟩
          case measure => simp [intOf]
  · have hne : ((xs.length : Int) != (ys.length : Int)) = true := by simp; omega
    clear hx3 hy3
    by_cases hlt : xs.length < ys.length
    · have HR := hid (cmpL_lt hlt)
      go_enter Tryd.func142, Tryd.ntmps142
      go_wp2
      go_ret
      exact ⟨ret_int HR.out.symm, Below.refl _ _⟩
    · have hgt : ys.length < xs.length := by omega
      have HR := hid (cmpL_gt hgt)
      go_enter Tryd.func142, Tryd.ntmps142
      go_wp2
      go_ret
      exact ⟨ret_int HR.out.symm, Below.refl _ _⟩

set_option maxHeartbeats 1000000 in
theorem cmpLimbs_any (a a' : Option Addr) (cap cap' : Nat) (xs ys : List Int) (w : World) (hx : Sl .u32 w (.slice a xs.length cap) xs) (hy : Sl .u32 w (.slice a' ys.length cap') ys) (hl : xs.length ≤ 140737488355328) (hl' : ys.length ≤ 140737488355328) :
    Calls Tryd.prog 80 #[.slice a xs.length cap, .slice a' ys.length cap'] w fun e w' => e = .returned (.int .i64 (cmpL xs ys)) ∧ Below w.heap.size w w' := by
  obtain ⟨-, hx1, hx2, hx3⟩ := hx.cells
  obtain ⟨-, hy1, hy2, hy3⟩ := hy.cells
  by_cases hn : xs.length = ys.length
  · have hne : ((xs.length : Int) != (ys.length : Int)) = false := by simp [hn]
    have HN : Hid (cmpL xs ys = cmpFrom xs ys xs.length) := hid (cmpL_eq hn)
    have hn1 : xs.length ≤ ys.length := by omega
    have hn2 : ys.length ≤ xs.length := by omega
    clear hn
    go_enter Tryd.func80, Tryd.ntmps80
    go_wp2_with fail
    go_loopw [5] (fun i wr => ∃ n : Nat, n ≤ xs.length ∧ i = .int .i64 ((n : Int) - 1) ∧ cmpFrom xs ys xs.length = cmpFrom xs ys n ∧ Below w.heap.size w wr) (fun i _ => (intOf i + 1).toNat)
    case atStart => exact ⟨xs.length, Nat.le_refl _, rfl, rfl, Below.refl _ _⟩
    case round =>
      obtain ⟨n, hk, rfl, hpre, hb⟩ := hrel
      have PRE := hid hpre
      clear hpre
      by_cases h0 : n = 0
      · subst h0
        have HR : Hid (cmpL xs ys = 0) := hid (by rw [HN.out, PRE.out]; rfl)
        clear hx3 hy3
        go_wp2
        go_ret
        exact ⟨ret_int HR.out.symm, hb⟩
      · obtain ⟨m, rfl⟩ : ∃ m, n = m + 1 := ⟨n - 1, by omega⟩
        have em : (((m + 1 : Nat) : Int) - 1) = (m : Int) := by omega
        rw [em]
        clear em h0
        obtain ⟨b, off, rfl, hcx⟩ := hx3 (by omega)
        obtain ⟨b', off', rfl, hcy⟩ := hy3 (by omega)
        have h1 := hcx m (by omega)
        have h2 := hcy m (by omega)
        have h1 : wr.cell? ⟨b, off + m, none⟩ = some (.int .u32 (xs.getD m 0)) := (hb.cell (p := ⟨b, off + m, none⟩) (World.block_lt_of_cell? w _ h1)).trans h1
        have h2 : wr.cell? ⟨b', off' + m, none⟩ = some (.int .u32 (ys.getD m 0)) := (hb.cell (p := ⟨b', off' + m, none⟩) (World.block_lt_of_cell? w _ h2)).trans h2
        clear hx3 hy3 hcx hcy
        obtain ⟨x, hxk⟩ : ∃ x, x = xs.getD m 0 := ⟨_, rfl⟩
        obtain ⟨y, hyk⟩ : ∃ y, y = ys.getD m 0 := ⟨_, rfl⟩
        have ST : Hid (cmpFrom xs ys xs.length = if x < y then -1 else if y < x then 1 else cmpFrom xs ys m) := hid (by rw [PRE.out, hxk, hyk]; rfl)
        rw [← hxk] at h1; rw [← hyk] at h2
        clear hxk hyk
        have ⟨r0, r1⟩ := cmpI_rng x y
        have i0 : (0 : Int) ≤ (m : Int) := by omega
        have i1 : (m : Int) < (xs.length : Int) := by omega
        have i2 : (m : Int) < (ys.length : Int) := by omega
        by_cases hxy : x = y
        · have hbe : (x != y) = false := by simp [hxy]
          have HR : Hid (cmpFrom xs ys xs.length = cmpFrom xs ys m) := hid (by rw [ST.out, if_neg (by omega), if_neg (by omega)])
          clear hxy
          go_wp2
          go_region
          all_goals go_wp2
          all_goals go_roundw
          case rel => exact ⟨m, by omega, rfl, HR.out, (by repeat (first | exact Below.refl _ _ | refine Below.drew ?_ | refine bel_dn ?_ _ | refine bel_al ?_ _ | refine bel_go ?_ hb | refine Below.setCell ?_ (by first | omega | (simp; done) | (simp; omega)) _ | refine Below.alloc ?_ (by first | omega | (simp; done) | (simp; omega)) _ | refine Below.trans ?_ (Below.mono hb (by first | omega | (simp; done) | (simp; omega)))))⟩
          case measure => simp [intOf]
        · have hbe : (x != y) = true := by simp [hxy]
          have HR : Hid (cmpL xs ys = cmpI x y) := hid (by
            rw [HN.out, ST.out]; unfold cmpI
            split
            · rfl
            · split
              · rfl
              · omega)
          clear hxy
          go_wp2
          go_region
          all_goals go_wp2
          go_region_held3 (fun w' => w'.cell? ⟨b, off + m, none⟩ = some (.int .u32 x) ∧ w'.cell? ⟨b', off' + m, none⟩ = some (.int .u32 y)) (first | assumption | exact ⟨h1, h2⟩)
            ((go_at_call 112; refine (compare_uint32 x y _).mono ?_; rintro e w1 ⟨rfl, hb1⟩; have s1 := two_below (w := wr.drew.drew) h1 h2 hb1))
          go_wp2
          go_ret
          exact ⟨ret_int HR.out.symm, (by repeat (first | exact Below.refl _ _ | refine Below.drew ?_ | refine bel_dn ?_ _ | refine bel_al ?_ _ | refine bel_go ?_ hb1 | refine bel_go ?_ hb | refine Below.setCell ?_ (by first | omega | (simp; done) | (simp; omega)) _ | refine Below.alloc ?_ (by first | omega | (simp; done) | (simp; omega)) _ | refine Below.trans ?_ (Below.mono hb1 (by first | omega | (simp; done) | (simp; omega))) | refine Below.trans ?_ (Below.mono hb (by first | omega | (simp; done) | (simp; omega)))))⟩
  · have hne : ((xs.length : Int) != (ys.length : Int)) = true := by simp; omega
    have HR : Hid (cmpL xs ys = cmpI xs.length ys.length) := hid (by unfold cmpL cmpI; split <;> split <;> (try split) <;> omega)
    have ⟨r0, r1⟩ := cmpI_rng xs.length ys.length
    clear hx3 hy3
    go_enter Tryd.func80, Tryd.ntmps80
    go_wp2_with fail
    refine (compare_int _ _ _).mono ?_
    rintro e w1 ⟨rfl, hb1⟩
    go_wp2
    go_ret
    exact ⟨ret_int HR.out.symm, (by repeat (first | exact Below.refl _ _ | refine Below.drew ?_ | refine bel_dn ?_ _ | refine bel_al ?_ _ | refine bel_go ?_ hb1 | refine Below.setCell ?_ (by first | omega | (simp; done) | (simp; omega)) _ | refine Below.alloc ?_ (by first | omega | (simp; done) | (simp; omega)) _ | refine Below.trans ?_ (Below.mono hb1 (by first | omega | (simp; done) | (simp; omega)))))⟩
end Go.Proofs.YtojcaoccjapdoaaDoor
/-
  Plain mathematics, no Go: limbs compared from the top down are numbers compared; sums of wides.
-/
namespace Go.Proofs.YtojcaoccjapdoaaDoor
set_option linter.unusedVariables false
namespace Nm
/-- Compared from the top down. -/
def cmpF (xs ys : List Int) : Nat → Int
  | 0 => 0
  | n + 1 => if xs.getD n 0 < ys.getD n 0 then -1 else if ys.getD n 0 < xs.getD n 0 then 1 else cmpF xs ys n
def cmpB (xs ys : List Int) : Int := if xs.length < ys.length then -1 else if ys.length < xs.length then 1 else cmpF xs ys xs.length
theorem val_take_lt {xs : List Int} (d : Dg xs) (n : Nat) : 0 ≤ val (xs.take n) ∧ val (xs.take n) < pw n := by
  refine ⟨val_nonneg (d.take n), ?_⟩
  have h1 := val_lt (d.take n)
  have h2 := pw_mono (show (xs.take n).length ≤ n by simp; omega)
  omega
theorem mul_step {p u v : Int} (hp : 1 ≤ p) (h : u < v) : p * u + p ≤ p * v := by
  have : p * (u + 1) ≤ p * v := Int.mul_le_mul_of_nonneg_left (by omega) (by omega)
  rw [Int.mul_add] at this; omega
theorem cmpF_val {xs ys : List Int} (dx : Dg xs) (dy : Dg ys) (n : Nat) : (cmpF xs ys n < 0 ↔ val (xs.take n) < val (ys.take n)) ∧ (0 < cmpF xs ys n ↔ val (ys.take n) < val (xs.take n)) := by
  induction n with
  | zero => simp [cmpF]
  | succ n ih =>
    rw [val_take_succ, val_take_succ]
    have h1 := val_take_lt dx n
    have h2 := val_take_lt dy n
    have hp := pw_pos n
    simp only [cmpF]
    by_cases c1 : xs.getD n 0 < ys.getD n 0
    · have := mul_step hp c1
      rw [if_pos c1]; constructor <;> constructor <;> intro _ <;> omega
    · rw [if_neg c1]
      by_cases c2 : ys.getD n 0 < xs.getD n 0
      · have := mul_step hp c2
        rw [if_pos c2]; constructor <;> constructor <;> intro _ <;> omega
      · rw [if_neg c2, show xs.getD n 0 = ys.getD n 0 by omega]
        constructor
        · rw [ih.1]; omega
        · rw [ih.2]; omega
theorem val_len_lt {xs ys : List Int} (dx : Dg xs) (dy : Dg ys) (ny : Nz ys) (h : xs.length < ys.length) : val xs < val ys := by
  have h1 := val_lt dx
  have h2 : ¬ val ys < pw xs.length := fun h' => by have := (length_le_iff dy ny xs.length).2 h'; omega
  omega
theorem cmpB_val {xs ys : List Int} (dx : Dg xs) (dy : Dg ys) (nx : Nz xs) (ny : Nz ys) : (cmpB xs ys < 0 ↔ val xs < val ys) ∧ (0 < cmpB xs ys ↔ val ys < val xs) := by
  unfold cmpB
  by_cases c1 : xs.length < ys.length
  · have := val_len_lt dx dy ny c1
    rw [if_pos c1]; constructor <;> constructor <;> intro _ <;> omega
  · rw [if_neg c1]
    by_cases c2 : ys.length < xs.length
    · have := val_len_lt dy dx nx c2
      rw [if_pos c2]; constructor <;> constructor <;> intro _ <;> omega
    · rw [if_neg c2]
      have h := cmpF_val dx dy xs.length
      rwa [List.take_of_length_le (Nat.le_refl _), List.take_of_length_le (l := ys) (by omega)] at h
theorem len_le_of_val {xs ys : List Int} (dx : Dg xs) (dy : Dg ys) (ny : Nz ys) (h : val ys ≤ val xs) : ys.length ≤ xs.length := by
  have := val_lt dx
  exact (length_le_iff dy ny xs.length).2 (by omega)
/-- The sum of two wides, with one sign or with two. -/
theorem wv_same {n : Bool} {xs ys os : List Int} (h : val os = val xs + val ys) : wv n xs + wv n ys = wv n os := by
  unfold wv; cases n <;> simp <;> omega
theorem wv_less {n m : Bool} {xs ys os : List Int} (hn : (n == m) = false) (h : val os = val xs - val ys) : wv n xs + wv m ys = wv n os := by
  unfold wv; cases n <;> cases m <;> simp at hn ⊢ <;> omega
theorem wv_less' {n m : Bool} {xs ys os : List Int} (hn : (n == m) = false) (h : val os = val ys - val xs) : wv n xs + wv m ys = wv m os := by
  unfold wv; cases n <;> cases m <;> simp at hn ⊢ <;> omega
theorem wv_mul {n m : Bool} {xs ys os : List Int} (h : val os = val xs * val ys) : wv n xs * wv m ys = wv (n != m) os := by
  unfold wv; cases n <;> cases m <;> simp [h, Int.neg_mul, Int.mul_neg]
end Nm
end Go.Proofs.YtojcaoccjapdoaaDoor
/-
  Sums of wides, by the specification.
-/
namespace Go.Proofs.YtojcaoccjapdoaaDoor
set_option linter.unusedVariables false
set_option linter.unusedSimpArgs false
open Go.RowKit Go.Deep
theorem cmpFrom_F (xs ys : List Int) (n : Nat) : cmpFrom xs ys n = Nm.cmpF xs ys n := by
  induction n with
  | zero => rfl
  | succ n ih => simp only [cmpFrom, Nm.cmpF, ih]
theorem cmpL_val {xs ys : List Int} (dx : Nm.Dg xs) (dy : Nm.Dg ys) (nx : Nm.Nz xs) (ny : Nm.Nz ys) : (cmpL xs ys < 0 ↔ Nm.val xs < Nm.val ys) ∧ (0 < cmpL xs ys ↔ Nm.val ys < Nm.val xs) := by
  have e : cmpL xs ys = Nm.cmpB xs ys := by unfold cmpL Nm.cmpB; rw [cmpFrom_F]
  rw [e]; exact Nm.cmpB_val dx dy nx ny
theorem keep3 {w w' : World} {b b' : Nat} {v0 v1 u1 : Value} (h0 : w.cell? ⟨b, 0, none⟩ = some v0) (h1 : w.cell? ⟨b, 1, none⟩ = some v1) (k1 : w.cell? ⟨b', 1, none⟩ = some u1) (hb : Below w.heap.size w w') :
    w'.cell? ⟨b, 0, none⟩ = some v0 ∧ w'.cell? ⟨b, 1, none⟩ = some v1 ∧ w'.cell? ⟨b', 1, none⟩ = some u1 :=
  ⟨(hb.cell (World.block_lt_of_cell? w _ h0)).trans h0, (hb.cell (World.block_lt_of_cell? w _ h1)).trans h1, (hb.cell (World.block_lt_of_cell? w _ k1)).trans k1⟩
theorem keep3_set {w : World} {b b' z : Nat} {v0 v1 u1 : Value} (h0 : w.cell? ⟨b, 0, none⟩ = some v0) (h1 : w.cell? ⟨b, 1, none⟩ = some v1) (k1 : w.cell? ⟨b', 1, none⟩ = some u1) (n1 : b ≠ z) (n2 : b' ≠ z) (p q : Value) :
    ((w.setCell ⟨z, 0, none⟩ p).setCell ⟨z, 1, none⟩ q).cell? ⟨b, 0, none⟩ = some v0 ∧ ((w.setCell ⟨z, 0, none⟩ p).setCell ⟨z, 1, none⟩ q).cell? ⟨b, 1, none⟩ = some v1 ∧ ((w.setCell ⟨z, 0, none⟩ p).setCell ⟨z, 1, none⟩ q).cell? ⟨b', 1, none⟩ = some u1 := by
  have e1 := Below.heap_setCell w ⟨z, 0, none⟩ p b n1
  have e2 := Below.heap_setCell (w.setCell ⟨z, 0, none⟩ p) ⟨z, 1, none⟩ q b n1
  have f1 := Below.heap_setCell w ⟨z, 0, none⟩ p b' n2
  have f2 := Below.heap_setCell (w.setCell ⟨z, 0, none⟩ p) ⟨z, 1, none⟩ q b' n2
  exact ⟨(World.cell?_of_block (a := ⟨b, 0, none⟩) (e2.trans e1)).trans h0, (World.cell?_of_block (a := ⟨b, 1, none⟩) (e2.trans e1)).trans h1, (World.cell?_of_block (a := ⟨b', 1, none⟩) (f2.trans f1)).trans k1⟩
set_option maxHeartbeats 1000000 in
theorem l1add_same (na nb : Bool) (a b : Option Addr) (cap cap' : Nat) (xs ys : List Int) (w : World) (hx : Sl .u32 w (.slice a xs.length cap) xs) (hy : Sl .u32 w (.slice b ys.length cap') ys) (dx : Nm.Dg xs) (dy : Nm.Dg ys) (nx : Nm.Nz xs) (ny : Nm.Nz ys) (hl : xs.length ≤ 500000) (hl' : ys.length ≤ 500000) (x : Int) (hx0 : x = Nm.wv na xs + Nm.wv nb ys) (hc : (na == nb) = true) :
    Calls Tryd.prog 124 #[.agg #[.bool na, .slice a xs.length cap], .agg #[.bool nb, .slice b ys.length cap']] w fun e w' => ∃ a' c', e = .returned (.agg #[.bool (Nm.wn x), .slice a' (Nm.wl x).length c']) ∧ Own w' w.heap.size a' c' (Nm.wl x) ∧ Below w.heap.size w w' := by
  have HX : Hid (∀ os, Nm.val os = Nm.val xs + Nm.val ys → x = Nm.wv na os) := hid (fun os h => by
    have hc' : na = nb := by simpa using hc
    rw [hx0, ← hc']; exact Nm.wv_same h)
  clear hx0
  go_enter Tryd.func124, Tryd.ntmps124
  have Bx := ((Box.new w (.bool na) (.slice a xs.length cap) 31).alloc (.cells #[.bool nb, .slice b ys.length cap'] 31)).alloc (.cells #[.bool false, .slice none 0 0] 31)
  have By := (Box.new2 w (.cells #[.bool na, .slice a xs.length cap] 31) (.bool nb) (.slice b ys.length cap') 31).alloc (.cells #[.bool false, .slice none 0 0] 31)
  have Rz : R2 (((w.alloc (.cells #[.bool na, .slice a xs.length cap] 31)).alloc (.cells #[.bool nb, .slice b ys.length cap'] 31)).alloc (.cells #[.bool false, .slice none 0 0] 31)) (w.heap.size + 1 + 1) (.bool false) (.slice none 0 0) := by simpa using R2.new2 (w.alloc (.cells #[.bool na, .slice a xs.length cap] 31)) (.cells #[.bool nb, .slice b ys.length cap'] 31) (.bool false) (.slice none 0 0) 31
  have sx := ((hx.alloc (.cells #[.bool na, .slice a xs.length cap] 31)).alloc (.cells #[.bool nb, .slice b ys.length cap'] 31)).alloc (.cells #[.bool false, .slice none 0 0] 31)
  have sy := ((hy.alloc (.cells #[.bool na, .slice a xs.length cap] 31)).alloc (.cells #[.bool nb, .slice b ys.length cap'] 31)).alloc (.cells #[.bool false, .slice none 0 0] 31)
  have hbW : Below w.heap.size w (((w.alloc (.cells #[.bool na, .slice a xs.length cap] 31)).alloc (.cells #[.bool nb, .slice b ys.length cap'] 31)).alloc (.cells #[.bool false, .slice none 0 0] 31)) := (by repeat (first | exact Below.refl _ _ | refine Below.drew ?_ | refine bel_dn ?_ _ | refine bel_al ?_ _ | refine Below.setCell ?_ (by first | omega | (simp; done) | (simp; omega)) _ | refine Below.alloc ?_ (by first | omega | (simp; done) | (simp; omega)) _))
  go_wp2_with fail
  generalize ((w.alloc (.cells #[.bool na, .slice a xs.length cap] 31)).alloc (.cells #[.bool nb, .slice b ys.length cap'] 31)).alloc (.cells #[.bool false, .slice none 0 0] 31) = W at Bx By Rz sx sy hbW ⊢
  have lW : w.heap.size + 1 + 1 < W.heap.size := World.block_lt_of_cell? W _ Rz.c0
  go_region_held3 (fun w' => w'.cell? ⟨w.heap.size, 0, none⟩ = some (.bool na) ∧ w'.cell? ⟨w.heap.size, 1, none⟩ = some (.slice a xs.length cap) ∧ w'.cell? ⟨w.heap.size + 1, 1, none⟩ = some (.slice b ys.length cap')) (first | assumption | (refine keep3_set k3.1 k3.2.1 k3.2.2 ?_ ?_ _ _ <;> omega) | exact ⟨Bx.1, Bx.2, By.2⟩)
    (first
      | (go_at_call 141; refine (plus_any a b cap cap' xs ys _ (by exact sx.drew) (by exact sy.drew) dx dy hl hl' ).mono ?_; rintro e w2 ⟨a2, c2, os, rfl, ho2, dos, hv, hlo, hb2⟩; have k2 := keep3 (w := W.drew) Bx.1 Bx.2 By.2 hb2; have Rz2 := Rz.drew.below hb2)
      | (go_at_call 121; refine (made_v na a2 c2 os _ (by exact ho2.sl) dos hlo x (HX.out os hv)).mono ?_; rintro e w3 ⟨a3, c3, rfl, ho3, hb3⟩; have k3 := keep3 k2.1 k2.2.1 k2.2.2 hb3; have Rz3 := Rz2.below hb3; obtain ⟨z0, z1, zf0, zf1⟩ := Rz3))
  have l2 : W.heap.size ≤ w2.heap.size := hb2.size
  have l3 : w2.heap.size ≤ w3.heap.size := hb3.size
  go_wp2
  refine bodyPost_ret (v := .agg #[.bool (Nm.wn x), .slice a3 (Nm.wl x).length c3]) (by simp [results, Tryd.results124, go_sem, z0, z1]) rfl ⟨a3, c3, rfl, ?_, ?_⟩
  · exact Own.base ((ho3.setBelow (by simp; omega) _).setBelow (by simp; omega) _) (by omega)
  · exact ((bel_go (bel_go (Below.drew hbW) hb2) hb3).setCell (by simp; omega) _).setCell (by simp; omega) _
set_option maxHeartbeats 1000000 in
theorem l1add_low (na nb : Bool) (a b : Option Addr) (cap cap' : Nat) (xs ys : List Int) (w : World) (hx : Sl .u32 w (.slice a xs.length cap) xs) (hy : Sl .u32 w (.slice b ys.length cap') ys) (dx : Nm.Dg xs) (dy : Nm.Dg ys) (nx : Nm.Nz xs) (ny : Nm.Nz ys) (hl : xs.length ≤ 500000) (hl' : ys.length ≤ 500000) (x : Int) (hx0 : x = Nm.wv na xs + Nm.wv nb ys) (hc : (na == nb) = false) (hm : cmpL xs ys < 0) :
    Calls Tryd.prog 124 #[.agg #[.bool na, .slice a xs.length cap], .agg #[.bool nb, .slice b ys.length cap']] w fun e w' => ∃ a' c', e = .returned (.agg #[.bool (Nm.wn x), .slice a' (Nm.wl x).length c']) ∧ Own w' w.heap.size a' c' (Nm.wl x) ∧ Below w.heap.size w w' := by
  have HX : Hid (∀ os, Nm.val os = Nm.val ys - Nm.val xs → x = Nm.wv nb os) := hid (fun os h => by rw [hx0]; exact Nm.wv_less' hc h)
  have hge : Nm.val xs ≤ Nm.val ys := by have := (cmpL_val dx dy nx ny).1; omega
  have hln : xs.length ≤ ys.length := Nm.len_le_of_val dy dx nx hge
  have HGE := hid (And.intro hge hln)
  clear hx0 hge hln
  go_enter Tryd.func124, Tryd.ntmps124
  have Bx := ((Box.new w (.bool na) (.slice a xs.length cap) 31).alloc (.cells #[.bool nb, .slice b ys.length cap'] 31)).alloc (.cells #[.bool false, .slice none 0 0] 31)
  have By := (Box.new2 w (.cells #[.bool na, .slice a xs.length cap] 31) (.bool nb) (.slice b ys.length cap') 31).alloc (.cells #[.bool false, .slice none 0 0] 31)
  have Rz : R2 (((w.alloc (.cells #[.bool na, .slice a xs.length cap] 31)).alloc (.cells #[.bool nb, .slice b ys.length cap'] 31)).alloc (.cells #[.bool false, .slice none 0 0] 31)) (w.heap.size + 1 + 1) (.bool false) (.slice none 0 0) := by simpa using R2.new2 (w.alloc (.cells #[.bool na, .slice a xs.length cap] 31)) (.cells #[.bool nb, .slice b ys.length cap'] 31) (.bool false) (.slice none 0 0) 31
  have sx := ((hx.alloc (.cells #[.bool na, .slice a xs.length cap] 31)).alloc (.cells #[.bool nb, .slice b ys.length cap'] 31)).alloc (.cells #[.bool false, .slice none 0 0] 31)
  have sy := ((hy.alloc (.cells #[.bool na, .slice a xs.length cap] 31)).alloc (.cells #[.bool nb, .slice b ys.length cap'] 31)).alloc (.cells #[.bool false, .slice none 0 0] 31)
  have hbW : Below w.heap.size w (((w.alloc (.cells #[.bool na, .slice a xs.length cap] 31)).alloc (.cells #[.bool nb, .slice b ys.length cap'] 31)).alloc (.cells #[.bool false, .slice none 0 0] 31)) := (by repeat (first | exact Below.refl _ _ | refine Below.drew ?_ | refine bel_dn ?_ _ | refine bel_al ?_ _ | refine Below.setCell ?_ (by first | omega | (simp; done) | (simp; omega)) _ | refine Below.alloc ?_ (by first | omega | (simp; done) | (simp; omega)) _))
  go_wp2_with fail
  refine (mag_any a b cap cap' xs ys _ sx sy (by omega) (by omega)).mono ?_
  rintro e W ⟨rfl, hb1⟩
  replace Bx := Bx.below hb1
  replace By := By.below hb1
  replace Rz := Rz.below hb1
  replace sx := sx.below hb1
  replace sy := sy.below hb1
  replace hbW := bel_go hbW hb1
  have lW : w.heap.size + 1 + 1 < W.heap.size := World.block_lt_of_cell? W _ Rz.c0
  clear hb1
  go_wp2_with fail
  go_region_held3 (fun w' => w'.cell? ⟨w.heap.size + 1, 0, none⟩ = some (.bool nb) ∧ w'.cell? ⟨w.heap.size + 1, 1, none⟩ = some (.slice b ys.length cap') ∧ w'.cell? ⟨w.heap.size, 1, none⟩ = some (.slice a xs.length cap)) (first | assumption | (refine keep3_set k3.1 k3.2.1 k3.2.2 ?_ ?_ _ _ <;> omega) | exact ⟨By.1, By.2, Bx.2⟩)
    (first
      | (go_at_call 143; refine (less_any b a cap' cap ys xs _ (by exact sy.drew) (by exact sx.drew) dy dx hl' HGE.out.2 HGE.out.1).mono ?_; rintro e w2 ⟨a2, c2, os, rfl, ho2, dos, hv, hlo, hb2⟩; have k2 := keep3 (w := W.drew) By.1 By.2 Bx.2 hb2; have Rz2 := Rz.drew.below hb2)
      | (go_at_call 121; refine (made_v nb a2 c2 os _ (by exact ho2.sl) dos hlo x (HX.out os hv)).mono ?_; rintro e w3 ⟨a3, c3, rfl, ho3, hb3⟩; have k3 := keep3 k2.1 k2.2.1 k2.2.2 hb3; have Rz3 := Rz2.below hb3; obtain ⟨z0, z1, zf0, zf1⟩ := Rz3))
  have l2 : W.heap.size ≤ w2.heap.size := hb2.size
  have l3 : w2.heap.size ≤ w3.heap.size := hb3.size
  go_wp2
  refine bodyPost_ret (v := .agg #[.bool (Nm.wn x), .slice a3 (Nm.wl x).length c3]) (by simp [results, Tryd.results124, go_sem, z0, z1]) rfl ⟨a3, c3, rfl, ?_, ?_⟩
  · exact Own.base ((ho3.setBelow (by simp; omega) _).setBelow (by simp; omega) _) (by omega)
  · exact ((bel_go (bel_go (Below.drew hbW) hb2) hb3).setCell (by simp; omega) _).setCell (by simp; omega) _
set_option maxHeartbeats 1000000 in
theorem l1add_high (na nb : Bool) (a b : Option Addr) (cap cap' : Nat) (xs ys : List Int) (w : World) (hx : Sl .u32 w (.slice a xs.length cap) xs) (hy : Sl .u32 w (.slice b ys.length cap') ys) (dx : Nm.Dg xs) (dy : Nm.Dg ys) (nx : Nm.Nz xs) (ny : Nm.Nz ys) (hl : xs.length ≤ 500000) (hl' : ys.length ≤ 500000) (x : Int) (hx0 : x = Nm.wv na xs + Nm.wv nb ys) (hc : (na == nb) = false) (hm : ¬ cmpL xs ys < 0) :
    Calls Tryd.prog 124 #[.agg #[.bool na, .slice a xs.length cap], .agg #[.bool nb, .slice b ys.length cap']] w fun e w' => ∃ a' c', e = .returned (.agg #[.bool (Nm.wn x), .slice a' (Nm.wl x).length c']) ∧ Own w' w.heap.size a' c' (Nm.wl x) ∧ Below w.heap.size w w' := by
  have HX : Hid (∀ os, Nm.val os = Nm.val xs - Nm.val ys → x = Nm.wv na os) := hid (fun os h => by rw [hx0]; exact Nm.wv_less hc h)
  have hge : Nm.val ys ≤ Nm.val xs := by have := (cmpL_val dx dy nx ny).1; omega
  have hln : ys.length ≤ xs.length := Nm.len_le_of_val dx dy ny hge
  have HGE := hid (And.intro hge hln)
  clear hx0 hge hln
  go_enter Tryd.func124, Tryd.ntmps124
  have Bx := ((Box.new w (.bool na) (.slice a xs.length cap) 31).alloc (.cells #[.bool nb, .slice b ys.length cap'] 31)).alloc (.cells #[.bool false, .slice none 0 0] 31)
  have By := (Box.new2 w (.cells #[.bool na, .slice a xs.length cap] 31) (.bool nb) (.slice b ys.length cap') 31).alloc (.cells #[.bool false, .slice none 0 0] 31)
  have Rz : R2 (((w.alloc (.cells #[.bool na, .slice a xs.length cap] 31)).alloc (.cells #[.bool nb, .slice b ys.length cap'] 31)).alloc (.cells #[.bool false, .slice none 0 0] 31)) (w.heap.size + 1 + 1) (.bool false) (.slice none 0 0) := by simpa using R2.new2 (w.alloc (.cells #[.bool na, .slice a xs.length cap] 31)) (.cells #[.bool nb, .slice b ys.length cap'] 31) (.bool false) (.slice none 0 0) 31
  have sx := ((hx.alloc (.cells #[.bool na, .slice a xs.length cap] 31)).alloc (.cells #[.bool nb, .slice b ys.length cap'] 31)).alloc (.cells #[.bool false, .slice none 0 0] 31)
  have sy := ((hy.alloc (.cells #[.bool na, .slice a xs.length cap] 31)).alloc (.cells #[.bool nb, .slice b ys.length cap'] 31)).alloc (.cells #[.bool false, .slice none 0 0] 31)
  have hbW : Below w.heap.size w (((w.alloc (.cells #[.bool na, .slice a xs.length cap] 31)).alloc (.cells #[.bool nb, .slice b ys.length cap'] 31)).alloc (.cells #[.bool false, .slice none 0 0] 31)) := (by repeat (first | exact Below.refl _ _ | refine Below.drew ?_ | refine bel_dn ?_ _ | refine bel_al ?_ _ | refine Below.setCell ?_ (by first | omega | (simp; done) | (simp; omega)) _ | refine Below.alloc ?_ (by first | omega | (simp; done) | (simp; omega)) _))
  go_wp2_with fail
  refine (mag_any a b cap cap' xs ys _ sx sy (by omega) (by omega)).mono ?_
  rintro e W ⟨rfl, hb1⟩
  replace Bx := Bx.below hb1
  replace By := By.below hb1
  replace Rz := Rz.below hb1
  replace sx := sx.below hb1
  replace sy := sy.below hb1
  replace hbW := bel_go hbW hb1
  have lW : w.heap.size + 1 + 1 < W.heap.size := World.block_lt_of_cell? W _ Rz.c0
  clear hb1
  go_wp2_with fail
  go_region_held3 (fun w' => w'.cell? ⟨w.heap.size, 0, none⟩ = some (.bool na) ∧ w'.cell? ⟨w.heap.size, 1, none⟩ = some (.slice a xs.length cap) ∧ w'.cell? ⟨w.heap.size + 1, 1, none⟩ = some (.slice b ys.length cap')) (first | assumption | (refine keep3_set k3.1 k3.2.1 k3.2.2 ?_ ?_ _ _ <;> omega) | exact ⟨Bx.1, Bx.2, By.2⟩)
    (first
      | (go_at_call 143; refine (less_any a b cap cap' xs ys _ (by exact sx.drew) (by exact sy.drew) dx dy hl HGE.out.2 HGE.out.1).mono ?_; rintro e w2 ⟨a2, c2, os, rfl, ho2, dos, hv, hlo, hb2⟩; have k2 := keep3 (w := W.drew) Bx.1 Bx.2 By.2 hb2; have Rz2 := Rz.drew.below hb2)
      | (go_at_call 121; refine (made_v na a2 c2 os _ (by exact ho2.sl) dos hlo x (HX.out os hv)).mono ?_; rintro e w3 ⟨a3, c3, rfl, ho3, hb3⟩; have k3 := keep3 k2.1 k2.2.1 k2.2.2 hb3; have Rz3 := Rz2.below hb3; obtain ⟨z0, z1, zf0, zf1⟩ := Rz3))
  have l2 : W.heap.size ≤ w2.heap.size := hb2.size
  have l3 : w2.heap.size ≤ w3.heap.size := hb3.size
  go_wp2
  refine bodyPost_ret (v := .agg #[.bool (Nm.wn x), .slice a3 (Nm.wl x).length c3]) (by simp [results, Tryd.results124, go_sem, z0, z1]) rfl ⟨a3, c3, rfl, ?_, ?_⟩
  · exact Own.base ((ho3.setBelow (by simp; omega) _).setBelow (by simp; omega) _) (by omega)
  · exact ((bel_go (bel_go (Below.drew hbW) hb2) hb3).setCell (by simp; omega) _).setCell (by simp; omega) _
theorem l1add_any (na nb : Bool) (a b : Option Addr) (cap cap' : Nat) (xs ys : List Int) (w : World) (hx : Sl .u32 w (.slice a xs.length cap) xs) (hy : Sl .u32 w (.slice b ys.length cap') ys) (dx : Nm.Dg xs) (dy : Nm.Dg ys) (nx : Nm.Nz xs) (ny : Nm.Nz ys) (hl : xs.length ≤ 500000) (hl' : ys.length ≤ 500000) (x : Int) (hx0 : x = Nm.wv na xs + Nm.wv nb ys) :
    Calls Tryd.prog 124 #[.agg #[.bool na, .slice a xs.length cap], .agg #[.bool nb, .slice b ys.length cap']] w fun e w' => ∃ a' c', e = .returned (.agg #[.bool (Nm.wn x), .slice a' (Nm.wl x).length c']) ∧ Own w' w.heap.size a' c' (Nm.wl x) ∧ Below w.heap.size w w' := by
  cases hc : (na == nb)
  · by_cases hm : cmpL xs ys < 0
    · exact l1add_low na nb a b cap cap' xs ys w hx hy dx dy nx ny hl hl' x hx0 hc hm
    · exact l1add_high na nb a b cap cap' xs ys w hx hy dx dy nx ny hl hl' x hx0 hc hm
  · exact l1add_same na nb a b cap cap' xs ys w hx hy dx dy nx ny hl hl' x hx0 hc
end Go.Proofs.YtojcaoccjapdoaaDoor
