/-
  What is needed of WideB.
-/
import Derived.Test.YtmnfidkpnogfmaaK06
set_option maxHeartbeats 16000000
set_option maxRecDepth 1000000
namespace Go.Proofs.Ytmnfidkpnogfmaa
set_option linter.unusedVariables false
set_option linter.unusedSimpArgs false
open Go.RowKit Go.Deep
theorem two_below {w w' : World} {p q : Addr} {u v : Value} (h : w.cell? p = some u) (k : w.cell? q = some v) (hb : Below w.heap.size w w') : w'.cell? p = some u ∧ w'.cell? q = some v :=
  ⟨(hb.cell (World.block_lt_of_cell? w _ h)).trans h, (hb.cell (World.block_lt_of_cell? w _ k)).trans k⟩
/-- -1, 0 or 1, as limbs are less, the same, or greater (the longer is the greater; else from the top down). -/
def cmpFrom (xs ys : List Int) : Nat → Int
  | 0 => 0
  | n + 1 => if xs.getD n 0 < ys.getD n 0 then -1 else if ys.getD n 0 < xs.getD n 0 then 1 else cmpFrom xs ys n
def cmpL (xs ys : List Int) : Int := if xs.length < ys.length then -1 else if ys.length < xs.length then 1 else cmpFrom xs ys xs.length
theorem cmpFrom_rng (xs ys : List Int) (n : Nat) : -1 ≤ cmpFrom xs ys n ∧ cmpFrom xs ys n ≤ 1 := by
  induction n with
  | zero => simp [cmpFrom]
  | succ n ih =>
    unfold cmpFrom
    split
    · omega
    · split <;> omega
theorem cmpL_lt {xs ys : List Int} (h : xs.length < ys.length) : cmpL xs ys = -1 := by unfold cmpL; rw [if_pos h]
theorem cmpL_gt {xs ys : List Int} (h : ys.length < xs.length) : cmpL xs ys = 1 := by unfold cmpL; rw [if_neg (by omega), if_pos h]
theorem cmpL_eq {xs ys : List Int} (h : xs.length = ys.length) : cmpL xs ys = cmpFrom xs ys xs.length := by unfold cmpL; rw [if_neg (by omega), if_neg (by omega)]

theorem mag_any (a a' : Option Addr) (cap cap' : Nat) (xs ys : List Int) (w : World) (hx : Sl .u32 w (.slice a xs.length cap) xs) (hy : Sl .u32 w (.slice a' ys.length cap') ys) (hl : xs.length ≤ 140737488355328) (hl' : ys.length ≤ 140737488355328) :
    Calls Try.prog 145 #[.slice a xs.length cap, .slice a' ys.length cap'] w fun e w' => e = .returned (.int .i64 (cmpL xs ys)) ∧ Below w.heap.size w w' := by
  obtain ⟨-, hx1, hx2, hx3⟩ := hx.cells
  obtain ⟨-, hy1, hy2, hy3⟩ := hy.cells
  by_cases hn : xs.length = ys.length
  · have hne : ((xs.length : Int) != (ys.length : Int)) = false := by simp [hn]
    have HN : Hid (cmpL xs ys = cmpFrom xs ys xs.length) := hid (cmpL_eq hn)
    have hn1 : xs.length ≤ ys.length := by omega
    have hn2 : ys.length ≤ xs.length := by omega
    clear hn
    go_enter Try.func145, Try.ntmps145
    go_wp2_with fail
    go_loopw [5] (fun i wr => ∃ n : Nat, n ≤ xs.length ∧ i = .int .i64 ((n : Int) - 1) ∧ cmpFrom xs ys xs.length = cmpFrom xs ys n ∧ Below w.heap.size w wr) (fun i _ => (intOf i + 1).toNat)
    case atStart => exact ⟨xs.length, Nat.le_refl _, rfl, rfl, Below.refl _ _⟩
    case round =>
      obtain ⟨n, hk, rfl, hpre, hb⟩ := hrel
      have PRE := hid hpre
      clear hpre
      by_cases h0 : n = 0
      · subst h0
        have HR : Hid (cmpL xs ys = 0) := hid (by rw [HN.out, PRE.out]; rfl)
        clear hx3 hy3
        go_wp2
        go_ret
        exact ⟨ret_int HR.out.symm, hb⟩
      · obtain ⟨m, rfl⟩ : ∃ m, n = m + 1 := ⟨n - 1, by omega⟩
        have em : (((m + 1 : Nat) : Int) - 1) = (m : Int) := by omega
        rw [em]
        clear em h0
        obtain ⟨b, off, rfl, hcx⟩ := hx3 (by omega)
        obtain ⟨b', off', rfl, hcy⟩ := hy3 (by omega)
        have h1 := hcx m (by omega)
        have h2 := hcy m (by omega)
        have h1 : wr.cell? ⟨b, off + m, none⟩ = some (.int .u32 (xs.getD m 0)) := (hb.cell (p := ⟨b, off + m, none⟩) (World.block_lt_of_cell? w _ h1)).trans h1
        have h2 : wr.cell? ⟨b', off' + m, none⟩ = some (.int .u32 (ys.getD m 0)) := (hb.cell (p := ⟨b', off' + m, none⟩) (World.block_lt_of_cell? w _ h2)).trans h2
        clear hx3 hy3 hcx hcy
        obtain ⟨x, hxk⟩ : ∃ x, x = xs.getD m 0 := ⟨_, rfl⟩
        obtain ⟨y, hyk⟩ : ∃ y, y = ys.getD m 0 := ⟨_, rfl⟩
        have ST : Hid (cmpFrom xs ys xs.length = if x < y then -1 else if y < x then 1 else cmpFrom xs ys m) := hid (by rw [PRE.out, hxk, hyk]; rfl)
        rw [← hxk] at h1; rw [← hyk] at h2
        clear hxk hyk
        by_cases hlt : x < y
        · have HR : Hid (cmpL xs ys = -1) := hid (by rw [HN.out, ST.out, if_pos hlt])
          go_wp2
          go_region
          all_goals go_wp2
          all_goals go_ret
          all_goals exact ⟨ret_int HR.out.symm, (by repeat (first | exact bz0 _ _ | refine bz1 ?_ | refine bz2 ?_ _ | refine bz3 ?_ _ | refine bz4 ?_ hb | refine bz5 ?_ _ | refine bz6 ?_ _ | refine bz7 ?_ hb))⟩
        by_cases hgt : y < x
        · have HR : Hid (cmpL xs ys = 1) := hid (by rw [HN.out, ST.out, if_neg hlt, if_pos hgt])
          go_wp2
          go_region
          all_goals go_wp2
          all_goals go_region
          all_goals go_wp2
          all_goals go_ret
          all_goals exact ⟨ret_int HR.out.symm, (by repeat (first | exact bz0 _ _ | refine bz1 ?_ | refine bz2 ?_ _ | refine bz3 ?_ _ | refine bz4 ?_ hb | refine bz5 ?_ _ | refine bz6 ?_ _ | refine bz7 ?_ hb))⟩
        · have HR : Hid (cmpFrom xs ys xs.length = cmpFrom xs ys m) := hid (by rw [ST.out, if_neg hlt, if_neg hgt])
          go_wp2
          go_region
          all_goals go_wp2
          all_goals go_region
          all_goals go_wp2
          all_goals go_roundw
          case rel => exact ⟨m, by omega, rfl, HR.out, (by repeat (first | exact bz0 _ _ | refine bz1 ?_ | refine bz2 ?_ _ | refine bz3 ?_ _ | refine bz4 ?_ hb | refine bz5 ?_ _ | refine bz6 ?_ _ | refine bz7 ?_ hb))⟩
          case measure => simp [intOf]
  · have hne : ((xs.length : Int) != (ys.length : Int)) = true := by simp; omega
    clear hx3 hy3
    by_cases hlt : xs.length < ys.length
    · have HR := hid (cmpL_lt hlt)
      go_enter Try.func145, Try.ntmps145
      go_wp2
      go_ret
      exact ⟨ret_int HR.out.symm, Below.refl _ _⟩
    · have hgt : ys.length < xs.length := by omega
      have HR := hid (cmpL_gt hgt)
      go_enter Try.func145, Try.ntmps145
      go_wp2
      go_ret
      exact ⟨ret_int HR.out.symm, Below.refl _ _⟩

theorem cmpLimbs_any (a a' : Option Addr) (cap cap' : Nat) (xs ys : List Int) (w : World) (hx : Sl .u32 w (.slice a xs.length cap) xs) (hy : Sl .u32 w (.slice a' ys.length cap') ys) (hl : xs.length ≤ 140737488355328) (hl' : ys.length ≤ 140737488355328) :
    Calls Try.prog 116 #[.slice a xs.length cap, .slice a' ys.length cap'] w fun e w' => e = .returned (.int .i64 (cmpL xs ys)) ∧ Below w.heap.size w w' := by
  obtain ⟨-, hx1, hx2, hx3⟩ := hx.cells
  obtain ⟨-, hy1, hy2, hy3⟩ := hy.cells
  by_cases hn : xs.length = ys.length
  · have hne : ((xs.length : Int) != (ys.length : Int)) = false := by simp [hn]
    have HN : Hid (cmpL xs ys = cmpFrom xs ys xs.length) := hid (cmpL_eq hn)
    have hn1 : xs.length ≤ ys.length := by omega
    have hn2 : ys.length ≤ xs.length := by omega
    clear hn
    go_enter Try.func116, Try.ntmps116
    go_wp2_with fail
    go_loopw [5] (fun i wr => ∃ n : Nat, n ≤ xs.length ∧ i = .int .i64 ((n : Int) - 1) ∧ cmpFrom xs ys xs.length = cmpFrom xs ys n ∧ Below w.heap.size w wr) (fun i _ => (intOf i + 1).toNat)
    case atStart => exact ⟨xs.length, Nat.le_refl _, rfl, rfl, Below.refl _ _⟩
    case round =>
      obtain ⟨n, hk, rfl, hpre, hb⟩ := hrel
      have PRE := hid hpre
      clear hpre
      by_cases h0 : n = 0
      · subst h0
        have HR : Hid (cmpL xs ys = 0) := hid (by rw [HN.out, PRE.out]; rfl)
        clear hx3 hy3
        go_wp2
        go_ret
        exact ⟨ret_int HR.out.symm, hb⟩
      · obtain ⟨m, rfl⟩ : ∃ m, n = m + 1 := ⟨n - 1, by omega⟩
        have em : (((m + 1 : Nat) : Int) - 1) = (m : Int) := by omega
        rw [em]
        clear em h0
        obtain ⟨b, off, rfl, hcx⟩ := hx3 (by omega)
        obtain ⟨b', off', rfl, hcy⟩ := hy3 (by omega)
        have h1 := hcx m (by omega)
        have h2 := hcy m (by omega)
        have h1 : wr.cell? ⟨b, off + m, none⟩ = some (.int .u32 (xs.getD m 0)) := (hb.cell (p := ⟨b, off + m, none⟩) (World.block_lt_of_cell? w _ h1)).trans h1
        have h2 : wr.cell? ⟨b', off' + m, none⟩ = some (.int .u32 (ys.getD m 0)) := (hb.cell (p := ⟨b', off' + m, none⟩) (World.block_lt_of_cell? w _ h2)).trans h2
        clear hx3 hy3 hcx hcy
        obtain ⟨x, hxk⟩ : ∃ x, x = xs.getD m 0 := ⟨_, rfl⟩
        obtain ⟨y, hyk⟩ : ∃ y, y = ys.getD m 0 := ⟨_, rfl⟩
        have ST : Hid (cmpFrom xs ys xs.length = if x < y then -1 else if y < x then 1 else cmpFrom xs ys m) := hid (by rw [PRE.out, hxk, hyk]; rfl)
        rw [← hxk] at h1; rw [← hyk] at h2
        clear hxk hyk
        have ⟨r0, r1⟩ := cmpI_rng x y
        have i0 : (0 : Int) ≤ (m : Int) := by omega
        have i1 : (m : Int) < (xs.length : Int) := by omega
        have i2 : (m : Int) < (ys.length : Int) := by omega
        by_cases hxy : x = y
        · have hbe : (x != y) = false := by simp [hxy]
          have HR : Hid (cmpFrom xs ys xs.length = cmpFrom xs ys m) := hid (by rw [ST.out, if_neg (by omega), if_neg (by omega)])
          clear hxy
          go_wp2
          go_region
          all_goals go_wp2
          all_goals go_roundw
          case rel => exact ⟨m, by omega, rfl, HR.out, (by repeat (first | exact bz0 _ _ | refine bz1 ?_ | refine bz2 ?_ _ | refine bz3 ?_ _ | refine bz4 ?_ hb | refine bz5 ?_ _ | refine bz6 ?_ _ | refine bz7 ?_ hb))⟩
          case measure => simp [intOf]
        · have hbe : (x != y) = true := by simp [hxy]
          have HR : Hid (cmpL xs ys = cmpI x y) := hid (by
            rw [HN.out, ST.out]; unfold cmpI
            split
            · rfl
            · split
              · rfl
              · omega)
          clear hxy
          go_wp2
          go_region
          all_goals go_wp2
          go_region_held3 (fun w' => w'.cell? ⟨b, off + m, none⟩ = some (.int .u32 x) ∧ w'.cell? ⟨b', off' + m, none⟩ = some (.int .u32 y)) (first | assumption | exact ⟨h1, h2⟩)
            ((go_at_call 143; refine (compare_uint32 x y _).mono ?_; rintro e w1 ⟨rfl, hb1⟩; have s1 := two_below (w := wr.drew.drew) h1 h2 hb1))
          go_wp2
          go_ret
          exact ⟨ret_int HR.out.symm, (by repeat (first | exact bz0 _ _ | refine bz1 ?_ | refine bz2 ?_ _ | refine bz3 ?_ _ | refine bz4 ?_ hb1 | refine bz4 ?_ hb | refine bz5 ?_ _ | refine bz6 ?_ _ | refine bz7 ?_ hb1 | refine bz7 ?_ hb))⟩
  · have hne : ((xs.length : Int) != (ys.length : Int)) = true := by simp; omega
    have HR : Hid (cmpL xs ys = cmpI xs.length ys.length) := hid (by unfold cmpL cmpI; split <;> split <;> (try split) <;> omega)
    have ⟨r0, r1⟩ := cmpI_rng xs.length ys.length
    clear hx3 hy3
    go_enter Try.func116, Try.ntmps116
    go_wp2_with fail
    refine (compare_int _ _ _).mono ?_
    rintro e w1 ⟨rfl, hb1⟩
    go_wp2
    go_ret
    exact ⟨ret_int HR.out.symm, (by repeat (first | exact bz0 _ _ | refine bz1 ?_ | refine bz2 ?_ _ | refine bz3 ?_ _ | refine bz4 ?_ hb1 | refine bz5 ?_ _ | refine bz6 ?_ _ | refine bz7 ?_ hb1))⟩
end Go.Proofs.Ytmnfidkpnogfmaa
