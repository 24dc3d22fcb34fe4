/-
  What is needed of WideF, WideG, WideB, WideC.
-/
import Derived.Laws.MathBits
import Derived.Deep.RegionHeld3
import Derived.Test.YtkfjmcdniohljaaGreatDoorE01
set_option maxHeartbeats 16000000
set_option maxRecDepth 1000000
namespace Go.Proofs.YtkfjmcdniohljaaGreatDoor
set_option linter.unusedVariables false
set_option linter.unusedSimpArgs false
open Go.RowKit Go.Deep
theorem bitLen_div (x : Int) (k : Nat) (h0 : 0 ≤ x) (hx : x / (2 ^ k : Nat) ≠ 0) : bitLen x.toNat = k + bitLen (x / (2 ^ k : Nat)).toNat := by
  obtain ⟨n, rfl⟩ := Int.eq_ofNat_of_zero_le h0
  have e : (((n : Int) / (2 ^ k : Nat)).toNat) = n / 2 ^ k := by rw [← Int.natCast_ediv]; exact Int.toNat_natCast _
  rw [e]
  simp only [Int.toNat_natCast]
  apply bitLen_shift
  intro h
  apply hx
  rw [← Int.natCast_ediv, h]; rfl
/-- How many bits limbs are written with. -/
def blL (zs : List Int) : Int := if zs.length = 0 then 0 else 32 * ((zs.length : Int) - 1) + bitLen (zs.getD (zs.length - 1) 0).toNat
theorem bitLen_le32 (z : Int) (h0 : 0 ≤ z) (h1 : z < 4294967296) : (bitLen z.toNat : Int) ≤ 32 := by
  have h := bitLen_spec z.toNat
  unfold bitLen
  split
  · omega
  · rename_i hz
    have := (Nat.log2_lt hz).2 (show z.toNat < 2 ^ 32 by omega)
    omega

theorem bl_half (z : Int) (h0 : 0 < z) : bitLen z.toNat = 1 + bitLen (z / 2).toNat := by
  by_cases h1 : z = 1
  · subst h1; decide
  · have := bitLen_div z 1 (by omega) (by simp; omega)
    simpa using this

theorem l1Bits_any (ng : Bool) (a : Option Addr) (cap : Nat) (zs : List Int) (w : World) (hs : Sl .u32 w (.slice a zs.length cap) zs) (hz : Nm.Dg zs) (hl : zs.length ≤ 1048576) :
    Calls Tryz.prog 227 #[.agg #[.bool ng, .slice a zs.length cap]] w fun e w' => e = .returned (.int .i64 (blL zs)) ∧ Below w.heap.size w w' := by
  by_cases h0 : zs.length = 0
  · have HR : Hid (blL zs = 0) := hid (by unfold blL; rw [if_pos h0])
    have hb0 : ((zs.length : Int) == 0) = true := by rw [beq_iff_eq]; omega
    clear h0
    go_enter Tryz.func227, Tryz.ntmps227
    go_wp2
    go_ret
    exact ⟨ret_int HR.out.symm, (by repeat (first | exact bz0 _ _ | refine bz1 ?_ | refine bz2 ?_ _ | refine bz3 ?_ _ | refine bz5 ?_ _ | refine bz6 ?_ _))⟩
  · have hb0 : ((zs.length : Int) == 0) = false := by rw [beq_eq_false_iff_ne]; omega
    obtain ⟨z, hzk⟩ : ∃ z, z = zs.getD (zs.length - 1) 0 := ⟨_, rfl⟩
    have HR : Hid (blL zs = 32 * ((zs.length : Int) - 1) + bitLen z.toNat) := hid (by unfold blL; rw [if_neg h0, hzk])
    have hd := hz.getD (zs.length - 1)
    have hb32 := bitLen_le32 z (by rw [hzk]; exact hd.1) (by rw [hzk]; exact hd.2)
    rw [← hzk] at hd
    obtain ⟨hd0, hd1⟩ := hd
    have hs' := hs.alloc (.cells #[.bool ng, .slice a zs.length cap] 32)
    obtain ⟨-, _, _, hc3⟩ := hs.cells
    obtain ⟨b, off, rfl, hcell⟩ := hc3 (by omega)
    have hc := hcell (zs.length - 1) (by omega)
    have hlt := World.block_lt_of_cell? w _ hc
    rw [← hzk] at hc
    have HB := hid hb32
    clear hzk hcell hc3 hs' hb32
    go_enter Tryz.func227, Tryz.ntmps227
    go_wp2_with fail
    go_loop [4, 5] (fun k x => ∃ kk q : Int, k = .int .i64 kk ∧ x = .int .u32 q ∧ 0 ≤ q ∧ q < 4294967296 ∧ 0 ≤ kk ∧ kk + bitLen q.toNat = 32 * ((zs.length : Int) - 1) + bitLen z.toNat) (fun _ x => (intOf x).toNat)
    case atStart => exact ⟨_, z, rfl, rfl, hd0, hd1, by omega, rfl⟩
    case round =>
      obtain ⟨kk, q, rfl, rfl, hq0, hq1, hk0, hrel⟩ := hrel
      have hkb : kk ≤ 33554464 := by have := HB.out; omega
      have REL := hid hrel
      clear hrel
      by_cases hq : 0 < q
      · have HH := hid (bl_half q hq)
        go_wp2
        go_round
        case rel => exact ⟨kk + 1, q / 2, rfl, rfl, by omega, by omega, by omega, by have := REL.out; have h2 := HH.out; omega⟩
        case measure => simp [intOf]; omega
      · have hq' : q = 0 := by omega
        have HF : Hid (blL zs = kk) := hid (by rw [HR.out]; have h := REL.out; rw [hq', show bitLen (0 : Int).toNat = 0 by decide] at h; omega)
        clear hq'
        go_wp2
        go_ret
        exact ⟨ret_int HF.out.symm, (by repeat (first | exact bz0 _ _ | refine bz1 ?_ | refine bz2 ?_ _ | refine bz3 ?_ _ | refine bz5 ?_ _ | refine bz6 ?_ _))⟩

theorem two_below {w w' : World} {p q : Addr} {u v : Value} (h : w.cell? p = some u) (k : w.cell? q = some v) (hb : Below w.heap.size w w') : w'.cell? p = some u ∧ w'.cell? q = some v :=
  ⟨(hb.cell (World.block_lt_of_cell? w _ h)).trans h, (hb.cell (World.block_lt_of_cell? w _ k)).trans k⟩
/-- -1, 0 or 1, as limbs are less, the same, or greater (the longer is the greater; else from the top down). -/
def cmpFrom (xs ys : List Int) : Nat → Int
  | 0 => 0
  | n + 1 => if xs.getD n 0 < ys.getD n 0 then -1 else if ys.getD n 0 < xs.getD n 0 then 1 else cmpFrom xs ys n
def cmpL (xs ys : List Int) : Int := if xs.length < ys.length then -1 else if ys.length < xs.length then 1 else cmpFrom xs ys xs.length
theorem cmpFrom_rng (xs ys : List Int) (n : Nat) : -1 ≤ cmpFrom xs ys n ∧ cmpFrom xs ys n ≤ 1 := by
  induction n with
  | zero => simp [cmpFrom]
  | succ n ih =>
    unfold cmpFrom
    split
    · omega
    · split <;> omega
theorem cmpL_lt {xs ys : List Int} (h : xs.length < ys.length) : cmpL xs ys = -1 := by unfold cmpL; rw [if_pos h]
theorem cmpL_gt {xs ys : List Int} (h : ys.length < xs.length) : cmpL xs ys = 1 := by unfold cmpL; rw [if_neg (by omega), if_pos h]
theorem cmpL_eq {xs ys : List Int} (h : xs.length = ys.length) : cmpL xs ys = cmpFrom xs ys xs.length := by unfold cmpL; rw [if_neg (by omega), if_neg (by omega)]

theorem mag_any (a a' : Option Addr) (cap cap' : Nat) (xs ys : List Int) (w : World) (hx : Sl .u32 w (.slice a xs.length cap) xs) (hy : Sl .u32 w (.slice a' ys.length cap') ys) (hl : xs.length ≤ 140737488355328) (hl' : ys.length ≤ 140737488355328) :
    Calls Tryz.prog 144 #[.slice a xs.length cap, .slice a' ys.length cap'] w fun e w' => e = .returned (.int .i64 (cmpL xs ys)) ∧ Below w.heap.size w w' := by
  obtain ⟨-, hx1, hx2, hx3⟩ := hx.cells
  obtain ⟨-, hy1, hy2, hy3⟩ := hy.cells
  by_cases hn : xs.length = ys.length
  · have hne : ((xs.length : Int) != (ys.length : Int)) = false := by simp [hn]
    have HN : Hid (cmpL xs ys = cmpFrom xs ys xs.length) := hid (cmpL_eq hn)
    have hn1 : xs.length ≤ ys.length := by omega
    have hn2 : ys.length ≤ xs.length := by omega
    clear hn
    go_enter Tryz.func144, Tryz.ntmps144
    go_wp2_with fail
    go_loopw [5] (fun i wr => ∃ n : Nat, n ≤ xs.length ∧ i = .int .i64 ((n : Int) - 1) ∧ cmpFrom xs ys xs.length = cmpFrom xs ys n ∧ Below w.heap.size w wr) (fun i _ => (intOf i + 1).toNat)
    case atStart => exact ⟨xs.length, Nat.le_refl _, rfl, rfl, Below.refl _ _⟩
    case round =>
      obtain ⟨n, hk, rfl, hpre, hb⟩ := hrel
      have PRE := hid hpre
      clear hpre
      by_cases h0 : n = 0
      · subst h0
        have HR : Hid (cmpL xs ys = 0) := hid (by rw [HN.out, PRE.out]; rfl)
        clear hx3 hy3
        go_wp2
        go_ret
        exact ⟨ret_int HR.out.symm, hb⟩
      · obtain ⟨m, rfl⟩ : ∃ m, n = m + 1 := ⟨n - 1, by omega⟩
        have em : (((m + 1 : Nat) : Int) - 1) = (m : Int) := by omega
        rw [em]
        clear em h0
        obtain ⟨b, off, rfl, hcx⟩ := hx3 (by omega)
        obtain ⟨b', off', rfl, hcy⟩ := hy3 (by omega)
        have h1 := hcx m (by omega)
        have h2 := hcy m (by omega)
        have h1 : wr.cell? ⟨b, off + m, none⟩ = some (.int .u32 (xs.getD m 0)) := (hb.cell (p := ⟨b, off + m, none⟩) (World.block_lt_of_cell? w _ h1)).trans h1
        have h2 : wr.cell? ⟨b', off' + m, none⟩ = some (.int .u32 (ys.getD m 0)) := (hb.cell (p := ⟨b', off' + m, none⟩) (World.block_lt_of_cell? w _ h2)).trans h2
        clear hx3 hy3 hcx hcy
        obtain ⟨x, hxk⟩ : ∃ x, x = xs.getD m 0 := ⟨_, rfl⟩
        obtain ⟨y, hyk⟩ : ∃ y, y = ys.getD m 0 := ⟨_, rfl⟩
        have ST : Hid (cmpFrom xs ys xs.length = if x < y then -1 else if y < x then 1 else cmpFrom xs ys m) := hid (by rw [PRE.out, hxk, hyk]; rfl)
        rw [← hxk] at h1; rw [← hyk] at h2
        clear hxk hyk
        by_cases hlt : x < y
        · have HR : Hid (cmpL xs ys = -1) := hid (by rw [HN.out, ST.out, if_pos hlt])
          go_wp2
          go_region
          all_goals go_wp2
          all_goals go_ret
          all_goals exact ⟨ret_int HR.out.symm, (by repeat (first | exact bz0 _ _ | refine bz1 ?_ | refine bz2 ?_ _ | refine bz3 ?_ _ | refine bz4 ?_ hb | refine bz5 ?_ _ | refine bz6 ?_ _ | refine bz7 ?_ hb))⟩
        by_cases hgt : y < x
        · have HR : Hid (cmpL xs ys = 1) := hid (by rw [HN.out, ST.out, if_neg hlt, if_pos hgt])
          go_wp2
          go_region
          all_goals go_wp2
          all_goals go_region
          all_goals go_wp2
          all_goals go_ret
          all_goals exact ⟨ret_int HR.out.symm, (by repeat (first | exact bz0 _ _ | refine bz1 ?_ | refine bz2 ?_ _ | refine bz3 ?_ _ | refine bz4 ?_ hb | refine bz5 ?_ _ | refine bz6 ?_ _ | refine bz7 ?_ hb))⟩
        · have HR : Hid (cmpFrom xs ys xs.length = cmpFrom xs ys m) := hid (by rw [ST.out, if_neg hlt, if_neg hgt])
          go_wp2
          go_region
          all_goals go_wp2
          all_goals go_region
          all_goals go_wp2
          all_goals go_roundw
          case rel => exact ⟨m, by omega, rfl, HR.out, (by repeat (first | exact bz0 _ _ | refine bz1 ?_ | refine bz2 ?_ _ | refine bz3 ?_ _ | refine bz4 ?_ hb | refine bz5 ?_ _ | refine bz6 ?_ _ | refine bz7 ?_ hb))⟩
          case measure => simp [intOf]
  · have hne : ((xs.length : Int) != (ys.length : Int)) = true := by simp; omega
    clear hx3 hy3
    by_cases hlt : xs.length < ys.length
    · have HR := hid (cmpL_lt hlt)
      go_enter Tryz.func144, Tryz.ntmps144
      go_wp2
      go_ret
      exact ⟨ret_int HR.out.symm, Below.refl _ _⟩
    · have hgt : ys.length < xs.length := by omega
      have HR := hid (cmpL_gt hgt)
      go_enter Tryz.func144, Tryz.ntmps144
      go_wp2
      go_ret
      exact ⟨ret_int HR.out.symm, Below.refl _ _⟩

theorem cmpLimbs_any (a a' : Option Addr) (cap cap' : Nat) (xs ys : List Int) (w : World) (hx : Sl .u32 w (.slice a xs.length cap) xs) (hy : Sl .u32 w (.slice a' ys.length cap') ys) (hl : xs.length ≤ 140737488355328) (hl' : ys.length ≤ 140737488355328) :
    Calls Tryz.prog 109 #[.slice a xs.length cap, .slice a' ys.length cap'] w fun e w' => e = .returned (.int .i64 (cmpL xs ys)) ∧ Below w.heap.size w w' := by
  obtain ⟨-, hx1, hx2, hx3⟩ := hx.cells
  obtain ⟨-, hy1, hy2, hy3⟩ := hy.cells
  by_cases hn : xs.length = ys.length
  · have hne : ((xs.length : Int) != (ys.length : Int)) = false := by simp [hn]
    have HN : Hid (cmpL xs ys = cmpFrom xs ys xs.length) := hid (cmpL_eq hn)
    have hn1 : xs.length ≤ ys.length := by omega
    have hn2 : ys.length ≤ xs.length := by omega
    clear hn
    go_enter Tryz.func109, Tryz.ntmps109
    go_wp2_with fail
    go_loopw [5] (fun i wr => ∃ n : Nat, n ≤ xs.length ∧ i = .int .i64 ((n : Int) - 1) ∧ cmpFrom xs ys xs.length = cmpFrom xs ys n ∧ Below w.heap.size w wr) (fun i _ => (intOf i + 1).toNat)
    case atStart => exact ⟨xs.length, Nat.le_refl _, rfl, rfl, Below.refl _ _⟩
    case round =>
      obtain ⟨n, hk, rfl, hpre, hb⟩ := hrel
      have PRE := hid hpre
      clear hpre
      by_cases h0 : n = 0
      · subst h0
        have HR : Hid (cmpL xs ys = 0) := hid (by rw [HN.out, PRE.out]; rfl)
        clear hx3 hy3
        go_wp2
        go_ret
        exact ⟨ret_int HR.out.symm, hb⟩
      · obtain ⟨m, rfl⟩ : ∃ m, n = m + 1 := ⟨n - 1, by omega⟩
        have em : (((m + 1 : Nat) : Int) - 1) = (m : Int) := by omega
        rw [em]
        clear em h0
        obtain ⟨b, off, rfl, hcx⟩ := hx3 (by omega)
        obtain ⟨b', off', rfl, hcy⟩ := hy3 (by omega)
        have h1 := hcx m (by omega)
        have h2 := hcy m (by omega)
        have h1 : wr.cell? ⟨b, off + m, none⟩ = some (.int .u32 (xs.getD m 0)) := (hb.cell (p := ⟨b, off + m, none⟩) (World.block_lt_of_cell? w _ h1)).trans h1
        have h2 : wr.cell? ⟨b', off' + m, none⟩ = some (.int .u32 (ys.getD m 0)) := (hb.cell (p := ⟨b', off' + m, none⟩) (World.block_lt_of_cell? w _ h2)).trans h2
        clear hx3 hy3 hcx hcy
        obtain ⟨x, hxk⟩ : ∃ x, x = xs.getD m 0 := ⟨_, rfl⟩
        obtain ⟨y, hyk⟩ : ∃ y, y = ys.getD m 0 := ⟨_, rfl⟩
        have ST : Hid (cmpFrom xs ys xs.length = if x < y then -1 else if y < x then 1 else cmpFrom xs ys m) := hid (by rw [PRE.out, hxk, hyk]; rfl)
        rw [← hxk] at h1; rw [← hyk] at h2
        clear hxk hyk
        have ⟨r0, r1⟩ := cmpI_rng x y
        have i0 : (0 : Int) ≤ (m : Int) := by omega
        have i1 : (m : Int) < (xs.length : Int) := by omega
        have i2 : (m : Int) < (ys.length : Int) := by omega
        by_cases hxy : x = y
        · have hbe : (x != y) = false := by simp [hxy]
          have HR : Hid (cmpFrom xs ys xs.length = cmpFrom xs ys m) := hid (by rw [ST.out, if_neg (by omega), if_neg (by omega)])
          clear hxy
          go_wp2
          go_region
          all_goals go_wp2
          all_goals go_roundw
          case rel => exact ⟨m, by omega, rfl, HR.out, (by repeat (first | exact bz0 _ _ | refine bz1 ?_ | refine bz2 ?_ _ | refine bz3 ?_ _ | refine bz4 ?_ hb | refine bz5 ?_ _ | refine bz6 ?_ _ | refine bz7 ?_ hb))⟩
          case measure => simp [intOf]
        · have hbe : (x != y) = true := by simp [hxy]
          have HR : Hid (cmpL xs ys = cmpI x y) := hid (by
            rw [HN.out, ST.out]; unfold cmpI
            split
            · rfl
            · split
              · rfl
              · omega)
          clear hxy
          go_wp2
          go_region
          all_goals go_wp2
          go_region_held3 (fun w' => w'.cell? ⟨b, off + m, none⟩ = some (.int .u32 x) ∧ w'.cell? ⟨b', off' + m, none⟩ = some (.int .u32 y)) (first | assumption | exact ⟨h1, h2⟩)
            ((go_at_call 196; refine (compare_uint32 x y _).mono ?_; rintro e w1 ⟨rfl, hb1⟩; have s1 := two_below (w := wr.drew.drew) h1 h2 hb1))
          go_wp2
          go_ret
          exact ⟨ret_int HR.out.symm, (by repeat (first | exact bz0 _ _ | refine bz1 ?_ | refine bz2 ?_ _ | refine bz3 ?_ _ | refine bz4 ?_ hb1 | refine bz4 ?_ hb | refine bz5 ?_ _ | refine bz6 ?_ _ | refine bz7 ?_ hb1 | refine bz7 ?_ hb))⟩
  · have hne : ((xs.length : Int) != (ys.length : Int)) = true := by simp; omega
    have HR : Hid (cmpL xs ys = cmpI xs.length ys.length) := hid (by unfold cmpL cmpI; split <;> split <;> (try split) <;> omega)
    have ⟨r0, r1⟩ := cmpI_rng xs.length ys.length
    clear hx3 hy3
    go_enter Tryz.func109, Tryz.ntmps109
    go_wp2_with fail
    refine (compare_int _ _ _).mono ?_
    rintro e w1 ⟨rfl, hb1⟩
    go_wp2
    go_ret
    exact ⟨ret_int HR.out.symm, (by repeat (first | exact bz0 _ _ | refine bz1 ?_ | refine bz2 ?_ _ | refine bz3 ?_ _ | refine bz4 ?_ hb1 | refine bz5 ?_ _ | refine bz6 ?_ _ | refine bz7 ?_ hb1))⟩
/-- How two wides compare. -/
def wcmp (na nb : Bool) (xs ys : List Int) : Int := if okB na xs && okB nb ys then (if na && nb then cmpL ys xs else if na then -1 else if nb then 1 else cmpL xs ys) else 2
theorem wcmp_no1 {na nb : Bool} {xs ys : List Int} (h : okB na xs = false) : wcmp na nb xs ys = 2 := by unfold wcmp; rw [h]; rfl
theorem wcmp_no2 {na nb : Bool} {xs ys : List Int} (h : okB nb ys = false) : wcmp na nb xs ys = 2 := by unfold wcmp; rw [h]; simp
theorem wcmp_yes {na nb : Bool} {xs ys : List Int} (h : okB na xs = true) (k : okB nb ys = true) : wcmp na nb xs ys = if na && nb then cmpL ys xs else if na then -1 else if nb then 1 else cmpL xs ys := by unfold wcmp; rw [h, k]; rfl
theorem cmpL_rng (xs ys : List Int) : -1 ≤ cmpL xs ys ∧ cmpL xs ys ≤ 1 := by
  have := cmpFrom_rng xs ys xs.length
  unfold cmpL
  split
  · omega
  · split <;> omega

theorem wcmp_impl (na nb : Bool) (a a' : Option Addr) (cap cap' : Nat) (xs ys : List Int) (w : World) (hx : Sl .u32 w (.slice a xs.length cap) xs) (hy : Sl .u32 w (.slice a' ys.length cap') ys) (hl : xs.length ≤ 140737488355328) (hl' : ys.length ≤ 140737488355328) :
    Calls Tryz.prog 24 #[.agg #[.bool na, .slice a xs.length cap], .agg #[.bool nb, .slice a' ys.length cap']] w fun e w' => e = .returned (.int .i64 (wcmp na nb xs ys)) ∧ Below w.heap.size w w' := by
  have hx1 : ∀ o o', Sl .u32 ((w.alloc o).alloc o') (.slice a xs.length cap) xs := fun o o' => (hx.alloc o).alloc o'
  have hy1 : ∀ o o', Sl .u32 ((w.alloc o).alloc o') (.slice a' ys.length cap') ys := fun o o' => (hy.alloc o).alloc o'
  have HX := hid hx1; have HY := hid hy1
  clear hx1 hy1
  cases h1 : okB na xs
  · have HR := hid (wcmp_no1 (nb := nb) (ys := ys) h1)
    go_enter Tryz.func24, Tryz.ntmps24
    go_wp2_with fail
    refine (ok_impl na a cap xs _ (HX.out _ _) hl).mono ?_
    rintro e w1 ⟨rfl, hb1⟩
    go_wp2
    go_ret
    exact ⟨ret_int HR.out.symm, (by repeat (first | exact bz0 _ _ | refine bz1 ?_ | refine bz2 ?_ _ | refine bz3 ?_ _ | refine bz4 ?_ hb1 | refine bz5 ?_ _ | refine bz6 ?_ _ | refine bz7 ?_ hb1))⟩
  cases h2 : okB nb ys
  · have HR := hid (wcmp_no2 (na := na) (xs := xs) h2)
    go_enter Tryz.func24, Tryz.ntmps24
    go_wp2_with fail
    refine (ok_impl na a cap xs _ (HX.out _ _) hl).mono ?_
    rintro e w1 ⟨rfl, hb1⟩
    obtain ⟨x10, x11⟩ := ((Box.new w (.bool na) (.slice a xs.length cap) 32).alloc _).below hb1
    obtain ⟨y10, y11⟩ := (Box.new2 w _ (.bool nb) (.slice a' ys.length cap') 32).below hb1
    have HX1 := (HX.out _ _).below hb1; have HY1 := (HY.out _ _).below hb1
    go_wp2_with fail
    refine (ok_impl nb a' cap' ys _ HY1 hl').mono ?_
    rintro e w2 ⟨rfl, hb2⟩
    obtain ⟨x20, x21⟩ := Box.below ⟨x10, x11⟩ hb2
    obtain ⟨y20, y21⟩ := Box.below ⟨y10, y11⟩ hb2
    have HX2 := HX1.below hb2; have HY2 := HY1.below hb2
    go_wp2
    go_ret
    exact ⟨ret_int HR.out.symm, (by repeat (first | exact bz0 _ _ | refine bz1 ?_ | refine bz2 ?_ _ | refine bz3 ?_ _ | refine bz4 ?_ hb2 | refine bz4 ?_ hb1 | refine bz5 ?_ _ | refine bz6 ?_ _ | refine bz7 ?_ hb2 | refine bz7 ?_ hb1))⟩
  have HW := hid (wcmp_yes h1 h2)
  cases na <;> cases nb
  · have HR : Hid (wcmp false false xs ys = cmpL xs ys) := hid (by rw [HW.out]; rfl)
    go_enter Tryz.func24, Tryz.ntmps24
    go_wp2_with fail
    refine (ok_impl false a cap xs _ (HX.out _ _) hl).mono ?_
    rintro e w1 ⟨rfl, hb1⟩
    obtain ⟨x10, x11⟩ := ((Box.new w (.bool false) (.slice a xs.length cap) 32).alloc _).below hb1
    obtain ⟨y10, y11⟩ := (Box.new2 w _ (.bool false) (.slice a' ys.length cap') 32).below hb1
    have HX1 := (HX.out _ _).below hb1; have HY1 := (HY.out _ _).below hb1
    go_wp2_with fail
    refine (ok_impl false a' cap' ys _ HY1 hl').mono ?_
    rintro e w2 ⟨rfl, hb2⟩
    obtain ⟨x20, x21⟩ := Box.below ⟨x10, x11⟩ hb2
    obtain ⟨y20, y21⟩ := Box.below ⟨y10, y11⟩ hb2
    have HX2 := HX1.below hb2; have HY2 := HY1.below hb2
    go_wp2_with fail
    refine (cmpLimbs_any a a' cap cap' xs ys _ HX2 HY2 hl hl').mono ?_
    rintro e w3 ⟨rfl, hb3⟩
    go_wp2
    go_ret
    exact ⟨ret_int HR.out.symm, (by repeat (first | exact bz0 _ _ | refine bz1 ?_ | refine bz2 ?_ _ | refine bz3 ?_ _ | refine bz4 ?_ hb3 | refine bz4 ?_ hb2 | refine bz4 ?_ hb1 | refine bz5 ?_ _ | refine bz6 ?_ _ | refine bz7 ?_ hb3 | refine bz7 ?_ hb2 | refine bz7 ?_ hb1))⟩
  · have HR : Hid (wcmp false true xs ys = 1) := hid (by rw [HW.out]; rfl)
    go_enter Tryz.func24, Tryz.ntmps24
    go_wp2_with fail
    refine (ok_impl false a cap xs _ (HX.out _ _) hl).mono ?_
    rintro e w1 ⟨rfl, hb1⟩
    obtain ⟨x10, x11⟩ := ((Box.new w (.bool false) (.slice a xs.length cap) 32).alloc _).below hb1
    obtain ⟨y10, y11⟩ := (Box.new2 w _ (.bool true) (.slice a' ys.length cap') 32).below hb1
    have HX1 := (HX.out _ _).below hb1; have HY1 := (HY.out _ _).below hb1
    go_wp2_with fail
    refine (ok_impl true a' cap' ys _ HY1 hl').mono ?_
    rintro e w2 ⟨rfl, hb2⟩
    obtain ⟨x20, x21⟩ := Box.below ⟨x10, x11⟩ hb2
    obtain ⟨y20, y21⟩ := Box.below ⟨y10, y11⟩ hb2
    have HX2 := HX1.below hb2; have HY2 := HY1.below hb2
    go_wp2
    go_ret
    exact ⟨ret_int HR.out.symm, (by repeat (first | exact bz0 _ _ | refine bz1 ?_ | refine bz2 ?_ _ | refine bz3 ?_ _ | refine bz4 ?_ hb2 | refine bz4 ?_ hb1 | refine bz5 ?_ _ | refine bz6 ?_ _ | refine bz7 ?_ hb2 | refine bz7 ?_ hb1))⟩
  · have HR : Hid (wcmp true false xs ys = -1) := hid (by rw [HW.out]; rfl)
    go_enter Tryz.func24, Tryz.ntmps24
    go_wp2_with fail
    refine (ok_impl true a cap xs _ (HX.out _ _) hl).mono ?_
    rintro e w1 ⟨rfl, hb1⟩
    obtain ⟨x10, x11⟩ := ((Box.new w (.bool true) (.slice a xs.length cap) 32).alloc _).below hb1
    obtain ⟨y10, y11⟩ := (Box.new2 w _ (.bool false) (.slice a' ys.length cap') 32).below hb1
    have HX1 := (HX.out _ _).below hb1; have HY1 := (HY.out _ _).below hb1
    go_wp2_with fail
    refine (ok_impl false a' cap' ys _ HY1 hl').mono ?_
    rintro e w2 ⟨rfl, hb2⟩
    obtain ⟨x20, x21⟩ := Box.below ⟨x10, x11⟩ hb2
    obtain ⟨y20, y21⟩ := Box.below ⟨y10, y11⟩ hb2
    have HX2 := HX1.below hb2; have HY2 := HY1.below hb2
    go_wp2
    go_ret
    exact ⟨ret_int HR.out.symm, (by repeat (first | exact bz0 _ _ | refine bz1 ?_ | refine bz2 ?_ _ | refine bz3 ?_ _ | refine bz4 ?_ hb2 | refine bz4 ?_ hb1 | refine bz5 ?_ _ | refine bz6 ?_ _ | refine bz7 ?_ hb2 | refine bz7 ?_ hb1))⟩
  · have HR : Hid (wcmp true true xs ys = cmpL ys xs) := hid (by rw [HW.out]; rfl)
    go_enter Tryz.func24, Tryz.ntmps24
    go_wp2_with fail
    refine (ok_impl true a cap xs _ (HX.out _ _) hl).mono ?_
    rintro e w1 ⟨rfl, hb1⟩
    obtain ⟨x10, x11⟩ := ((Box.new w (.bool true) (.slice a xs.length cap) 32).alloc _).below hb1
    obtain ⟨y10, y11⟩ := (Box.new2 w _ (.bool true) (.slice a' ys.length cap') 32).below hb1
    have HX1 := (HX.out _ _).below hb1; have HY1 := (HY.out _ _).below hb1
    go_wp2_with fail
    refine (ok_impl true a' cap' ys _ HY1 hl').mono ?_
    rintro e w2 ⟨rfl, hb2⟩
    obtain ⟨x20, x21⟩ := Box.below ⟨x10, x11⟩ hb2
    obtain ⟨y20, y21⟩ := Box.below ⟨y10, y11⟩ hb2
    have HX2 := HX1.below hb2; have HY2 := HY1.below hb2
    go_wp2_with fail
    refine (cmpLimbs_any a' a cap' cap ys xs _ HY2 HX2 hl' hl).mono ?_
    rintro e w3 ⟨rfl, hb3⟩
    go_wp2
    go_ret
    exact ⟨ret_int HR.out.symm, (by repeat (first | exact bz0 _ _ | refine bz1 ?_ | refine bz2 ?_ _ | refine bz3 ?_ _ | refine bz4 ?_ hb3 | refine bz4 ?_ hb2 | refine bz4 ?_ hb1 | refine bz5 ?_ _ | refine bz6 ?_ _ | refine bz7 ?_ hb3 | refine bz7 ?_ hb2 | refine bz7 ?_ hb1))⟩

/-- How right wides compare. -/
def lcmp (na nb : Bool) (xs ys : List Int) : Int := if na && nb then cmpL ys xs else if na then -1 else if nb then 1 else cmpL xs ys
theorem l1Cmp_any (na nb : Bool) (a a' : Option Addr) (cap cap' : Nat) (xs ys : List Int) (w : World) (hx : Sl .u32 w (.slice a xs.length cap) xs) (hy : Sl .u32 w (.slice a' ys.length cap') ys) (hl : xs.length ≤ 140737488355328) (hl' : ys.length ≤ 140737488355328) :
    Calls Tryz.prog 85 #[.agg #[.bool na, .slice a xs.length cap], .agg #[.bool nb, .slice a' ys.length cap']] w fun e w' => e = .returned (.int .i64 (lcmp na nb xs ys)) ∧ Below w.heap.size w w' := by
  cases na <;> cases nb
  · have HR : Hid (lcmp false false xs ys = cmpL xs ys) := hid rfl
    go_enter Tryz.func85, Tryz.ntmps85
    go_wp2_with fail
    refine (mag_any a a' cap cap' xs ys _ ((hx.alloc _).alloc _) ((hy.alloc _).alloc _) hl hl').mono ?_
    rintro e w1 ⟨rfl, hb1⟩
    go_wp2
    go_ret
    exact ⟨ret_int HR.out.symm, (by repeat (first | exact bz0 _ _ | refine bz1 ?_ | refine bz2 ?_ _ | refine bz3 ?_ _ | refine bz4 ?_ hb1 | refine bz5 ?_ _ | refine bz6 ?_ _ | refine bz7 ?_ hb1))⟩
  · have HR : Hid (lcmp false true xs ys = 1) := hid rfl
    go_enter Tryz.func85, Tryz.ntmps85
    go_wp2
    go_ret
    exact ⟨ret_int HR.out.symm, (by repeat (first | exact bz0 _ _ | refine bz1 ?_ | refine bz2 ?_ _ | refine bz3 ?_ _ | refine bz5 ?_ _ | refine bz6 ?_ _))⟩
  · have HR : Hid (lcmp true false xs ys = -1) := hid rfl
    go_enter Tryz.func85, Tryz.ntmps85
    go_wp2
    go_ret
    exact ⟨ret_int HR.out.symm, (by repeat (first | exact bz0 _ _ | refine bz1 ?_ | refine bz2 ?_ _ | refine bz3 ?_ _ | refine bz5 ?_ _ | refine bz6 ?_ _))⟩
  · have HR : Hid (lcmp true true xs ys = cmpL ys xs) := hid rfl
    go_enter Tryz.func85, Tryz.ntmps85
    go_wp2_with fail
    refine (mag_any a' a cap' cap ys xs _ ((hy.alloc _).alloc _) ((hx.alloc _).alloc _) hl' hl).mono ?_
    rintro e w1 ⟨rfl, hb1⟩
    go_wp2
    go_ret
    exact ⟨ret_int HR.out.symm, (by repeat (first | exact bz0 _ _ | refine bz1 ?_ | refine bz2 ?_ _ | refine bz3 ?_ _ | refine bz4 ?_ hb1 | refine bz5 ?_ _ | refine bz6 ?_ _ | refine bz7 ?_ hb1))⟩

end Go.Proofs.YtkfjmcdniohljaaGreatDoor
