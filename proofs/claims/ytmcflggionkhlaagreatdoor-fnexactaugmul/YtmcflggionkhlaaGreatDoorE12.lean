/-
  What is needed of ModeA, WideF, LawsC, WideG, NumsE, NumsF, WideC, WideK.
-/
import Derived.Deep.AppendLies
import Derived.Laws.MathBits
import Derived.Deep.RegionWith
import Derived.Deep.DeepCutAuto
import Derived.Deep.RegionHeldLaw
import Derived.Deep.DrawnRows
import Derived.Test.YtmcflggionkhlaaGreatDoorE04
import Derived.Test.YtmcflggionkhlaaGreatDoorE05
import Derived.Test.YtmcflggionkhlaaGreatDoorE08
set_option maxHeartbeats 16000000
set_option maxRecDepth 1000000
namespace Go.Proofs.YtmcflggionkhlaaGreatDoor
set_option linter.unusedVariables false
set_option linter.unusedSimpArgs false
open Go.RowKit
/-- Whether a number is a mode. -/
def modeB (m : Int) : Bool := decide (0 ≤ m) && decide (m ≤ 5)
/-- Whether a number lies between two. -/
def inB (n lo hi : Int) : Bool := decide (lo ≤ n) && decide (n ≤ hi)
theorem in_spec (n lo hi : Int) (w : World) :
    Calls Tryz.prog 179 #[.int .i64 n, .int .i64 lo, .int .i64 hi] w fun e w' => e = .returned (.bool (inB n lo hi)) ∧ w' = w := by
  by_cases h1 : lo ≤ n
  · by_cases h2 : n ≤ hi
    · have HR : Hid (inB n lo hi = true) := hid (by simp [inB, h1, h2])
      go_enter Tryz.func179, Tryz.ntmps179
      go_wp2
      go_ret
      exact ⟨ret_bool HR.out.symm, rfl⟩
    · have HR : Hid (inB n lo hi = false) := hid (by simp [inB, h1, h2])
      go_enter Tryz.func179, Tryz.ntmps179
      go_wp2
      go_ret
      exact ⟨ret_bool HR.out.symm, rfl⟩
  · have HR : Hid (inB n lo hi = false) := hid (by simp [inB, h1])
    go_enter Tryz.func179, Tryz.ntmps179
    go_wp2
    go_ret
    exact ⟨ret_bool HR.out.symm, rfl⟩
theorem mode_spec (m : Int) (w : World) :
    Calls Tryz.prog 142 #[.int .i64 m] w fun e w' => e = .returned (.bool (modeB m)) ∧ w' = w := by
  go_enter Tryz.func142, Tryz.ntmps142
  go_wp2_with fail
  refine (in_spec m 0 5 _).mono ?_
  rintro e w1 ⟨rfl, rfl⟩
  go_wp2
  go_ret
  exact ⟨rfl, rfl⟩
theorem mode_impl (m : Int) (w : World) :
    Calls Tryz.prog 157 #[.int .i64 m] w fun e w' => e = .returned (.bool (modeB m)) ∧ w' = w := by
  by_cases h1 : 0 ≤ m
  · by_cases h2 : m ≤ 5
    · have HR : Hid (modeB m = true) := hid (by simp [modeB, h1, h2])
      go_enter Tryz.func157, Tryz.ntmps157
      go_wp2
      go_ret
      exact ⟨ret_bool HR.out.symm, rfl⟩
    · have HR : Hid (modeB m = false) := hid (by simp [modeB, h1, h2])
      go_enter Tryz.func157, Tryz.ntmps157
      go_wp2
      go_ret
      exact ⟨ret_bool HR.out.symm, rfl⟩
  · have HR : Hid (modeB m = false) := hid (by simp [modeB, h1])
    go_enter Tryz.func157, Tryz.ntmps157
    go_wp2
    go_ret
    exact ⟨ret_bool HR.out.symm, rfl⟩
end Go.Proofs.YtmcflggionkhlaaGreatDoor
namespace Go.Proofs.YtmcflggionkhlaaGreatDoor
set_option linter.unusedVariables false
set_option linter.unusedSimpArgs false
open Go.RowKit Go.Deep
theorem wrap_small (t : Int) (h0 : 0 ≤ t) (h1 : t ≤ 1000) : wrap64 t = t := IntWalk.wrap64_in t ⟨by omega, by omega⟩
theorem bitLen_div (x : Int) (k : Nat) (h0 : 0 ≤ x) (hx : x / (2 ^ k : Nat) ≠ 0) : bitLen x.toNat = k + bitLen (x / (2 ^ k : Nat)).toNat := by
  obtain ⟨n, rfl⟩ := Int.eq_ofNat_of_zero_le h0
  have e : (((n : Int) / (2 ^ k : Nat)).toNat) = n / 2 ^ k := by rw [← Int.natCast_ediv]; exact Int.toNat_natCast _
  rw [e]
  simp only [Int.toNat_natCast]
  apply bitLen_shift
  intro h
  apply hx
  rw [← Int.natCast_ediv, h]; rfl
theorem wrap_two (c t : Int) (h0 : 0 ≤ c) (h1 : c ≤ 100) (t0 : 0 ≤ t) (t1 : t ≤ 8) : wrap64 (c + wrap64 t) = c + t := by rw [wrap_small t t0 (by omega), wrap_small _ (by omega) (by omega)]
theorem bl_le (i : Nat) (h : i < 256) : (bitLen i : Int) ≤ 8 := by have := bitLen_le8 i h; omega

theorem len32_any (x : Int) (w : World) (h0 : 0 ≤ x) (h1 : x < 4294967296) :
    Calls Tryz.prog 206 #[.int .u32 x] w fun e w' => e = .returned (.int .i64 (bitLen x.toNat)) ∧ w' = w := by
  by_cases c2 : 65536 ≤ x
  · by_cases c1 : 256 ≤ x / 65536
    · have HB : Hid ((bitLen x.toNat : Int) = 24 + bitLen (x / 65536 / 256).toNat) := hid (by
        have h := bitLen_div x 24 h0 (by simp; omega)
        rw [h, show (x / ((2 ^ 24 : Nat) : Int)) = x / 65536 / 256 by first | (simp; done) | (simp; omega)]; simp)
      have HL := hid (bl_le (x / 65536 / 256).toNat (by omega))
      go_enter Tryz.func206, Tryz.ntmps206
      go_wp2
      go_ret
      refine ⟨ret_int ?_, rfl⟩
      simp only [len8tab_get]
      rw [wrap_two _ _ (by decide) (by decide) (by omega) HL.out, HB.out]
    · have HB : Hid ((bitLen x.toNat : Int) = 16 + bitLen (x / 65536).toNat) := hid (by
        have h := bitLen_div x 16 h0 (by simp; omega)
        rw [h, show (x / ((2 ^ 16 : Nat) : Int)) = x / 65536 by first | (simp; done) | (simp; omega)]; simp)
      have HL := hid (bl_le (x / 65536).toNat (by omega))
      go_enter Tryz.func206, Tryz.ntmps206
      go_wp2
      go_ret
      refine ⟨ret_int ?_, rfl⟩
      simp only [len8tab_get]
      rw [wrap_two _ _ (by decide) (by decide) (by omega) HL.out, HB.out]
  · by_cases c1 : 256 ≤ x
    · have HB : Hid ((bitLen x.toNat : Int) = 8 + bitLen (x / 256).toNat) := hid (by
        have h := bitLen_div x 8 h0 (by simp; omega)
        rw [h, show (x / ((2 ^ 8 : Nat) : Int)) = x / 256 by first | (simp; done) | (simp; omega)]; simp)
      have HL := hid (bl_le (x / 256).toNat (by omega))
      go_enter Tryz.func206, Tryz.ntmps206
      go_wp2
      go_ret
      refine ⟨ret_int ?_, rfl⟩
      simp only [len8tab_get]
      rw [wrap_two _ _ (by decide) (by decide) (by omega) HL.out, HB.out]
    · have HL := hid (bl_le x.toNat (by omega))
      go_enter Tryz.func206, Tryz.ntmps206
      go_wp2
      go_ret
      refine ⟨ret_int ?_, rfl⟩
      simp only [len8tab_get]
      have h8 := HL.out
      rw [wrap_small (wrap64 _) (by rw [wrap_small _ (by omega) (by omega)]; omega) (by rw [wrap_small _ (by omega) (by omega)]; omega), wrap_small _ (by omega) (by omega)]
/-- Where a slice's row lies, if there is one: told by its first cell's block. -/
theorem Own.at {w : World} {B : Nat} {a : Option Addr} {cap : Nat} {zs : List Int} (h : Own w B a cap zs) (n c : Nat) : ∀ g, (Value.slice a n c).ownBlock = some g → B ≤ g ∧ g < w.heap.size := by
  intro g hg
  rcases h.block with ⟨rfl, _, _⟩ | ⟨g', rfl, h1, h2⟩
  · simp [Value.ownBlock] at hg
  · simp [Value.ownBlock] at hg; subst hg; exact ⟨h1, h2⟩
theorem Box.grown {w w' : World} {b : Nat} {v0 v1 : Value} {row : Option Nat} (h : Box w b v0 v1) (hg : w.grownBy w' row) (hne : ∀ g, row = some g → b ≠ g) : Box w' b v0 v1 := by
  have hlt := World.block_lt_of_cell? w _ h.1
  have e := hg.block b hlt (by
    cases row with
    | none => simp
    | some g => simpa using hne g rfl)
  exact ⟨(World.cell?_of_block (a := ⟨b, 0, none⟩) e).trans h.1, (World.cell?_of_block (a := ⟨b, 1, none⟩) e).trans h.2⟩
theorem Sl.grown {k : IntKind} {w w' : World} {v : Value} {zs : List Int} {row : Option Nat} (h : Sl k w v zs) (hg : w.grownBy w' row) (hne : ∀ g, row = some g → w.heap.size ≤ g ∨ ∀ b off n cap, v = .slice (some ⟨b, off, none⟩) n cap → b ≠ g) : Sl k w' v zs := by
  obtain ⟨a, cap, rfl, h1, h2, h3⟩ := h
  refine ⟨a, cap, rfl, h1, h2, ?_⟩
  rcases h3 with h3 | ⟨b, off, rfl, hc⟩
  · exact .inl h3
  · refine .inr ⟨b, off, rfl, fun i hi => ?_⟩
    have hci := hc i hi
    have hlt := World.block_lt_of_cell? w _ hci
    have e := hg.block b hlt (by
      cases row with
      | none => simp
      | some g =>
        rcases hne g rfl with h | h
        · simp at hlt ⊢; omega
        · simpa using h b off _ _ rfl)
    exact (World.cell?_of_block (a := ⟨b, off + i, none⟩) e).trans hci
/-- How many bits limbs are written with. -/
def blL (zs : List Int) : Int := if zs.length = 0 then 0 else 32 * ((zs.length : Int) - 1) + bitLen (zs.getD (zs.length - 1) 0).toNat
def blW (ng : Bool) (zs : List Int) : Int := if okB ng zs then blL zs else -1
theorem bitLen_le32 (z : Int) (h0 : 0 ≤ z) (h1 : z < 4294967296) : (bitLen z.toNat : Int) ≤ 32 := by
  have h := bitLen_spec z.toNat
  unfold bitLen
  split
  · omega
  · rename_i hz
    have := (Nat.log2_lt hz).2 (show z.toNat < 2 ^ 32 by omega)
    omega

theorem bl_impl (ng : Bool) (a : Option Addr) (cap : Nat) (zs : List Int) (w : World) (hs : Sl .u32 w (.slice a zs.length cap) zs) (hz : Nm.Dg zs) (hl : zs.length ≤ 1048576) :
    Calls Tryz.prog 174 #[.agg #[.bool ng, .slice a zs.length cap]] w fun e w' => e = .returned (.int .i64 (blW ng zs)) ∧ Below w.heap.size w w' := by
  have hl' : zs.length ≤ 140737488355328 := by omega
  cases h1 : okB ng zs
  · have HR : Hid (blW ng zs = -1) := hid (by unfold blW; rw [h1]; rfl)
    go_enter Tryz.func174, Tryz.ntmps174
    go_wp2_with fail
    refine (ok_impl ng a cap zs _ (hs.alloc _) hl').mono ?_
    rintro e w1 ⟨rfl, hb1⟩
    go_wp2
    go_ret
    exact ⟨ret_int HR.out.symm, (by repeat (first | exact bz0 _ _ | refine bz1 ?_ | refine bz2 ?_ _ | refine bz3 ?_ _ | refine bz4 ?_ hb1 | refine bz5 ?_ _ | refine bz6 ?_ _ | refine bz7 ?_ hb1))⟩
  have HW : Hid (blW ng zs = blL zs) := hid (by unfold blW; rw [h1]; rfl)
  by_cases h0 : zs.length = 0
  · have HR : Hid (blW ng zs = 0) := hid (by rw [HW.out]; unfold blL; rw [if_pos h0])
    have hb0 : ((zs.length : Int) == 0) = true := by rw [beq_iff_eq]; omega
    clear h0
    go_enter Tryz.func174, Tryz.ntmps174
    go_wp2_with fail
    refine (ok_impl ng a cap zs _ (hs.alloc _) hl').mono ?_
    rintro e w1 ⟨rfl, hb1⟩
    obtain ⟨x10, x11⟩ := (Box.new w (.bool ng) (.slice a zs.length cap) 31).below hb1
    go_wp2
    go_ret
    exact ⟨ret_int HR.out.symm, (by repeat (first | exact bz0 _ _ | refine bz1 ?_ | refine bz2 ?_ _ | refine bz3 ?_ _ | refine bz4 ?_ hb1 | refine bz5 ?_ _ | refine bz6 ?_ _ | refine bz7 ?_ hb1))⟩
  · have hb0 : ((zs.length : Int) == 0) = false := by rw [beq_eq_false_iff_ne]; omega
    obtain ⟨z, hzk⟩ : ∃ z, z = zs.getD (zs.length - 1) 0 := ⟨_, rfl⟩
    have HR : Hid (blW ng zs = 32 * ((zs.length : Int) - 1) + bitLen z.toNat) := hid (by rw [HW.out]; unfold blL; rw [if_neg h0, hzk])
    have hd := hz.getD (zs.length - 1)
    have hb32 := bitLen_le32 z (by rw [hzk]; exact hd.1) (by rw [hzk]; exact hd.2)
    rw [← hzk] at hd
    have HZ := hid hzk
    clear hzk
    go_enter Tryz.func174, Tryz.ntmps174
    go_wp2_with fail
    refine (ok_impl ng a cap zs _ (hs.alloc _) hl').mono ?_
    rintro e w1 ⟨rfl, hb1⟩
    obtain ⟨x10, x11⟩ := (Box.new w (.bool ng) (.slice a zs.length cap) 31).below hb1
    have s1 := (hs.alloc _).below hb1
    obtain ⟨-, _, _, hc3⟩ := s1.cells
    obtain ⟨b, off, rfl, hcell⟩ := hc3 (by omega)
    have hc := hcell (zs.length - 1) (by omega)
    rw [← HZ.out] at hc
    clear hcell hc3
    go_wp2_with fail
    refine (len32_any z _ hd.1 hd.2).mono ?_
    rintro e w2 ⟨rfl, rfl⟩
    go_wp2
    go_ret
    exact ⟨ret_int HR.out.symm, (by repeat (first | exact bz0 _ _ | refine bz1 ?_ | refine bz2 ?_ _ | refine bz3 ?_ _ | refine bz4 ?_ hb1 | refine bz5 ?_ _ | refine bz6 ?_ _ | refine bz7 ?_ hb1))⟩

theorem bl_half (z : Int) (h0 : 0 < z) : bitLen z.toNat = 1 + bitLen (z / 2).toNat := by
  by_cases h1 : z = 1
  · subst h1; decide
  · have := bitLen_div z 1 (by omega) (by simp; omega)
    simpa using this

theorem l1Bits_any (ng : Bool) (a : Option Addr) (cap : Nat) (zs : List Int) (w : World) (hs : Sl .u32 w (.slice a zs.length cap) zs) (hz : Nm.Dg zs) (hl : zs.length ≤ 1048576) :
    Calls Tryz.prog 171 #[.agg #[.bool ng, .slice a zs.length cap]] w fun e w' => e = .returned (.int .i64 (blL zs)) ∧ Below w.heap.size w w' := by
  by_cases h0 : zs.length = 0
  · have HR : Hid (blL zs = 0) := hid (by unfold blL; rw [if_pos h0])
    have hb0 : ((zs.length : Int) == 0) = true := by rw [beq_iff_eq]; omega
    clear h0
    go_enter Tryz.func171, Tryz.ntmps171
    go_wp2
    go_ret
    exact ⟨ret_int HR.out.symm, (by repeat (first | exact bz0 _ _ | refine bz1 ?_ | refine bz2 ?_ _ | refine bz3 ?_ _ | refine bz5 ?_ _ | refine bz6 ?_ _))⟩
  · have hb0 : ((zs.length : Int) == 0) = false := by rw [beq_eq_false_iff_ne]; omega
    obtain ⟨z, hzk⟩ : ∃ z, z = zs.getD (zs.length - 1) 0 := ⟨_, rfl⟩
    have HR : Hid (blL zs = 32 * ((zs.length : Int) - 1) + bitLen z.toNat) := hid (by unfold blL; rw [if_neg h0, hzk])
    have hd := hz.getD (zs.length - 1)
    have hb32 := bitLen_le32 z (by rw [hzk]; exact hd.1) (by rw [hzk]; exact hd.2)
    rw [← hzk] at hd
    obtain ⟨hd0, hd1⟩ := hd
    have hs' := hs.alloc (.cells #[.bool ng, .slice a zs.length cap] 31)
    obtain ⟨-, _, _, hc3⟩ := hs.cells
    obtain ⟨b, off, rfl, hcell⟩ := hc3 (by omega)
    have hc := hcell (zs.length - 1) (by omega)
    have hlt := World.block_lt_of_cell? w _ hc
    rw [← hzk] at hc
    have HB := hid hb32
    clear hzk hcell hc3 hs' hb32
    go_enter Tryz.func171, Tryz.ntmps171
    go_wp2_with fail
    go_loop [4, 5] (fun k x => ∃ kk q : Int, k = .int .i64 kk ∧ x = .int .u32 q ∧ 0 ≤ q ∧ q < 4294967296 ∧ 0 ≤ kk ∧ kk + bitLen q.toNat = 32 * ((zs.length : Int) - 1) + bitLen z.toNat) (fun _ x => (intOf x).toNat)
    case atStart => exact ⟨_, z, rfl, rfl, hd0, hd1, by omega, rfl⟩
    case round =>
      obtain ⟨kk, q, rfl, rfl, hq0, hq1, hk0, hrel⟩ := hrel
      have hkb : kk ≤ 33554464 := by have := HB.out; omega
      have REL := hid hrel
      clear hrel
      by_cases hq : 0 < q
      · have HH := hid (bl_half q hq)
        go_wp2
        go_round
        case rel => exact ⟨kk + 1, q / 2, rfl, rfl, by omega, by omega, by omega, by have := REL.out; have h2 := HH.out; omega⟩
        case measure => simp [intOf]; omega
      · have hq' : q = 0 := by omega
        have HF : Hid (blL zs = kk) := hid (by rw [HR.out]; have h := REL.out; rw [hq', show bitLen (0 : Int).toNat = 0 by decide] at h; omega)
        clear hq'
        go_wp2
        go_ret
        exact ⟨ret_int HF.out.symm, (by repeat (first | exact bz0 _ _ | refine bz1 ?_ | refine bz2 ?_ _ | refine bz3 ?_ _ | refine bz5 ?_ _ | refine bz6 ?_ _))⟩

end Go.Proofs.YtmcflggionkhlaaGreatDoor
namespace Go.Proofs.YtmcflggionkhlaaGreatDoor
set_option linter.unusedVariables false
namespace Nm
/-- Compared from the top down. -/
def cmpF (xs ys : List Int) : Nat → Int
  | 0 => 0
  | n + 1 => if xs.getD n 0 < ys.getD n 0 then -1 else if ys.getD n 0 < xs.getD n 0 then 1 else cmpF xs ys n
def cmpB (xs ys : List Int) : Int := if xs.length < ys.length then -1 else if ys.length < xs.length then 1 else cmpF xs ys xs.length
theorem val_take_lt {xs : List Int} (d : Dg xs) (n : Nat) : 0 ≤ val (xs.take n) ∧ val (xs.take n) < pw n := by
  refine ⟨val_nonneg (d.take n), ?_⟩
  have h1 := val_lt (d.take n)
  have h2 := pw_mono (show (xs.take n).length ≤ n by simp; omega)
  omega
theorem mul_step {p u v : Int} (hp : 1 ≤ p) (h : u < v) : p * u + p ≤ p * v := by
  have : p * (u + 1) ≤ p * v := Int.mul_le_mul_of_nonneg_left (by omega) (by omega)
  rw [Int.mul_add] at this; omega
theorem cmpF_val {xs ys : List Int} (dx : Dg xs) (dy : Dg ys) (n : Nat) : (cmpF xs ys n < 0 ↔ val (xs.take n) < val (ys.take n)) ∧ (0 < cmpF xs ys n ↔ val (ys.take n) < val (xs.take n)) := by
  induction n with
  | zero => simp [cmpF]
  | succ n ih =>
    rw [val_take_succ, val_take_succ]
    have h1 := val_take_lt dx n
    have h2 := val_take_lt dy n
    have hp := pw_pos n
    simp only [cmpF]
    by_cases c1 : xs.getD n 0 < ys.getD n 0
    · have := mul_step hp c1
      rw [if_pos c1]; constructor <;> constructor <;> intro _ <;> omega
    · rw [if_neg c1]
      by_cases c2 : ys.getD n 0 < xs.getD n 0
      · have := mul_step hp c2
        rw [if_pos c2]; constructor <;> constructor <;> intro _ <;> omega
      · rw [if_neg c2, show xs.getD n 0 = ys.getD n 0 by omega]
        constructor
        · rw [ih.1]; omega
        · rw [ih.2]; omega
theorem val_len_lt {xs ys : List Int} (dx : Dg xs) (dy : Dg ys) (ny : Nz ys) (h : xs.length < ys.length) : val xs < val ys := by
  have h1 := val_lt dx
  have h2 : ¬ val ys < pw xs.length := fun h' => by have := (length_le_iff dy ny xs.length).2 h'; omega
  omega
theorem cmpB_val {xs ys : List Int} (dx : Dg xs) (dy : Dg ys) (nx : Nz xs) (ny : Nz ys) : (cmpB xs ys < 0 ↔ val xs < val ys) ∧ (0 < cmpB xs ys ↔ val ys < val xs) := by
  unfold cmpB
  by_cases c1 : xs.length < ys.length
  · have := val_len_lt dx dy ny c1
    rw [if_pos c1]; constructor <;> constructor <;> intro _ <;> omega
  · rw [if_neg c1]
    by_cases c2 : ys.length < xs.length
    · have := val_len_lt dy dx nx c2
      rw [if_pos c2]; constructor <;> constructor <;> intro _ <;> omega
    · rw [if_neg c2]
      have h := cmpF_val dx dy xs.length
      rwa [List.take_of_length_le (Nat.le_refl _), List.take_of_length_le (l := ys) (by omega)] at h
theorem len_le_of_val {xs ys : List Int} (dx : Dg xs) (dy : Dg ys) (ny : Nz ys) (h : val ys ≤ val xs) : ys.length ≤ xs.length := by
  have := val_lt dx
  exact (length_le_iff dy ny xs.length).2 (by omega)
/-- The sum of two wides, with one sign or with two. -/
theorem wv_same {n : Bool} {xs ys os : List Int} (h : val os = val xs + val ys) : wv n xs + wv n ys = wv n os := by
  unfold wv; cases n <;> simp <;> omega
theorem wv_less {n m : Bool} {xs ys os : List Int} (hn : (n == m) = false) (h : val os = val xs - val ys) : wv n xs + wv m ys = wv n os := by
  unfold wv; cases n <;> cases m <;> simp at hn ⊢ <;> omega
theorem wv_less' {n m : Bool} {xs ys os : List Int} (hn : (n == m) = false) (h : val os = val ys - val xs) : wv n xs + wv m ys = wv m os := by
  unfold wv; cases n <;> cases m <;> simp at hn ⊢ <;> omega
/-- m times 2 to the n, cut. (m is not below 0.) -/
def shM (m n : Int) : Int := if n < 0 then m / (2 : Int) ^ (-n).toNat else m * (2 : Int) ^ n.toNat
/-- A wide's value shifted: towards 0. -/
def shV (ng : Bool) (m n : Int) : Int := if ng then - shM m n else shM m n
theorem pw_pow (n : Nat) : pw n = (2 : Int) ^ (32 * n) := by rw [pw_two]; simp
theorem shM_up {m n : Int} {wh r : Nat} (h0 : 0 ≤ n) (hq : n / 32 = (wh : Int)) (hm : n % 32 = (r : Int)) : pw wh * ((2 : Int) ^ r * m) = shM m n := by
  unfold shM
  rw [if_neg (by omega), pw_pow, show n.toNat = 32 * wh + r by omega, Int.pow_add, Int.mul_comm m, Int.mul_assoc]
theorem shM_down {m n : Int} {wh r : Nat} (h0 : n < 0) (hq : -n / 32 = (wh : Int)) (hm : -n % 32 = (r : Int)) : m / pw wh / (2 : Int) ^ r = shM m n := by
  unfold shM
  have hp := pw_pos wh
  rw [if_pos h0, show (-n).toNat = 32 * wh + r by omega, Int.pow_add, ← pw_pow, Int.ediv_ediv_of_nonneg (by omega)]
theorem shV_wv {ng : Bool} {m n : Int} {os : List Int} (h : val os = shM m n) : shV ng m n = wv ng os := by unfold shV wv; rw [h]
end Nm
set_option linter.unusedSimpArgs false
open Go.RowKit Go.Deep
theorem cmpL_rng (xs ys : List Int) : -1 ≤ cmpL xs ys ∧ cmpL xs ys ≤ 1 := by
  have := cmpFrom_rng xs ys xs.length
  unfold cmpL
  split
  · omega
  · split <;> omega

/-- How right wides compare. -/
def lcmp (na nb : Bool) (xs ys : List Int) : Int := if na && nb then cmpL ys xs else if na then -1 else if nb then 1 else cmpL xs ys
theorem l1Cmp_any (na nb : Bool) (a a' : Option Addr) (cap cap' : Nat) (xs ys : List Int) (w : World) (hx : Sl .u32 w (.slice a xs.length cap) xs) (hy : Sl .u32 w (.slice a' ys.length cap') ys) (hl : xs.length ≤ 140737488355328) (hl' : ys.length ≤ 140737488355328) :
    Calls Tryz.prog 118 #[.agg #[.bool na, .slice a xs.length cap], .agg #[.bool nb, .slice a' ys.length cap']] w fun e w' => e = .returned (.int .i64 (lcmp na nb xs ys)) ∧ Below w.heap.size w w' := by
  cases na <;> cases nb
  · have HR : Hid (lcmp false false xs ys = cmpL xs ys) := hid rfl
    go_enter Tryz.func118, Tryz.ntmps118
    go_wp2_with fail
    refine (mag_any a a' cap cap' xs ys _ ((hx.alloc _).alloc _) ((hy.alloc _).alloc _) hl hl').mono ?_
    rintro e w1 ⟨rfl, hb1⟩
    go_wp2
    go_ret
    exact ⟨ret_int HR.out.symm, (by repeat (first | exact bz0 _ _ | refine bz1 ?_ | refine bz2 ?_ _ | refine bz3 ?_ _ | refine bz4 ?_ hb1 | refine bz5 ?_ _ | refine bz6 ?_ _ | refine bz7 ?_ hb1))⟩
  · have HR : Hid (lcmp false true xs ys = 1) := hid rfl
    go_enter Tryz.func118, Tryz.ntmps118
    go_wp2
    go_ret
    exact ⟨ret_int HR.out.symm, (by repeat (first | exact bz0 _ _ | refine bz1 ?_ | refine bz2 ?_ _ | refine bz3 ?_ _ | refine bz5 ?_ _ | refine bz6 ?_ _))⟩
  · have HR : Hid (lcmp true false xs ys = -1) := hid rfl
    go_enter Tryz.func118, Tryz.ntmps118
    go_wp2
    go_ret
    exact ⟨ret_int HR.out.symm, (by repeat (first | exact bz0 _ _ | refine bz1 ?_ | refine bz2 ?_ _ | refine bz3 ?_ _ | refine bz5 ?_ _ | refine bz6 ?_ _))⟩
  · have HR : Hid (lcmp true true xs ys = cmpL ys xs) := hid rfl
    go_enter Tryz.func118, Tryz.ntmps118
    go_wp2_with fail
    refine (mag_any a' a cap' cap ys xs _ ((hy.alloc _).alloc _) ((hx.alloc _).alloc _) hl' hl).mono ?_
    rintro e w1 ⟨rfl, hb1⟩
    go_wp2
    go_ret
    exact ⟨ret_int HR.out.symm, (by repeat (first | exact bz0 _ _ | refine bz1 ?_ | refine bz2 ?_ _ | refine bz3 ?_ _ | refine bz4 ?_ hb1 | refine bz5 ?_ _ | refine bz6 ?_ _ | refine bz7 ?_ hb1))⟩

/-- A right wide's limbs end in no nought. -/
theorem okB_nz {ng : Bool} {zs : List Int} (h : okB ng zs = true) : Nm.Nz zs ∧ zs.length ≤ 200 := by
  unfold okB at h
  split at h
  · rename_i h0
    have : zs = [] := List.eq_nil_of_length_eq_zero h0
    subst this; exact ⟨Nm.Nz.nil, by simp⟩
  · rename_i h0
    simp at h
    refine ⟨fun z hz => ?_, h.1⟩
    have h2 := h.2
    rw [List.getLast?_eq_getElem?] at hz
    rw [hz] at h2
    simpa using h2
end Go.Proofs.YtmcflggionkhlaaGreatDoor
