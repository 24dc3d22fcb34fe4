/-
  What is needed of Cmp, WideF, LawsC, WideG, AccA.
-/
import Derived.Laws.MathBits
import Derived.Test.YtkfjmcdniohljaaGreatDoorF01
import Derived.Test.YtkfjmcdniohljaaGreatDoorF02
set_option maxHeartbeats 16000000
set_option maxRecDepth 1000000
namespace Go.Proofs.YtkfjmcdniohljaaGreatDoor
set_option linter.unusedVariables false
set_option linter.unusedSimpArgs false
open Go.RowKit
def cmpI (x y : Int) : Int := if x < y then -1 else if y < x then 1 else 0
theorem compare_int (x y : Int) (w : World) :
  Calls Tryz.prog 195 #[.int .i64 x, .int .i64 y] w fun e w' => e = .returned (.int .i64 (cmpI x y)) ∧ Below w.heap.size w w' := by
 have ex : (x != x) = false := by simp
 have ey : (y != y) = false := by simp
 by_cases h1 : x < y
 ·have HR : Hid (cmpI x y = -1) := hid (by unfold cmpI; rw [if_pos h1])
  go_enter Tryz.func195, Tryz.ntmps195
  go_wp2
  go_ret
  exact ⟨ret_int HR.out.symm, (by repeat (first | exact bz0 _ _ | refine bz1 ?_ | refine bz2 ?_ _ | refine bz3 ?_ _ | refine bz5 ?_ _ | refine bz6 ?_ _))⟩
 by_cases h2 : y < x
 ·have HR : Hid (cmpI x y = 1) := hid (by unfold cmpI; rw [if_neg h1, if_pos h2])
  go_enter Tryz.func195, Tryz.ntmps195
  go_wp2
  go_ret
  exact ⟨ret_int HR.out.symm, (by repeat (first | exact bz0 _ _ | refine bz1 ?_ | refine bz2 ?_ _ | refine bz3 ?_ _ | refine bz5 ?_ _ | refine bz6 ?_ _))⟩
 ·have HR : Hid (cmpI x y = 0) := hid (by unfold cmpI; rw [if_neg h1, if_neg h2])
  go_enter Tryz.func195, Tryz.ntmps195
  go_wp2
  go_ret
  exact ⟨ret_int HR.out.symm, (by repeat (first | exact bz0 _ _ | refine bz1 ?_ | refine bz2 ?_ _ | refine bz3 ?_ _ | refine bz5 ?_ _ | refine bz6 ?_ _))⟩
theorem compare_uint32 (x y : Int) (w : World) :
  Calls Tryz.prog 196 #[.int .u32 x, .int .u32 y] w fun e w' => e = .returned (.int .i64 (cmpI x y)) ∧ Below w.heap.size w w' := by
 have ex : (x != x) = false := by simp
 have ey : (y != y) = false := by simp
 by_cases h1 : x < y
 ·have HR : Hid (cmpI x y = -1) := hid (by unfold cmpI; rw [if_pos h1])
  go_enter Tryz.func196, Tryz.ntmps196
  go_wp2
  go_ret
  exact ⟨ret_int HR.out.symm, (by repeat (first | exact bz0 _ _ | refine bz1 ?_ | refine bz2 ?_ _ | refine bz3 ?_ _ | refine bz5 ?_ _ | refine bz6 ?_ _))⟩
 by_cases h2 : y < x
 ·have HR : Hid (cmpI x y = 1) := hid (by unfold cmpI; rw [if_neg h1, if_pos h2])
  go_enter Tryz.func196, Tryz.ntmps196
  go_wp2
  go_ret
  exact ⟨ret_int HR.out.symm, (by repeat (first | exact bz0 _ _ | refine bz1 ?_ | refine bz2 ?_ _ | refine bz3 ?_ _ | refine bz5 ?_ _ | refine bz6 ?_ _))⟩
 ·have HR : Hid (cmpI x y = 0) := hid (by unfold cmpI; rw [if_neg h1, if_neg h2])
  go_enter Tryz.func196, Tryz.ntmps196
  go_wp2
  go_ret
  exact ⟨ret_int HR.out.symm, (by repeat (first | exact bz0 _ _ | refine bz1 ?_ | refine bz2 ?_ _ | refine bz3 ?_ _ | refine bz5 ?_ _ | refine bz6 ?_ _))⟩
theorem cmpI_rng (x y : Int) : -1 ≤ cmpI x y ∧ cmpI x y ≤ 1 := by unfold cmpI; repeat' split <;> omega

end Go.Proofs.YtkfjmcdniohljaaGreatDoor
namespace Go.Proofs.YtkfjmcdniohljaaGreatDoor
set_option linter.unusedVariables false
set_option linter.unusedSimpArgs false
open Go.RowKit Go.Deep
theorem wrap_small (t : Int) (h0 : 0 ≤ t) (h1 : t ≤ 1000) : wrap64 t = t := IntWalk.wrap64_in t ⟨by omega, by omega⟩
theorem bitLen_div (x : Int) (k : Nat) (h0 : 0 ≤ x) (hx : x / (2 ^ k : Nat) ≠ 0) : bitLen x.toNat = k + bitLen (x / (2 ^ k : Nat)).toNat := by
 obtain ⟨n, rfl⟩ := Int.eq_ofNat_of_zero_le h0
 have e : (((n : Int) / (2 ^ k : Nat)).toNat) = n / 2 ^ k := by rw [← Int.natCast_ediv]; exact Int.toNat_natCast _
 rw [e]
 simp only [Int.toNat_natCast]
 apply bitLen_shift
 intro h
 apply hx
 rw [← Int.natCast_ediv, h]; rfl
theorem wrap_two (c t : Int) (h0 : 0 ≤ c) (h1 : c ≤ 100) (t0 : 0 ≤ t) (t1 : t ≤ 8) : wrap64 (c + wrap64 t) = c + t := by rw [wrap_small t t0 (by omega), wrap_small _ (by omega) (by omega)]
theorem bl_le (i : Nat) (h : i < 256) : (bitLen i : Int) ≤ 8 := by have := bitLen_le8 i h; omega

theorem len32_any (x : Int) (w : World) (h0 : 0 ≤ x) (h1 : x < 4294967296) :
  Calls Tryz.prog 210 #[.int .u32 x] w fun e w' => e = .returned (.int .i64 (bitLen x.toNat)) ∧ w' = w := by
 by_cases c2 : 65536 ≤ x
 ·by_cases c1 : 256 ≤ x / 65536
  ·have HB : Hid ((bitLen x.toNat : Int) = 24 + bitLen (x / 65536 / 256).toNat) := hid (by
    have h := bitLen_div x 24 h0 (by simp; omega)
    rw [h, show (x / ((2 ^ 24 : Nat) : Int)) = x / 65536 / 256 by first | (simp; done) | (simp; omega)]; simp)
   have HL := hid (bl_le (x / 65536 / 256).toNat (by omega))
   go_enter Tryz.func210, Tryz.ntmps210
   go_wp2
   go_ret
   refine ⟨ret_int ?_, rfl⟩
   simp only [len8tab_get]
   rw [wrap_two _ _ (by decide) (by decide) (by omega) HL.out, HB.out]
  ·have HB : Hid ((bitLen x.toNat : Int) = 16 + bitLen (x / 65536).toNat) := hid (by
    have h := bitLen_div x 16 h0 (by simp; omega)
    rw [h, show (x / ((2 ^ 16 : Nat) : Int)) = x / 65536 by first | (simp; done) | (simp; omega)]; simp)
   have HL := hid (bl_le (x / 65536).toNat (by omega))
   go_enter Tryz.func210, Tryz.ntmps210
   go_wp2
   go_ret
   refine ⟨ret_int ?_, rfl⟩
   simp only [len8tab_get]
   rw [wrap_two _ _ (by decide) (by decide) (by omega) HL.out, HB.out]
 ·by_cases c1 : 256 ≤ x
  ·have HB : Hid ((bitLen x.toNat : Int) = 8 + bitLen (x / 256).toNat) := hid (by
    have h := bitLen_div x 8 h0 (by simp; omega)
    rw [h, show (x / ((2 ^ 8 : Nat) : Int)) = x / 256 by first | (simp; done) | (simp; omega)]; simp)
   have HL := hid (bl_le (x / 256).toNat (by omega))
   go_enter Tryz.func210, Tryz.ntmps210
   go_wp2
   go_ret
   refine ⟨ret_int ?_, rfl⟩
   simp only [len8tab_get]
   rw [wrap_two _ _ (by decide) (by decide) (by omega) HL.out, HB.out]
  ·have HL := hid (bl_le x.toNat (by omega))
   go_enter Tryz.func210, Tryz.ntmps210
   go_wp2
   go_ret
   refine ⟨ret_int ?_, rfl⟩
   simp only [len8tab_get]
   have h8 := HL.out
   rw [wrap_small (wrap64 _) (by rw [wrap_small _ (by omega) (by omega)]; omega) (by rw [wrap_small _ (by omega) (by omega)]; omega), wrap_small _ (by omega) (by omega)]
theorem Own.at {w : World} {B : Nat} {a : Option Addr} {cap : Nat} {zs : List Int} (h : Own w B a cap zs) (n c : Nat) : ∀ g, (Value.slice a n c).ownBlock = some g → B ≤ g ∧ g < w.heap.size := by
 intro g hg
 rcases h.block with ⟨rfl, _, _⟩ | ⟨g', rfl, h1, h2⟩
 ·simp [Value.ownBlock] at hg
 ·simp [Value.ownBlock] at hg; subst hg; exact ⟨h1, h2⟩
theorem Box.grown {w w' : World} {b : Nat} {v0 v1 : Value} {row : Option Nat} (h : Box w b v0 v1) (hg : w.grownBy w' row) (hne : ∀ g, row = some g → b ≠ g) : Box w' b v0 v1 := by
 have hlt := World.block_lt_of_cell? w _ h.1
 have e := hg.block b hlt (by
  cases row with
  | none => simp
  | some g => simpa using hne g rfl)
 exact ⟨(World.cell?_of_block (a := ⟨b, 0, none⟩) e).trans h.1, (World.cell?_of_block (a := ⟨b, 1, none⟩) e).trans h.2⟩
theorem Sl.grown {k : IntKind} {w w' : World} {v : Value} {zs : List Int} {row : Option Nat} (h : Sl k w v zs) (hg : w.grownBy w' row) (hne : ∀ g, row = some g → w.heap.size ≤ g ∨ ∀ b off n cap, v = .slice (some ⟨b, off, none⟩) n cap → b ≠ g) : Sl k w' v zs := by
 obtain ⟨a, cap, rfl, h1, h2, h3⟩ := h
 refine ⟨a, cap, rfl, h1, h2, ?_⟩
 rcases h3 with h3 | ⟨b, off, rfl, hc⟩
 ·exact .inl h3
 ·refine .inr ⟨b, off, rfl, fun i hi => ?_⟩
  have hci := hc i hi
  have hlt := World.block_lt_of_cell? w _ hci
  have e := hg.block b hlt (by
   cases row with
   | none => simp
   | some g =>
    rcases hne g rfl with h | h
    ·simp at hlt ⊢; omega
    ·simpa using h b off _ _ rfl)
  exact (World.cell?_of_block (a := ⟨b, off + i, none⟩) e).trans hci
def blL (zs : List Int) : Int := if zs.length = 0 then 0 else 32 * ((zs.length : Int) - 1) + bitLen (zs.getD (zs.length - 1) 0).toNat
def blW (ng : Bool) (zs : List Int) : Int := if okB ng zs then blL zs else -1
theorem bitLen_le32 (z : Int) (h0 : 0 ≤ z) (h1 : z < 4294967296) : (bitLen z.toNat : Int) ≤ 32 := by
 have h := bitLen_spec z.toNat
 unfold bitLen
 split
 ·omega
 ·rename_i hz
  have := (Nat.log2_lt hz).2 (show z.toNat < 2 ^ 32 by omega)
  omega

theorem bl_impl (ng : Bool) (a : Option Addr) (cap : Nat) (zs : List Int) (w : World) (hs : Sl .u32 w (.slice a zs.length cap) zs) (hz : Nm.Dg zs) (hl : zs.length ≤ 1048576) :
  Calls Tryz.prog 155 #[.agg #[.bool ng, .slice a zs.length cap]] w fun e w' => e = .returned (.int .i64 (blW ng zs)) ∧ Below w.heap.size w w' := by
 have hl' : zs.length ≤ 140737488355328 := by omega
 cases h1 : okB ng zs
 ·have HR : Hid (blW ng zs = -1) := hid (by unfold blW; rw [h1]; rfl)
  go_enter Tryz.func155, Tryz.ntmps155
  go_wp2_with fail
  refine (ok_impl ng a cap zs _ (hs.alloc _) hl').mono ?_
  rintro e w1 ⟨rfl, hb1⟩
  go_wp2
  go_ret
  exact ⟨ret_int HR.out.symm, (by repeat (first | exact bz0 _ _ | refine bz1 ?_ | refine bz2 ?_ _ | refine bz3 ?_ _ | refine bz4 ?_ hb1 | refine bz5 ?_ _ | refine bz6 ?_ _ | refine bz7 ?_ hb1))⟩
 have HW : Hid (blW ng zs = blL zs) := hid (by unfold blW; rw [h1]; rfl)
 by_cases h0 : zs.length = 0
 ·have HR : Hid (blW ng zs = 0) := hid (by rw [HW.out]; unfold blL; rw [if_pos h0])
  have hb0 : ((zs.length : Int) == 0) = true := by rw [beq_iff_eq]; omega
  clear h0
  go_enter Tryz.func155, Tryz.ntmps155
  go_wp2_with fail
  refine (ok_impl ng a cap zs _ (hs.alloc _) hl').mono ?_
  rintro e w1 ⟨rfl, hb1⟩
  obtain ⟨x10, x11⟩ := (Box.new w (.bool ng) (.slice a zs.length cap) 32).below hb1
  go_wp2
  go_ret
  exact ⟨ret_int HR.out.symm, (by repeat (first | exact bz0 _ _ | refine bz1 ?_ | refine bz2 ?_ _ | refine bz3 ?_ _ | refine bz4 ?_ hb1 | refine bz5 ?_ _ | refine bz6 ?_ _ | refine bz7 ?_ hb1))⟩
 ·have hb0 : ((zs.length : Int) == 0) = false := by rw [beq_eq_false_iff_ne]; omega
  obtain ⟨z, hzk⟩ : ∃ z, z = zs.getD (zs.length - 1) 0 := ⟨_, rfl⟩
  have HR : Hid (blW ng zs = 32 * ((zs.length : Int) - 1) + bitLen z.toNat) := hid (by rw [HW.out]; unfold blL; rw [if_neg h0, hzk])
  have hd := hz.getD (zs.length - 1)
  have hb32 := bitLen_le32 z (by rw [hzk]; exact hd.1) (by rw [hzk]; exact hd.2)
  rw [← hzk] at hd
  have HZ := hid hzk
  clear hzk
  go_enter Tryz.func155, Tryz.ntmps155
  go_wp2_with fail
  refine (ok_impl ng a cap zs _ (hs.alloc _) hl').mono ?_
  rintro e w1 ⟨rfl, hb1⟩
  obtain ⟨x10, x11⟩ := (Box.new w (.bool ng) (.slice a zs.length cap) 32).below hb1
  have s1 := (hs.alloc _).below hb1
  obtain ⟨-, _, _, hc3⟩ := s1.cells
  obtain ⟨b, off, rfl, hcell⟩ := hc3 (by omega)
  have hc := hcell (zs.length - 1) (by omega)
  rw [← HZ.out] at hc
  clear hcell hc3
  go_wp2_with fail
  refine (len32_any z _ hd.1 hd.2).mono ?_
  rintro e w2 ⟨rfl, rfl⟩
  go_wp2
  go_ret
  exact ⟨ret_int HR.out.symm, (by repeat (first | exact bz0 _ _ | refine bz1 ?_ | refine bz2 ?_ _ | refine bz3 ?_ _ | refine bz4 ?_ hb1 | refine bz5 ?_ _ | refine bz6 ?_ _ | refine bz7 ?_ hb1))⟩

theorem bl_half (z : Int) (h0 : 0 < z) : bitLen z.toNat = 1 + bitLen (z / 2).toNat := by
 by_cases h1 : z = 1
 ·subst h1; decide
 ·have := bitLen_div z 1 (by omega) (by simp; omega)
  simpa using this

theorem l1Bits_any (ng : Bool) (a : Option Addr) (cap : Nat) (zs : List Int) (w : World) (hs : Sl .u32 w (.slice a zs.length cap) zs) (hz : Nm.Dg zs) (hl : zs.length ≤ 1048576) :
  Calls Tryz.prog 227 #[.agg #[.bool ng, .slice a zs.length cap]] w fun e w' => e = .returned (.int .i64 (blL zs)) ∧ Below w.heap.size w w' := by
 by_cases h0 : zs.length = 0
 ·have HR : Hid (blL zs = 0) := hid (by unfold blL; rw [if_pos h0])
  have hb0 : ((zs.length : Int) == 0) = true := by rw [beq_iff_eq]; omega
  clear h0
  go_enter Tryz.func227, Tryz.ntmps227
  go_wp2
  go_ret
  exact ⟨ret_int HR.out.symm, (by repeat (first | exact bz0 _ _ | refine bz1 ?_ | refine bz2 ?_ _ | refine bz3 ?_ _ | refine bz5 ?_ _ | refine bz6 ?_ _))⟩
 ·have hb0 : ((zs.length : Int) == 0) = false := by rw [beq_eq_false_iff_ne]; omega
  obtain ⟨z, hzk⟩ : ∃ z, z = zs.getD (zs.length - 1) 0 := ⟨_, rfl⟩
  have HR : Hid (blL zs = 32 * ((zs.length : Int) - 1) + bitLen z.toNat) := hid (by unfold blL; rw [if_neg h0, hzk])
  have hd := hz.getD (zs.length - 1)
  have hb32 := bitLen_le32 z (by rw [hzk]; exact hd.1) (by rw [hzk]; exact hd.2)
  rw [← hzk] at hd
  obtain ⟨hd0, hd1⟩ := hd
  have hs' := hs.alloc (.cells #[.bool ng, .slice a zs.length cap] 32)
  obtain ⟨-, _, _, hc3⟩ := hs.cells
  obtain ⟨b, off, rfl, hcell⟩ := hc3 (by omega)
  have hc := hcell (zs.length - 1) (by omega)
  have hlt := World.block_lt_of_cell? w _ hc
  rw [← hzk] at hc
  have HB := hid hb32
  clear hzk hcell hc3 hs' hb32
  go_enter Tryz.func227, Tryz.ntmps227
  go_wp2_with fail
  go_loop [4, 5] (fun k x => ∃ kk q : Int, k = .int .i64 kk ∧ x = .int .u32 q ∧ 0 ≤ q ∧ q < 4294967296 ∧ 0 ≤ kk ∧ kk + bitLen q.toNat = 32 * ((zs.length : Int) - 1) + bitLen z.toNat) (fun _ x => (intOf x).toNat)
  case atStart => exact ⟨_, z, rfl, rfl, hd0, hd1, by omega, rfl⟩
  case round =>
   obtain ⟨kk, q, rfl, rfl, hq0, hq1, hk0, hrel⟩ := hrel
   have hkb : kk ≤ 33554464 := by have := HB.out; omega
   have REL := hid hrel
   clear hrel
   by_cases hq : 0 < q
   ·have HH := hid (bl_half q hq)
    go_wp2
    go_round
    case rel => exact ⟨kk + 1, q / 2, rfl, rfl, by omega, by omega, by omega, by have := REL.out; have h2 := HH.out; omega⟩
    case measure => simp [intOf]; omega
   ·have hq' : q = 0 := by omega
    have HF : Hid (blL zs = kk) := hid (by rw [HR.out]; have h := REL.out; rw [hq', show bitLen (0 : Int).toNat = 0 by decide] at h; omega)
    clear hq'
    go_wp2
    go_ret
    exact ⟨ret_int HF.out.symm, (by repeat (first | exact bz0 _ _ | refine bz1 ?_ | refine bz2 ?_ _ | refine bz3 ?_ _ | refine bz5 ?_ _ | refine bz6 ?_ _))⟩

structure Q9 (w : World) (b : Nat) (v0 v1 v2 v3 v4 v5 v6 v7 v8 : Value) : Prop where
 c0 : w.cell? ⟨b, 0, none⟩ = some v0
 c1 : w.cell? ⟨b, 1, none⟩ = some v1
 c2 : w.cell? ⟨b, 2, none⟩ = some v2
 c3 : w.cell? ⟨b, 3, none⟩ = some v3
 c4 : w.cell? ⟨b, 4, none⟩ = some v4
 c5 : w.cell? ⟨b, 5, none⟩ = some v5
 c6 : w.cell? ⟨b, 6, none⟩ = some v6
 c7 : w.cell? ⟨b, 7, none⟩ = some v7
 c8 : w.cell? ⟨b, 8, none⟩ = some v8
 f0 : w.frozen? ⟨b, 0, none⟩ = false
 f1 : w.frozen? ⟨b, 1, none⟩ = false
 f2 : w.frozen? ⟨b, 2, none⟩ = false
 f3 : w.frozen? ⟨b, 3, none⟩ = false
 f4 : w.frozen? ⟨b, 4, none⟩ = false
 f5 : w.frozen? ⟨b, 5, none⟩ = false
 f6 : w.frozen? ⟨b, 6, none⟩ = false
 f7 : w.frozen? ⟨b, 7, none⟩ = false
 f8 : w.frozen? ⟨b, 8, none⟩ = false
theorem Q9.lt {w : World} {b : Nat} {v0 v1 v2 v3 v4 v5 v6 v7 v8 : Value} (h : Q9 w b v0 v1 v2 v3 v4 v5 v6 v7 v8) : b < w.heap.size := World.block_lt_of_cell? w _ h.c0
theorem Q9.cs {w : World} {b : Nat} {v0 v1 v2 v3 v4 v5 v6 v7 v8 : Value} (h : Q9 w b v0 v1 v2 v3 v4 v5 v6 v7 v8) : w.cell? ⟨b, 0, none⟩ = some v0 ∧ w.cell? ⟨b, 1, none⟩ = some v1 ∧ w.cell? ⟨b, 2, none⟩ = some v2 ∧ w.cell? ⟨b, 3, none⟩ = some v3 ∧ w.cell? ⟨b, 4, none⟩ = some v4 ∧ w.cell? ⟨b, 5, none⟩ = some v5 ∧ w.cell? ⟨b, 6, none⟩ = some v6 ∧ w.cell? ⟨b, 7, none⟩ = some v7 ∧ w.cell? ⟨b, 8, none⟩ = some v8 := ⟨h.c0, h.c1, h.c2, h.c3, h.c4, h.c5, h.c6, h.c7, h.c8⟩
theorem Q9.of_block {w w' : World} {b : Nat} {v0 v1 v2 v3 v4 v5 v6 v7 v8 : Value} (h : Q9 w b v0 v1 v2 v3 v4 v5 v6 v7 v8) (e : w'.heap[b]? = w.heap[b]?) : Q9 w' b v0 v1 v2 v3 v4 v5 v6 v7 v8 :=
 ⟨(World.cell?_of_block (a := ⟨b, 0, none⟩) e).trans h.c0, (World.cell?_of_block (a := ⟨b, 1, none⟩) e).trans h.c1, (World.cell?_of_block (a := ⟨b, 2, none⟩) e).trans h.c2, (World.cell?_of_block (a := ⟨b, 3, none⟩) e).trans h.c3, (World.cell?_of_block (a := ⟨b, 4, none⟩) e).trans h.c4, (World.cell?_of_block (a := ⟨b, 5, none⟩) e).trans h.c5, (World.cell?_of_block (a := ⟨b, 6, none⟩) e).trans h.c6, (World.cell?_of_block (a := ⟨b, 7, none⟩) e).trans h.c7, (World.cell?_of_block (a := ⟨b, 8, none⟩) e).trans h.c8, (World.frozen?_of_block (a := ⟨b, 0, none⟩) e).trans h.f0, (World.frozen?_of_block (a := ⟨b, 1, none⟩) e).trans h.f1, (World.frozen?_of_block (a := ⟨b, 2, none⟩) e).trans h.f2, (World.frozen?_of_block (a := ⟨b, 3, none⟩) e).trans h.f3, (World.frozen?_of_block (a := ⟨b, 4, none⟩) e).trans h.f4, (World.frozen?_of_block (a := ⟨b, 5, none⟩) e).trans h.f5, (World.frozen?_of_block (a := ⟨b, 6, none⟩) e).trans h.f6, (World.frozen?_of_block (a := ⟨b, 7, none⟩) e).trans h.f7, (World.frozen?_of_block (a := ⟨b, 8, none⟩) e).trans h.f8⟩
theorem Q9.below {w w' : World} {b : Nat} {v0 v1 v2 v3 v4 v5 v6 v7 v8 : Value} (h : Q9 w b v0 v1 v2 v3 v4 v5 v6 v7 v8) (hb : Below w.heap.size w w') : Q9 w' b v0 v1 v2 v3 v4 v5 v6 v7 v8 := h.of_block (hb.block b h.lt)
theorem Q9.new (w : World) (v0 v1 v2 v3 v4 v5 v6 v7 v8 : Value) (t : TypeId) : Q9 (w.alloc (.cells #[v0, v1, v2, v3, v4, v5, v6, v7, v8] t)) w.heap.size v0 v1 v2 v3 v4 v5 v6 v7 v8 := ⟨by simp, by simp, by simp, by simp, by simp, by simp, by simp, by simp, by simp, by simp, by simp, by simp, by simp, by simp, by simp, by simp, by simp, by simp⟩
theorem Q9.alloc {w : World} {b : Nat} {v0 v1 v2 v3 v4 v5 v6 v7 v8 : Value} (h : Q9 w b v0 v1 v2 v3 v4 v5 v6 v7 v8) (o : Obj) : Q9 (w.alloc o) b v0 v1 v2 v3 v4 v5 v6 v7 v8 := h.below ((Below.refl _ _).alloc (Nat.le_refl _) _)
theorem Q9.drew {w : World} {b : Nat} {v0 v1 v2 v3 v4 v5 v6 v7 v8 : Value} (h : Q9 w b v0 v1 v2 v3 v4 v5 v6 v7 v8) : Q9 w.drew b v0 v1 v2 v3 v4 v5 v6 v7 v8 := ⟨h.c0, h.c1, h.c2, h.c3, h.c4, h.c5, h.c6, h.c7, h.c8, h.f0, h.f1, h.f2, h.f3, h.f4, h.f5, h.f6, h.f7, h.f8⟩
theorem Q9.grown {w w' : World} {b : Nat} {v0 v1 v2 v3 v4 v5 v6 v7 v8 : Value} {row : Option Nat} (h : Q9 w b v0 v1 v2 v3 v4 v5 v6 v7 v8) (hg : w.grownBy w' row) (hne : ∀ g, row = some g → b ≠ g) : Q9 w' b v0 v1 v2 v3 v4 v5 v6 v7 v8 :=
 h.of_block (hg.block b h.lt (fun e => hne b e.symm rfl))
theorem Q9.other {w : World} {b : Nat} {v0 v1 v2 v3 v4 v5 v6 v7 v8 : Value} (h : Q9 w b v0 v1 v2 v3 v4 v5 v6 v7 v8) {p : Addr} (hp : b ≠ p.block) (u : Value) : Q9 (w.setCell p u) b v0 v1 v2 v3 v4 v5 v6 v7 v8 := h.of_block (Below.heap_setCell w p u b hp)
end Go.Proofs.YtkfjmcdniohljaaGreatDoor
