/-
  Several texts in one: WideF, WideG, WideI, Rnd.
-/
import Derived.Test.YtpoojmheegncfaaGreatDoorG00
import Derived.Laws.MathBits
import Derived.Deep.RegionHeld3
import Derived.Test.YtpoojmheegncfaaGreatDoorG05
/-
  The library bits.Len32.
-/
namespace Go.Proofs.YtpoojmheegncfaaGreatDoor
set_option linter.unusedVariables false
set_option linter.unusedSimpArgs false
open Go.RowKit Go.Deep
theorem wrap_small (t : Int) (h0 : 0 ≤ t) (h1 : t ≤ 1000) : wrap64 t = t := IntWalk.wrap64_in t ⟨by omega, by omega⟩
theorem bitLen_div (x : Int) (k : Nat) (h0 : 0 ≤ x) (hx : x / (2 ^ k : Nat) ≠ 0) : bitLen x.toNat = k + bitLen (x / (2 ^ k : Nat)).toNat := by
  obtain ⟨n, rfl⟩ := Int.eq_ofNat_of_zero_le h0
  have e : (((n : Int) / (2 ^ k : Nat)).toNat) = n / 2 ^ k := by rw [← Int.natCast_ediv]; exact Int.toNat_natCast _
  rw [e]
  simp only [Int.toNat_natCast]
  apply bitLen_shift
  intro h
  apply hx
  rw [← Int.natCast_ediv, h]; rfl
theorem wrap_two (c t : Int) (h0 : 0 ≤ c) (h1 : c ≤ 100) (t0 : 0 ≤ t) (t1 : t ≤ 8) : wrap64 (c + wrap64 t) = c + t := by rw [wrap_small t t0 (by omega), wrap_small _ (by omega) (by omega)]
theorem bl_le (i : Nat) (h : i < 256) : (bitLen i : Int) ≤ 8 := by have := bitLen_le8 i h; omega

set_option maxHeartbeats 4000000 in
set_option maxRecDepth 1000000 in
theorem len32_any (x : Int) (w : World) (h0 : 0 ≤ x) (h1 : x < 4294967296) :
    Calls Tryz.prog 185 #[.int .u32 x] w fun e w' => e = .returned (.int .i64 (bitLen x.toNat)) ∧ w' = w := by
  by_cases c2 : 65536 ≤ x
  · by_cases c1 : 256 ≤ x / 65536
    · have HB : Hid ((bitLen x.toNat : Int) = 24 + bitLen (x / 65536 / 256).toNat) := hid (by
        have h := bitLen_div x 24 h0 (by simp; omega)
        rw [h, show (x / ((2 ^ 24 : Nat) : Int)) = x / 65536 / 256 by first | (simp; done) | (simp; omega)]; simp)
      have HL := hid (bl_le (x / 65536 / 256).toNat (by omega))
      go_enter Tryz.func185, Tryz.ntmps185
      go_wp2
      go_ret
      refine ⟨ret_int ?_, rfl⟩
      simp only [len8tab_get]
      rw [wrap_two _ _ (by decide) (by decide) (by omega) HL.out, HB.out]
    · have HB : Hid ((bitLen x.toNat : Int) = 16 + bitLen (x / 65536).toNat) := hid (by
        have h := bitLen_div x 16 h0 (by simp; omega)
        rw [h, show (x / ((2 ^ 16 : Nat) : Int)) = x / 65536 by first | (simp; done) | (simp; omega)]; simp)
      have HL := hid (bl_le (x / 65536).toNat (by omega))
      go_enter Tryz.func185, Tryz.ntmps185
      go_wp2
      go_ret
      refine ⟨ret_int ?_, rfl⟩
      simp only [len8tab_get]
      rw [wrap_two _ _ (by decide) (by decide) (by omega) HL.out, HB.out]
  · by_cases c1 : 256 ≤ x
    · have HB : Hid ((bitLen x.toNat : Int) = 8 + bitLen (x / 256).toNat) := hid (by
        have h := bitLen_div x 8 h0 (by simp; omega)
        rw [h, show (x / ((2 ^ 8 : Nat) : Int)) = x / 256 by first | (simp; done) | (simp; omega)]; simp)
      have HL := hid (bl_le (x / 256).toNat (by omega))
      go_enter Tryz.func185, Tryz.ntmps185
      go_wp2
      go_ret
      refine ⟨ret_int ?_, rfl⟩
      simp only [len8tab_get]
      rw [wrap_two _ _ (by decide) (by decide) (by omega) HL.out, HB.out]
    · have HL := hid (bl_le x.toNat (by omega))
      go_enter Tryz.func185, Tryz.ntmps185
      go_wp2
      go_ret
      refine ⟨ret_int ?_, rfl⟩
      simp only [len8tab_get]
      have h8 := HL.out
      rw [wrap_small (wrap64 _) (by rw [wrap_small _ (by omega) (by omega)]; omega) (by rw [wrap_small _ (by omega) (by omega)]; omega), wrap_small _ (by omega) (by omega)]
end Go.Proofs.YtpoojmheegncfaaGreatDoor
/-
  How many bits a wide has, by the program and by the specification.
-/
namespace Go.Proofs.YtpoojmheegncfaaGreatDoor
set_option linter.unusedVariables false
set_option linter.unusedSimpArgs false
open Go.RowKit Go.Deep
/-- How many bits limbs are written with. -/
def blL (zs : List Int) : Int := if zs.length = 0 then 0 else 32 * ((zs.length : Int) - 1) + bitLen (zs.getD (zs.length - 1) 0).toNat
def blW (ng : Bool) (zs : List Int) : Int := if okB ng zs then blL zs else -1
theorem bitLen_le32 (z : Int) (h0 : 0 ≤ z) (h1 : z < 4294967296) : (bitLen z.toNat : Int) ≤ 32 := by
  have h := bitLen_spec z.toNat
  unfold bitLen
  split
  · omega
  · rename_i hz
    have := (Nat.log2_lt hz).2 (show z.toNat < 2 ^ 32 by omega)
    omega

set_option maxHeartbeats 2000000 in
theorem bl_impl (ng : Bool) (a : Option Addr) (cap : Nat) (zs : List Int) (w : World) (hs : Sl .u32 w (.slice a zs.length cap) zs) (hz : Nm.Dg zs) (hl : zs.length ≤ 1048576) :
    Calls Tryz.prog 161 #[.agg #[.bool ng, .slice a zs.length cap]] w fun e w' => e = .returned (.int .i64 (blW ng zs)) ∧ Below w.heap.size w w' := by
  have hl' : zs.length ≤ 140737488355328 := by omega
  cases h1 : okB ng zs
  · have HR : Hid (blW ng zs = -1) := hid (by unfold blW; rw [h1]; rfl)
    go_enter Tryz.func161, Tryz.ntmps161
    go_wp2_with fail
    refine (ok_impl ng a cap zs _ (hs.alloc _) hl').mono ?_
    rintro e w1 ⟨rfl, hb1⟩
    go_wp2
    go_ret
    exact ⟨ret_int HR.out.symm, (by repeat (first | exact Below.refl _ _ | refine Below.drew ?_ | refine bel_dn ?_ _ | refine bel_al ?_ _ | refine bel_go ?_ hb1 | refine Below.setCell ?_ (by first | omega | (simp; done) | (simp; omega)) _ | refine Below.alloc ?_ (by first | omega | (simp; done) | (simp; omega)) _ | refine Below.trans ?_ (Below.mono hb1 (by first | omega | (simp; done) | (simp; omega)))))⟩
  have HW : Hid (blW ng zs = blL zs) := hid (by unfold blW; rw [h1]; rfl)
  by_cases h0 : zs.length = 0
  · have HR : Hid (blW ng zs = 0) := hid (by rw [HW.out]; unfold blL; rw [if_pos h0])
    have hb0 : ((zs.length : Int) == 0) = true := by rw [beq_iff_eq]; omega
    clear h0
    go_enter Tryz.func161, Tryz.ntmps161
    go_wp2_with fail
    refine (ok_impl ng a cap zs _ (hs.alloc _) hl').mono ?_
    rintro e w1 ⟨rfl, hb1⟩
    obtain ⟨x10, x11⟩ := (Box.new w (.bool ng) (.slice a zs.length cap) 35).below hb1
    go_wp2
    go_ret
    exact ⟨ret_int HR.out.symm, (by repeat (first | exact Below.refl _ _ | refine Below.drew ?_ | refine bel_dn ?_ _ | refine bel_al ?_ _ | refine bel_go ?_ hb1 | refine Below.setCell ?_ (by first | omega | (simp; done) | (simp; omega)) _ | refine Below.alloc ?_ (by first | omega | (simp; done) | (simp; omega)) _ | refine Below.trans ?_ (Below.mono hb1 (by first | omega | (simp; done) | (simp; omega)))))⟩
  · have hb0 : ((zs.length : Int) == 0) = false := by rw [beq_eq_false_iff_ne]; omega
    obtain ⟨z, hzk⟩ : ∃ z, z = zs.getD (zs.length - 1) 0 := ⟨_, rfl⟩
    have HR : Hid (blW ng zs = 32 * ((zs.length : Int) - 1) + bitLen z.toNat) := hid (by rw [HW.out]; unfold blL; rw [if_neg h0, hzk])
    have hd := hz.getD (zs.length - 1)
    have hb32 := bitLen_le32 z (by rw [hzk]; exact hd.1) (by rw [hzk]; exact hd.2)
    rw [← hzk] at hd
    have HZ := hid hzk
    clear hzk
    go_enter Tryz.func161, Tryz.ntmps161
    go_wp2_with fail
    refine (ok_impl ng a cap zs _ (hs.alloc _) hl').mono ?_
    rintro e w1 ⟨rfl, hb1⟩
    obtain ⟨x10, x11⟩ := (Box.new w (.bool ng) (.slice a zs.length cap) 35).below hb1
    have s1 := (hs.alloc _).below hb1
    obtain ⟨-, _, _, hc3⟩ := s1.cells
    obtain ⟨b, off, rfl, hcell⟩ := hc3 (by omega)
    have hc := hcell (zs.length - 1) (by omega)
    rw [← HZ.out] at hc
    clear hcell hc3
    go_wp2_with fail
    refine (len32_any z _ hd.1 hd.2).mono ?_
    rintro e w2 ⟨rfl, rfl⟩
    go_wp2
    go_ret
    exact ⟨ret_int HR.out.symm, (by repeat (first | exact Below.refl _ _ | refine Below.drew ?_ | refine bel_dn ?_ _ | refine bel_al ?_ _ | refine bel_go ?_ hb1 | refine Below.setCell ?_ (by first | omega | (simp; done) | (simp; omega)) _ | refine Below.alloc ?_ (by first | omega | (simp; done) | (simp; omega)) _ | refine Below.trans ?_ (Below.mono hb1 (by first | omega | (simp; done) | (simp; omega)))))⟩

theorem bl_half (z : Int) (h0 : 0 < z) : bitLen z.toNat = 1 + bitLen (z / 2).toNat := by
  by_cases h1 : z = 1
  · subst h1; decide
  · have := bitLen_div z 1 (by omega) (by simp; omega)
    simpa using this

set_option maxHeartbeats 2000000 in
theorem l1Bits_any (ng : Bool) (a : Option Addr) (cap : Nat) (zs : List Int) (w : World) (hs : Sl .u32 w (.slice a zs.length cap) zs) (hz : Nm.Dg zs) (hl : zs.length ≤ 1048576) :
    Calls Tryz.prog 128 #[.agg #[.bool ng, .slice a zs.length cap]] w fun e w' => e = .returned (.int .i64 (blL zs)) ∧ Below w.heap.size w w' := by
  by_cases h0 : zs.length = 0
  · have HR : Hid (blL zs = 0) := hid (by unfold blL; rw [if_pos h0])
    have hb0 : ((zs.length : Int) == 0) = true := by rw [beq_iff_eq]; omega
    clear h0
    go_enter Tryz.func128, Tryz.ntmps128
    go_wp2
    go_ret
    exact ⟨ret_int HR.out.symm, (by repeat (first | exact Below.refl _ _ | refine Below.drew ?_ | refine bel_dn ?_ _ | refine bel_al ?_ _ | refine Below.setCell ?_ (by first | omega | (simp; done) | (simp; omega)) _ | refine Below.alloc ?_ (by first | omega | (simp; done) | (simp; omega)) _))⟩
  · have hb0 : ((zs.length : Int) == 0) = false := by rw [beq_eq_false_iff_ne]; omega
    obtain ⟨z, hzk⟩ : ∃ z, z = zs.getD (zs.length - 1) 0 := ⟨_, rfl⟩
    have HR : Hid (blL zs = 32 * ((zs.length : Int) - 1) + bitLen z.toNat) := hid (by unfold blL; rw [if_neg h0, hzk])
    have hd := hz.getD (zs.length - 1)
    have hb32 := bitLen_le32 z (by rw [hzk]; exact hd.1) (by rw [hzk]; exact hd.2)
    rw [← hzk] at hd
    obtain ⟨hd0, hd1⟩ := hd
    have hs' := hs.alloc (.cells #[.bool ng, .slice a zs.length cap] 35)
    obtain ⟨-, _, _, hc3⟩ := hs.cells
    obtain ⟨b, off, rfl, hcell⟩ := hc3 (by omega)
    have hc := hcell (zs.length - 1) (by omega)
    have hlt := World.block_lt_of_cell? w _ hc
    rw [← hzk] at hc
    have HB := hid hb32
    clear hzk hcell hc3 hs' hb32
    go_enter Tryz.func128, Tryz.ntmps128
    go_wp2_with fail
    go_loop [4, 5] (fun k x => ∃ kk q : Int, k = .int .i64 kk ∧ x = .int .u32 q ∧ 0 ≤ q ∧ q < 4294967296 ∧ 0 ≤ kk ∧ kk + bitLen q.toNat = 32 * ((zs.length : Int) - 1) + bitLen z.toNat) (fun _ x => (intOf x).toNat)
    case atStart => exact ⟨_, z, rfl, rfl, hd0, hd1, by omega, rfl⟩
    case round =>
      obtain ⟨kk, q, rfl, rfl, hq0, hq1, hk0, hrel⟩ := hrel
      have hkb : kk ≤ 33554464 := by have := HB.out; omega
      have REL := hid hrel
      clear hrel
      by_cases hq : 0 < q
      · have HH := hid (bl_half q hq)
        go_wp2
        go_round
        case rel => exact ⟨kk + 1, q / 2, rfl, rfl, by omega, by omega, by omega, by have := REL.out; have h2 := HH.out; omega⟩
        case measure => simp [intOf]; omega
      · have hq' : q = 0 := by omega
        have HF : Hid (blL zs = kk) := hid (by rw [HR.out]; have h := REL.out; rw [hq', show bitLen (0 : Int).toNat = 0 by decide] at h; omega)
        clear hq'
        go_wp2
        go_ret
        exact ⟨ret_int HF.out.symm, (by repeat (first | exact Below.refl _ _ | refine Below.drew ?_ | refine bel_dn ?_ _ | refine bel_al ?_ _ | refine Below.setCell ?_ (by first | omega | (simp; done) | (simp; omega)) _ | refine Below.alloc ?_ (by first | omega | (simp; done) | (simp; omega)) _))⟩

end Go.Proofs.YtpoojmheegncfaaGreatDoor
/-
  Wides as numbers of 64 bits, by the program and by the specification.
-/
namespace Go.Proofs.YtpoojmheegncfaaGreatDoor
set_option linter.unusedVariables false
set_option linter.unusedSimpArgs false
open Go.RowKit Go.Deep
theorem nor_shift (n m : Nat) (hn : n < 2 ^ 32) : n ||| (m * 2 ^ 32) = n + m * 2 ^ 32 := by
  rw [Nat.or_comm, nat_join 32 (m * 2 ^ 32) n (Nat.mul_mod_left m (2 ^ 32)) hn, Nat.add_comm]
theorem or_shift (x y : Int) (hx : 0 ≤ x) (hx1 : x < 4294967296) (hy : 0 ≤ y) (hy1 : y < 4294967296) : bits .or .u64 x (y * 4294967296) = x + y * 4294967296 := by
  obtain ⟨n, rfl⟩ := Int.eq_ofNat_of_zero_le hx
  obtain ⟨m, rfl⟩ := Int.eq_ofNat_of_zero_le hy
  have h := u64_or_nat n (m * 2 ^ 32) (by omega) (by omega)
  rw [nor_shift n m (by omega)] at h
  have e : ((m * 2 ^ 32 : Nat) : Int) = (m : Int) * 4294967296 := by omega
  have e2 : ((n + m * 2 ^ 32 : Nat) : Int) = (n : Int) + (m : Int) * 4294967296 := by omega
  exact (congrArg (bits .or .u64 (n : Int)) e).symm.trans (h.trans e2)
theorem or_zero (x : Int) (hx : 0 ≤ x) (hx1 : x < 18446744073709551616) : bits .or .u64 0 x = x := by
  obtain ⟨n, rfl⟩ := Int.eq_ofNat_of_zero_le hx
  have h := u64_or_nat 0 n (by omega) (by omega)
  rw [Nat.zero_or] at h
  exact h

theorem negv (v : Int) (h0 : 0 ≤ v) (h1 : v ≤ 9223372036854775808) : wrap64 (IntKind.u64.wrap (-v)) = -v := by
  rw [IntKind.wrap_u64]; unfold wrap64; omega
/-- The number that a wide of limbs worth v is, and whether it is one of 64 bits. -/
def smI (ng : Bool) (v : Int) : Int := if ng then (if v ≤ 9223372036854775808 then -v else 0) else (if v < 9223372036854775808 then v else 0)
def smB (ng : Bool) (v : Int) : Bool := if ng then decide (v ≤ 9223372036854775808) else decide (v < 9223372036854775808)
/-- .. and of any wide. -/
def smWI (ng : Bool) (zs : List Int) : Int := if okB ng zs && decide (zs.length ≤ 2) then smI ng (zs.getD 0 0 + zs.getD 1 0 * 4294967296) else 0
def smWB (ng : Bool) (zs : List Int) : Bool := if okB ng zs && decide (zs.length ≤ 2) then smB ng (zs.getD 0 0 + zs.getD 1 0 * 4294967296) else false
theorem sm_yes {ng : Bool} {zs : List Int} (h : okB ng zs = true) (k : zs.length ≤ 2) : smWI ng zs = smI ng (zs.getD 0 0 + zs.getD 1 0 * 4294967296) ∧ smWB ng zs = smB ng (zs.getD 0 0 + zs.getD 1 0 * 4294967296) := by
  unfold smWI smWB; rw [h]; simp [k]
theorem sm_no1 {ng : Bool} {zs : List Int} (h : okB ng zs = false) : smWI ng zs = 0 ∧ smWB ng zs = false := by unfold smWI smWB; rw [h]; simp
theorem sm_no2 {ng : Bool} {zs : List Int} (k : ¬ zs.length ≤ 2) : smWI ng zs = 0 ∧ smWB ng zs = false := by unfold smWI smWB; simp [k]
theorem ret_small {a a' : Int} {b b' : Bool} (h : a = a') (k : b = b') : Ending.returned (.tuple #[.int .i64 a, .bool b]) = .returned (.tuple #[.int .i64 a', .bool b']) := by rw [h, k]
set_option maxHeartbeats 2000000 in
theorem low0 (ng : Bool) (a : Option Addr) (cap : Nat) (w : World) (hs : Sl .u32 w (.slice a 0 cap) []) :
    Calls Tryz.prog 131 #[.agg #[.bool ng, .slice a 0 cap]] w fun e w' => e = .returned (.int .u64 0) ∧ Below w.heap.size w w' := by
  go_enter Tryz.func131, Tryz.ntmps131
  go_wp2_with fail
  refine wp_loop_rounds 1 ?_
  rw [rounds_succ]
  go_wp2
  go_ret
  exact ⟨rfl, (by repeat (first | exact Below.refl _ _ | refine Below.drew ?_ | refine bel_dn ?_ _ | refine bel_al ?_ _ | refine Below.setCell ?_ (by first | omega | (simp; done) | (simp; omega)) _ | refine Below.alloc ?_ (by first | omega | (simp; done) | (simp; omega)) _))⟩
set_option maxHeartbeats 2000000 in
theorem low1 (ng : Bool) (b off : Nat) (x : Int) (cap : Nat) (w : World) (hs : Sl .u32 w (.slice (some ⟨b, off, none⟩) 1 cap) [x]) (hx0 : 0 ≤ x) (hx1 : x < 4294967296) :
    Calls Tryz.prog 131 #[.agg #[.bool ng, .slice (some ⟨b, off, none⟩) 1 cap]] w fun e w' => e = .returned (.int .u64 x) ∧ Below w.heap.size w w' := by
  have e1 := or_zero x hx0 (by omega)
  obtain ⟨-, _, _, hc3⟩ := hs.cells
  obtain ⟨b', off', hbo, hcell⟩ := hc3 (by simp)
  simp at hbo
  obtain ⟨rfl, rfl⟩ := hbo
  have c0 : w.cell? ⟨b, off, none⟩ = some (.int .u32 x) := by simpa using hcell 0 (by simp)
  have hlt := World.block_lt_of_cell? w _ c0
  clear hcell hc3
  go_enter Tryz.func131, Tryz.ntmps131
  go_wp2_with fail
  refine wp_loop_rounds 2 ?_
  rw [rounds_succ]
  go_wp2
  rw [rounds_succ]
  go_wp2
  go_ret
  exact ⟨rfl, (by repeat (first | exact Below.refl _ _ | refine Below.drew ?_ | refine bel_dn ?_ _ | refine bel_al ?_ _ | refine Below.setCell ?_ (by first | omega | (simp; done) | (simp; omega)) _ | refine Below.alloc ?_ (by first | omega | (simp; done) | (simp; omega)) _))⟩
set_option maxHeartbeats 2000000 in
theorem low2 (ng : Bool) (b off : Nat) (x y : Int) (cap : Nat) (w : World) (hs : Sl .u32 w (.slice (some ⟨b, off, none⟩) 2 cap) [x, y]) (hx0 : 0 ≤ x) (hx1 : x < 4294967296) (hy0 : 0 ≤ y) (hy1 : y < 4294967296) :
    Calls Tryz.prog 131 #[.agg #[.bool ng, .slice (some ⟨b, off, none⟩) 2 cap]] w fun e w' => e = .returned (.int .u64 (x + y * 4294967296)) ∧ Below w.heap.size w w' := by
  have e1 := or_zero x hx0 (by omega)
  have e2 := or_shift x y hx0 hx1 hy0 hy1
  obtain ⟨-, _, _, hc3⟩ := hs.cells
  obtain ⟨b', off', hbo, hcell⟩ := hc3 (by simp)
  simp at hbo
  obtain ⟨rfl, rfl⟩ := hbo
  have c0 : w.cell? ⟨b, off, none⟩ = some (.int .u32 x) := by simpa using hcell 0 (by simp)
  have hlt := World.block_lt_of_cell? w _ c0
  have c1 : w.cell? ⟨b, off + 1, none⟩ = some (.int .u32 y) := by simpa using hcell 1 (by simp)
  clear hcell hc3
  go_enter Tryz.func131, Tryz.ntmps131
  go_wp2_with fail
  refine wp_loop_rounds 3 ?_
  rw [rounds_succ]
  go_wp2
  rw [rounds_succ]
  go_wp2
  rw [rounds_succ]
  go_wp2
  go_ret
  exact ⟨rfl, (by repeat (first | exact Below.refl _ _ | refine Below.drew ?_ | refine bel_dn ?_ _ | refine bel_al ?_ _ | refine Below.setCell ?_ (by first | omega | (simp; done) | (simp; omega)) _ | refine Below.alloc ?_ (by first | omega | (simp; done) | (simp; omega)) _))⟩
set_option maxHeartbeats 4000000 in
theorem smi0 (ng : Bool) (a : Option Addr) (cap : Nat) (w : World) (hs : Sl .u32 w (.slice a 0 cap) []) (hk : okB ng [] = true) :
    Calls Tryz.prog 186 #[.agg #[.bool ng, .slice a 0 cap]] w fun e w' => e = .returned (.tuple #[.int .i64 (smI ng 0), .bool (smB ng 0)]) ∧ Below w.heap.size w w' := by
  cases ng
  rotate_left
  · simp [okB] at hk
  have HA : Hid ((0 : Int) = smI false 0) := hid (by decide)
  have HB : Hid (true = smB false 0) := hid (by decide)
  go_enter Tryz.func186, Tryz.ntmps186
  go_wp2_with fail
  refine (ok_impl false _ cap [] _ (hs.alloc _) (by simp)).mono ?_
  rintro e w1 ⟨rfl, hb1⟩
  obtain ⟨x10, x11⟩ := (Box.new w (.bool false) (.slice a 0 cap) 35).below hb1
  have s1 := (hs.alloc _).below hb1
  go_wp2_with fail
  refine wp_loop_rounds 1 ?_
  rw [rounds_succ]
  go_wp2
  go_ret2
  exact ⟨ret_small HA.out HB.out, (by repeat (first | exact Below.refl _ _ | refine Below.drew ?_ | refine bel_dn ?_ _ | refine bel_al ?_ _ | refine bel_go ?_ hb1 | refine Below.setCell ?_ (by first | omega | (simp; done) | (simp; omega)) _ | refine Below.alloc ?_ (by first | omega | (simp; done) | (simp; omega)) _ | refine Below.trans ?_ (Below.mono hb1 (by first | omega | (simp; done) | (simp; omega)))))⟩
set_option maxHeartbeats 4000000 in
theorem smi1 (ng : Bool) (b off : Nat) (x : Int) (cap : Nat) (w : World) (hs : Sl .u32 w (.slice (some ⟨b, off, none⟩) 1 cap) [x]) (hk : okB ng [x] = true) (hx0 : 0 ≤ x) (hx1 : x < 4294967296) :
    Calls Tryz.prog 186 #[.agg #[.bool ng, .slice (some ⟨b, off, none⟩) 1 cap]] w fun e w' => e = .returned (.tuple #[.int .i64 (smI ng x), .bool (smB ng x)]) ∧ Below w.heap.size w w' := by
  have e1 := or_zero x hx0 (by omega)
  cases ng
  · by_cases hv : x < 9223372036854775808
    · have HA : Hid (x = smI false x) := hid (by unfold smI; rw [if_neg (by decide), if_pos hv])
      have HB : Hid (true = smB false x) := hid (by unfold smB; rw [if_neg (by decide)]; simpa using hv)
      go_enter Tryz.func186, Tryz.ntmps186
      go_wp2_with fail
      refine (ok_impl false _ cap [x] _ (hs.alloc _) (by simp)).mono ?_
      rintro e w1 ⟨rfl, hb1⟩
      obtain ⟨x10, x11⟩ := (Box.new w (.bool false) (.slice (some ⟨b, off, none⟩) 1 cap) 35).below hb1
      have s1 := (hs.alloc _).below hb1
      obtain ⟨-, _, _, hc3⟩ := s1.cells
      obtain ⟨b', off', hbo, hcell⟩ := hc3 (by simp)
      simp at hbo
      obtain ⟨rfl, rfl⟩ := hbo
      have c0 : w1.cell? ⟨b, off, none⟩ = some (.int .u32 x) := by simpa using hcell 0 (by simp)
      clear hcell hc3
      go_wp2_with fail
      refine wp_loop_rounds 2 ?_
      rw [rounds_succ]
      go_wp2
      rw [rounds_succ]
      go_wp2
      go_ret2
      exact ⟨ret_small HA.out HB.out, (by repeat (first | exact Below.refl _ _ | refine Below.drew ?_ | refine bel_dn ?_ _ | refine bel_al ?_ _ | refine bel_go ?_ hb1 | refine Below.setCell ?_ (by first | omega | (simp; done) | (simp; omega)) _ | refine Below.alloc ?_ (by first | omega | (simp; done) | (simp; omega)) _ | refine Below.trans ?_ (Below.mono hb1 (by first | omega | (simp; done) | (simp; omega)))))⟩
    · omega
  · by_cases hv : x ≤ 9223372036854775808
    · have HA : Hid (wrap64 (IntKind.u64.wrap (-x)) = smI true x) := hid (by rw [negv _ (by omega) hv]; unfold smI; rw [if_pos rfl, if_pos hv])
      have HB : Hid (true = smB true x) := hid (by unfold smB; rw [if_pos rfl]; simpa using hv)
      go_enter Tryz.func186, Tryz.ntmps186
      go_wp2_with fail
      refine (ok_impl true _ cap [x] _ (hs.alloc _) (by simp)).mono ?_
      rintro e w1 ⟨rfl, hb1⟩
      obtain ⟨x10, x11⟩ := (Box.new w (.bool true) (.slice (some ⟨b, off, none⟩) 1 cap) 35).below hb1
      have s1 := (hs.alloc _).below hb1
      obtain ⟨-, _, _, hc3⟩ := s1.cells
      obtain ⟨b', off', hbo, hcell⟩ := hc3 (by simp)
      simp at hbo
      obtain ⟨rfl, rfl⟩ := hbo
      have c0 : w1.cell? ⟨b, off, none⟩ = some (.int .u32 x) := by simpa using hcell 0 (by simp)
      clear hcell hc3
      go_wp2_with fail
      refine wp_loop_rounds 2 ?_
      rw [rounds_succ]
      go_wp2
      rw [rounds_succ]
      go_wp2
      go_ret2
      exact ⟨ret_small HA.out HB.out, (by repeat (first | exact Below.refl _ _ | refine Below.drew ?_ | refine bel_dn ?_ _ | refine bel_al ?_ _ | refine bel_go ?_ hb1 | refine Below.setCell ?_ (by first | omega | (simp; done) | (simp; omega)) _ | refine Below.alloc ?_ (by first | omega | (simp; done) | (simp; omega)) _ | refine Below.trans ?_ (Below.mono hb1 (by first | omega | (simp; done) | (simp; omega)))))⟩
    · omega
set_option maxHeartbeats 4000000 in
theorem smi2 (ng : Bool) (b off : Nat) (x y : Int) (cap : Nat) (w : World) (hs : Sl .u32 w (.slice (some ⟨b, off, none⟩) 2 cap) [x, y]) (hk : okB ng [x, y] = true) (hx0 : 0 ≤ x) (hx1 : x < 4294967296) (hy0 : 0 ≤ y) (hy1 : y < 4294967296) :
    Calls Tryz.prog 186 #[.agg #[.bool ng, .slice (some ⟨b, off, none⟩) 2 cap]] w fun e w' => e = .returned (.tuple #[.int .i64 (smI ng (x + y * 4294967296)), .bool (smB ng (x + y * 4294967296))]) ∧ Below w.heap.size w w' := by
  have e1 := or_zero x hx0 (by omega)
  have e2 := or_shift x y hx0 hx1 hy0 hy1
  cases ng
  · by_cases hv : (x + y * 4294967296) < 9223372036854775808
    · have HA : Hid ((x + y * 4294967296) = smI false (x + y * 4294967296)) := hid (by unfold smI; rw [if_neg (by decide), if_pos hv])
      have HB : Hid (true = smB false (x + y * 4294967296)) := hid (by unfold smB; rw [if_neg (by decide)]; simpa using hv)
      go_enter Tryz.func186, Tryz.ntmps186
      go_wp2_with fail
      refine (ok_impl false _ cap [x, y] _ (hs.alloc _) (by simp)).mono ?_
      rintro e w1 ⟨rfl, hb1⟩
      obtain ⟨x10, x11⟩ := (Box.new w (.bool false) (.slice (some ⟨b, off, none⟩) 2 cap) 35).below hb1
      have s1 := (hs.alloc _).below hb1
      obtain ⟨-, _, _, hc3⟩ := s1.cells
      obtain ⟨b', off', hbo, hcell⟩ := hc3 (by simp)
      simp at hbo
      obtain ⟨rfl, rfl⟩ := hbo
      have c0 : w1.cell? ⟨b, off, none⟩ = some (.int .u32 x) := by simpa using hcell 0 (by simp)
      have c1 : w1.cell? ⟨b, off + 1, none⟩ = some (.int .u32 y) := by simpa using hcell 1 (by simp)
      clear hcell hc3
      go_wp2_with fail
      refine wp_loop_rounds 3 ?_
      rw [rounds_succ]
      go_wp2
      rw [rounds_succ]
      go_wp2
      rw [rounds_succ]
      go_wp2
      go_ret2
      exact ⟨ret_small HA.out HB.out, (by repeat (first | exact Below.refl _ _ | refine Below.drew ?_ | refine bel_dn ?_ _ | refine bel_al ?_ _ | refine bel_go ?_ hb1 | refine Below.setCell ?_ (by first | omega | (simp; done) | (simp; omega)) _ | refine Below.alloc ?_ (by first | omega | (simp; done) | (simp; omega)) _ | refine Below.trans ?_ (Below.mono hb1 (by first | omega | (simp; done) | (simp; omega)))))⟩
    · have HA : Hid ((0 : Int) = smI false (x + y * 4294967296)) := hid (by unfold smI; rw [if_neg (by decide), if_neg hv])
      have HB : Hid (false = smB false (x + y * 4294967296)) := hid (by unfold smB; rw [if_neg (by decide)]; simpa using hv)
      go_enter Tryz.func186, Tryz.ntmps186
      go_wp2_with fail
      refine (ok_impl false _ cap [x, y] _ (hs.alloc _) (by simp)).mono ?_
      rintro e w1 ⟨rfl, hb1⟩
      obtain ⟨x10, x11⟩ := (Box.new w (.bool false) (.slice (some ⟨b, off, none⟩) 2 cap) 35).below hb1
      have s1 := (hs.alloc _).below hb1
      obtain ⟨-, _, _, hc3⟩ := s1.cells
      obtain ⟨b', off', hbo, hcell⟩ := hc3 (by simp)
      simp at hbo
      obtain ⟨rfl, rfl⟩ := hbo
      have c0 : w1.cell? ⟨b, off, none⟩ = some (.int .u32 x) := by simpa using hcell 0 (by simp)
      have c1 : w1.cell? ⟨b, off + 1, none⟩ = some (.int .u32 y) := by simpa using hcell 1 (by simp)
      clear hcell hc3
      go_wp2_with fail
      refine wp_loop_rounds 3 ?_
      rw [rounds_succ]
      go_wp2
      rw [rounds_succ]
      go_wp2
      rw [rounds_succ]
      go_wp2
      go_ret2
      exact ⟨ret_small HA.out HB.out, (by repeat (first | exact Below.refl _ _ | refine Below.drew ?_ | refine bel_dn ?_ _ | refine bel_al ?_ _ | refine bel_go ?_ hb1 | refine Below.setCell ?_ (by first | omega | (simp; done) | (simp; omega)) _ | refine Below.alloc ?_ (by first | omega | (simp; done) | (simp; omega)) _ | refine Below.trans ?_ (Below.mono hb1 (by first | omega | (simp; done) | (simp; omega)))))⟩
  · by_cases hv : (x + y * 4294967296) ≤ 9223372036854775808
    · have HA : Hid (wrap64 (IntKind.u64.wrap (-(x + y * 4294967296))) = smI true (x + y * 4294967296)) := hid (by rw [negv _ (by omega) hv]; unfold smI; rw [if_pos rfl, if_pos hv])
      have HB : Hid (true = smB true (x + y * 4294967296)) := hid (by unfold smB; rw [if_pos rfl]; simpa using hv)
      go_enter Tryz.func186, Tryz.ntmps186
      go_wp2_with fail
      refine (ok_impl true _ cap [x, y] _ (hs.alloc _) (by simp)).mono ?_
      rintro e w1 ⟨rfl, hb1⟩
      obtain ⟨x10, x11⟩ := (Box.new w (.bool true) (.slice (some ⟨b, off, none⟩) 2 cap) 35).below hb1
      have s1 := (hs.alloc _).below hb1
      obtain ⟨-, _, _, hc3⟩ := s1.cells
      obtain ⟨b', off', hbo, hcell⟩ := hc3 (by simp)
      simp at hbo
      obtain ⟨rfl, rfl⟩ := hbo
      have c0 : w1.cell? ⟨b, off, none⟩ = some (.int .u32 x) := by simpa using hcell 0 (by simp)
      have c1 : w1.cell? ⟨b, off + 1, none⟩ = some (.int .u32 y) := by simpa using hcell 1 (by simp)
      clear hcell hc3
      go_wp2_with fail
      refine wp_loop_rounds 3 ?_
      rw [rounds_succ]
      go_wp2
      rw [rounds_succ]
      go_wp2
      rw [rounds_succ]
      go_wp2
      go_ret2
      exact ⟨ret_small HA.out HB.out, (by repeat (first | exact Below.refl _ _ | refine Below.drew ?_ | refine bel_dn ?_ _ | refine bel_al ?_ _ | refine bel_go ?_ hb1 | refine Below.setCell ?_ (by first | omega | (simp; done) | (simp; omega)) _ | refine Below.alloc ?_ (by first | omega | (simp; done) | (simp; omega)) _ | refine Below.trans ?_ (Below.mono hb1 (by first | omega | (simp; done) | (simp; omega)))))⟩
    · have HA : Hid ((0 : Int) = smI true (x + y * 4294967296)) := hid (by unfold smI; rw [if_pos rfl, if_neg hv])
      have HB : Hid (false = smB true (x + y * 4294967296)) := hid (by unfold smB; rw [if_pos rfl]; simpa using hv)
      go_enter Tryz.func186, Tryz.ntmps186
      go_wp2_with fail
      refine (ok_impl true _ cap [x, y] _ (hs.alloc _) (by simp)).mono ?_
      rintro e w1 ⟨rfl, hb1⟩
      obtain ⟨x10, x11⟩ := (Box.new w (.bool true) (.slice (some ⟨b, off, none⟩) 2 cap) 35).below hb1
      have s1 := (hs.alloc _).below hb1
      obtain ⟨-, _, _, hc3⟩ := s1.cells
      obtain ⟨b', off', hbo, hcell⟩ := hc3 (by simp)
      simp at hbo
      obtain ⟨rfl, rfl⟩ := hbo
      have c0 : w1.cell? ⟨b, off, none⟩ = some (.int .u32 x) := by simpa using hcell 0 (by simp)
      have c1 : w1.cell? ⟨b, off + 1, none⟩ = some (.int .u32 y) := by simpa using hcell 1 (by simp)
      clear hcell hc3
      go_wp2_with fail
      refine wp_loop_rounds 3 ?_
      rw [rounds_succ]
      go_wp2
      rw [rounds_succ]
      go_wp2
      rw [rounds_succ]
      go_wp2
      go_ret2
      exact ⟨ret_small HA.out HB.out, (by repeat (first | exact Below.refl _ _ | refine Below.drew ?_ | refine bel_dn ?_ _ | refine bel_al ?_ _ | refine bel_go ?_ hb1 | refine Below.setCell ?_ (by first | omega | (simp; done) | (simp; omega)) _ | refine Below.alloc ?_ (by first | omega | (simp; done) | (simp; omega)) _ | refine Below.trans ?_ (Below.mono hb1 (by first | omega | (simp; done) | (simp; omega)))))⟩
set_option maxHeartbeats 2000000 in
theorem smi_any (ng : Bool) (a : Option Addr) (cap : Nat) (zs : List Int) (w : World) (hs : Sl .u32 w (.slice a zs.length cap) zs) (hz : Nm.Dg zs) (hl : zs.length ≤ 1048576) :
    Calls Tryz.prog 186 #[.agg #[.bool ng, .slice a zs.length cap]] w fun e w' => e = .returned (.tuple #[.int .i64 (smWI ng zs), .bool (smWB ng zs)]) ∧ Below w.heap.size w w' := by
  have hl' : zs.length ≤ 140737488355328 := by omega
  cases h1 : okB ng zs
  · have HR := hid (sm_no1 h1)
    go_enter Tryz.func186, Tryz.ntmps186
    go_wp2_with fail
    refine (ok_impl ng a cap zs _ (hs.alloc _) hl').mono ?_
    rintro e w1 ⟨rfl, hb1⟩
    go_wp2
    go_ret2
    exact ⟨ret_small HR.out.1.symm HR.out.2.symm, (by repeat (first | exact Below.refl _ _ | refine Below.drew ?_ | refine bel_dn ?_ _ | refine bel_al ?_ _ | refine bel_go ?_ hb1 | refine Below.setCell ?_ (by first | omega | (simp; done) | (simp; omega)) _ | refine Below.alloc ?_ (by first | omega | (simp; done) | (simp; omega)) _ | refine Below.trans ?_ (Below.mono hb1 (by first | omega | (simp; done) | (simp; omega)))))⟩
  by_cases h2 : zs.length ≤ 2
  · rw [(sm_yes h1 h2).1, (sm_yes h1 h2).2]
    match zs, hs, hz, h1, h2 with
    | [], hs, hz, h1, _ => exact smi0 ng a cap w hs h1
    | [x], hs, hz, h1, _ =>
      obtain ⟨-, _, _, hc3⟩ := hs.cells
      obtain ⟨b, off, rfl, _⟩ := hc3 (by simp)
      have hx := hz.head
      have := smi1 ng b off x cap w hs h1 hx.1 hx.2
      simpa using this
    | [x, y], hs, hz, h1, _ =>
      obtain ⟨-, _, _, hc3⟩ := hs.cells
      obtain ⟨b, off, rfl, _⟩ := hc3 (by simp)
      have hx := hz.head
      have hy := hz.tail.head
      exact smi2 ng b off x y cap w hs h1 hx.1 hx.2 hy.1 hy.2
    | _ :: _ :: _ :: _, _, _, _, h2 => simp at h2
  · have HR := hid (sm_no2 (ng := ng) h2)
    have hgt : (2 : Int) < (zs.length : Int) := by omega
    clear h2
    go_enter Tryz.func186, Tryz.ntmps186
    go_wp2_with fail
    refine (ok_impl ng a cap zs _ (hs.alloc _) hl').mono ?_
    rintro e w1 ⟨rfl, hb1⟩
    obtain ⟨x10, x11⟩ := (Box.new w (.bool ng) (.slice a zs.length cap) 35).below hb1
    go_wp2
    go_ret2
    exact ⟨ret_small HR.out.1.symm HR.out.2.symm, (by repeat (first | exact Below.refl _ _ | refine Below.drew ?_ | refine bel_dn ?_ _ | refine bel_al ?_ _ | refine bel_go ?_ hb1 | refine Below.setCell ?_ (by first | omega | (simp; done) | (simp; omega)) _ | refine Below.alloc ?_ (by first | omega | (simp; done) | (simp; omega)) _ | refine Below.trans ?_ (Below.mono hb1 (by first | omega | (simp; done) | (simp; omega)))))⟩
end Go.Proofs.YtpoojmheegncfaaGreatDoor
/-
  Plain mathematics, no Go: bits, halvings, and how a number is cut where it is rounded.
-/
namespace Go.Proofs.YtpoojmheegncfaaGreatDoor
set_option linter.unusedVariables false
namespace Nm
theorem bl_le_iff (a k : Nat) : bitLen a ≤ k ↔ a < 2 ^ k := by
  have h := bitLen_spec a
  constructor
  · intro hk
    exact Nat.lt_of_lt_of_le h.1 (Nat.pow_le_pow_right (by decide) hk)
  · intro hk
    by_cases h0 : a = 0
    · subst h0; simp [bitLen]
    · have h1 := h.2 h0
      have h2 := Nat.lt_of_le_of_lt h1 hk
      have := (Nat.pow_lt_pow_iff_right (a := 2) (by decide)).1 h2
      omega
theorem bl_pos {a : Nat} (h : a ≠ 0) : 1 ≤ bitLen a := by unfold bitLen; rw [if_neg h]; omega
theorem bl_zero : bitLen 0 = 0 := rfl
theorem bl_mul {a : Nat} (h : a ≠ 0) (d : Nat) : bitLen (a * 2 ^ d) = bitLen a + d := by
  have e : a * 2 ^ d / 2 ^ d = a := Nat.mul_div_cancel _ (Nat.two_pow_pos d)
  have := bitLen_shift (a * 2 ^ d) d (by rw [e]; exact h)
  rw [this, e]; omega
theorem bl_mono {a b : Nat} (h : a ≤ b) : bitLen a ≤ bitLen b := (bl_le_iff a _).2 (Nat.lt_of_le_of_lt h (bitLen_spec b).1)
theorem bl_ge {a : Nat} (h : a ≠ 0) : 2 ^ (bitLen a - 1) ≤ a := (bitLen_spec a).2 h

/-- How often it can be halved. -/
def tz (a : Nat) : Nat := if a = 0 then 0 else if a % 2 = 1 then 0 else tz (a / 2) + 1
termination_by a
decreasing_by omega
theorem tz_odd {a : Nat} (h : a % 2 = 1) : tz a = 0 := by unfold tz; split <;> simp_all
theorem tz_even {a : Nat} (h0 : a ≠ 0) (h : a % 2 = 0) : tz a = tz (a / 2) + 1 := by rw [tz]; simp [h0, h]
/-- The odd part. -/
def od (a : Nat) : Nat := a / 2 ^ tz a
theorem tz_spec (a : Nat) (h : a ≠ 0) : od a * 2 ^ tz a = a ∧ od a % 2 = 1 := by
  induction a using Nat.strongRecOn with
  | _ a ih =>
    unfold od
    rcases Nat.mod_two_eq_zero_or_one a with h2 | h2
    · have := ih (a / 2) (by omega) (by omega)
      unfold od at this
      rw [tz_even h h2, Nat.pow_succ, Nat.mul_comm (2 ^ _) 2, ← Nat.div_div_eq_div_mul]
      refine ⟨?_, this.2⟩
      have e := this.1
      generalize a / 2 / 2 ^ tz (a / 2) = o at *
      have : o * (2 * 2 ^ tz (a / 2)) = 2 * (o * 2 ^ tz (a / 2)) := by rw [Nat.mul_left_comm]
      rw [this, e]; omega
    · rw [tz_odd h2]; simp; exact h2
theorem od_pos {a : Nat} (h : a ≠ 0) : od a ≠ 0 := by have := (tz_spec a h).2; omega
theorem tz_mul {o : Nat} (ho : o % 2 = 1) (t : Nat) : tz (o * 2 ^ t) = t := by
  induction t with
  | zero => simpa using tz_odd ho
  | succ t ih =>
    have e : o * 2 ^ (t + 1) = 2 * (o * 2 ^ t) := by rw [Nat.pow_succ]; grind
    have hp := Nat.two_pow_pos t
    have h0 : o * 2 ^ t ≠ 0 := Nat.mul_ne_zero (by omega) (by omega)
    rw [e, tz_even (by omega) (by omega), Nat.mul_div_cancel_left _ (by decide), ih]
theorem mod_pow_zero {a : Nat} (h : a ≠ 0) (n : Nat) : a % 2 ^ n = 0 ↔ n ≤ tz a := by
  have hs := tz_spec a h
  constructor
  · intro hz
    obtain ⟨c, hc⟩ := Nat.dvd_of_mod_eq_zero hz
    have hc0 : c ≠ 0 := by intro h0; subst h0; simp at hc; exact h hc
    have hc' := tz_spec c hc0
    have : a = od c * 2 ^ (tz c + n) := by rw [hc, Nat.pow_add, ← Nat.mul_assoc, hc'.1, Nat.mul_comm]
    rw [this, tz_mul hc'.2]; omega
  · intro hn
    obtain ⟨k, hk⟩ := Nat.exists_eq_add_of_le hn
    have : a = 2 ^ n * (od a * 2 ^ k) := by
      have e := hs.1
      rw [hk, Nat.pow_add] at e
      rw [Nat.mul_left_comm]; exact e.symm
    rw [this]; exact Nat.mul_mod_right _ _

/-- A shift of a number that is not below 0. -/
def sh (a : Nat) (n : Int) : Nat := if n < 0 then a / 2 ^ (-n).toNat else a * 2 ^ n.toNat
theorem shM_sh (a : Nat) (n : Int) : shM (a : Int) n = (sh a n : Nat) := by
  unfold shM sh
  split <;> simp
theorem shV_sh (a : Nat) (n : Int) : shV false (a : Int) n = (sh a n : Nat) := by unfold shV; simpa using shM_sh a n

/-- What is cut: how many bits, what stays, what goes. -/
def rn (P : Nat) (q : Int) (a : Nat) (e : Int) : Int := max ((bitLen a : Int) - P) (q - e)
def rm (P : Nat) (q : Int) (a : Nat) (e : Int) : Nat := sh a (- rn P q a e)
def rr (P : Nat) (q : Int) (a : Nat) (e : Int) : Nat := a % 2 ^ (rn P q a e).toNat
def cmp2 (x y : Nat) : Int := if x < y then -1 else if y < x then 1 else 0
def rh (P : Nat) (q : Int) (a : Nat) (e : Int) : Int := cmp2 (2 * rr P q a e) (2 ^ (rn P q a e).toNat)

/-- By the specification: all in units of 2 to the lower one of e and q. -/
theorem spec_x {a : Nat} (h : a ≠ 0) {e q : Int} : bitLen (sh a (e - min e q)) = bitLen a + (e - min e q).toNat ∧ sh a (e - min e q) = a * 2 ^ (e - min e q).toNat := by
  have e1 : sh a (e - min e q) = a * 2 ^ (e - min e q).toNat := by unfold sh; rw [if_neg (by omega)]
  rw [e1]; exact ⟨bl_mul h _, rfl⟩
theorem spec_cut {a : Nat} (h : a ≠ 0) (P : Nat) (e q : Int) : max ((bitLen (sh a (e - min e q)) : Int) - P) (q - min e q) = rn P q a e + (e - min e q) := by
  rw [(spec_x h).1]; unfold rn; omega
theorem pw_pos2 (n : Nat) : 0 < 2 ^ n := Nat.two_pow_pos n
theorem spec_m {a : Nat} (h : a ≠ 0) (P : Nat) (e q : Int) : sh (sh a (e - min e q)) (-(rn P q a e + (e - min e q))) = rm P q a e := by
  rw [(spec_x h).2]
  unfold rm
  have hq : q - e ≤ rn P q a e := by unfold rn; omega
  generalize rn P q a e = n at *
  obtain ⟨d, hd⟩ : ∃ d : Nat, e - min e q = d := ⟨(e - min e q).toNat, by omega⟩
  have hc : 0 ≤ n + d := by omega
  rw [hd]
  rw [Int.toNat_natCast]
  have hX : sh (a * 2 ^ d) (-(n + d)) = a * 2 ^ d / 2 ^ (n + d).toNat := by
    unfold sh
    by_cases h0 : n + (d : Int) = 0
    · rw [if_neg (by omega), h0]; simp
    · rw [if_pos (by omega), show (- -(n + (d : Int))).toNat = (n + d).toNat by omega]
  rw [hX]
  by_cases hn : 0 < n
  · unfold sh
    rw [if_pos (by omega), show (- -n).toNat = n.toNat by omega, show (n + (d : Int)).toNat = d + n.toNat by omega, Nat.pow_add, Nat.mul_comm a, Nat.mul_div_mul_left _ _ (pw_pos2 d)]
  · unfold sh
    rw [if_neg (by omega)]
    have : d = (-n).toNat + (n + (d : Int)).toNat := by omega
    generalize (n + (d : Int)).toNat = c at *
    rw [this, Nat.pow_add, ← Nat.mul_assoc, Nat.mul_div_cancel _ (pw_pos2 c)]
theorem spec_back {a : Nat} (h : a ≠ 0) (P : Nat) (e q : Int) :
    sh (rm P q a e) (rn P q a e + (e - min e q)) ≤ sh a (e - min e q) ∧ sh a (e - min e q) - sh (rm P q a e) (rn P q a e + (e - min e q)) = rr P q a e * 2 ^ (e - min e q).toNat := by
  have hm := spec_m h P e q
  have hq : q - e ≤ rn P q a e := by unfold rn; omega
  have hc : 0 ≤ rn P q a e + (e - min e q) := by omega
  rw [← hm, (spec_x h).2]
  unfold rr
  generalize rn P q a e = n at *
  obtain ⟨d, hd⟩ : ∃ d : Nat, e - min e q = d := ⟨(e - min e q).toNat, by omega⟩
  rw [hd] at hc ⊢
  rw [Int.toNat_natCast]
  have hX : sh (a * 2 ^ d) (-(n + d)) = a * 2 ^ d / 2 ^ (n + d).toNat := by
    unfold sh
    by_cases h0 : n + (d : Int) = 0
    · rw [if_neg (by omega), h0]; simp
    · rw [if_pos (by omega), show (- -(n + (d : Int))).toNat = (n + d).toNat by omega]
  have hY : ∀ y, sh y (n + (d : Int)) = y * 2 ^ (n + (d : Int)).toNat := fun y => by unfold sh; rw [if_neg (by omega)]
  rw [hX, hY]
  have hdm := Nat.div_add_mod (a * 2 ^ d) (2 ^ (n + (d : Int)).toNat)
  rw [Nat.mul_comm] at hdm
  refine ⟨by omega, ?_⟩
  have : a * 2 ^ d - a * 2 ^ d / 2 ^ (n + (d : Int)).toNat * 2 ^ (n + (d : Int)).toNat = a * 2 ^ d % 2 ^ (n + (d : Int)).toNat := by omega
  rw [this]
  by_cases hn : 0 ≤ n
  · rw [show (n + (d : Int)).toNat = n.toNat + d by omega, Nat.pow_add, Nat.mul_mod_mul_right]
  · rw [show n.toNat = 0 by omega]
    have : d = (-n).toNat + (n + (d : Int)).toNat := by omega
    generalize (n + (d : Int)).toNat = c at *
    rw [this, Nat.pow_add, ← Nat.mul_assoc, Nat.mul_mod_left]; simp [Nat.mod_one]
theorem rr_pos {P : Nat} {q : Int} {a : Nat} {e : Int} (h : rr P q a e ≠ 0) : 1 ≤ rn P q a e := by
  unfold rr at h
  by_cases hn : 1 ≤ rn P q a e
  · exact hn
  · rw [show (rn P q a e).toNat = 0 by omega] at h; simp [Nat.mod_one] at h
theorem cmp2_mul (x y : Nat) (d : Nat) : cmp2 (x * 2 ^ d) (y * 2 ^ d) = cmp2 x y := by
  unfold cmp2
  simp only [Nat.mul_lt_mul_right (pw_pos2 d)]
theorem spec_half {a : Nat} (h : a ≠ 0) {P : Nat} {e q : Int} (hr : rr P q a e ≠ 0) :
    cmp2 (sh (rr P q a e * 2 ^ (e - min e q).toNat) 1) (sh 1 (rn P q a e + (e - min e q))) = rh P q a e := by
  have hn := rr_pos hr
  unfold rh
  generalize rn P q a e = n at *
  generalize rr P q a e = r at *
  obtain ⟨d, hd⟩ : ∃ d : Nat, e - min e q = d := ⟨(e - min e q).toNat, by omega⟩
  rw [hd, Int.toNat_natCast]
  have e1 : sh (r * 2 ^ d) 1 = 2 * r * 2 ^ d := by unfold sh; rw [if_neg (by decide)]; simp; grind
  have e2 : sh 1 (n + (d : Int)) = 2 ^ n.toNat * 2 ^ d := by
    unfold sh; rw [if_neg (by omega), show (n + (d : Int)).toNat = n.toNat + d by omega, Nat.pow_add]; simp
  rw [e1, e2, cmp2_mul]
theorem rr_tz {P : Nat} {q : Int} {a : Nat} {e : Int} (h : a ≠ 0) : rr P q a e = 0 ↔ rn P q a e ≤ tz a := by
  unfold rr; rw [mod_pow_zero h]; omega
/-- By the program: what is cut off, held against a half by the bit below the last one, and the noughts. -/
theorem impl_half {P : Nat} {q : Int} {a : Nat} {e : Int} (h : a ≠ 0) (hr : rr P q a e ≠ 0) :
    rh P q a e = if (tz a : Int) = rn P q a e - 1 then 0 else if a / 2 ^ (rn P q a e - 1).toNat % 2 = 1 then 1 else -1 := by
  have hn := rr_pos hr
  have ht : ¬ rn P q a e ≤ tz a := fun hh => hr ((rr_tz h).2 hh)
  unfold rh rr
  generalize rn P q a e = n at *
  obtain ⟨k, hk⟩ : ∃ k : Nat, n = k + 1 := ⟨(n - 1).toNat, by omega⟩
  subst hk
  rw [show ((k : Int) + 1).toNat = k + 1 by omega, show ((k : Int) + 1 - 1).toNat = k by omega]
  have hp := pw_pos2 k
  have hmod : a % 2 ^ (k + 1) = a % 2 ^ k + 2 ^ k * (a / 2 ^ k % 2) := by rw [Nat.pow_succ, Nat.mod_mul]
  have hlt : a % 2 ^ k < 2 ^ k := Nat.mod_lt _ hp
  have hz := mod_pow_zero h k
  have hps : 2 ^ (k + 1) = 2 * 2 ^ k := by rw [Nat.pow_succ]; omega
  rw [hmod, hps]
  unfold cmp2
  by_cases hc : tz a = k
  · have hk0 : a % 2 ^ k = 0 := hz.2 (by omega)
    have hodd : a / 2 ^ k % 2 = 1 := by have := (tz_spec a h).2; unfold od at this; rwa [hc] at this
    rw [if_pos (show (tz a : Int) = (k : Int) + 1 - 1 by omega), hk0, hodd, if_neg (by omega), if_neg (by omega)]
  · rw [if_neg (show ¬ (tz a : Int) = (k : Int) + 1 - 1 by omega)]
    have hk0 : a % 2 ^ k ≠ 0 := fun h0 => by have := hz.1 h0; omega
    rcases Nat.mod_two_eq_zero_or_one (a / 2 ^ k) with h2 | h2
    · rw [h2, if_pos (by omega), if_neg (by decide)]
    · rw [h2, if_neg (by omega), if_pos (by omega), if_pos rfl]
/-- What stays has at most P bits. -/
theorem rm_lt {P : Nat} {q : Int} {a : Nat} {e : Int} : rm P q a e < 2 ^ P := by
  have hb := (bitLen_spec a).1
  have hn : (bitLen a : Int) - P ≤ rn P q a e := by unfold rn; omega
  unfold rm sh
  generalize rn P q a e = n at *
  split
  · rename_i hlt
    rw [Nat.div_lt_iff_lt_mul (pw_pos2 _), ← Nat.pow_add]
    exact Nat.lt_of_lt_of_le hb (Nat.pow_le_pow_right (by decide) (by omega))
  · have h1 : a * 2 ^ (-n).toNat < 2 ^ bitLen a * 2 ^ (-n).toNat := Nat.mul_lt_mul_of_pos_right hb (pw_pos2 _)
    rw [← Nat.pow_add] at h1
    exact Nat.lt_of_lt_of_le h1 (Nat.pow_le_pow_right (by decide) (by omega))
/-- Where the step is greater than a unit, what stays has just P bits. -/
theorem rm_ge {P : Nat} {q : Int} {a : Nat} {e : Int} (h : a ≠ 0) (hP : 1 ≤ P) (hn : q - e < rn P q a e) : 2 ^ (P - 1) ≤ rm P q a e := by
  have hb := bl_ge h
  have hb1 := bl_pos h
  have hn : (bitLen a : Int) - P = rn P q a e := by unfold rn at hn ⊢; omega
  unfold rm sh
  generalize rn P q a e = n at *
  split
  · rw [Nat.le_div_iff_mul_le (pw_pos2 _), ← Nat.pow_add]
    exact Nat.le_trans (Nat.pow_le_pow_right (by decide) (by omega)) hb
  · refine Nat.le_trans ?_ (Nat.mul_le_mul_right _ hb)
    rw [← Nat.pow_add]
    exact Nat.pow_le_pow_right (by decide) (by omega)
end Nm
end Go.Proofs.YtpoojmheegncfaaGreatDoor
