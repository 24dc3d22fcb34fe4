/-
  What is needed of ModeA, WideF, WideG, WideI, Rnd, RndB.
-/
import Derived.Test.YtkfjmcdniohljaaGreatDoorE03
import Derived.Test.YtkfjmcdniohljaaGreatDoorE08
set_option maxHeartbeats 16000000
set_option maxRecDepth 1000000
namespace Go.Proofs.YtkfjmcdniohljaaGreatDoor
set_option linter.unusedVariables false
set_option linter.unusedSimpArgs false
open Go.RowKit
theorem mode_impl (m : Int) (w : World) :
    Calls Tryz.prog 145 #[.int .i64 m] w fun e w' => e = .returned (.bool (modeB m)) ∧ w' = w := by
  by_cases h1 : 0 ≤ m
  · by_cases h2 : m ≤ 5
    · have HR : Hid (modeB m = true) := hid (by simp [modeB, h1, h2])
      go_enter Tryz.func145, Tryz.ntmps145
      go_wp2
      go_ret
      exact ⟨ret_bool HR.out.symm, rfl⟩
    · have HR : Hid (modeB m = false) := hid (by simp [modeB, h1, h2])
      go_enter Tryz.func145, Tryz.ntmps145
      go_wp2
      go_ret
      exact ⟨ret_bool HR.out.symm, rfl⟩
  · have HR : Hid (modeB m = false) := hid (by simp [modeB, h1])
    go_enter Tryz.func145, Tryz.ntmps145
    go_wp2
    go_ret
    exact ⟨ret_bool HR.out.symm, rfl⟩
end Go.Proofs.YtkfjmcdniohljaaGreatDoor
namespace Go.Proofs.YtkfjmcdniohljaaGreatDoor
set_option linter.unusedVariables false
set_option linter.unusedSimpArgs false
open Go.RowKit Go.Deep
theorem wrap_small (t : Int) (h0 : 0 ≤ t) (h1 : t ≤ 1000) : wrap64 t = t := IntWalk.wrap64_in t ⟨by omega, by omega⟩
theorem wrap_two (c t : Int) (h0 : 0 ≤ c) (h1 : c ≤ 100) (t0 : 0 ≤ t) (t1 : t ≤ 8) : wrap64 (c + wrap64 t) = c + t := by rw [wrap_small t t0 (by omega), wrap_small _ (by omega) (by omega)]
theorem bl_le (i : Nat) (h : i < 256) : (bitLen i : Int) ≤ 8 := by have := bitLen_le8 i h; omega

theorem len32_any (x : Int) (w : World) (h0 : 0 ≤ x) (h1 : x < 4294967296) :
    Calls Tryz.prog 210 #[.int .u32 x] w fun e w' => e = .returned (.int .i64 (bitLen x.toNat)) ∧ w' = w := by
  by_cases c2 : 65536 ≤ x
  · by_cases c1 : 256 ≤ x / 65536
    · have HB : Hid ((bitLen x.toNat : Int) = 24 + bitLen (x / 65536 / 256).toNat) := hid (by
        have h := bitLen_div x 24 h0 (by simp; omega)
        rw [h, show (x / ((2 ^ 24 : Nat) : Int)) = x / 65536 / 256 by first | (simp; done) | (simp; omega)]; simp)
      have HL := hid (bl_le (x / 65536 / 256).toNat (by omega))
      go_enter Tryz.func210, Tryz.ntmps210
      go_wp2
      go_ret
      refine ⟨ret_int ?_, rfl⟩
      simp only [len8tab_get]
      rw [wrap_two _ _ (by decide) (by decide) (by omega) HL.out, HB.out]
    · have HB : Hid ((bitLen x.toNat : Int) = 16 + bitLen (x / 65536).toNat) := hid (by
        have h := bitLen_div x 16 h0 (by simp; omega)
        rw [h, show (x / ((2 ^ 16 : Nat) : Int)) = x / 65536 by first | (simp; done) | (simp; omega)]; simp)
      have HL := hid (bl_le (x / 65536).toNat (by omega))
      go_enter Tryz.func210, Tryz.ntmps210
      go_wp2
      go_ret
      refine ⟨ret_int ?_, rfl⟩
      simp only [len8tab_get]
      rw [wrap_two _ _ (by decide) (by decide) (by omega) HL.out, HB.out]
  · by_cases c1 : 256 ≤ x
    · have HB : Hid ((bitLen x.toNat : Int) = 8 + bitLen (x / 256).toNat) := hid (by
        have h := bitLen_div x 8 h0 (by simp; omega)
        rw [h, show (x / ((2 ^ 8 : Nat) : Int)) = x / 256 by first | (simp; done) | (simp; omega)]; simp)
      have HL := hid (bl_le (x / 256).toNat (by omega))
      go_enter Tryz.func210, Tryz.ntmps210
      go_wp2
      go_ret
      refine ⟨ret_int ?_, rfl⟩
      simp only [len8tab_get]
      rw [wrap_two _ _ (by decide) (by decide) (by omega) HL.out, HB.out]
    · have HL := hid (bl_le x.toNat (by omega))
      go_enter Tryz.func210, Tryz.ntmps210
      go_wp2
      go_ret
      refine ⟨ret_int ?_, rfl⟩
      simp only [len8tab_get]
      have h8 := HL.out
      rw [wrap_small (wrap64 _) (by rw [wrap_small _ (by omega) (by omega)]; omega) (by rw [wrap_small _ (by omega) (by omega)]; omega), wrap_small _ (by omega) (by omega)]
def blW (ng : Bool) (zs : List Int) : Int := if okB ng zs then blL zs else -1
theorem bl_impl (ng : Bool) (a : Option Addr) (cap : Nat) (zs : List Int) (w : World) (hs : Sl .u32 w (.slice a zs.length cap) zs) (hz : Nm.Dg zs) (hl : zs.length ≤ 1048576) :
    Calls Tryz.prog 155 #[.agg #[.bool ng, .slice a zs.length cap]] w fun e w' => e = .returned (.int .i64 (blW ng zs)) ∧ Below w.heap.size w w' := by
  have hl' : zs.length ≤ 140737488355328 := by omega
  cases h1 : okB ng zs
  · have HR : Hid (blW ng zs = -1) := hid (by unfold blW; rw [h1]; rfl)
    go_enter Tryz.func155, Tryz.ntmps155
    go_wp2_with fail
    refine (ok_impl ng a cap zs _ (hs.alloc _) hl').mono ?_
    rintro e w1 ⟨rfl, hb1⟩
    go_wp2
    go_ret
    exact ⟨ret_int HR.out.symm, (by repeat (first | exact bz0 _ _ | refine bz1 ?_ | refine bz2 ?_ _ | refine bz3 ?_ _ | refine bz4 ?_ hb1 | refine bz5 ?_ _ | refine bz6 ?_ _ | refine bz7 ?_ hb1))⟩
  have HW : Hid (blW ng zs = blL zs) := hid (by unfold blW; rw [h1]; rfl)
  by_cases h0 : zs.length = 0
  · have HR : Hid (blW ng zs = 0) := hid (by rw [HW.out]; unfold blL; rw [if_pos h0])
    have hb0 : ((zs.length : Int) == 0) = true := by rw [beq_iff_eq]; omega
    clear h0
    go_enter Tryz.func155, Tryz.ntmps155
    go_wp2_with fail
    refine (ok_impl ng a cap zs _ (hs.alloc _) hl').mono ?_
    rintro e w1 ⟨rfl, hb1⟩
    obtain ⟨x10, x11⟩ := (Box.new w (.bool ng) (.slice a zs.length cap) 32).below hb1
    go_wp2
    go_ret
    exact ⟨ret_int HR.out.symm, (by repeat (first | exact bz0 _ _ | refine bz1 ?_ | refine bz2 ?_ _ | refine bz3 ?_ _ | refine bz4 ?_ hb1 | refine bz5 ?_ _ | refine bz6 ?_ _ | refine bz7 ?_ hb1))⟩
  · have hb0 : ((zs.length : Int) == 0) = false := by rw [beq_eq_false_iff_ne]; omega
    obtain ⟨z, hzk⟩ : ∃ z, z = zs.getD (zs.length - 1) 0 := ⟨_, rfl⟩
    have HR : Hid (blW ng zs = 32 * ((zs.length : Int) - 1) + bitLen z.toNat) := hid (by rw [HW.out]; unfold blL; rw [if_neg h0, hzk])
    have hd := hz.getD (zs.length - 1)
    have hb32 := bitLen_le32 z (by rw [hzk]; exact hd.1) (by rw [hzk]; exact hd.2)
    rw [← hzk] at hd
    have HZ := hid hzk
    clear hzk
    go_enter Tryz.func155, Tryz.ntmps155
    go_wp2_with fail
    refine (ok_impl ng a cap zs _ (hs.alloc _) hl').mono ?_
    rintro e w1 ⟨rfl, hb1⟩
    obtain ⟨x10, x11⟩ := (Box.new w (.bool ng) (.slice a zs.length cap) 32).below hb1
    have s1 := (hs.alloc _).below hb1
    obtain ⟨-, _, _, hc3⟩ := s1.cells
    obtain ⟨b, off, rfl, hcell⟩ := hc3 (by omega)
    have hc := hcell (zs.length - 1) (by omega)
    rw [← HZ.out] at hc
    clear hcell hc3
    go_wp2_with fail
    refine (len32_any z _ hd.1 hd.2).mono ?_
    rintro e w2 ⟨rfl, rfl⟩
    go_wp2
    go_ret
    exact ⟨ret_int HR.out.symm, (by repeat (first | exact bz0 _ _ | refine bz1 ?_ | refine bz2 ?_ _ | refine bz3 ?_ _ | refine bz4 ?_ hb1 | refine bz5 ?_ _ | refine bz6 ?_ _ | refine bz7 ?_ hb1))⟩

theorem negv (v : Int) (h0 : 0 ≤ v) (h1 : v ≤ 9223372036854775808) : wrap64 (IntKind.u64.wrap (-v)) = -v := by
  rw [IntKind.wrap_u64]; unfold wrap64; omega
/-- The number that a wide of limbs worth v is, and whether it is one of 64 bits. -/
def smI (ng : Bool) (v : Int) : Int := if ng then (if v ≤ 9223372036854775808 then -v else 0) else (if v < 9223372036854775808 then v else 0)
def smB (ng : Bool) (v : Int) : Bool := if ng then decide (v ≤ 9223372036854775808) else decide (v < 9223372036854775808)
/-- .. and of any wide. -/
def smWI (ng : Bool) (zs : List Int) : Int := if okB ng zs && decide (zs.length ≤ 2) then smI ng (zs.getD 0 0 + zs.getD 1 0 * 4294967296) else 0
def smWB (ng : Bool) (zs : List Int) : Bool := if okB ng zs && decide (zs.length ≤ 2) then smB ng (zs.getD 0 0 + zs.getD 1 0 * 4294967296) else false
theorem sm_yes {ng : Bool} {zs : List Int} (h : okB ng zs = true) (k : zs.length ≤ 2) : smWI ng zs = smI ng (zs.getD 0 0 + zs.getD 1 0 * 4294967296) ∧ smWB ng zs = smB ng (zs.getD 0 0 + zs.getD 1 0 * 4294967296) := by
  unfold smWI smWB; rw [h]; simp [k]
theorem sm_no1 {ng : Bool} {zs : List Int} (h : okB ng zs = false) : smWI ng zs = 0 ∧ smWB ng zs = false := by unfold smWI smWB; rw [h]; simp
theorem sm_no2 {ng : Bool} {zs : List Int} (k : ¬ zs.length ≤ 2) : smWI ng zs = 0 ∧ smWB ng zs = false := by unfold smWI smWB; simp [k]
theorem ret_small {a a' : Int} {b b' : Bool} (h : a = a') (k : b = b') : Ending.returned (.tuple #[.int .i64 a, .bool b]) = .returned (.tuple #[.int .i64 a', .bool b']) := by rw [h, k]
theorem smi0 (ng : Bool) (a : Option Addr) (cap : Nat) (w : World) (hs : Sl .u32 w (.slice a 0 cap) []) (hk : okB ng [] = true) :
    Calls Tryz.prog 211 #[.agg #[.bool ng, .slice a 0 cap]] w fun e w' => e = .returned (.tuple #[.int .i64 (smI ng 0), .bool (smB ng 0)]) ∧ Below w.heap.size w w' := by
  cases ng
  rotate_left
  · simp [okB] at hk
  have HA : Hid ((0 : Int) = smI false 0) := hid (by decide)
  have HB : Hid (true = smB false 0) := hid (by decide)
  go_enter Tryz.func211, Tryz.ntmps211
  go_wp2_with fail
  refine (ok_impl false _ cap [] _ (hs.alloc _) (by simp)).mono ?_
  rintro e w1 ⟨rfl, hb1⟩
  obtain ⟨x10, x11⟩ := (Box.new w (.bool false) (.slice a 0 cap) 32).below hb1
  have s1 := (hs.alloc _).below hb1
  go_wp2_with fail
  refine wp_loop_rounds 1 ?_
  rw [rounds_succ]
  go_wp2
  go_ret2
  exact ⟨ret_small HA.out HB.out, (by repeat (first | exact bz0 _ _ | refine bz1 ?_ | refine bz2 ?_ _ | refine bz3 ?_ _ | refine bz4 ?_ hb1 | refine bz5 ?_ _ | refine bz6 ?_ _ | refine bz7 ?_ hb1))⟩
theorem smi1 (ng : Bool) (b off : Nat) (x : Int) (cap : Nat) (w : World) (hs : Sl .u32 w (.slice (some ⟨b, off, none⟩) 1 cap) [x]) (hk : okB ng [x] = true) (hx0 : 0 ≤ x) (hx1 : x < 4294967296) :
    Calls Tryz.prog 211 #[.agg #[.bool ng, .slice (some ⟨b, off, none⟩) 1 cap]] w fun e w' => e = .returned (.tuple #[.int .i64 (smI ng x), .bool (smB ng x)]) ∧ Below w.heap.size w w' := by
  have e1 := or_zero x hx0 (by omega)
  cases ng
  · by_cases hv : x < 9223372036854775808
    · have HA : Hid (x = smI false x) := hid (by unfold smI; rw [if_neg (by decide), if_pos hv])
      have HB : Hid (true = smB false x) := hid (by unfold smB; rw [if_neg (by decide)]; simpa using hv)
      go_enter Tryz.func211, Tryz.ntmps211
      go_wp2_with fail
      refine (ok_impl false _ cap [x] _ (hs.alloc _) (by simp)).mono ?_
      rintro e w1 ⟨rfl, hb1⟩
      obtain ⟨x10, x11⟩ := (Box.new w (.bool false) (.slice (some ⟨b, off, none⟩) 1 cap) 32).below hb1
      have s1 := (hs.alloc _).below hb1
      obtain ⟨-, _, _, hc3⟩ := s1.cells
      obtain ⟨b', off', hbo, hcell⟩ := hc3 (by simp)
      simp at hbo
      obtain ⟨rfl, rfl⟩ := hbo
      have c0 : w1.cell? ⟨b, off, none⟩ = some (.int .u32 x) := by simpa using hcell 0 (by simp)
      clear hcell hc3
      go_wp2_with fail
      refine wp_loop_rounds 2 ?_
      rw [rounds_succ]
      go_wp2
      rw [rounds_succ]
      go_wp2
      go_ret2
      exact ⟨ret_small HA.out HB.out, (by repeat (first | exact bz0 _ _ | refine bz1 ?_ | refine bz2 ?_ _ | refine bz3 ?_ _ | refine bz4 ?_ hb1 | refine bz5 ?_ _ | refine bz6 ?_ _ | refine bz7 ?_ hb1))⟩
    · omega
  · by_cases hv : x ≤ 9223372036854775808
    · have HA : Hid (wrap64 (IntKind.u64.wrap (-x)) = smI true x) := hid (by rw [negv _ (by omega) hv]; unfold smI; rw [if_pos rfl, if_pos hv])
      have HB : Hid (true = smB true x) := hid (by unfold smB; rw [if_pos rfl]; simpa using hv)
      go_enter Tryz.func211, Tryz.ntmps211
      go_wp2_with fail
      refine (ok_impl true _ cap [x] _ (hs.alloc _) (by simp)).mono ?_
      rintro e w1 ⟨rfl, hb1⟩
      obtain ⟨x10, x11⟩ := (Box.new w (.bool true) (.slice (some ⟨b, off, none⟩) 1 cap) 32).below hb1
      have s1 := (hs.alloc _).below hb1
      obtain ⟨-, _, _, hc3⟩ := s1.cells
      obtain ⟨b', off', hbo, hcell⟩ := hc3 (by simp)
      simp at hbo
      obtain ⟨rfl, rfl⟩ := hbo
      have c0 : w1.cell? ⟨b, off, none⟩ = some (.int .u32 x) := by simpa using hcell 0 (by simp)
      clear hcell hc3
      go_wp2_with fail
      refine wp_loop_rounds 2 ?_
      rw [rounds_succ]
      go_wp2
      rw [rounds_succ]
      go_wp2
      go_ret2
      exact ⟨ret_small HA.out HB.out, (by repeat (first | exact bz0 _ _ | refine bz1 ?_ | refine bz2 ?_ _ | refine bz3 ?_ _ | refine bz4 ?_ hb1 | refine bz5 ?_ _ | refine bz6 ?_ _ | refine bz7 ?_ hb1))⟩
    · omega
theorem smi2 (ng : Bool) (b off : Nat) (x y : Int) (cap : Nat) (w : World) (hs : Sl .u32 w (.slice (some ⟨b, off, none⟩) 2 cap) [x, y]) (hk : okB ng [x, y] = true) (hx0 : 0 ≤ x) (hx1 : x < 4294967296) (hy0 : 0 ≤ y) (hy1 : y < 4294967296) :
    Calls Tryz.prog 211 #[.agg #[.bool ng, .slice (some ⟨b, off, none⟩) 2 cap]] w fun e w' => e = .returned (.tuple #[.int .i64 (smI ng (x + y * 4294967296)), .bool (smB ng (x + y * 4294967296))]) ∧ Below w.heap.size w w' := by
  have e1 := or_zero x hx0 (by omega)
  have e2 := or_shift x y hx0 hx1 hy0 hy1
  cases ng
  · by_cases hv : (x + y * 4294967296) < 9223372036854775808
    · have HA : Hid ((x + y * 4294967296) = smI false (x + y * 4294967296)) := hid (by unfold smI; rw [if_neg (by decide), if_pos hv])
      have HB : Hid (true = smB false (x + y * 4294967296)) := hid (by unfold smB; rw [if_neg (by decide)]; simpa using hv)
      go_enter Tryz.func211, Tryz.ntmps211
      go_wp2_with fail
      refine (ok_impl false _ cap [x, y] _ (hs.alloc _) (by simp)).mono ?_
      rintro e w1 ⟨rfl, hb1⟩
      obtain ⟨x10, x11⟩ := (Box.new w (.bool false) (.slice (some ⟨b, off, none⟩) 2 cap) 32).below hb1
      have s1 := (hs.alloc _).below hb1
      obtain ⟨-, _, _, hc3⟩ := s1.cells
      obtain ⟨b', off', hbo, hcell⟩ := hc3 (by simp)
      simp at hbo
      obtain ⟨rfl, rfl⟩ := hbo
      have c0 : w1.cell? ⟨b, off, none⟩ = some (.int .u32 x) := by simpa using hcell 0 (by simp)
      have c1 : w1.cell? ⟨b, off + 1, none⟩ = some (.int .u32 y) := by simpa using hcell 1 (by simp)
      clear hcell hc3
      go_wp2_with fail
      refine wp_loop_rounds 3 ?_
      rw [rounds_succ]
      go_wp2
      rw [rounds_succ]
      go_wp2
      rw [rounds_succ]
      go_wp2
      go_ret2
      exact ⟨ret_small HA.out HB.out, (by repeat (first | exact bz0 _ _ | refine bz1 ?_ | refine bz2 ?_ _ | refine bz3 ?_ _ | refine bz4 ?_ hb1 | refine bz5 ?_ _ | refine bz6 ?_ _ | refine bz7 ?_ hb1))⟩
    · have HA : Hid ((0 : Int) = smI false (x + y * 4294967296)) := hid (by unfold smI; rw [if_neg (by decide), if_neg hv])
      have HB : Hid (false = smB false (x + y * 4294967296)) := hid (by unfold smB; rw [if_neg (by decide)]; simpa using hv)
      go_enter Tryz.func211, Tryz.ntmps211
      go_wp2_with fail
      refine (ok_impl false _ cap [x, y] _ (hs.alloc _) (by simp)).mono ?_
      rintro e w1 ⟨rfl, hb1⟩
      obtain ⟨x10, x11⟩ := (Box.new w (.bool false) (.slice (some ⟨b, off, none⟩) 2 cap) 32).below hb1
      have s1 := (hs.alloc _).below hb1
      obtain ⟨-, _, _, hc3⟩ := s1.cells
      obtain ⟨b', off', hbo, hcell⟩ := hc3 (by simp)
      simp at hbo
      obtain ⟨rfl, rfl⟩ := hbo
      have c0 : w1.cell? ⟨b, off, none⟩ = some (.int .u32 x) := by simpa using hcell 0 (by simp)
      have c1 : w1.cell? ⟨b, off + 1, none⟩ = some (.int .u32 y) := by simpa using hcell 1 (by simp)
      clear hcell hc3
      go_wp2_with fail
      refine wp_loop_rounds 3 ?_
      rw [rounds_succ]
      go_wp2
      rw [rounds_succ]
      go_wp2
      rw [rounds_succ]
      go_wp2
      go_ret2
      exact ⟨ret_small HA.out HB.out, (by repeat (first | exact bz0 _ _ | refine bz1 ?_ | refine bz2 ?_ _ | refine bz3 ?_ _ | refine bz4 ?_ hb1 | refine bz5 ?_ _ | refine bz6 ?_ _ | refine bz7 ?_ hb1))⟩
  · by_cases hv : (x + y * 4294967296) ≤ 9223372036854775808
    · have HA : Hid (wrap64 (IntKind.u64.wrap (-(x + y * 4294967296))) = smI true (x + y * 4294967296)) := hid (by rw [negv _ (by omega) hv]; unfold smI; rw [if_pos rfl, if_pos hv])
      have HB : Hid (true = smB true (x + y * 4294967296)) := hid (by unfold smB; rw [if_pos rfl]; simpa using hv)
      go_enter Tryz.func211, Tryz.ntmps211
      go_wp2_with fail
      refine (ok_impl true _ cap [x, y] _ (hs.alloc _) (by simp)).mono ?_
      rintro e w1 ⟨rfl, hb1⟩
      obtain ⟨x10, x11⟩ := (Box.new w (.bool true) (.slice (some ⟨b, off, none⟩) 2 cap) 32).below hb1
      have s1 := (hs.alloc _).below hb1
      obtain ⟨-, _, _, hc3⟩ := s1.cells
      obtain ⟨b', off', hbo, hcell⟩ := hc3 (by simp)
      simp at hbo
      obtain ⟨rfl, rfl⟩ := hbo
      have c0 : w1.cell? ⟨b, off, none⟩ = some (.int .u32 x) := by simpa using hcell 0 (by simp)
      have c1 : w1.cell? ⟨b, off + 1, none⟩ = some (.int .u32 y) := by simpa using hcell 1 (by simp)
      clear hcell hc3
      go_wp2_with fail
      refine wp_loop_rounds 3 ?_
      rw [rounds_succ]
      go_wp2
      rw [rounds_succ]
      go_wp2
      rw [rounds_succ]
      go_wp2
      go_ret2
      exact ⟨ret_small HA.out HB.out, (by repeat (first | exact bz0 _ _ | refine bz1 ?_ | refine bz2 ?_ _ | refine bz3 ?_ _ | refine bz4 ?_ hb1 | refine bz5 ?_ _ | refine bz6 ?_ _ | refine bz7 ?_ hb1))⟩
    · have HA : Hid ((0 : Int) = smI true (x + y * 4294967296)) := hid (by unfold smI; rw [if_pos rfl, if_neg hv])
      have HB : Hid (false = smB true (x + y * 4294967296)) := hid (by unfold smB; rw [if_pos rfl]; simpa using hv)
      go_enter Tryz.func211, Tryz.ntmps211
      go_wp2_with fail
      refine (ok_impl true _ cap [x, y] _ (hs.alloc _) (by simp)).mono ?_
      rintro e w1 ⟨rfl, hb1⟩
      obtain ⟨x10, x11⟩ := (Box.new w (.bool true) (.slice (some ⟨b, off, none⟩) 2 cap) 32).below hb1
      have s1 := (hs.alloc _).below hb1
      obtain ⟨-, _, _, hc3⟩ := s1.cells
      obtain ⟨b', off', hbo, hcell⟩ := hc3 (by simp)
      simp at hbo
      obtain ⟨rfl, rfl⟩ := hbo
      have c0 : w1.cell? ⟨b, off, none⟩ = some (.int .u32 x) := by simpa using hcell 0 (by simp)
      have c1 : w1.cell? ⟨b, off + 1, none⟩ = some (.int .u32 y) := by simpa using hcell 1 (by simp)
      clear hcell hc3
      go_wp2_with fail
      refine wp_loop_rounds 3 ?_
      rw [rounds_succ]
      go_wp2
      rw [rounds_succ]
      go_wp2
      rw [rounds_succ]
      go_wp2
      go_ret2
      exact ⟨ret_small HA.out HB.out, (by repeat (first | exact bz0 _ _ | refine bz1 ?_ | refine bz2 ?_ _ | refine bz3 ?_ _ | refine bz4 ?_ hb1 | refine bz5 ?_ _ | refine bz6 ?_ _ | refine bz7 ?_ hb1))⟩
theorem smi_any (ng : Bool) (a : Option Addr) (cap : Nat) (zs : List Int) (w : World) (hs : Sl .u32 w (.slice a zs.length cap) zs) (hz : Nm.Dg zs) (hl : zs.length ≤ 1048576) :
    Calls Tryz.prog 211 #[.agg #[.bool ng, .slice a zs.length cap]] w fun e w' => e = .returned (.tuple #[.int .i64 (smWI ng zs), .bool (smWB ng zs)]) ∧ Below w.heap.size w w' := by
  have hl' : zs.length ≤ 140737488355328 := by omega
  cases h1 : okB ng zs
  · have HR := hid (sm_no1 h1)
    go_enter Tryz.func211, Tryz.ntmps211
    go_wp2_with fail
    refine (ok_impl ng a cap zs _ (hs.alloc _) hl').mono ?_
    rintro e w1 ⟨rfl, hb1⟩
    go_wp2
    go_ret2
    exact ⟨ret_small HR.out.1.symm HR.out.2.symm, (by repeat (first | exact bz0 _ _ | refine bz1 ?_ | refine bz2 ?_ _ | refine bz3 ?_ _ | refine bz4 ?_ hb1 | refine bz5 ?_ _ | refine bz6 ?_ _ | refine bz7 ?_ hb1))⟩
  by_cases h2 : zs.length ≤ 2
  · rw [(sm_yes h1 h2).1, (sm_yes h1 h2).2]
    match zs, hs, hz, h1, h2 with
    | [], hs, hz, h1, _ => exact smi0 ng a cap w hs h1
    | [x], hs, hz, h1, _ =>
      obtain ⟨-, _, _, hc3⟩ := hs.cells
      obtain ⟨b, off, rfl, _⟩ := hc3 (by simp)
      have hx := hz.head
      have := smi1 ng b off x cap w hs h1 hx.1 hx.2
      simpa using this
    | [x, y], hs, hz, h1, _ =>
      obtain ⟨-, _, _, hc3⟩ := hs.cells
      obtain ⟨b, off, rfl, _⟩ := hc3 (by simp)
      have hx := hz.head
      have hy := hz.tail.head
      exact smi2 ng b off x y cap w hs h1 hx.1 hx.2 hy.1 hy.2
    | _ :: _ :: _ :: _, _, _, _, h2 => simp at h2
  · have HR := hid (sm_no2 (ng := ng) h2)
    have hgt : (2 : Int) < (zs.length : Int) := by omega
    clear h2
    go_enter Tryz.func211, Tryz.ntmps211
    go_wp2_with fail
    refine (ok_impl ng a cap zs _ (hs.alloc _) hl').mono ?_
    rintro e w1 ⟨rfl, hb1⟩
    obtain ⟨x10, x11⟩ := (Box.new w (.bool ng) (.slice a zs.length cap) 32).below hb1
    go_wp2
    go_ret2
    exact ⟨ret_small HR.out.1.symm HR.out.2.symm, (by repeat (first | exact bz0 _ _ | refine bz1 ?_ | refine bz2 ?_ _ | refine bz3 ?_ _ | refine bz4 ?_ hb1 | refine bz5 ?_ _ | refine bz6 ?_ _ | refine bz7 ?_ hb1))⟩
end Go.Proofs.YtkfjmcdniohljaaGreatDoor
namespace Go.Proofs.YtkfjmcdniohljaaGreatDoor
set_option linter.unusedVariables false
namespace Nm
/-- By the program: what is cut off, held against a half by the bit below the last one, and the noughts. -/
theorem impl_half {P : Nat} {q : Int} {a : Nat} {e : Int} (h : a ≠ 0) (hr : rr P q a e ≠ 0) :
    rh P q a e = if (tz a : Int) = rn P q a e - 1 then 0 else if a / 2 ^ (rn P q a e - 1).toNat % 2 = 1 then 1 else -1 := by
  have hn := rr_pos hr
  have ht : ¬ rn P q a e ≤ tz a := fun hh => hr ((rr_tz h).2 hh)
  unfold rh rr
  generalize rn P q a e = n at *
  obtain ⟨k, hk⟩ : ∃ k : Nat, n = k + 1 := ⟨(n - 1).toNat, by omega⟩
  subst hk
  rw [show ((k : Int) + 1).toNat = k + 1 by omega, show ((k : Int) + 1 - 1).toNat = k by omega]
  have hp := pw_pos2 k
  have hmod : a % 2 ^ (k + 1) = a % 2 ^ k + 2 ^ k * (a / 2 ^ k % 2) := by rw [Nat.pow_succ, Nat.mod_mul]
  have hlt : a % 2 ^ k < 2 ^ k := Nat.mod_lt _ hp
  have hz := mod_pow_zero h k
  have hps : 2 ^ (k + 1) = 2 * 2 ^ k := by rw [Nat.pow_succ]; omega
  rw [hmod, hps]
  unfold cmp2
  by_cases hc : tz a = k
  · have hk0 : a % 2 ^ k = 0 := hz.2 (by omega)
    have hodd : a / 2 ^ k % 2 = 1 := by have := (tz_spec a h).2; unfold od at this; rwa [hc] at this
    rw [if_pos (show (tz a : Int) = (k : Int) + 1 - 1 by omega), hk0, hodd, if_neg (by omega), if_neg (by omega)]
  · rw [if_neg (show ¬ (tz a : Int) = (k : Int) + 1 - 1 by omega)]
    have hk0 : a % 2 ^ k ≠ 0 := fun h0 => by have := hz.1 h0; omega
    rcases Nat.mod_two_eq_zero_or_one (a / 2 ^ k) with h2 | h2
    · rw [h2, if_pos (by omega), if_neg (by decide)]
    · rw [h2, if_neg (by omega), if_pos (by omega), if_pos rfl]
/-- Where the step is greater than a unit, what stays has just P bits. -/
theorem rm_ge {P : Nat} {q : Int} {a : Nat} {e : Int} (h : a ≠ 0) (hP : 1 ≤ P) (hn : q - e < rn P q a e) : 2 ^ (P - 1) ≤ rm P q a e := by
  have hb := bl_ge h
  have hb1 := bl_pos h
  have hn : (bitLen a : Int) - P = rn P q a e := by unfold rn at hn ⊢; omega
  unfold rm sh
  generalize rn P q a e = n at *
  split
  · rw [Nat.le_div_iff_mul_le (pw_pos2 _), ← Nat.pow_add]
    exact Nat.le_trans (Nat.pow_le_pow_right (by decide) (by omega)) hb
  · refine Nat.le_trans ?_ (Nat.mul_le_mul_right _ hb)
    rw [← Nat.pow_add]
    exact Nat.pow_le_pow_right (by decide) (by omega)
/-- The same units, however they are written. -/
theorem stU_of {q : Int} {m : Nat} {e : Int} (h : m ≠ 0) (hq : q ≤ e) : m * 2 ^ (e - q).toNat = stU q m e := by
  unfold stU
  have hs := (tz_spec m h).1
  rw [show (e + (tz m : Int) - q).toNat = tz m + (e - q).toNat by omega, Nat.pow_add, ← Nat.mul_assoc, hs]
theorem st_in_of {P : Nat} {q : Int} {m : Nat} {e : Int} (h : m ≠ 0) (hm : m ≤ 2 ^ P) (hP : 1 ≤ P) (hq : q ≤ e) : stIn P q m e = true := by
  have hs := tz_spec m h
  unfold stIn
  rw [Bool.and_eq_true, decide_eq_true_eq, decide_eq_true_eq]
  refine ⟨?_, by omega⟩
  unfold stSp
  have : bitLen (od m) ≤ P := by
    by_cases he : m = 2 ^ P
    · have : od m = 1 := by
        have ht : tz m = P := by rw [he]; simpa using tz_mul (o := 1) rfl P
        unfold od; rw [ht, he]; exact Nat.div_self (pw_pos2 P)
      rw [this]; exact hP
    · refine (bl_le_iff _ _).2 (Nat.lt_of_le_of_lt ?_ (show m < 2 ^ P by omega))
      unfold od; exact Nat.div_le_self _ _
  omega
theorem r1_le {P : Nat} {q : Int} {a : Nat} {e : Int} (up : Bool) : r1 P q a e up ≤ 2 ^ P := by
  have := rm_lt (P := P) (q := q) (a := a) (e := e)
  unfold r1; split <;> omega
/-- Too great an exponent: no float, by the specification. -/
theorem big_no {P I : Nat} {q : Int} {a : Nat} {e : Int} {up : Bool} (h : a ≠ 0) (hP : 1 ≤ P) (hq : -2000 ≤ q) (hq0 : q ≤ 0) (hP2 : P ≤ 100) (hs : 5000 < rn P q a e + e) : flo P I (rU P q a e up) = false := by
  have hm := rm_ge (P := P) (q := q) (e := e) h hP (by omega)
  have h1 : 1 ≤ r1 P q a e up := by
    have := pw_pos2 (P - 1)
    unfold r1; split <;> omega
  have hb : bitLen (rU P q a e up) = bitLen (r1 P q a e up) + (rn P q a e + e - q).toNat := bl_mul (by omega) _
  have : ¬ bitLen (rU P q a e up) - P ≤ 2100 := by omega
  unfold flo
  rw [decide_eq_false this]; rfl
/-- What is rounded, by the program's settling. -/
theorem r_in {P : Nat} {q : Int} {a : Nat} {e : Int} {up : Bool} (hP : 1 ≤ P) (h1 : r1 P q a e up ≠ 0) : stIn P q (r1 P q a e up) (rn P q a e + e) = true := by
  have hq : q - e ≤ rn P q a e := by unfold rn; omega
  exact st_in_of h1 (r1_le up) hP (by omega)
theorem r_U {P : Nat} {q : Int} {a : Nat} {e : Int} {up : Bool} (h1 : r1 P q a e up ≠ 0) : rU P q a e up = stU q (r1 P q a e up) (rn P q a e + e) := by
  have hq : q - e ≤ rn P q a e := by unfold rn; omega
  exact stU_of h1 (by omega)
theorem r_zero {P I : Nat} {q : Int} {a : Nat} {e : Int} {up : Bool} (h1 : r1 P q a e up = 0) (hI : 0 < I) : flo P I (rU P q a e up) = true ∧ flb P (rU P q a e up) = 0 := by
  unfold rU; rw [h1, Nat.zero_mul]
  have : flb P 0 = 0 := by
    unfold flb; rw [bl_zero]
    have := pw_pos2 (P - 1)
    simp
  refine ⟨?_, this⟩
  unfold flo; rw [this, bl_zero]; simp [hI]
end Nm
end Go.Proofs.YtkfjmcdniohljaaGreatDoor
