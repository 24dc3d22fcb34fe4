/-
  What is needed of WideI, WideC.
-/
import Derived.Test.YtkfjmcdniohljaaGreatDoorF08
set_option maxHeartbeats 16000000
set_option maxRecDepth 1000000
namespace Go.Proofs.YtkfjmcdniohljaaGreatDoor
set_option linter.unusedVariables false
set_option linter.unusedSimpArgs false
open Go.RowKit Go.Deep
theorem nor_shift (n m : Nat) (hn : n < 2 ^ 32) : n ||| (m * 2 ^ 32) = n + m * 2 ^ 32 := by
 rw [Nat.or_comm, nat_join 32 (m * 2 ^ 32) n (Nat.mul_mod_left m (2 ^ 32)) hn, Nat.add_comm]
theorem or_shift (x y : Int) (hx : 0 ≤ x) (hx1 : x < 4294967296) (hy : 0 ≤ y) (hy1 : y < 4294967296) : bits .or .u64 x (y * 4294967296) = x + y * 4294967296 := by
 obtain ⟨n, rfl⟩ := Int.eq_ofNat_of_zero_le hx
 obtain ⟨m, rfl⟩ := Int.eq_ofNat_of_zero_le hy
 have h := u64_or_nat n (m * 2 ^ 32) (by omega) (by omega)
 rw [nor_shift n m (by omega)] at h
 have e : ((m * 2 ^ 32 : Nat) : Int) = (m : Int) * 4294967296 := by omega
 have e2 : ((n + m * 2 ^ 32 : Nat) : Int) = (n : Int) + (m : Int) * 4294967296 := by omega
 exact (congrArg (bits .or .u64 (n : Int)) e).symm.trans (h.trans e2)
theorem or_zero (x : Int) (hx : 0 ≤ x) (hx1 : x < 18446744073709551616) : bits .or .u64 0 x = x := by
 obtain ⟨n, rfl⟩ := Int.eq_ofNat_of_zero_le hx
 have h := u64_or_nat 0 n (by omega) (by omega)
 rw [Nat.zero_or] at h
 exact h

theorem negv (v : Int) (h0 : 0 ≤ v) (h1 : v ≤ 9223372036854775808) : wrap64 (IntKind.u64.wrap (-v)) = -v := by
 rw [IntKind.wrap_u64]; unfold wrap64; omega
def smI (ng : Bool) (v : Int) : Int := if ng then (if v ≤ 9223372036854775808 then -v else 0) else (if v < 9223372036854775808 then v else 0)
def smB (ng : Bool) (v : Int) : Bool := if ng then decide (v ≤ 9223372036854775808) else decide (v < 9223372036854775808)
def smWI (ng : Bool) (zs : List Int) : Int := if okB ng zs && decide (zs.length ≤ 2) then smI ng (zs.getD 0 0 + zs.getD 1 0 * 4294967296) else 0
def smWB (ng : Bool) (zs : List Int) : Bool := if okB ng zs && decide (zs.length ≤ 2) then smB ng (zs.getD 0 0 + zs.getD 1 0 * 4294967296) else false
theorem sm_yes {ng : Bool} {zs : List Int} (h : okB ng zs = true) (k : zs.length ≤ 2) : smWI ng zs = smI ng (zs.getD 0 0 + zs.getD 1 0 * 4294967296) ∧ smWB ng zs = smB ng (zs.getD 0 0 + zs.getD 1 0 * 4294967296) := by
 unfold smWI smWB; rw [h]; simp [k]
theorem sm_no1 {ng : Bool} {zs : List Int} (h : okB ng zs = false) : smWI ng zs = 0 ∧ smWB ng zs = false := by unfold smWI smWB; rw [h]; simp
theorem sm_no2 {ng : Bool} {zs : List Int} (k : ¬ zs.length ≤ 2) : smWI ng zs = 0 ∧ smWB ng zs = false := by unfold smWI smWB; simp [k]
theorem ret_small {a a' : Int} {b b' : Bool} (h : a = a') (k : b = b') : Ending.returned (.tuple #[.int .i64 a, .bool b]) = .returned (.tuple #[.int .i64 a', .bool b']) := by rw [h, k]
theorem low0 (ng : Bool) (a : Option Addr) (cap : Nat) (w : World) (hs : Sl .u32 w (.slice a 0 cap) []) :
  Calls Tryz.prog 84 #[.agg #[.bool ng, .slice a 0 cap]] w fun e w' => e = .returned (.int .u64 0) ∧ Below w.heap.size w w' := by
 go_enter Tryz.func84, Tryz.ntmps84
 go_wp2_with fail
 refine wp_loop_rounds 1 ?_
 rw [rounds_succ]
 go_wp2
 go_ret
 exact ⟨rfl, (by repeat (first | exact bz0 _ _ | refine bz1 ?_ | refine bz2 ?_ _ | refine bz3 ?_ _ | refine bz5 ?_ _ | refine bz6 ?_ _))⟩
theorem low1 (ng : Bool) (b off : Nat) (x : Int) (cap : Nat) (w : World) (hs : Sl .u32 w (.slice (some ⟨b, off, none⟩) 1 cap) [x]) (hx0 : 0 ≤ x) (hx1 : x < 4294967296) :
  Calls Tryz.prog 84 #[.agg #[.bool ng, .slice (some ⟨b, off, none⟩) 1 cap]] w fun e w' => e = .returned (.int .u64 x) ∧ Below w.heap.size w w' := by
 have e1 := or_zero x hx0 (by omega)
 obtain ⟨-, _, _, hc3⟩ := hs.cells
 obtain ⟨b', off', hbo, hcell⟩ := hc3 (by simp)
 simp at hbo
 obtain ⟨rfl, rfl⟩ := hbo
 have c0 : w.cell? ⟨b, off, none⟩ = some (.int .u32 x) := by simpa using hcell 0 (by simp)
 have hlt := World.block_lt_of_cell? w _ c0
 clear hcell hc3
 go_enter Tryz.func84, Tryz.ntmps84
 go_wp2_with fail
 refine wp_loop_rounds 2 ?_
 rw [rounds_succ]
 go_wp2
 rw [rounds_succ]
 go_wp2
 go_ret
 exact ⟨rfl, (by repeat (first | exact bz0 _ _ | refine bz1 ?_ | refine bz2 ?_ _ | refine bz3 ?_ _ | refine bz5 ?_ _ | refine bz6 ?_ _))⟩
theorem low2 (ng : Bool) (b off : Nat) (x y : Int) (cap : Nat) (w : World) (hs : Sl .u32 w (.slice (some ⟨b, off, none⟩) 2 cap) [x, y]) (hx0 : 0 ≤ x) (hx1 : x < 4294967296) (hy0 : 0 ≤ y) (hy1 : y < 4294967296) :
  Calls Tryz.prog 84 #[.agg #[.bool ng, .slice (some ⟨b, off, none⟩) 2 cap]] w fun e w' => e = .returned (.int .u64 (x + y * 4294967296)) ∧ Below w.heap.size w w' := by
 have e1 := or_zero x hx0 (by omega)
 have e2 := or_shift x y hx0 hx1 hy0 hy1
 obtain ⟨-, _, _, hc3⟩ := hs.cells
 obtain ⟨b', off', hbo, hcell⟩ := hc3 (by simp)
 simp at hbo
 obtain ⟨rfl, rfl⟩ := hbo
 have c0 : w.cell? ⟨b, off, none⟩ = some (.int .u32 x) := by simpa using hcell 0 (by simp)
 have hlt := World.block_lt_of_cell? w _ c0
 have c1 : w.cell? ⟨b, off + 1, none⟩ = some (.int .u32 y) := by simpa using hcell 1 (by simp)
 clear hcell hc3
 go_enter Tryz.func84, Tryz.ntmps84
 go_wp2_with fail
 refine wp_loop_rounds 3 ?_
 rw [rounds_succ]
 go_wp2
 rw [rounds_succ]
 go_wp2
 rw [rounds_succ]
 go_wp2
 go_ret
 exact ⟨rfl, (by repeat (first | exact bz0 _ _ | refine bz1 ?_ | refine bz2 ?_ _ | refine bz3 ?_ _ | refine bz5 ?_ _ | refine bz6 ?_ _))⟩
theorem smi0 (ng : Bool) (a : Option Addr) (cap : Nat) (w : World) (hs : Sl .u32 w (.slice a 0 cap) []) (hk : okB ng [] = true) :
  Calls Tryz.prog 211 #[.agg #[.bool ng, .slice a 0 cap]] w fun e w' => e = .returned (.tuple #[.int .i64 (smI ng 0), .bool (smB ng 0)]) ∧ Below w.heap.size w w' := by
 cases ng
 rotate_left
 ·simp [okB] at hk
 have HA : Hid ((0 : Int) = smI false 0) := hid (by decide)
 have HB : Hid (true = smB false 0) := hid (by decide)
 go_enter Tryz.func211, Tryz.ntmps211
 go_wp2_with fail
 refine (ok_impl false _ cap [] _ (hs.alloc _) (by simp)).mono ?_
 rintro e w1 ⟨rfl, hb1⟩
 obtain ⟨x10, x11⟩ := (Box.new w (.bool false) (.slice a 0 cap) 32).below hb1
 have s1 := (hs.alloc _).below hb1
 go_wp2_with fail
 refine wp_loop_rounds 1 ?_
 rw [rounds_succ]
 go_wp2
 go_ret2
 exact ⟨ret_small HA.out HB.out, (by repeat (first | exact bz0 _ _ | refine bz1 ?_ | refine bz2 ?_ _ | refine bz3 ?_ _ | refine bz4 ?_ hb1 | refine bz5 ?_ _ | refine bz6 ?_ _ | refine bz7 ?_ hb1))⟩
theorem smi1 (ng : Bool) (b off : Nat) (x : Int) (cap : Nat) (w : World) (hs : Sl .u32 w (.slice (some ⟨b, off, none⟩) 1 cap) [x]) (hk : okB ng [x] = true) (hx0 : 0 ≤ x) (hx1 : x < 4294967296) :
  Calls Tryz.prog 211 #[.agg #[.bool ng, .slice (some ⟨b, off, none⟩) 1 cap]] w fun e w' => e = .returned (.tuple #[.int .i64 (smI ng x), .bool (smB ng x)]) ∧ Below w.heap.size w w' := by
 have e1 := or_zero x hx0 (by omega)
 cases ng
 ·by_cases hv : x < 9223372036854775808
  ·have HA : Hid (x = smI false x) := hid (by unfold smI; rw [if_neg (by decide), if_pos hv])
   have HB : Hid (true = smB false x) := hid (by unfold smB; rw [if_neg (by decide)]; simpa using hv)
   go_enter Tryz.func211, Tryz.ntmps211
   go_wp2_with fail
   refine (ok_impl false _ cap [x] _ (hs.alloc _) (by simp)).mono ?_
   rintro e w1 ⟨rfl, hb1⟩
   obtain ⟨x10, x11⟩ := (Box.new w (.bool false) (.slice (some ⟨b, off, none⟩) 1 cap) 32).below hb1
   have s1 := (hs.alloc _).below hb1
   obtain ⟨-, _, _, hc3⟩ := s1.cells
   obtain ⟨b', off', hbo, hcell⟩ := hc3 (by simp)
   simp at hbo
   obtain ⟨rfl, rfl⟩ := hbo
   have c0 : w1.cell? ⟨b, off, none⟩ = some (.int .u32 x) := by simpa using hcell 0 (by simp)
   clear hcell hc3
   go_wp2_with fail
   refine wp_loop_rounds 2 ?_
   rw [rounds_succ]
   go_wp2
   rw [rounds_succ]
   go_wp2
   go_ret2
   exact ⟨ret_small HA.out HB.out, (by repeat (first | exact bz0 _ _ | refine bz1 ?_ | refine bz2 ?_ _ | refine bz3 ?_ _ | refine bz4 ?_ hb1 | refine bz5 ?_ _ | refine bz6 ?_ _ | refine bz7 ?_ hb1))⟩
  ·omega
 ·by_cases hv : x ≤ 9223372036854775808
  ·have HA : Hid (wrap64 (IntKind.u64.wrap (-x)) = smI true x) := hid (by rw [negv _ (by omega) hv]; unfold smI; rw [if_pos rfl, if_pos hv])
   have HB : Hid (true = smB true x) := hid (by unfold smB; rw [if_pos rfl]; simpa using hv)
   go_enter Tryz.func211, Tryz.ntmps211
   go_wp2_with fail
   refine (ok_impl true _ cap [x] _ (hs.alloc _) (by simp)).mono ?_
   rintro e w1 ⟨rfl, hb1⟩
   obtain ⟨x10, x11⟩ := (Box.new w (.bool true) (.slice (some ⟨b, off, none⟩) 1 cap) 32).below hb1
   have s1 := (hs.alloc _).below hb1
   obtain ⟨-, _, _, hc3⟩ := s1.cells
   obtain ⟨b', off', hbo, hcell⟩ := hc3 (by simp)
   simp at hbo
   obtain ⟨rfl, rfl⟩ := hbo
   have c0 : w1.cell? ⟨b, off, none⟩ = some (.int .u32 x) := by simpa using hcell 0 (by simp)
   clear hcell hc3
   go_wp2_with fail
   refine wp_loop_rounds 2 ?_
   rw [rounds_succ]
   go_wp2
   rw [rounds_succ]
   go_wp2
   go_ret2
   exact ⟨ret_small HA.out HB.out, (by repeat (first | exact bz0 _ _ | refine bz1 ?_ | refine bz2 ?_ _ | refine bz3 ?_ _ | refine bz4 ?_ hb1 | refine bz5 ?_ _ | refine bz6 ?_ _ | refine bz7 ?_ hb1))⟩
  ·omega
theorem smi2 (ng : Bool) (b off : Nat) (x y : Int) (cap : Nat) (w : World) (hs : Sl .u32 w (.slice (some ⟨b, off, none⟩) 2 cap) [x, y]) (hk : okB ng [x, y] = true) (hx0 : 0 ≤ x) (hx1 : x < 4294967296) (hy0 : 0 ≤ y) (hy1 : y < 4294967296) :
  Calls Tryz.prog 211 #[.agg #[.bool ng, .slice (some ⟨b, off, none⟩) 2 cap]] w fun e w' => e = .returned (.tuple #[.int .i64 (smI ng (x + y * 4294967296)), .bool (smB ng (x + y * 4294967296))]) ∧ Below w.heap.size w w' := by
 have e1 := or_zero x hx0 (by omega)
 have e2 := or_shift x y hx0 hx1 hy0 hy1
 cases ng
 ·by_cases hv : (x + y * 4294967296) < 9223372036854775808
  ·have HA : Hid ((x + y * 4294967296) = smI false (x + y * 4294967296)) := hid (by unfold smI; rw [if_neg (by decide), if_pos hv])
   have HB : Hid (true = smB false (x + y * 4294967296)) := hid (by unfold smB; rw [if_neg (by decide)]; simpa using hv)
   go_enter Tryz.func211, Tryz.ntmps211
   go_wp2_with fail
   refine (ok_impl false _ cap [x, y] _ (hs.alloc _) (by simp)).mono ?_
   rintro e w1 ⟨rfl, hb1⟩
   obtain ⟨x10, x11⟩ := (Box.new w (.bool false) (.slice (some ⟨b, off, none⟩) 2 cap) 32).below hb1
   have s1 := (hs.alloc _).below hb1
   obtain ⟨-, _, _, hc3⟩ := s1.cells
   obtain ⟨b', off', hbo, hcell⟩ := hc3 (by simp)
   simp at hbo
   obtain ⟨rfl, rfl⟩ := hbo
   have c0 : w1.cell? ⟨b, off, none⟩ = some (.int .u32 x) := by simpa using hcell 0 (by simp)
   have c1 : w1.cell? ⟨b, off + 1, none⟩ = some (.int .u32 y) := by simpa using hcell 1 (by simp)
   clear hcell hc3
   go_wp2_with fail
   refine wp_loop_rounds 3 ?_
   rw [rounds_succ]
   go_wp2
   rw [rounds_succ]
   go_wp2
   rw [rounds_succ]
   go_wp2
   go_ret2
   exact ⟨ret_small HA.out HB.out, (by repeat (first | exact bz0 _ _ | refine bz1 ?_ | refine bz2 ?_ _ | refine bz3 ?_ _ | refine bz4 ?_ hb1 | refine bz5 ?_ _ | refine bz6 ?_ _ | refine bz7 ?_ hb1))⟩
  ·have HA : Hid ((0 : Int) = smI false (x + y * 4294967296)) := hid (by unfold smI; rw [if_neg (by decide), if_neg hv])
   have HB : Hid (false = smB false (x + y * 4294967296)) := hid (by unfold smB; rw [if_neg (by decide)]; simpa using hv)
   go_enter Tryz.func211, Tryz.ntmps211
   go_wp2_with fail
   refine (ok_impl false _ cap [x, y] _ (hs.alloc _) (by simp)).mono ?_
   rintro e w1 ⟨rfl, hb1⟩
   obtain ⟨x10, x11⟩ := (Box.new w (.bool false) (.slice (some ⟨b, off, none⟩) 2 cap) 32).below hb1
   have s1 := (hs.alloc _).below hb1
   obtain ⟨-, _, _, hc3⟩ := s1.cells
   obtain ⟨b', off', hbo, hcell⟩ := hc3 (by simp)
   simp at hbo
   obtain ⟨rfl, rfl⟩ := hbo
   have c0 : w1.cell? ⟨b, off, none⟩ = some (.int .u32 x) := by simpa using hcell 0 (by simp)
   have c1 : w1.cell? ⟨b, off + 1, none⟩ = some (.int .u32 y) := by simpa using hcell 1 (by simp)
   clear hcell hc3
   go_wp2_with fail
   refine wp_loop_rounds 3 ?_
   rw [rounds_succ]
   go_wp2
   rw [rounds_succ]
   go_wp2
   rw [rounds_succ]
   go_wp2
   go_ret2
   exact ⟨ret_small HA.out HB.out, (by repeat (first | exact bz0 _ _ | refine bz1 ?_ | refine bz2 ?_ _ | refine bz3 ?_ _ | refine bz4 ?_ hb1 | refine bz5 ?_ _ | refine bz6 ?_ _ | refine bz7 ?_ hb1))⟩
 ·by_cases hv : (x + y * 4294967296) ≤ 9223372036854775808
  ·have HA : Hid (wrap64 (IntKind.u64.wrap (-(x + y * 4294967296))) = smI true (x + y * 4294967296)) := hid (by rw [negv _ (by omega) hv]; unfold smI; rw [if_pos rfl, if_pos hv])
   have HB : Hid (true = smB true (x + y * 4294967296)) := hid (by unfold smB; rw [if_pos rfl]; simpa using hv)
   go_enter Tryz.func211, Tryz.ntmps211
   go_wp2_with fail
   refine (ok_impl true _ cap [x, y] _ (hs.alloc _) (by simp)).mono ?_
   rintro e w1 ⟨rfl, hb1⟩
   obtain ⟨x10, x11⟩ := (Box.new w (.bool true) (.slice (some ⟨b, off, none⟩) 2 cap) 32).below hb1
   have s1 := (hs.alloc _).below hb1
   obtain ⟨-, _, _, hc3⟩ := s1.cells
   obtain ⟨b', off', hbo, hcell⟩ := hc3 (by simp)
   simp at hbo
   obtain ⟨rfl, rfl⟩ := hbo
   have c0 : w1.cell? ⟨b, off, none⟩ = some (.int .u32 x) := by simpa using hcell 0 (by simp)
   have c1 : w1.cell? ⟨b, off + 1, none⟩ = some (.int .u32 y) := by simpa using hcell 1 (by simp)
   clear hcell hc3
   go_wp2_with fail
   refine wp_loop_rounds 3 ?_
   rw [rounds_succ]
   go_wp2
   rw [rounds_succ]
   go_wp2
   rw [rounds_succ]
   go_wp2
   go_ret2
   exact ⟨ret_small HA.out HB.out, (by repeat (first | exact bz0 _ _ | refine bz1 ?_ | refine bz2 ?_ _ | refine bz3 ?_ _ | refine bz4 ?_ hb1 | refine bz5 ?_ _ | refine bz6 ?_ _ | refine bz7 ?_ hb1))⟩
  ·have HA : Hid ((0 : Int) = smI true (x + y * 4294967296)) := hid (by unfold smI; rw [if_pos rfl, if_neg hv])
   have HB : Hid (false = smB true (x + y * 4294967296)) := hid (by unfold smB; rw [if_pos rfl]; simpa using hv)
   go_enter Tryz.func211, Tryz.ntmps211
   go_wp2_with fail
   refine (ok_impl true _ cap [x, y] _ (hs.alloc _) (by simp)).mono ?_
   rintro e w1 ⟨rfl, hb1⟩
   obtain ⟨x10, x11⟩ := (Box.new w (.bool true) (.slice (some ⟨b, off, none⟩) 2 cap) 32).below hb1
   have s1 := (hs.alloc _).below hb1
   obtain ⟨-, _, _, hc3⟩ := s1.cells
   obtain ⟨b', off', hbo, hcell⟩ := hc3 (by simp)
   simp at hbo
   obtain ⟨rfl, rfl⟩ := hbo
   have c0 : w1.cell? ⟨b, off, none⟩ = some (.int .u32 x) := by simpa using hcell 0 (by simp)
   have c1 : w1.cell? ⟨b, off + 1, none⟩ = some (.int .u32 y) := by simpa using hcell 1 (by simp)
   clear hcell hc3
   go_wp2_with fail
   refine wp_loop_rounds 3 ?_
   rw [rounds_succ]
   go_wp2
   rw [rounds_succ]
   go_wp2
   rw [rounds_succ]
   go_wp2
   go_ret2
   exact ⟨ret_small HA.out HB.out, (by repeat (first | exact bz0 _ _ | refine bz1 ?_ | refine bz2 ?_ _ | refine bz3 ?_ _ | refine bz4 ?_ hb1 | refine bz5 ?_ _ | refine bz6 ?_ _ | refine bz7 ?_ hb1))⟩
theorem smi_any (ng : Bool) (a : Option Addr) (cap : Nat) (zs : List Int) (w : World) (hs : Sl .u32 w (.slice a zs.length cap) zs) (hz : Nm.Dg zs) (hl : zs.length ≤ 1048576) :
  Calls Tryz.prog 211 #[.agg #[.bool ng, .slice a zs.length cap]] w fun e w' => e = .returned (.tuple #[.int .i64 (smWI ng zs), .bool (smWB ng zs)]) ∧ Below w.heap.size w w' := by
 have hl' : zs.length ≤ 140737488355328 := by omega
 cases h1 : okB ng zs
 ·have HR := hid (sm_no1 h1)
  go_enter Tryz.func211, Tryz.ntmps211
  go_wp2_with fail
  refine (ok_impl ng a cap zs _ (hs.alloc _) hl').mono ?_
  rintro e w1 ⟨rfl, hb1⟩
  go_wp2
  go_ret2
  exact ⟨ret_small HR.out.1.symm HR.out.2.symm, (by repeat (first | exact bz0 _ _ | refine bz1 ?_ | refine bz2 ?_ _ | refine bz3 ?_ _ | refine bz4 ?_ hb1 | refine bz5 ?_ _ | refine bz6 ?_ _ | refine bz7 ?_ hb1))⟩
 by_cases h2 : zs.length ≤ 2
 ·rw [(sm_yes h1 h2).1, (sm_yes h1 h2).2]
  match zs, hs, hz, h1, h2 with
  | [], hs, hz, h1, _ => exact smi0 ng a cap w hs h1
  | [x], hs, hz, h1, _ =>
   obtain ⟨-, _, _, hc3⟩ := hs.cells
   obtain ⟨b, off, rfl, _⟩ := hc3 (by simp)
   have hx := hz.head
   have := smi1 ng b off x cap w hs h1 hx.1 hx.2
   simpa using this
  | [x, y], hs, hz, h1, _ =>
   obtain ⟨-, _, _, hc3⟩ := hs.cells
   obtain ⟨b, off, rfl, _⟩ := hc3 (by simp)
   have hx := hz.head
   have hy := hz.tail.head
   exact smi2 ng b off x y cap w hs h1 hx.1 hx.2 hy.1 hy.2
  | _ :: _ :: _ :: _, _, _, _, h2 => simp at h2
 ·have HR := hid (sm_no2 (ng := ng) h2)
  have hgt : (2 : Int) < (zs.length : Int) := by omega
  clear h2
  go_enter Tryz.func211, Tryz.ntmps211
  go_wp2_with fail
  refine (ok_impl ng a cap zs _ (hs.alloc _) hl').mono ?_
  rintro e w1 ⟨rfl, hb1⟩
  obtain ⟨x10, x11⟩ := (Box.new w (.bool ng) (.slice a zs.length cap) 32).below hb1
  go_wp2
  go_ret2
  exact ⟨ret_small HR.out.1.symm HR.out.2.symm, (by repeat (first | exact bz0 _ _ | refine bz1 ?_ | refine bz2 ?_ _ | refine bz3 ?_ _ | refine bz4 ?_ hb1 | refine bz5 ?_ _ | refine bz6 ?_ _ | refine bz7 ?_ hb1))⟩
def wcmp (na nb : Bool) (xs ys : List Int) : Int := if okB na xs && okB nb ys then (if na && nb then cmpL ys xs else if na then -1 else if nb then 1 else cmpL xs ys) else 2
theorem wcmp_no1 {na nb : Bool} {xs ys : List Int} (h : okB na xs = false) : wcmp na nb xs ys = 2 := by unfold wcmp; rw [h]; rfl
theorem wcmp_no2 {na nb : Bool} {xs ys : List Int} (h : okB nb ys = false) : wcmp na nb xs ys = 2 := by unfold wcmp; rw [h]; simp
theorem wcmp_yes {na nb : Bool} {xs ys : List Int} (h : okB na xs = true) (k : okB nb ys = true) : wcmp na nb xs ys = if na && nb then cmpL ys xs else if na then -1 else if nb then 1 else cmpL xs ys := by unfold wcmp; rw [h, k]; rfl
theorem cmpL_rng (xs ys : List Int) : -1 ≤ cmpL xs ys ∧ cmpL xs ys ≤ 1 := by
 have := cmpFrom_rng xs ys xs.length
 unfold cmpL
 split
 ·omega
 ·split <;> omega

theorem wcmp_impl (na nb : Bool) (a a' : Option Addr) (cap cap' : Nat) (xs ys : List Int) (w : World) (hx : Sl .u32 w (.slice a xs.length cap) xs) (hy : Sl .u32 w (.slice a' ys.length cap') ys) (hl : xs.length ≤ 140737488355328) (hl' : ys.length ≤ 140737488355328) :
  Calls Tryz.prog 24 #[.agg #[.bool na, .slice a xs.length cap], .agg #[.bool nb, .slice a' ys.length cap']] w fun e w' => e = .returned (.int .i64 (wcmp na nb xs ys)) ∧ Below w.heap.size w w' := by
 have hx1 : ∀ o o', Sl .u32 ((w.alloc o).alloc o') (.slice a xs.length cap) xs := fun o o' => (hx.alloc o).alloc o'
 have hy1 : ∀ o o', Sl .u32 ((w.alloc o).alloc o') (.slice a' ys.length cap') ys := fun o o' => (hy.alloc o).alloc o'
 have HX := hid hx1; have HY := hid hy1
 clear hx1 hy1
 cases h1 : okB na xs
 ·have HR := hid (wcmp_no1 (nb := nb) (ys := ys) h1)
  go_enter Tryz.func24, Tryz.ntmps24
  go_wp2_with fail
  refine (ok_impl na a cap xs _ (HX.out _ _) hl).mono ?_
  rintro e w1 ⟨rfl, hb1⟩
  go_wp2
  go_ret
  exact ⟨ret_int HR.out.symm, (by repeat (first | exact bz0 _ _ | refine bz1 ?_ | refine bz2 ?_ _ | refine bz3 ?_ _ | refine bz4 ?_ hb1 | refine bz5 ?_ _ | refine bz6 ?_ _ | refine bz7 ?_ hb1))⟩
 cases h2 : okB nb ys
 ·have HR := hid (wcmp_no2 (na := na) (xs := xs) h2)
  go_enter Tryz.func24, Tryz.ntmps24
  go_wp2_with fail
  refine (ok_impl na a cap xs _ (HX.out _ _) hl).mono ?_
  rintro e w1 ⟨rfl, hb1⟩
  obtain ⟨x10, x11⟩ := ((Box.new w (.bool na) (.slice a xs.length cap) 32).alloc _).below hb1
  obtain ⟨y10, y11⟩ := (Box.new2 w _ (.bool nb) (.slice a' ys.length cap') 32).below hb1
  have HX1 := (HX.out _ _).below hb1; have HY1 := (HY.out _ _).below hb1
  go_wp2_with fail
  refine (ok_impl nb a' cap' ys _ HY1 hl').mono ?_
  rintro e w2 ⟨rfl, hb2⟩
  obtain ⟨x20, x21⟩ := Box.below ⟨x10, x11⟩ hb2
  obtain ⟨y20, y21⟩ := Box.below ⟨y10, y11⟩ hb2
  have HX2 := HX1.below hb2; have HY2 := HY1.below hb2
  go_wp2
  go_ret
  exact ⟨ret_int HR.out.symm, (by repeat (first | exact bz0 _ _ | refine bz1 ?_ | refine bz2 ?_ _ | refine bz3 ?_ _ | refine bz4 ?_ hb2 | refine bz4 ?_ hb1 | refine bz5 ?_ _ | refine bz6 ?_ _ | refine bz7 ?_ hb2 | refine bz7 ?_ hb1))⟩
 have HW := hid (wcmp_yes h1 h2)
 cases na <;> cases nb
 ·have HR : Hid (wcmp false false xs ys = cmpL xs ys) := hid (by rw [HW.out]; rfl)
  go_enter Tryz.func24, Tryz.ntmps24
  go_wp2_with fail
  refine (ok_impl false a cap xs _ (HX.out _ _) hl).mono ?_
  rintro e w1 ⟨rfl, hb1⟩
  obtain ⟨x10, x11⟩ := ((Box.new w (.bool false) (.slice a xs.length cap) 32).alloc _).below hb1
  obtain ⟨y10, y11⟩ := (Box.new2 w _ (.bool false) (.slice a' ys.length cap') 32).below hb1
  have HX1 := (HX.out _ _).below hb1; have HY1 := (HY.out _ _).below hb1
  go_wp2_with fail
  refine (ok_impl false a' cap' ys _ HY1 hl').mono ?_
  rintro e w2 ⟨rfl, hb2⟩
  obtain ⟨x20, x21⟩ := Box.below ⟨x10, x11⟩ hb2
  obtain ⟨y20, y21⟩ := Box.below ⟨y10, y11⟩ hb2
  have HX2 := HX1.below hb2; have HY2 := HY1.below hb2
  go_wp2_with fail
  refine (cmpLimbs_any a a' cap cap' xs ys _ HX2 HY2 hl hl').mono ?_
  rintro e w3 ⟨rfl, hb3⟩
  go_wp2
  go_ret
  exact ⟨ret_int HR.out.symm, (by repeat (first | exact bz0 _ _ | refine bz1 ?_ | refine bz2 ?_ _ | refine bz3 ?_ _ | refine bz4 ?_ hb3 | refine bz4 ?_ hb2 | refine bz4 ?_ hb1 | refine bz5 ?_ _ | refine bz6 ?_ _ | refine bz7 ?_ hb3 | refine bz7 ?_ hb2 | refine bz7 ?_ hb1))⟩
 ·have HR : Hid (wcmp false true xs ys = 1) := hid (by rw [HW.out]; rfl)
  go_enter Tryz.func24, Tryz.ntmps24
  go_wp2_with fail
  refine (ok_impl false a cap xs _ (HX.out _ _) hl).mono ?_
  rintro e w1 ⟨rfl, hb1⟩
  obtain ⟨x10, x11⟩ := ((Box.new w (.bool false) (.slice a xs.length cap) 32).alloc _).below hb1
  obtain ⟨y10, y11⟩ := (Box.new2 w _ (.bool true) (.slice a' ys.length cap') 32).below hb1
  have HX1 := (HX.out _ _).below hb1; have HY1 := (HY.out _ _).below hb1
  go_wp2_with fail
  refine (ok_impl true a' cap' ys _ HY1 hl').mono ?_
  rintro e w2 ⟨rfl, hb2⟩
  obtain ⟨x20, x21⟩ := Box.below ⟨x10, x11⟩ hb2
  obtain ⟨y20, y21⟩ := Box.below ⟨y10, y11⟩ hb2
  have HX2 := HX1.below hb2; have HY2 := HY1.below hb2
  go_wp2
  go_ret
  exact ⟨ret_int HR.out.symm, (by repeat (first | exact bz0 _ _ | refine bz1 ?_ | refine bz2 ?_ _ | refine bz3 ?_ _ | refine bz4 ?_ hb2 | refine bz4 ?_ hb1 | refine bz5 ?_ _ | refine bz6 ?_ _ | refine bz7 ?_ hb2 | refine bz7 ?_ hb1))⟩
 ·have HR : Hid (wcmp true false xs ys = -1) := hid (by rw [HW.out]; rfl)
  go_enter Tryz.func24, Tryz.ntmps24
  go_wp2_with fail
  refine (ok_impl true a cap xs _ (HX.out _ _) hl).mono ?_
  rintro e w1 ⟨rfl, hb1⟩
  obtain ⟨x10, x11⟩ := ((Box.new w (.bool true) (.slice a xs.length cap) 32).alloc _).below hb1
  obtain ⟨y10, y11⟩ := (Box.new2 w _ (.bool false) (.slice a' ys.length cap') 32).below hb1
  have HX1 := (HX.out _ _).below hb1; have HY1 := (HY.out _ _).below hb1
  go_wp2_with fail
  refine (ok_impl false a' cap' ys _ HY1 hl').mono ?_
  rintro e w2 ⟨rfl, hb2⟩
  obtain ⟨x20, x21⟩ := Box.below ⟨x10, x11⟩ hb2
  obtain ⟨y20, y21⟩ := Box.below ⟨y10, y11⟩ hb2
  have HX2 := HX1.below hb2; have HY2 := HY1.below hb2
  go_wp2
  go_ret
  exact ⟨ret_int HR.out.symm, (by repeat (first | exact bz0 _ _ | refine bz1 ?_ | refine bz2 ?_ _ | refine bz3 ?_ _ | refine bz4 ?_ hb2 | refine bz4 ?_ hb1 | refine bz5 ?_ _ | refine bz6 ?_ _ | refine bz7 ?_ hb2 | refine bz7 ?_ hb1))⟩
 ·have HR : Hid (wcmp true true xs ys = cmpL ys xs) := hid (by rw [HW.out]; rfl)
  go_enter Tryz.func24, Tryz.ntmps24
  go_wp2_with fail
  refine (ok_impl true a cap xs _ (HX.out _ _) hl).mono ?_
  rintro e w1 ⟨rfl, hb1⟩
  obtain ⟨x10, x11⟩ := ((Box.new w (.bool true) (.slice a xs.length cap) 32).alloc _).below hb1
  obtain ⟨y10, y11⟩ := (Box.new2 w _ (.bool true) (.slice a' ys.length cap') 32).below hb1
  have HX1 := (HX.out _ _).below hb1; have HY1 := (HY.out _ _).below hb1
  go_wp2_with fail
  refine (ok_impl true a' cap' ys _ HY1 hl').mono ?_
  rintro e w2 ⟨rfl, hb2⟩
  obtain ⟨x20, x21⟩ := Box.below ⟨x10, x11⟩ hb2
  obtain ⟨y20, y21⟩ := Box.below ⟨y10, y11⟩ hb2
  have HX2 := HX1.below hb2; have HY2 := HY1.below hb2
  go_wp2_with fail
  refine (cmpLimbs_any a' a cap' cap ys xs _ HY2 HX2 hl' hl).mono ?_
  rintro e w3 ⟨rfl, hb3⟩
  go_wp2
  go_ret
  exact ⟨ret_int HR.out.symm, (by repeat (first | exact bz0 _ _ | refine bz1 ?_ | refine bz2 ?_ _ | refine bz3 ?_ _ | refine bz4 ?_ hb3 | refine bz4 ?_ hb2 | refine bz4 ?_ hb1 | refine bz5 ?_ _ | refine bz6 ?_ _ | refine bz7 ?_ hb3 | refine bz7 ?_ hb2 | refine bz7 ?_ hb1))⟩

def lcmp (na nb : Bool) (xs ys : List Int) : Int := if na && nb then cmpL ys xs else if na then -1 else if nb then 1 else cmpL xs ys
theorem l1Cmp_any (na nb : Bool) (a a' : Option Addr) (cap cap' : Nat) (xs ys : List Int) (w : World) (hx : Sl .u32 w (.slice a xs.length cap) xs) (hy : Sl .u32 w (.slice a' ys.length cap') ys) (hl : xs.length ≤ 140737488355328) (hl' : ys.length ≤ 140737488355328) :
  Calls Tryz.prog 85 #[.agg #[.bool na, .slice a xs.length cap], .agg #[.bool nb, .slice a' ys.length cap']] w fun e w' => e = .returned (.int .i64 (lcmp na nb xs ys)) ∧ Below w.heap.size w w' := by
 cases na <;> cases nb
 ·have HR : Hid (lcmp false false xs ys = cmpL xs ys) := hid rfl
  go_enter Tryz.func85, Tryz.ntmps85
  go_wp2_with fail
  refine (mag_any a a' cap cap' xs ys _ ((hx.alloc _).alloc _) ((hy.alloc _).alloc _) hl hl').mono ?_
  rintro e w1 ⟨rfl, hb1⟩
  go_wp2
  go_ret
  exact ⟨ret_int HR.out.symm, (by repeat (first | exact bz0 _ _ | refine bz1 ?_ | refine bz2 ?_ _ | refine bz3 ?_ _ | refine bz4 ?_ hb1 | refine bz5 ?_ _ | refine bz6 ?_ _ | refine bz7 ?_ hb1))⟩
 ·have HR : Hid (lcmp false true xs ys = 1) := hid rfl
  go_enter Tryz.func85, Tryz.ntmps85
  go_wp2
  go_ret
  exact ⟨ret_int HR.out.symm, (by repeat (first | exact bz0 _ _ | refine bz1 ?_ | refine bz2 ?_ _ | refine bz3 ?_ _ | refine bz5 ?_ _ | refine bz6 ?_ _))⟩
 ·have HR : Hid (lcmp true false xs ys = -1) := hid rfl
  go_enter Tryz.func85, Tryz.ntmps85
  go_wp2
  go_ret
  exact ⟨ret_int HR.out.symm, (by repeat (first | exact bz0 _ _ | refine bz1 ?_ | refine bz2 ?_ _ | refine bz3 ?_ _ | refine bz5 ?_ _ | refine bz6 ?_ _))⟩
 ·have HR : Hid (lcmp true true xs ys = cmpL ys xs) := hid rfl
  go_enter Tryz.func85, Tryz.ntmps85
  go_wp2_with fail
  refine (mag_any a' a cap' cap ys xs _ ((hy.alloc _).alloc _) ((hx.alloc _).alloc _) hl' hl).mono ?_
  rintro e w1 ⟨rfl, hb1⟩
  go_wp2
  go_ret
  exact ⟨ret_int HR.out.symm, (by repeat (first | exact bz0 _ _ | refine bz1 ?_ | refine bz2 ?_ _ | refine bz3 ?_ _ | refine bz4 ?_ hb1 | refine bz5 ?_ _ | refine bz6 ?_ _ | refine bz7 ?_ hb1))⟩

end Go.Proofs.YtkfjmcdniohljaaGreatDoor
