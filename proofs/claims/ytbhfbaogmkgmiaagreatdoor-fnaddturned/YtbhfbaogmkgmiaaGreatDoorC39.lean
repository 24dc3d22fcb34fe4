/-
  What is needed of FloatE, AccI, FS, FM, FC, DP.
-/
import Derived.Test.YtbhfbaogmkgmiaaGreatDoorC22
import Derived.Test.YtbhfbaogmkgmiaaGreatDoorC27
import Derived.Test.YtbhfbaogmkgmiaaGreatDoorC28
set_option maxHeartbeats 16000000
set_option maxRecDepth 1000000
namespace Go.Proofs.YtbhfbaogmkgmiaaGreatDoor
set_option linter.unusedVariables false
set_option linter.unusedSimpArgs false
open Go.RowKit
theorem spec_cls32 (x : Int) (w : World) (h0 : 0 ≤ x) (h1 : x < 4294967296) :
    Calls Tryz.prog 45 #[.int .i64 32, .int .u64 x] w fun e w' => e = .returned (.int .i64 (clsY 8388608 2139095040 4194304 (x % 2147483648))) ∧ Below w.heap.size w w' := by
  have hok : okF 32 x = true := by simp [okF, h1]
  obtain ⟨y, hy⟩ : ∃ y, y = x % 2147483648 := ⟨_, rfl⟩
  have e : bits .andNot .u64 x 2147483648 = y := by rw [Bt.andNot31 x h0 (by omega)]; omega
  have y0 : 0 ≤ y := by omega
  have y1 : y < 2147483648 := by omega
  have eb := Bt.bit22 y y0 (by omega)
  rw [← hy]
  clear hy
  by_cases c0 : y = 0
  · have t0 : (y == 0) = true := by simpa using c0
    have HR : Hid (clsY 8388608 2139095040 4194304 y = 0) := hid (by unfold clsY; rw [if_pos c0])
    clear c0 eb
    go_enter Tryz.func45, Tryz.ntmps45
    go_wp2_with (first | (go_at_call 88; refine (spec_ok 32 x _).mono ?_; rintro e w1 ⟨rfl, hb1⟩) | go_in)
    go_ret
    exact ⟨ret_int HR.out.symm, (by repeat (first | exact bz0 _ _ | refine bz1 ?_ | refine bz2 ?_ _ | refine bz3 ?_ _ | refine bz4 ?_ hb1 | refine bz5 ?_ _ | refine bz6 ?_ _ | refine bz7 ?_ hb1))⟩
  have t0 : (y == 0) = false := by simpa using c0
  have p0 : 0 < y := by omega
  by_cases c1 : y < 8388608
  · have HR : Hid (clsY 8388608 2139095040 4194304 y = 1) := hid (by unfold clsY; rw [if_neg c0, if_pos c1])
    clear c0 eb
    go_enter Tryz.func45, Tryz.ntmps45
    go_wp2_with (first | (go_at_call 88; refine (spec_ok 32 x _).mono ?_; rintro e w1 ⟨rfl, hb1⟩) | go_in)
    go_ret
    exact ⟨ret_int HR.out.symm, (by repeat (first | exact bz0 _ _ | refine bz1 ?_ | refine bz2 ?_ _ | refine bz3 ?_ _ | refine bz4 ?_ hb1 | refine bz5 ?_ _ | refine bz6 ?_ _ | refine bz7 ?_ hb1))⟩
  by_cases c2 : y < 2139095040
  · have HR : Hid (clsY 8388608 2139095040 4194304 y = 2) := hid (by unfold clsY; rw [if_neg c0, if_neg c1, if_pos c2])
    clear c0 eb
    go_enter Tryz.func45, Tryz.ntmps45
    go_wp2_with (first | (go_at_call 88; refine (spec_ok 32 x _).mono ?_; rintro e w1 ⟨rfl, hb1⟩) | go_in)
    go_ret
    exact ⟨ret_int HR.out.symm, (by repeat (first | exact bz0 _ _ | refine bz1 ?_ | refine bz2 ?_ _ | refine bz3 ?_ _ | refine bz4 ?_ hb1 | refine bz5 ?_ _ | refine bz6 ?_ _ | refine bz7 ?_ hb1))⟩
  by_cases c3 : y = 2139095040
  · have t3 : (y == 2139095040) = true := by simpa using c3
    have HR : Hid (clsY 8388608 2139095040 4194304 y = 3) := hid (by unfold clsY; rw [if_neg c0, if_neg c1, if_neg c2, if_pos c3])
    clear c0 eb c3
    go_enter Tryz.func45, Tryz.ntmps45
    go_wp2_with (first | (go_at_call 88; refine (spec_ok 32 x _).mono ?_; rintro e w1 ⟨rfl, hb1⟩) | go_in)
    go_ret
    exact ⟨ret_int HR.out.symm, (by repeat (first | exact bz0 _ _ | refine bz1 ?_ | refine bz2 ?_ _ | refine bz3 ?_ _ | refine bz4 ?_ hb1 | refine bz5 ?_ _ | refine bz6 ?_ _ | refine bz7 ?_ hb1))⟩
  have t3 : (y == 2139095040) = false := by simpa using c3
  have p3 : 2139095040 < y := by omega
  by_cases c4 : y / 4194304 % 2 = 1
  · have t4 : (bits .and .u64 y 4194304 != 0) = true := by rw [eb, c4]; decide
    have HR : Hid (clsY 8388608 2139095040 4194304 y = 4) := hid (by unfold clsY; rw [if_neg c0, if_neg c1, if_neg c2, if_neg c3, if_pos c4])
    clear c0 eb c3 c4
    go_enter Tryz.func45, Tryz.ntmps45
    go_wp2_with (first | (go_at_call 88; refine (spec_ok 32 x _).mono ?_; rintro e w1 ⟨rfl, hb1⟩) | go_in)
    go_ret
    exact ⟨ret_int HR.out.symm, (by repeat (first | exact bz0 _ _ | refine bz1 ?_ | refine bz2 ?_ _ | refine bz3 ?_ _ | refine bz4 ?_ hb1 | refine bz5 ?_ _ | refine bz6 ?_ _ | refine bz7 ?_ hb1))⟩
  · have t4 : (bits .and .u64 y 4194304 != 0) = false := by rw [eb, show y / 4194304 % 2 = 0 by omega]; decide
    have HR : Hid (clsY 8388608 2139095040 4194304 y = 5) := hid (by unfold clsY; rw [if_neg c0, if_neg c1, if_neg c2, if_neg c3, if_neg c4])
    clear c0 eb c3 c4
    go_enter Tryz.func45, Tryz.ntmps45
    go_wp2_with (first | (go_at_call 88; refine (spec_ok 32 x _).mono ?_; rintro e w1 ⟨rfl, hb1⟩) | go_in)
    go_ret
    exact ⟨ret_int HR.out.symm, (by repeat (first | exact bz0 _ _ | refine bz1 ?_ | refine bz2 ?_ _ | refine bz3 ?_ _ | refine bz4 ?_ hb1 | refine bz5 ?_ _ | refine bz6 ?_ _ | refine bz7 ?_ hb1))⟩
theorem spec_cls64 (x : Int) (w : World) (h0 : 0 ≤ x) (h1 : x < 18446744073709551616) :
    Calls Tryz.prog 45 #[.int .i64 64, .int .u64 x] w fun e w' => e = .returned (.int .i64 (clsY 4503599627370496 9218868437227405312 2251799813685248 (x % 9223372036854775808))) ∧ Below w.heap.size w w' := by
  have hok : okF 64 x = true := by simp [okF, h1]
  obtain ⟨y, hy⟩ : ∃ y, y = x % 9223372036854775808 := ⟨_, rfl⟩
  have e : bits .andNot .u64 x 9223372036854775808 = y := by rw [Bt.andNot63 x h0 (by omega)]; omega
  have y0 : 0 ≤ y := by omega
  have y1 : y < 9223372036854775808 := by omega
  have eb := Bt.bit51 y y0 (by omega)
  rw [← hy]
  clear hy
  by_cases c0 : y = 0
  · have t0 : (y == 0) = true := by simpa using c0
    have HR : Hid (clsY 4503599627370496 9218868437227405312 2251799813685248 y = 0) := hid (by unfold clsY; rw [if_pos c0])
    clear c0 eb
    go_enter Tryz.func45, Tryz.ntmps45
    go_wp2_with (first | (go_at_call 88; refine (spec_ok 64 x _).mono ?_; rintro e w1 ⟨rfl, hb1⟩) | go_in)
    go_ret
    exact ⟨ret_int HR.out.symm, (by repeat (first | exact bz0 _ _ | refine bz1 ?_ | refine bz2 ?_ _ | refine bz3 ?_ _ | refine bz4 ?_ hb1 | refine bz5 ?_ _ | refine bz6 ?_ _ | refine bz7 ?_ hb1))⟩
  have t0 : (y == 0) = false := by simpa using c0
  have p0 : 0 < y := by omega
  by_cases c1 : y < 4503599627370496
  · have HR : Hid (clsY 4503599627370496 9218868437227405312 2251799813685248 y = 1) := hid (by unfold clsY; rw [if_neg c0, if_pos c1])
    clear c0 eb
    go_enter Tryz.func45, Tryz.ntmps45
    go_wp2_with (first | (go_at_call 88; refine (spec_ok 64 x _).mono ?_; rintro e w1 ⟨rfl, hb1⟩) | go_in)
    go_ret
    exact ⟨ret_int HR.out.symm, (by repeat (first | exact bz0 _ _ | refine bz1 ?_ | refine bz2 ?_ _ | refine bz3 ?_ _ | refine bz4 ?_ hb1 | refine bz5 ?_ _ | refine bz6 ?_ _ | refine bz7 ?_ hb1))⟩
  by_cases c2 : y < 9218868437227405312
  · have HR : Hid (clsY 4503599627370496 9218868437227405312 2251799813685248 y = 2) := hid (by unfold clsY; rw [if_neg c0, if_neg c1, if_pos c2])
    clear c0 eb
    go_enter Tryz.func45, Tryz.ntmps45
    go_wp2_with (first | (go_at_call 88; refine (spec_ok 64 x _).mono ?_; rintro e w1 ⟨rfl, hb1⟩) | go_in)
    go_ret
    exact ⟨ret_int HR.out.symm, (by repeat (first | exact bz0 _ _ | refine bz1 ?_ | refine bz2 ?_ _ | refine bz3 ?_ _ | refine bz4 ?_ hb1 | refine bz5 ?_ _ | refine bz6 ?_ _ | refine bz7 ?_ hb1))⟩
  by_cases c3 : y = 9218868437227405312
  · have t3 : (y == 9218868437227405312) = true := by simpa using c3
    have HR : Hid (clsY 4503599627370496 9218868437227405312 2251799813685248 y = 3) := hid (by unfold clsY; rw [if_neg c0, if_neg c1, if_neg c2, if_pos c3])
    clear c0 eb c3
    go_enter Tryz.func45, Tryz.ntmps45
    go_wp2_with (first | (go_at_call 88; refine (spec_ok 64 x _).mono ?_; rintro e w1 ⟨rfl, hb1⟩) | go_in)
    go_ret
    exact ⟨ret_int HR.out.symm, (by repeat (first | exact bz0 _ _ | refine bz1 ?_ | refine bz2 ?_ _ | refine bz3 ?_ _ | refine bz4 ?_ hb1 | refine bz5 ?_ _ | refine bz6 ?_ _ | refine bz7 ?_ hb1))⟩
  have t3 : (y == 9218868437227405312) = false := by simpa using c3
  have p3 : 9218868437227405312 < y := by omega
  by_cases c4 : y / 2251799813685248 % 2 = 1
  · have t4 : (bits .and .u64 y 2251799813685248 != 0) = true := by rw [eb, c4]; decide
    have HR : Hid (clsY 4503599627370496 9218868437227405312 2251799813685248 y = 4) := hid (by unfold clsY; rw [if_neg c0, if_neg c1, if_neg c2, if_neg c3, if_pos c4])
    clear c0 eb c3 c4
    go_enter Tryz.func45, Tryz.ntmps45
    go_wp2_with (first | (go_at_call 88; refine (spec_ok 64 x _).mono ?_; rintro e w1 ⟨rfl, hb1⟩) | go_in)
    go_ret
    exact ⟨ret_int HR.out.symm, (by repeat (first | exact bz0 _ _ | refine bz1 ?_ | refine bz2 ?_ _ | refine bz3 ?_ _ | refine bz4 ?_ hb1 | refine bz5 ?_ _ | refine bz6 ?_ _ | refine bz7 ?_ hb1))⟩
  · have t4 : (bits .and .u64 y 2251799813685248 != 0) = false := by rw [eb, show y / 2251799813685248 % 2 = 0 by omega]; decide
    have HR : Hid (clsY 4503599627370496 9218868437227405312 2251799813685248 y = 5) := hid (by unfold clsY; rw [if_neg c0, if_neg c1, if_neg c2, if_neg c3, if_neg c4])
    clear c0 eb c3 c4
    go_enter Tryz.func45, Tryz.ntmps45
    go_wp2_with (first | (go_at_call 88; refine (spec_ok 64 x _).mono ?_; rintro e w1 ⟨rfl, hb1⟩) | go_in)
    go_ret
    exact ⟨ret_int HR.out.symm, (by repeat (first | exact bz0 _ _ | refine bz1 ?_ | refine bz2 ?_ _ | refine bz3 ?_ _ | refine bz4 ?_ hb1 | refine bz5 ?_ _ | refine bz6 ?_ _ | refine bz7 ?_ hb1))⟩

theorem spec_clsNo (fm x : Int) (w : World) (h : okF fm x = false) :
    Calls Tryz.prog 45 #[.int .i64 fm, .int .u64 x] w fun e w' => e = .returned (.int .i64 (-1)) ∧ Below w.heap.size w w' := by
  go_enter Tryz.func45, Tryz.ntmps45
  go_wp2_with (go_at_call 88; refine (spec_ok fm x _).mono ?_; rintro e w1 ⟨rfl, hb1⟩)
  go_ret
  exact ⟨rfl, (by repeat (first | exact bz0 _ _ | refine bz1 ?_ | refine bz2 ?_ _ | refine bz3 ?_ _ | refine bz4 ?_ hb1 | refine bz5 ?_ _ | refine bz6 ?_ _ | refine bz7 ?_ hb1))⟩
theorem spec_cls (fm x : Int) (w : World) (h0 : 0 ≤ x) (h1 : x < 18446744073709551616) :
    Calls Tryz.prog 45 #[.int .i64 fm, .int .u64 x] w fun e w' => e = .returned (.int .i64 (cls fm x)) ∧ Below w.heap.size w w' := by
  cases h : okF fm x
  · rw [cls_no h]; exact spec_clsNo fm x w h
  · rcases okF_cases h with ⟨rfl, hx⟩ | rfl
    · rw [cls32 hx]; exact spec_cls32 x w h0 hx
    · rw [cls64]; exact spec_cls64 x w h0 h1
end Go.Proofs.YtbhfbaogmkgmiaaGreatDoor
namespace Go.Proofs.YtbhfbaogmkgmiaaGreatDoor
set_option linter.unusedVariables false
set_option linter.unusedSimpArgs false
open Go.RowKit Go.Deep
theorem nanS32 (w : World) :
    Calls Tryz.prog 137 #[.int .i64 32] w fun e w' => e = .returned (.int .u64 2143289344) ∧ Below w.heap.size w w' := by
  go_enter Tryz.func137, Tryz.ntmps137
  go_wp2
  go_ret
  exact ⟨rfl, (by repeat (first | exact bz0 _ _ | refine bz1 ?_ | refine bz2 ?_ _ | refine bz3 ?_ _ | refine bz5 ?_ _ | refine bz6 ?_ _))⟩
theorem infS32 (w : World) :
    Calls Tryz.prog 124 #[.int .i64 32] w fun e w' => e = .returned (.int .u64 2139095040) ∧ Below w.heap.size w w' := by
  go_enter Tryz.func124, Tryz.ntmps124
  go_wp2
  go_ret
  exact ⟨rfl, (by repeat (first | exact bz0 _ _ | refine bz1 ?_ | refine bz2 ?_ _ | refine bz3 ?_ _ | refine bz5 ?_ _ | refine bz6 ?_ _))⟩
theorem l3r_at32 (mode : Int) (ng : Bool) (zs : List Int) (e : Int) (p : Option Addr) (cap : Nat) (w : World) (hs : Sl .u32 w (.slice p zs.length cap) zs) (hz : Nm.Dg zs) (h0 : zs.length ≠ 0) (ho : RdO 32 mode ng zs e = true) :
    Calls Tryz.prog 121 #[.int .i64 32, .int .i64 mode, .agg #[.bool ng, .slice p zs.length cap], .int .i64 e] w fun x w' => x = .returned (.tuple #[.int .u64 (RdB 32 mode ng zs e), .int .i64 (RdF 32 mode ng zs e)]) ∧ Below w.heap.size w w' := by
  have hk := ho
  unfold RdO at hk
  simp only [Bool.and_eq_true] at hk
  obtain ⟨⟨⟨k1, k2⟩, k3⟩, k4⟩ := hk
  have k5 := inZ_yes k4
  obtain ⟨hzl, hbl⟩ := lim_ok hz k3
  have ha : (Nm.val zs).toNat ≠ 0 := by
    intro h; rw [h, Nm.lim_zero] at hzl; rw [hzl] at h0; exact h0 rfl
  have hB : RdB 32 mode ng zs e = rdB 24 (-149) 2139095040 2147483648 mode ng (Nm.val zs).toNat e := by unfold RdB; rw [ho, if_pos rfl, if_neg h0]; rfl
  have hF : RdF 32 mode ng zs e = rdF 24 (-149) 2139095040 mode ng (Nm.val zs).toNat e := by unfold RdF; rw [ho, if_pos rfl, if_neg h0]; rfl
  rw [hB, hF]
  obtain ⟨a, haz⟩ : ∃ a, a = (Nm.val zs).toNat := ⟨_, rfl⟩
  rw [← haz] at hzl hbl ha ⊢
  clear hB hF haz ho k3 hz h0
  subst hzl
  exact l3r_32 mode ng a e p cap w hs k2 ha (by omega) (by omega) (by omega)
theorem nanS64 (w : World) :
    Calls Tryz.prog 137 #[.int .i64 64] w fun e w' => e = .returned (.int .u64 9221120237041090560) ∧ Below w.heap.size w w' := by
  go_enter Tryz.func137, Tryz.ntmps137
  go_wp2
  go_ret
  exact ⟨rfl, (by repeat (first | exact bz0 _ _ | refine bz1 ?_ | refine bz2 ?_ _ | refine bz3 ?_ _ | refine bz5 ?_ _ | refine bz6 ?_ _))⟩
theorem infS64 (w : World) :
    Calls Tryz.prog 124 #[.int .i64 64] w fun e w' => e = .returned (.int .u64 9218868437227405312) ∧ Below w.heap.size w w' := by
  go_enter Tryz.func124, Tryz.ntmps124
  go_wp2
  go_ret
  exact ⟨rfl, (by repeat (first | exact bz0 _ _ | refine bz1 ?_ | refine bz2 ?_ _ | refine bz3 ?_ _ | refine bz5 ?_ _ | refine bz6 ?_ _))⟩
theorem l3r_at64 (mode : Int) (ng : Bool) (zs : List Int) (e : Int) (p : Option Addr) (cap : Nat) (w : World) (hs : Sl .u32 w (.slice p zs.length cap) zs) (hz : Nm.Dg zs) (h0 : zs.length ≠ 0) (ho : RdO 64 mode ng zs e = true) :
    Calls Tryz.prog 121 #[.int .i64 64, .int .i64 mode, .agg #[.bool ng, .slice p zs.length cap], .int .i64 e] w fun x w' => x = .returned (.tuple #[.int .u64 (RdB 64 mode ng zs e), .int .i64 (RdF 64 mode ng zs e)]) ∧ Below w.heap.size w w' := by
  have hk := ho
  unfold RdO at hk
  simp only [Bool.and_eq_true] at hk
  obtain ⟨⟨⟨k1, k2⟩, k3⟩, k4⟩ := hk
  have k5 := inZ_yes k4
  obtain ⟨hzl, hbl⟩ := lim_ok hz k3
  have ha : (Nm.val zs).toNat ≠ 0 := by
    intro h; rw [h, Nm.lim_zero] at hzl; rw [hzl] at h0; exact h0 rfl
  have hB : RdB 64 mode ng zs e = rdB 53 (-1074) 9218868437227405312 9223372036854775808 mode ng (Nm.val zs).toNat e := by unfold RdB; rw [ho, if_pos rfl, if_neg h0]; rfl
  have hF : RdF 64 mode ng zs e = rdF 53 (-1074) 9218868437227405312 mode ng (Nm.val zs).toNat e := by unfold RdF; rw [ho, if_pos rfl, if_neg h0]; rfl
  rw [hB, hF]
  obtain ⟨a, haz⟩ : ∃ a, a = (Nm.val zs).toNat := ⟨_, rfl⟩
  rw [← haz] at hzl hbl ha ⊢
  clear hB hF haz ho k3 hz h0
  subst hzl
  exact l3r_64 mode ng a e p cap w hs k2 ha (by omega) (by omega) (by omega)
theorem l4form (fm mode : Int) (a : Option Addr) (cap : Nat) (xs : List Int) (w : World) (hx : Sl .u64 w (.slice a xs.length cap) xs) (hl : xs.length ≤ 1048576) :
    Calls Tryz.prog 93 #[.int .i64 fm, .int .i64 mode, .slice a xs.length cap] w fun e w' => e = .returned (.bool (allB fm xs && fmtB fm && modeB mode)) ∧ Below w.heap.size w w' := by
  obtain ⟨-, hx1, hx2, hx3⟩ := hx.cells
  have CO := hid (fun k w' => spec_ok fm (xs.getD k 0) w')
  have CF := hid (fun w' => fmt_spec fm w')
  have CM := hid (fun w' => mode_spec mode w')
  go_enter Tryz.func93, Tryz.ntmps93
  go_wp2
  go_loopw [7] (fun i wr => ∃ k : Nat, k ≤ xs.length ∧ i = .int .i64 k ∧ (∀ j, j < k → okF fm (xs.getD j 0) = true) ∧ Below w.heap.size w wr) (fun i _ => xs.length - (intOf i).toNat)
  case atStart => exact ⟨0, Nat.zero_le _, rfl, fun j hj => absurd hj (Nat.not_lt_zero _), Below.refl _ _⟩
  case round =>
    obtain ⟨k, hk, rfl, hpre, hb⟩ := hrel
    have PRE := hid hpre
    clear hpre
    by_cases hlt : k < xs.length
    · obtain ⟨b, off, rfl, hcx⟩ := hx3 (by omega)
      have h1 := hcx k hlt
      have h1 : wr.cell? ⟨b, off + k, none⟩ = some (.int .u64 (xs.getD k 0)) := (hb.cell (p := ⟨b, off + k, none⟩) (World.block_lt_of_cell? w _ h1)).trans h1
      clear hx3 hcx
      have C := hid (fun w' => CO.out k w')
      have HNO : Hid (okF fm (xs.getD k 0) = false → (allB fm xs && fmtB fm && modeB mode) = false) := hid (fun h => by rw [allB_no (fm := fm) hlt h]; rfl)
      have PRE2 : Hid (okF fm (xs.getD k 0) = true → ∀ j, j < k + 1 → okF fm (xs.getD j 0) = true) := hid (fun h j hj => by
        by_cases e : j = k
        · subst e; exact h
        · exact PRE.out j (by omega))
      obtain ⟨o, hok⟩ : ∃ o, o = okF fm (xs.getD k 0) := ⟨_, rfl⟩
      obtain ⟨x, hxk⟩ : ∃ x, x = xs.getD k 0 := ⟨_, rfl⟩
      rw [← hok] at C HNO PRE2
      rw [← hxk] at h1 C
      clear hxk hok CO PRE
      cases o with
      | true =>
        have PRE3 := hid (PRE2.out rfl)
        clear PRE2 HNO
        go_wp2_with fail
        refine (C.out _).mono ?_
        rintro e w1 ⟨rfl, hb1⟩
        go_wp2
        go_roundw
        case rel => exact ⟨k + 1, by omega, by go_num, PRE3.out, bel_go hb hb1⟩
        case measure => simp [intOf]; omega
      | false =>
        have HN2 := hid (HNO.out rfl)
        clear PRE2 HNO
        go_wp2_with fail
        refine (C.out _).mono ?_
        rintro e w1 ⟨rfl, hb1⟩
        go_wp2
        go_ret
        exact ⟨ret_bool HN2.out.symm, bel_go hb hb1⟩
    · obtain rfl : k = xs.length := by omega
      have HY := hid (allB_yes PRE.out)
      clear hx3 CO PRE
      cases hf : fmtB fm with
      | false =>
        rw [hf] at CF
        have HR : Hid ((allB fm xs && fmtB fm && modeB mode) = false) := hid (by rw [hf]; simp)
        clear hf HY CM
        go_wp2_with fail
        refine (CF.out _).mono ?_
        rintro e w1 ⟨rfl, rfl⟩
        go_wp2
        go_ret
        exact ⟨ret_bool HR.out.symm, hb⟩
      | true =>
        rw [hf] at CF
        have HR : Hid ((allB fm xs && fmtB fm && modeB mode) = modeB mode) := hid (by rw [hf, HY.out]; simp)
        obtain ⟨m, hm⟩ : ∃ m, m = modeB mode := ⟨_, rfl⟩
        rw [← hm] at CM
        have HM := hid hm
        clear hf HY hm
        go_wp2_with fail
        refine (CF.out _).mono ?_
        rintro e w1 ⟨rfl, rfl⟩
        go_wp2_with fail
        refine (CM.out _).mono ?_
        rintro e w2 ⟨rfl, rfl⟩
        go_wp2
        go_ret
        exact ⟨ret_bool (by rw [HR.out]; exact HM.out), hb⟩
/-- Whether one of the first k has it. -/
def anyK (p : Int → Bool) (xs : List Int) (k : Nat) : Bool := (xs.take k).any p
theorem anyK_succ (p : Int → Bool) {xs : List Int} {k : Nat} (h : k < xs.length) : anyK p xs (k + 1) = (anyK p xs k || p (xs.getD k 0)) := by
  unfold anyK; rw [Nm.take_snoc h, List.any_append]; simp
theorem anyK_all (p : Int → Bool) (xs : List Int) : anyK p xs xs.length = xs.any p := by unfold anyK; rw [List.take_length]
theorem nan_s (fm : Int) (w : World) (h : fmtB fm = true) : Calls Tryz.prog 137 #[.int .i64 fm] w fun e w' => e = .returned (.int .u64 (nanOf fm)) ∧ Below w.heap.size w w' := by
  rcases fmt_cases h with rfl | rfl
  · exact nanS32 w
  · exact nanS64 w
theorem l4nan (fm : Int) (a : Option Addr) (cap : Nat) (xs : List Int) (w : World) (hx : Sl .u64 w (.slice a xs.length cap) xs) (dx : D64 xs) (hl : xs.length ≤ 1048576) (hf : fmtB fm = true) (ha : allB fm xs = true) :
    Calls Tryz.prog 94 #[.int .i64 fm, .slice a xs.length cap] w fun e w' => e = .returned (.tuple #[.int .u64 (nanOf fm), .int .i64 (fl8 (xs.any (nB fm))), .bool (xs.any (nanB fm))]) ∧ Below w.heap.size w w' := by
  obtain ⟨-, hx1, hx2, hx3⟩ := hx.cells
  have hok : ∀ k, k < xs.length → okF fm (xs.getD k 0) = true := fun k hk => by
    unfold allB at ha; rw [List.all_eq_true] at ha
    have := ha _ (List.getElem_mem hk)
    rwa [List.getD_eq_getElem?_getD, List.getElem?_eq_getElem hk]
  have CN := hid (fun k w' (h : k < xs.length) => spec_nan fm (xs.getD k 0) w' (hok k h) (dx.getD k).1 (dx.getD k).2)
  have CC := hid (fun k w' => spec_cls fm (xs.getD k 0) w' (dx.getD k).1 (dx.getD k).2)
  have CA : Hid (∀ w' : World, Calls Tryz.prog 137 #[.int .i64 fm] w' fun e w'' => e = .returned (.int .u64 (nanOf fm)) ∧ Below w'.heap.size w' w'') := hid (fun w' => nan_s fm w' hf)
  clear dx hok hf ha
  have HA1 := hid (anyK_all (nanB fm) xs)
  have HA2 := hid (anyK_all (nB fm) xs)
  obtain ⟨NN, hNN⟩ : ∃ n, n = nanOf fm := ⟨_, rfl⟩
  rw [← hNN] at CA ⊢
  clear hNN
  go_enter Tryz.func94, Tryz.ntmps94
  go_wp2
  go_loopw [7, 8, 9] (fun is fl i wr => ∃ k : Nat, k ≤ xs.length ∧ i = .int .i64 k ∧ is = .bool (anyK (nanB fm) xs k) ∧ fl = .int .i64 (fl8 (anyK (nB fm) xs k)) ∧ Below w.heap.size w wr) (fun _ _ i _ => xs.length - (intOf i).toNat)
  case atStart => exact ⟨0, Nat.zero_le _, rfl, rfl, rfl, Below.refl _ _⟩
  case round =>
    obtain ⟨k, hk, rfl, rfl, rfl, hb⟩ := hrel
    by_cases hlt : k < xs.length
    · obtain ⟨b, off, rfl, hcx⟩ := hx3 (by omega)
      have h1 := hcx k hlt
      have h1 : wr.cell? ⟨b, off + k, none⟩ = some (.int .u64 (xs.getD k 0)) := (hb.cell (p := ⟨b, off + k, none⟩) (World.block_lt_of_cell? w _ h1)).trans h1
      clear hx3 hcx
      have C1 := hid (fun w' => CN.out k w' hlt)
      have C2 := hid (fun w' => CC.out k w')
      have E1 := hid (anyK_succ (nanB fm) hlt)
      have E2 := hid (anyK_succ (nB fm) hlt)
      have hn5 : nB fm (xs.getD k 0) = (cls fm (xs.getD k 0) == 5) := rfl
      rw [hn5] at E2
      obtain ⟨i0, hi0⟩ : ∃ o, o = anyK (nanB fm) xs k := ⟨_, rfl⟩
      obtain ⟨f0, hf0⟩ : ∃ o, o = anyK (nB fm) xs k := ⟨_, rfl⟩
      obtain ⟨n, hn⟩ : ∃ o, o = nanB fm (xs.getD k 0) := ⟨_, rfl⟩
      obtain ⟨c, hc⟩ : ∃ c, c = cls fm (xs.getD k 0) := ⟨_, rfl⟩
      obtain ⟨x, hxk⟩ : ∃ x, x = xs.getD k 0 := ⟨_, rfl⟩
      rw [← hi0, ← hn] at E1
      rw [← hf0, ← hc] at E2
      rw [← hn] at C1
      rw [← hc] at C2
      rw [← hxk] at h1 C1 C2
      rw [← hi0, ← hf0]
      clear hi0 hf0 hn hc hxk CN CC hn5
      have hlt1 := World.block_lt_of_cell? wr _ h1
      by_cases h5 : c = 5
      · subst h5
        have E2' : Hid (anyK (nB fm) xs (k + 1) = true) := hid (by rw [E2.out]; cases f0 <;> rfl)
        clear E2
        cases i0 with
        | true =>
          have E1' : Hid (anyK (nanB fm) xs (k + 1) = true) := hid (by rw [E1.out]; rfl)
          go_wp2_with fail
          refine (C2.out _).mono ?_
          rintro e w2 ⟨rfl, hb2⟩
          go_wp2
          go_roundw
          case rel => exact ⟨k + 1, by omega, by go_num, by rw [E1'.out], by rw [E2'.out]; rfl, bel_go hb hb2⟩
          case measure => simp [intOf]; omega
        | false =>
          have E1' : Hid (anyK (nanB fm) xs (k + 1) = n) := hid (by rw [E1.out]; rfl)
          go_wp2_with fail
          refine (C1.out _).mono ?_
          rintro e w1 ⟨rfl, hb1⟩
          have h2 := (hb1.cell (p := ⟨b, off + k, none⟩) hlt1).trans h1
          go_wp2_with fail
          refine (C2.out _).mono ?_
          rintro e w2 ⟨rfl, hb2⟩
          go_wp2
          go_roundw
          case rel => exact ⟨k + 1, by omega, by go_num, by rw [E1'.out], by rw [E2'.out]; rfl, bel_go (bel_go hb hb1) hb2⟩
          case measure => simp [intOf]; omega
      · have e5 : (c == 5) = false := by simpa using h5
        have E2' : Hid (anyK (nB fm) xs (k + 1) = f0) := hid (by rw [E2.out, e5]; cases f0 <;> rfl)
        clear E2 h5
        cases i0 with
        | true =>
          have E1' : Hid (anyK (nanB fm) xs (k + 1) = true) := hid (by rw [E1.out]; rfl)
          go_wp2_with fail
          refine (C2.out _).mono ?_
          rintro e w2 ⟨rfl, hb2⟩
          go_wp2
          go_roundw
          case rel => exact ⟨k + 1, by omega, by go_num, by rw [E1'.out], by rw [E2'.out], bel_go hb hb2⟩
          case measure => simp [intOf]; omega
        | false =>
          have E1' : Hid (anyK (nanB fm) xs (k + 1) = n) := hid (by rw [E1.out]; rfl)
          go_wp2_with fail
          refine (C1.out _).mono ?_
          rintro e w1 ⟨rfl, hb1⟩
          have h2 := (hb1.cell (p := ⟨b, off + k, none⟩) hlt1).trans h1
          go_wp2_with fail
          refine (C2.out _).mono ?_
          rintro e w2 ⟨rfl, hb2⟩
          go_wp2
          go_roundw
          case rel => exact ⟨k + 1, by omega, by go_num, by rw [E1'.out], by rw [E2'.out], bel_go (bel_go hb hb1) hb2⟩
          case measure => simp [intOf]; omega
    · obtain rfl : k = xs.length := by omega
      obtain ⟨q1, hq1⟩ : ∃ o, o = anyK (nanB fm) xs xs.length := ⟨_, rfl⟩
      obtain ⟨q2, hq2⟩ : ∃ o : Int, o = fl8 (anyK (nB fm) xs xs.length) := ⟨_, rfl⟩
      rw [← hq1, ← hq2]
      have HQ1 : Hid (q1 = xs.any (nanB fm)) := hid (by rw [hq1, HA1.out])
      have HQ2 : Hid (q2 = fl8 (xs.any (nB fm))) := hid (by rw [hq2, HA2.out])
      clear hq1 hq2 hx3 CN CC HA1 HA2
      go_wp2_with fail
      refine (CA.out _).mono ?_
      rintro e w1 ⟨rfl, hb1⟩
      go_wp2
      go_ret3
      exact ⟨ret_uib2 rfl HQ2.out HQ1.out, bel_go hb hb1⟩
theorem inf_s (fm : Int) (w : World) (h : fmtB fm = true) : Calls Tryz.prog 124 #[.int .i64 fm] w fun e w' => e = .returned (.int .u64 (infOf fm)) ∧ Below w.heap.size w w' := by
  rcases fmt_cases h with rfl | rfl
  · exact infS32 w
  · exact infS64 w
theorem inf4 (fm x : Int) (w : World) (h : okF fm x = true) (h0 : 0 ≤ x) (h1 : x < 18446744073709551616) (i : Bool) (hi : i = nI fm x) :
    Calls Tryz.prog 118 #[.int .i64 fm, .int .u64 x] w fun e w' => e = .returned (.bool i) ∧ Below w.heap.size w w' := by
  have C := hid (fun w' => spec_l2abs fm x w' h h0 h1)
  have CI := hid (fun w' => inf_s fm w' (ok_fmt h))
  have e := cls_inf h h0
  have hi' : i = (cls fm x == 3) := hi
  rw [← e] at hi'
  obtain ⟨a, ha⟩ : ∃ a, a = absF fm x := ⟨_, rfl⟩
  obtain ⟨b, hb⟩ : ∃ b, b = infOf fm := ⟨_, rfl⟩
  rw [← ha] at C hi'
  rw [← hb] at CI hi'
  subst hi'
  clear ha hb e hi
  go_enter Tryz.func118, Tryz.ntmps118
  go_wp2_with fail
  refine (C.out _).mono ?_
  rintro r w1 ⟨rfl, hb1⟩
  go_wp2_with fail
  refine (CI.out _).mono ?_
  rintro r w2 ⟨rfl, hb2⟩
  go_wp2
  go_ret
  exact ⟨rfl, (by repeat (first | exact bz0 _ _ | refine bz1 ?_ | refine bz2 ?_ _ | refine bz3 ?_ _ | refine bz4 ?_ hb2 | refine bz4 ?_ hb1 | refine bz5 ?_ _ | refine bz6 ?_ _ | refine bz7 ?_ hb2 | refine bz7 ?_ hb1))⟩
theorem zer4 (fm x : Int) (w : World) (h : okF fm x = true) (h0 : 0 ≤ x) (h1 : x < 18446744073709551616) (z : Bool) (hz : z = (absF fm x == 0)) :
    Calls Tryz.prog 119 #[.int .i64 fm, .int .u64 x] w fun e w' => e = .returned (.bool z) ∧ Below w.heap.size w w' := by
  have C := hid (fun w' => spec_l2abs fm x w' h h0 h1)
  obtain ⟨a, ha⟩ : ∃ a, a = absF fm x := ⟨_, rfl⟩
  rw [← ha] at C hz
  subst hz
  clear ha
  go_enter Tryz.func119, Tryz.ntmps119
  go_wp2_with fail
  refine (C.out _).mono ?_
  rintro r w1 ⟨rfl, hb1⟩
  go_wp2
  go_ret
  exact ⟨rfl, (by repeat (first | exact bz0 _ _ | refine bz1 ?_ | refine bz2 ?_ _ | refine bz3 ?_ _ | refine bz4 ?_ hb1 | refine bz5 ?_ _ | refine bz6 ?_ _ | refine bz7 ?_ hb1))⟩
theorem l3r_any (fm mode : Int) (z e : Int) (p : Option Addr) (cap : Nat) (w : World) (hs : Sl .u32 w (.slice p (Nm.wl z).length cap) (Nm.wl z)) (hz : z ≠ 0) (ho : RdO fm mode (Nm.wn z) (Nm.wl z) e = true) :
    Calls Tryz.prog 121 #[.int .i64 fm, .int .i64 mode, .agg #[.bool (Nm.wn z), .slice p (Nm.wl z).length cap], .int .i64 e] w fun x w' => x = .returned (.tuple #[.int .u64 (RdB fm mode (Nm.wn z) (Nm.wl z) e), .int .i64 (RdF fm mode (Nm.wn z) (Nm.wl z) e)]) ∧ Below w.heap.size w w' := by
  have h0 : (Nm.wl z).length ≠ 0 := by unfold Nm.wl; rw [Ne, Nm.lim_length_zero]; omega
  have hf : fmtB fm = true := by unfold RdO at ho; simp only [Bool.and_eq_true] at ho; exact ho.1.1.1
  rcases fmt_cases hf with rfl | rfl
  · exact l3r_at32 mode (Nm.wn z) (Nm.wl z) e p cap w hs (Nm.wl_dg _) h0 ho
  · exact l3r_at64 mode (Nm.wn z) (Nm.wl z) e p cap w hs (Nm.wl_dg _) h0 ho
theorem all1_fmt {fm mode x : Int} : (allB fm [x] && fmtB fm && modeB mode) = (modeB mode && okF fm x) := by
  rw [all1]
  cases h : okF fm x
  · simp
  · rw [ok_fmt h]; simp
theorem sc_spec (fm mode x n : Int) (w : World) (x0 : 0 ≤ x) (x1 : x < 18446744073709551616) (B F : Int) (O : Bool) (hB : B = scB fm mode x n) (hF : F = scF fm mode x n) (hO : O = scO fm mode x n) :
    Calls Tryz.prog 44 #[.int .i64 fm, .int .i64 mode, .int .u64 x, .int .i64 n] w fun r w' => r = .returned (.tuple #[.int .u64 B, .int .i64 F, .bool O]) ∧ Below w.heap.size w w' := by
  have dx := d64_1 x0 x1
  have CF := hid (fun w' h => l4form fm mode (some ⟨w.heap.size, 0, none⟩) 1 [x] w' h (by simp))
  rw [all1_fmt] at CF
  have CI := hid (fun w' => in_spec n (-5000) 5000 w')
  have s2 := sl64_1 w x 29
  cases ho1 : (modeB mode && okF fm x)
  · have ho : scO fm mode x n = false := by unfold scO; rw [ho1]; rfl
    obtain ⟨e1, e2⟩ := sc_no ho
    rw [e1] at hB; rw [e2] at hF; rw [ho] at hO
    subst hB hF hO
    rw [ho1] at CF
    clear ho ho1 e1 e2 dx
    go_enter Tryz.func44, Tryz.ntmps44
    go_wp2_with fail
    refine (CF.out _ s2).mono ?_
    rintro r w1 ⟨rfl, hb1⟩
    go_wp2
    go_ret3
    exact ⟨rfl, (by repeat (first | exact bz0 _ _ | refine bz1 ?_ | refine bz2 ?_ _ | refine bz3 ?_ _ | refine bz4 ?_ hb1 | refine bz5 ?_ _ | refine bz6 ?_ _ | refine bz7 ?_ hb1))⟩
  rw [ho1] at CF
  cases hin : inB n (-5000) 5000
  · have ho : scO fm mode x n = false := by unfold scO; rw [ho1, hin]; rfl
    obtain ⟨e1, e2⟩ := sc_no ho
    rw [e1] at hB; rw [e2] at hF; rw [ho] at hO
    subst hB hF hO
    rw [hin] at CI
    clear ho ho1 e1 e2 dx hin
    go_enter Tryz.func44, Tryz.ntmps44
    go_wp2_with fail
    refine (CF.out _ s2).mono ?_
    rintro r w1 ⟨rfl, hb1⟩
    go_wp2_with fail
    refine (CI.out _).mono ?_
    rintro r w2 ⟨rfl, rfl⟩
    go_wp2
    go_ret3
    exact ⟨rfl, (by repeat (first | exact bz0 _ _ | refine bz1 ?_ | refine bz2 ?_ _ | refine bz3 ?_ _ | refine bz4 ?_ hb1 | refine bz5 ?_ _ | refine bz6 ?_ _ | refine bz7 ?_ hb1))⟩
  rw [hin] at CI
  have ho : scO fm mode x n = true := by unfold scO; rw [ho1, hin]; rfl
  obtain ⟨hm, hx⟩ : modeB mode = true ∧ okF fm x = true := by simpa using ho1
  have hn0 : -5000 ≤ n ∧ n ≤ 5000 := by unfold inB at hin; simpa using hin
  have hfm := ok_fmt hx
  have CN := hid (fun a w' h => l4nan fm a 1 [x] w' h dx (by simp) hfm (by rw [all1]; exact hx))
  have e1 : [x].any (nanB fm) = nanB fm x := by simp
  have e2 : [x].any (nB fm) = nB fm x := by simp
  rw [e1, e2] at CN
  rw [ho] at hO
  subst hO
  unfold scB at hB
  unfold scF at hF
  rw [ho, if_pos rfl] at hB hF
  cases hn : nanB fm x
  · rw [hn, if_neg (by decide)] at hB hF
    rw [hn] at CN
    have C1 := hid (fun w' => inf4 fm x w' hx x0 x1 _ rfl)
    have C2 := hid (fun w' => zer4 fm x w' hx x0 x1 (zF fm x) rfl)
    obtain ⟨q1, hq1⟩ : ∃ i, i = nanOf fm := ⟨_, rfl⟩
    obtain ⟨q2, hq2⟩ : ∃ i : Int, i = fl8 (nB fm x) := ⟨_, rfl⟩
    rw [← hq1, ← hq2] at CN
    cases hi : nI fm x
    · rw [hi] at C1 hB hF
      cases hz : zF fm x
      · rw [hz] at C2 hB hF
        have hB' : B = RdB fm mode (Nm.wn (nZ fm x)) (Nm.wl (nZ fm x)) (nE fm x + n) := hB
        have hF' : F = RdF fm mode (Nm.wn (nZ fm x)) (Nm.wl (nZ fm x)) (nE fm x + n) := hF
        have hf := (nan_cases hx hn).resolve_right (by rw [hi]; decide)
        obtain ⟨fx1, fx2, fx3, fx4, -, -⟩ := fin_facts hx hf
        have bx := pM_bd fm x
        have ex := pE_bd fm x
        have hnz : nZ fm x ≠ 0 := by rw [zF_fin hx hf] at hz; exact of_decide_eq_false hz
        have CP := hid (fun w' => sparts_any fm x w' hf x0 x1)
        have U1 := hid (fun w' => l1uint_z (pM fm x) (pS fm x) w' bx.1 (by omega))
        rw [← fx3] at U1
        have CR := hid (fun p c w' h => l3r_any fm mode (nZ fm x) (nE fm x + n) p c w' h hnz (rdo_any hfm hm (nZ_len fm x) (by rw [fx4]; omega) (by rw [fx4]; omega)))
        simp only [← hB', ← hF'] at CR
        rw [fx4] at CR
        obtain ⟨sg, hsg⟩ : ∃ s, s = pS fm x := ⟨_, rfl⟩
        obtain ⟨m, hm'⟩ : ∃ s, s = pM fm x := ⟨_, rfl⟩
        obtain ⟨e, he⟩ : ∃ s, s = pE fm x := ⟨_, rfl⟩
        obtain ⟨G, hG⟩ : ∃ s, s = Nm.wn (nZ fm x) := ⟨_, rfl⟩
        obtain ⟨L, hL⟩ : ∃ s, s = Nm.wl (nZ fm x) := ⟨_, rfl⟩
        rw [← hsg, ← hm', ← he] at CP
        rw [← hsg, ← hm', ← hG, ← hL] at U1
        simp only [← hG, ← hL, ← he] at CR
        rw [← hm'] at bx
        rw [← he] at ex
        have hwE : IntKind.i64.wrap (e + n) = e + n := by rw [IntKind.wrap_i64]; omega
        have hw1 : IntKind.u64.wrap m = m := by rw [IntKind.wrap_u64]; omega
        clear hsg hm' he hG hL hB hF hB' hF' hn ho ho1 dx e1 e2 hm hx hfm hin hq1 hq2 hf fx1 fx2 fx3 fx4 hi hz hnz
        go_enter Tryz.func44, Tryz.ntmps44
        go_wp2_with fail
        refine (CF.out _ s2).mono ?_
        rintro r w1 ⟨rfl, hb1⟩
        go_wp2_with fail
        refine (CI.out _).mono ?_
        rintro r w2 ⟨rfl, rfl⟩
        go_wp2_with fail
        refine (CN.out _ _ (sl64_1 w2 x 29)).mono ?_
        rintro r w3 ⟨rfl, hb3⟩
        go_wp2_with fail
        refine (C1.out _).mono ?_
        rintro r w4 ⟨rfl, hb4⟩
        go_wp2_with fail
        refine (C2.out _).mono ?_
        rintro r w5 ⟨rfl, hb5⟩
        go_wp2_with fail
        refine (CP.out _).mono ?_
        rintro r w6 ⟨rfl, hb6⟩
        have P := R3.new w6 (.bool sg) (.int .i64 m) (.int .i64 e) 112
        have bel6 : Below w.heap.size w w6 := (by repeat (first | exact bz0 _ _ | refine bz1 ?_ | refine bz2 ?_ _ | refine bz3 ?_ _ | refine bz4 ?_ hb6 | refine bz4 ?_ hb5 | refine bz4 ?_ hb4 | refine bz4 ?_ hb3 | refine bz4 ?_ hb1 | refine bz5 ?_ _ | refine bz6 ?_ _ | refine bz7 ?_ hb6 | refine bz7 ?_ hb5 | refine bz7 ?_ hb4 | refine bz7 ?_ hb3 | refine bz7 ?_ hb1))
        have Pd := P.dr
        have pd := And.intro Pd.c0 (And.intro Pd.c1 Pd.c2)
        clear hb6 hb5 hb4 hb3 hb1 s2
        go_wp2_with fail
        go_region_held3 (fun w' => w'.cell? ⟨w6.heap.size, 0, none⟩ = some (.bool sg) ∧ w'.cell? ⟨w6.heap.size, 1, none⟩ = some (.int .i64 m) ∧ w'.cell? ⟨w6.heap.size, 2, none⟩ = some (.int .i64 e))
          (first | with_reducible assumption | with_reducible exact pd | fail)
          (first
            | (go_at_call 122; refine (U1.out _).mono ?_; rintro r q1' ⟨a1, k1, rfl, hp1, hq1⟩; have P1 := Pd.below hq1; have u1 := And.intro P1.c0 (And.intro P1.c1 P1.c2))
            | (go_at_call 121; refine (CR.out a1 k1 _ hp1.sl).mono ?_; rintro r q2' ⟨rfl, hq2⟩; have P2 := P1.below hq2; have u2 := And.intro P2.c0 (And.intro P2.c1 P2.c2)))
        go_wp2
        go_ret3
        exact ⟨rfl, (by repeat (first | exact bz0 _ _ | refine bz1 ?_ | refine bz2 ?_ _ | refine bz3 ?_ _ | refine bz4 ?_ hq2 | refine bz4 ?_ hq1 | refine bz4 ?_ bel6 | refine bz5 ?_ _ | refine bz6 ?_ _ | refine bz7 ?_ hq2 | refine bz7 ?_ hq1 | refine bz7 ?_ bel6))⟩
      · rw [hz] at C2 hB hF
        have hB' : B = x := hB
        have hF' : F = 0 := hF
        subst hB' hF'
        clear hB hF hn ho ho1 dx e1 e2 hm hx hfm hin hq1 hq2 hi hz
        go_enter Tryz.func44, Tryz.ntmps44
        go_wp2_with fail
        refine (CF.out _ s2).mono ?_
        rintro r w1 ⟨rfl, hb1⟩
        go_wp2_with fail
        refine (CI.out _).mono ?_
        rintro r w2 ⟨rfl, rfl⟩
        go_wp2_with fail
        refine (CN.out _ _ (sl64_1 w2 B 29)).mono ?_
        rintro r w3 ⟨rfl, hb3⟩
        go_wp2_with fail
        refine (C1.out _).mono ?_
        rintro r w4 ⟨rfl, hb4⟩
        go_wp2_with fail
        refine (C2.out _).mono ?_
        rintro r w5 ⟨rfl, hb5⟩
        go_wp2
        go_ret3
        exact ⟨rfl, (by repeat (first | exact bz0 _ _ | refine bz1 ?_ | refine bz2 ?_ _ | refine bz3 ?_ _ | refine bz4 ?_ hb5 | refine bz4 ?_ hb4 | refine bz4 ?_ hb3 | refine bz4 ?_ hb1 | refine bz5 ?_ _ | refine bz6 ?_ _ | refine bz7 ?_ hb5 | refine bz7 ?_ hb4 | refine bz7 ?_ hb3 | refine bz7 ?_ hb1))⟩
    · rw [hi] at C1 hB hF
      have hB' : B = x := hB
      have hF' : F = 0 := hF
      subst hB' hF'
      clear hB hF hn ho ho1 dx e1 e2 hm hx hfm hin hq1 hq2 hi C2
      go_enter Tryz.func44, Tryz.ntmps44
      go_wp2_with fail
      refine (CF.out _ s2).mono ?_
      rintro r w1 ⟨rfl, hb1⟩
      go_wp2_with fail
      refine (CI.out _).mono ?_
      rintro r w2 ⟨rfl, rfl⟩
      go_wp2_with fail
      refine (CN.out _ _ (sl64_1 w2 B 29)).mono ?_
      rintro r w3 ⟨rfl, hb3⟩
      go_wp2_with fail
      refine (C1.out _).mono ?_
      rintro r w4 ⟨rfl, hb4⟩
      go_wp2
      go_ret3
      exact ⟨rfl, (by repeat (first | exact bz0 _ _ | refine bz1 ?_ | refine bz2 ?_ _ | refine bz3 ?_ _ | refine bz4 ?_ hb4 | refine bz4 ?_ hb3 | refine bz4 ?_ hb1 | refine bz5 ?_ _ | refine bz6 ?_ _ | refine bz7 ?_ hb4 | refine bz7 ?_ hb3 | refine bz7 ?_ hb1))⟩
  · rw [hn, if_pos rfl] at hB hF
    rw [hn] at CN
    rw [← hB, ← hF] at CN
    clear hB hF hn ho ho1 dx e1 e2 hm hx hfm hin
    go_enter Tryz.func44, Tryz.ntmps44
    go_wp2_with fail
    refine (CF.out _ s2).mono ?_
    rintro r w1 ⟨rfl, hb1⟩
    go_wp2_with fail
    refine (CI.out _).mono ?_
    rintro r w2 ⟨rfl, rfl⟩
    go_wp2_with fail
    refine (CN.out _ _ (sl64_1 w2 x 29)).mono ?_
    rintro r w3 ⟨rfl, hb3⟩
    go_wp2
    go_ret3
    exact ⟨rfl, (by repeat (first | exact bz0 _ _ | refine bz1 ?_ | refine bz2 ?_ _ | refine bz3 ?_ _ | refine bz4 ?_ hb3 | refine bz4 ?_ hb1 | refine bz5 ?_ _ | refine bz6 ?_ _ | refine bz7 ?_ hb3 | refine bz7 ?_ hb1))⟩
namespace Fd
theorem res4 {fn : Func} {t u v x : Tmp} (h : fn.results = #[.tmp t, .tmp u, .tmp v, .tmp x]) (tmps : Array Value) (P : Program) (w : World) :
    (results fn tmps).run P w = .ok (.tuple #[tmps.getD t undef, tmps.getD u undef, tmps.getD v undef, tmps.getD x undef]) w := by
  simp [results, h]
theorem nanOf_bd (fm : Int) : 0 ≤ nanOf fm ∧ nanOf fm < 18446744073709551616 := by unfold nanOf; split <;> omega
theorem scB_bd (fm mode x n : Int) (x0 : 0 ≤ x) (x1 : x < 18446744073709551616) : 0 ≤ scB fm mode x n ∧ scB fm mode x n < 18446744073709551616 := by
  have h1 := RdB_bd fm mode (nZ fm x) (nE fm x + n)
  have h2 := nanOf_bd fm
  unfold scB
  repeat' split
  all_goals omega
end Fd
end Go.Proofs.YtbhfbaogmkgmiaaGreatDoor
