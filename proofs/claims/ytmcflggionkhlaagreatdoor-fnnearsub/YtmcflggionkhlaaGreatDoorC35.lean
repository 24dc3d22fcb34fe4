/-
  What is needed of DrawA, TCd, NZ, ShiftD, FloatO, FJ, RF, RG.
-/
import Derived.Deep.Strs
import Derived.Test.YtmcflggionkhlaaGreatDoorC16
import Derived.Test.YtmcflggionkhlaaGreatDoorC20
import Derived.Test.YtmcflggionkhlaaGreatDoorC30
set_option maxHeartbeats 16000000
set_option maxRecDepth 1000000
namespace Go.Proofs.YtmcflggionkhlaaGreatDoor
set_option linter.unusedVariables false
set_option linter.unusedSimpArgs false
open Go.RowKit Go.Deep
theorem grown_trans {w w1 w2 : World} {row : Option Nat} (h : w.grownBy w1 row) (k : w1.grownBy w2 row) : w.grownBy w2 row :=
  ⟨k.os.trans h.os, k.tape.trans h.tape, k.output.trans h.output, Nat.le_trans h.size k.size, fun i hi hne => (k.block i (Nat.lt_of_lt_of_le hi h.size) hne).trans (h.block i hi hne)⟩
theorem grown_refl (w : World) (row : Option Nat) : w.grownBy w row := ⟨rfl, rfl, rfl, Nat.le_refl _, fun _ _ _ => rfl⟩
theorem grown_alloc {w w' : World} {row : Option Nat} (h : w.grownBy w' row) (o : Obj) : w.grownBy (w'.alloc o) row :=
  grown_trans h (grown_below ((Below.refl _ _).alloc (Nat.le_refl _) _) row)
theorem next_any (rb : Nat) (ca : Option Addr) (cc : Nat) (cs : List Int) (w : World) (hr : RD w rb ca cc cs) :
    Calls Tryz.prog 180 #[.pointer (some ⟨rb, 0, none⟩)] w fun e w' => ∃ v : Int, e = .returned (.int .i64 v) ∧ 0 ≤ v ∧ v ≤ 255 ∧ RD w' rb ca cc cs ∧ w.grownBy w' (some rb) := by
  obtain ⟨p, hp, r⟩ := hr.p
  obtain ⟨c0, c1, f0, f1⟩ := r
  have hl := hr.len
  by_cases hlt : p < cs.length
  · have hset := hr.set (p + 1) (by omega)
    rw [show ((p + 1 : Nat) : Int) = (p : Int) + 1 from rfl] at hset
    have hby := hr.by_ p
    obtain ⟨-, hx1, hx2, hx3⟩ := hr.s.cells
    obtain ⟨b, off, rfl, hcx⟩ := hx3 (by omega)
    have hca := hcx p hlt
    have hne := hr.ne (by omega) b off rfl
    obtain ⟨x, hxk⟩ : ∃ x, x = cs.getD p 0 := ⟨_, rfl⟩
    rw [← hxk] at hca hby
    obtain ⟨b0, b1⟩ := hby
    have HSET := hid hset
    have HR := hid hr
    have hne' : rb ≠ b := by omega
    clear hset hx3 hcx hxk hr
    have k0 : (0 : Int) ≤ (p : Int) := by omega
    have k1 : (p : Int) < (cs.length : Int) := by omega
    go_enter Tryz.func180, Tryz.ntmps180
    go_wp2_with fail
    go_region
    all_goals go_wp2_with fail
    all_goals go_region
    all_goals go_wp2_with fail
    all_goals go_ret
    all_goals exact ⟨x, rfl, b0, b1, HSET.out.1.below (by exact (by repeat (first | exact bz0 _ _ | refine bz1 ?_ | refine bz2 ?_ _ | refine bz3 ?_ _ | refine bz5 ?_ _ | refine bz6 ?_ _))), grown_trans HSET.out.2 (grown_below (by exact (by repeat (first | exact bz0 _ _ | refine bz1 ?_ | refine bz2 ?_ _ | refine bz3 ?_ _ | refine bz5 ?_ _ | refine bz6 ?_ _))) _)⟩
  · go_enter Tryz.func180, Tryz.ntmps180
    go_wp2_with fail
    go_region
    all_goals go_wp2
    all_goals go_ret
    all_goals exact ⟨0, rfl, by omega, by omega, hr.below (by exact (by repeat (first | exact bz0 _ _ | refine bz1 ?_ | refine bz2 ?_ _ | refine bz3 ?_ _ | refine bz5 ?_ _ | refine bz6 ?_ _))), grown_below (by repeat (first | exact bz0 _ _ | refine bz1 ?_ | refine bz2 ?_ _ | refine bz3 ?_ _ | refine bz5 ?_ _ | refine bz6 ?_ _)) _⟩
theorem below_any (rb : Nat) (ca : Option Addr) (cc : Nat) (cs : List Int) (n : Int) (w : World) (hr : RD w rb ca cc cs) (h1 : 1 ≤ n) (h2 : n ≤ 1000000) :
    Calls Tryz.prog 110 #[.pointer (some ⟨rb, 0, none⟩), .int .i64 n] w fun e w' => ∃ v : Int, e = .returned (.int .i64 v) ∧ 0 ≤ v ∧ v < n ∧ RD w' rb ca cc cs ∧ w.grownBy w' (some rb) := by
  by_cases c1 : n ≤ 1
  · go_enter Tryz.func110, Tryz.ntmps110
    go_wp2
    go_ret
    exact ⟨0, rfl, by omega, by omega, hr, grown_refl _ _⟩
  · by_cases c2 : n ≤ 256
    · go_enter Tryz.func110, Tryz.ntmps110
      go_wp2_with fail
      refine (next_any rb ca cc cs _ hr).mono ?_
      rintro e w1 ⟨v, rfl, v0, v1, hr1, hg1⟩
      go_wp2
      go_ret
      exact ⟨v % n, rfl, Int.emod_nonneg v (by omega), Int.emod_lt_of_pos v (by omega), hr1, hg1⟩
    · go_enter Tryz.func110, Tryz.ntmps110
      go_wp2_with fail
      refine (next_any rb ca cc cs _ hr).mono ?_
      rintro e w1 ⟨v, rfl, v0, v1, hr1, hg1⟩
      go_wp2_with fail
      refine (next_any rb ca cc cs _ hr1).mono ?_
      rintro e w2 ⟨u, rfl, u0, u1, hr2, hg2⟩
      go_wp2
      go_ret
      exact ⟨(v * 256 + u) % n, rfl, Int.emod_nonneg _ (by omega), Int.emod_lt_of_pos _ (by omega), hr2, grown_trans hg1 hg2⟩
theorem once_any (rb : Nat) (ca : Option Addr) (cc : Nat) (cs : List Int) (n : Int) (w : World) (hr : RD w rb ca cc cs) (h1 : 1 ≤ n) (h2 : n ≤ 1000000) :
    Calls Tryz.prog 79 #[.pointer (some ⟨rb, 0, none⟩), .int .i64 n] w fun e w' => ∃ v : Bool, e = .returned (.bool v) ∧ RD w' rb ca cc cs ∧ w.grownBy w' (some rb) := by
  go_enter Tryz.func79, Tryz.ntmps79
  go_wp2_with fail
  refine (below_any rb ca cc cs n _ hr h1 h2).mono ?_
  rintro e w1 ⟨v, rfl, v0, v1, hr1, hg1⟩
  go_wp2
  go_ret
  exact ⟨_, rfl, hr1, hg1⟩
theorem word_any (rb : Nat) (ca : Option Addr) (cc : Nat) (cs : List Int) (w : World) (hr : RD w rb ca cc cs) :
    Calls Tryz.prog 204 #[.pointer (some ⟨rb, 0, none⟩)] w fun e w' => ∃ v : Int, e = .returned (.int .u64 v) ∧ 0 ≤ v ∧ v < 18446744073709551616 ∧ RD w' rb ca cc cs ∧ w.grownBy w' (some rb) := by
  have HR := hid hr
  clear hr
  go_enter Tryz.func204, Tryz.ntmps204
  go_wp2_with fail
  go_loopw [3, 4] (fun xv iv wr => ∃ i : Nat, ∃ x : Int, i ≤ 8 ∧ iv = .int .i64 i ∧ xv = .int .u64 x ∧ 0 ≤ x ∧ x < 18446744073709551616 ∧ RD wr rb ca cc cs ∧ w.grownBy wr (some rb)) (fun _ iv _ => 8 - (intOf iv).toNat)
  case atStart => exact ⟨0, 0, by omega, rfl, rfl, by omega, by omega, HR.out, grown_refl _ _⟩
  case round =>
    obtain ⟨i, x, hi, rfl, rfl, x0, x1, hr1, hg1⟩ := hrel
    by_cases hlt : i < 8
    · go_wp2_with fail
      refine (next_any rb ca cc cs _ hr1).mono ?_
      rintro e w1 ⟨v, rfl, v0, v1, hr2, hg2⟩
      go_wp2_with fail
      have lo := bits_lo_u64 .or (IntKind.u64.wrap (x * 256)) v
      have hi' := bits_hi_u64 .or (IntKind.u64.wrap (x * 256)) v
      go_roundw
      case rel => exact ⟨i + 1, _, by omega, by go_num, rfl, lo, by omega, hr2, grown_trans hg1 hg2⟩
      case measure => simp [intOf]; omega
    · obtain rfl : i = 8 := by omega
      go_wp2
      go_ret
      exact ⟨x, rfl, x0, x1, hr1, hg1⟩
theorem open_any (ca : Option Addr) (cc : Nat) (cs : List Int) (w : World) (hs : Sl .u8 w (.slice ca cs.length cc) cs) (hby : ∀ i, 0 ≤ cs.getD i 0 ∧ cs.getD i 0 ≤ 255) (hl : cs.length ≤ 1048576)  :
    Calls Tryz.prog 74 #[.slice ca cs.length cc] w fun e w' => e = .returned (.pointer (some ⟨w.heap.size, 0, none⟩)) ∧ RD w' w.heap.size ca cc cs ∧ Below w.heap.size w w' := by
  go_enter Tryz.func74, Tryz.ntmps74
  go_wp2
  go_ret
  refine ⟨rfl, ⟨⟨0, Nat.zero_le _, R2.new w _ _ _⟩, hs.alloc _, fun h0 b off he => ?_, hby, hl⟩, (by repeat (first | exact bz0 _ _ | refine bz1 ?_ | refine bz2 ?_ _ | refine bz3 ?_ _ | refine bz5 ?_ _ | refine bz6 ?_ _))⟩
  obtain ⟨_, _, _, h3⟩ := hs.cells
  obtain ⟨b', off', e, hc⟩ := h3 h0
  rw [he] at e
  cases e
  have := World.block_lt_of_cell? w _ (hc 0 h0)
  simpa using this
namespace TCn
theorem four_cell {x y : Int} (w : World) {w' : World} {rb : Nat} {t : TypeId} (hg : (w.alloc (.cells #[.int .i64 x, .int .i64 y, .int .i64 (-9223372036854775808), .int .i64 9223372036854775807] t)).grownBy w' (some rb)) (hne : rb < w.heap.size) (k : Nat) (hk : k < 4) :
    ∃ d : Int, w'.cell? ⟨w.heap.size, k, none⟩ = some (.int .i64 d) := by
  have e := hg.block w.heap.size (by simp) (by simp; omega)
  have h : ∀ j, w'.cell? ⟨w.heap.size, j, none⟩ = (#[.int .i64 x, .int .i64 y, .int .i64 (-9223372036854775808), .int .i64 9223372036854775807] : Array Value)[j]? := fun j => by
    rw [World.cell?_of_block (a := ⟨w.heap.size, j, none⟩) e]
    exact World.cell?_alloc_new w _ _ j
  rw [h k]
  rcases (show k = 0 ∨ k = 1 ∨ k = 2 ∨ k = 3 by omega) with rfl | rfl | rfl | rfl
  · exact ⟨x, rfl⟩
  · exact ⟨y, rfl⟩
  · exact ⟨_, rfl⟩
  · exact ⟨_, rfl⟩
end TCn
namespace Fd
theorem near_z (rb : Nat) (ca : Option Addr) (cc : Nat) (cs : List Int) (lo hi : Int) (w : World) (hr : RD w rb ca cc cs) (h0 : -1000000 ≤ lo) (h1 : lo ≤ hi) (h2 : hi ≤ 1000000) :
    Calls Tryz.prog 156 #[.pointer (some ⟨rb, 0, none⟩), .int .i64 lo, .int .i64 hi] w fun e w' => ∃ v : Int, e = .returned (.int .i64 v) ∧ RD w' rb ca cc cs ∧ w.grownBy w' (some rb) := by
  go_enter Tryz.func156, Tryz.ntmps156
  go_wp2_with fail
  refine (below_any rb ca cc cs 8 _ hr (by decide) (by decide)).mono ?_
  rintro e w1 ⟨v, rfl, v0, v1, hr1, hg1⟩
  rcases (show v = 0 ∨ v = 1 ∨ 1 < v by omega) with rfl | rfl | hv
  · go_wp2
    go_ret
    exact ⟨_, rfl, hr1, hg1⟩
  · go_wp2
    go_ret
    exact ⟨_, rfl, hr1, hg1⟩
  · have e0 : (v == 0) = false := by simp; omega
    have e1 : (v == 1) = false := by simp; omega
    have e2 : decide (hi < lo) = false := by simp; omega
    have W1 : IntKind.u64.wrap (hi - lo + 1) = hi - lo + 1 := by rw [IntKind.wrap_u64]; omega
    have W2 : (hi - lo + 1 == 0) = false := by simp; omega
    have CW := hid (word_any rb ca cc cs _ hr1)
    go_wp2_with fail
    refine CW.out.mono ?_
    rintro e w2 ⟨u, rfl, u0, u1, hr2, hg2⟩
    go_wp2
    go_ret
    exact ⟨_, rfl, hr2, grown_trans hg1 hg2⟩
theorem off_z (rb : Nat) (ca : Option Addr) (cc : Nat) (cs : List Int) (lo hi : Int) (w : World) (hr : RD w rb ca cc cs) (h0 : -1000000 ≤ lo) (h1 : lo ≤ hi) (h2 : hi ≤ 1000000) :
    Calls Tryz.prog 82 #[.pointer (some ⟨rb, 0, none⟩), .int .i64 lo, .int .i64 hi] w fun e w' => ∃ v : Int, e = .returned (.int .i64 v) ∧ RD w' rb ca cc cs ∧ w.grownBy w' (some rb) := by
  go_enter Tryz.func82, Tryz.ntmps82
  go_wp2_with fail
  refine (once_any rb ca cc cs 24 _ hr (by decide) (by decide)).mono ?_
  rintro e w1 ⟨v, rfl, hr1, hg1⟩
  cases v
  · go_wp2_with fail
    refine (near_z rb ca cc cs lo hi _ hr1 h0 h1 h2).mono ?_
    rintro e w2 ⟨u, rfl, hr2, hg2⟩
    go_wp2
    go_ret
    exact ⟨_, rfl, hr2, grown_trans hg1 hg2⟩
  · have l1 := hr1.lt
    go_wp2_with fail
    refine (below_any rb ca cc cs 4 _ (hr1.alloc _) (by decide) (by decide)).mono ?_
    rintro e w3 ⟨kz, rfl, k0, k1, hr3, hg3⟩
    obtain ⟨k, rfl⟩ := Int.eq_ofNat_of_zero_le k0
    obtain ⟨d, hd⟩ := TCn.four_cell w1 hg3 l1 k (by omega)
    go_wp2
    go_ret
    exact ⟨d, rfl, hr3, grown_trans (grown_alloc hg1 _) hg3⟩
end Fd
theorem in_any (n lo hi : Int) (w : World) :
    Calls Tryz.prog 179 #[.int .i64 n, .int .i64 lo, .int .i64 hi] w fun e w' => e = .returned (.bool (inZ n lo hi)) ∧ w' = w := by
  by_cases h1 : lo ≤ n
  · by_cases h2 : n ≤ hi
    · have HR : Hid (inZ n lo hi = true) := hid (by simp [inZ, h1, h2])
      go_enter Tryz.func179, Tryz.ntmps179
      go_wp2
      go_ret
      exact ⟨ret_bool HR.out.symm, rfl⟩
    · have HR : Hid (inZ n lo hi = false) := hid (by simp [inZ, h1, h2])
      go_enter Tryz.func179, Tryz.ntmps179
      go_wp2
      go_ret
      exact ⟨ret_bool HR.out.symm, rfl⟩
  · have HR : Hid (inZ n lo hi = false) := hid (by simp [inZ, h1])
    go_enter Tryz.func179, Tryz.ntmps179
    go_wp2
    go_ret
    exact ⟨ret_bool HR.out.symm, rfl⟩
end Go.Proofs.YtmcflggionkhlaaGreatDoor
namespace Go.Proofs.YtmcflggionkhlaaGreatDoor
set_option linter.unusedVariables false
set_option linter.unusedSimpArgs false
open Go.RowKit
theorem spec_fin (fm x : Int) (w : World) (h0 : 0 ≤ x) (h1 : x < 18446744073709551616) :
    Calls Tryz.prog 122 #[.int .i64 fm, .int .u64 x] w fun e w' => e = .returned (.bool (finB fm x)) ∧ Below w.heap.size w w' := by
  cases ho : okF fm x
  · have HR := hid (fin_no ho)
    go_enter Tryz.func122, Tryz.ntmps122
    go_wp2_with fail
    refine (spec_ok fm x _).mono ?_
    rintro e w1 ⟨rfl, hb1⟩
    go_wp2
    go_ret
    exact ⟨ret_bool HR.out.symm, (by repeat (first | exact bz0 _ _ | refine bz1 ?_ | refine bz2 ?_ _ | refine bz3 ?_ _ | refine bz4 ?_ hb1 | refine bz5 ?_ _ | refine bz6 ?_ _ | refine bz7 ?_ hb1))⟩
  · have HR := hid (fin_lt ho)
    have HO := hid ho
    go_enter Tryz.func122, Tryz.ntmps122
    go_wp2_with fail
    refine (spec_ok fm x _).mono ?_
    rintro e w1 ⟨rfl, hb1⟩
    go_wp2_with fail
    refine (spec_l2abs fm x _ HO.out h0 h1).mono ?_
    rintro e w2 ⟨rfl, hb2⟩
    go_wp2_with fail
    refine (spec_inf fm x _ HO.out).mono ?_
    rintro e w3 ⟨rfl, hb3⟩
    go_wp2
    go_ret
    exact ⟨ret_bool HR.out.symm, (by repeat (first | exact bz0 _ _ | refine bz1 ?_ | refine bz2 ?_ _ | refine bz3 ?_ _ | refine bz4 ?_ hb3 | refine bz4 ?_ hb2 | refine bz4 ?_ hb1 | refine bz5 ?_ _ | refine bz6 ?_ _ | refine bz7 ?_ hb3 | refine bz7 ?_ hb2 | refine bz7 ?_ hb1))⟩
end Go.Proofs.YtmcflggionkhlaaGreatDoor
namespace Go.Proofs.YtmcflggionkhlaaGreatDoor
set_option linter.unusedVariables false
set_option linter.unusedSimpArgs false
open Go.RowKit Go.Deep
namespace Fd
theorem ab32 {x : Int} (h0 : 0 ≤ x) (h1 : x < 4294967296) : absF 32 x = if x < 2147483648 then x else x - 2147483648 := by
  rw [abs32 h1]; split <;> omega
theorem od32 {x : Int} (h0 : 0 ≤ x) (h1 : x < 4294967296) : ordI 32 x = if x < 2147483648 then x else 2147483648 - 1 - x := by
  have ha := ab32 h0 h1
  unfold ordI
  rw [okF32 h1, if_pos rfl]
  unfold sigB
  rw [ha]
  by_cases h : x < 2147483648
  · rw [if_pos h, if_pos h]; simp
  · rw [if_neg h, if_neg h]
    have : (x != x - 2147483648) = true := by simp; omega
    rw [this, if_pos rfl]; omega
theorem ab64 {x : Int} (h0 : 0 ≤ x) (h1 : x < 18446744073709551616) : absF 64 x = if x < 9223372036854775808 then x else x - 9223372036854775808 := by
  rw [abs64]; split <;> omega
theorem od64 {x : Int} (h0 : 0 ≤ x) (h1 : x < 18446744073709551616) : ordI 64 x = if x < 9223372036854775808 then x else 9223372036854775808 - 1 - x := by
  have ha := ab64 h0 h1
  unfold ordI
  rw [okF64, if_pos rfl]
  unfold sigB
  rw [ha]
  by_cases h : x < 9223372036854775808
  · rw [if_pos h, if_pos h]; simp
  · rw [if_neg h, if_neg h]
    have : (x != x - 9223372036854775808) = true := by simp; omega
    rw [this, if_pos rfl]; omega
end Fd
theorem form_spec (fm mode : Int) (ng : Bool) (zs : List Int) (e : Int) (p : Option Addr) (c : Nat) (w : World) (hs : Sl .u32 w (.slice p zs.length c) zs) (hl : zs.length ≤ 1048576) :
    Calls Tryz.prog 211 #[.int .i64 fm, .int .i64 mode, .agg #[.bool ng, .slice p zs.length c], .int .i64 e] w fun x w' => x = .returned (.bool (RdO fm mode ng zs e)) ∧ Below w.heap.size w w' := by
  have hl' : zs.length ≤ 140737488355328 := by omega
  have hk : RdO fm mode ng zs e = (fmtB fm && modeB mode && okB ng zs && inZ e (-10000) 10000) := rfl
  have HK := hid hk
  have C1 := hid (fun w' => fmt_spec fm w')
  have C2 := hid (fun w' => mode_spec mode w')
  have C3 := hid (fun w' h => ok_spec ng p c zs w' h hl')
  have C4 := hid (fun w' => in_any e (-10000) 10000 w')
  obtain ⟨b1, h1⟩ : ∃ b, b = fmtB fm := ⟨_, rfl⟩
  obtain ⟨b2, h2⟩ : ∃ b, b = modeB mode := ⟨_, rfl⟩
  obtain ⟨b3, h3⟩ : ∃ b, b = okB ng zs := ⟨_, rfl⟩
  obtain ⟨b4, h4⟩ : ∃ b, b = inZ e (-10000) 10000 := ⟨_, rfl⟩
  rw [← h1] at C1; rw [← h2] at C2; rw [← h3] at C3; rw [← h4] at C4; rw [← h1, ← h2, ← h3, ← h4] at HK
  clear h1 h2 h3 h4 hk
  cases b1 with
  | false =>
    go_enter Tryz.func211, Tryz.ntmps211
    go_wp2_with fail
    refine (C1.out _).mono ?_
    rintro x w1 ⟨rfl, rfl⟩
    go_wp2
    go_ret
    exact ⟨ret_bool HK.out.symm, (by repeat (first | exact bz0 _ _ | refine bz1 ?_ | refine bz2 ?_ _ | refine bz3 ?_ _ | refine bz5 ?_ _ | refine bz6 ?_ _))⟩
  | true =>
  cases b2 with
  | false =>
    go_enter Tryz.func211, Tryz.ntmps211
    go_wp2_with fail
    refine (C1.out _).mono ?_
    rintro x w1 ⟨rfl, rfl⟩
    go_wp2_with fail
    refine (C2.out _).mono ?_
    rintro x w2 ⟨rfl, rfl⟩
    go_wp2
    go_ret
    exact ⟨ret_bool HK.out.symm, (by repeat (first | exact bz0 _ _ | refine bz1 ?_ | refine bz2 ?_ _ | refine bz3 ?_ _ | refine bz5 ?_ _ | refine bz6 ?_ _))⟩
  | true =>
  cases b3 with
  | false =>
    go_enter Tryz.func211, Tryz.ntmps211
    go_wp2_with fail
    refine (C1.out _).mono ?_
    rintro x w1 ⟨rfl, rfl⟩
    go_wp2_with fail
    refine (C2.out _).mono ?_
    rintro x w2 ⟨rfl, rfl⟩
    go_wp2_with fail
    refine (C3.out _ (hs.alloc _)).mono ?_
    rintro x w3 ⟨rfl, hb3⟩
    go_wp2
    go_ret
    exact ⟨ret_bool HK.out.symm, (by repeat (first | exact bz0 _ _ | refine bz1 ?_ | refine bz2 ?_ _ | refine bz3 ?_ _ | refine bz4 ?_ hb3 | refine bz5 ?_ _ | refine bz6 ?_ _ | refine bz7 ?_ hb3))⟩
  | true =>
    go_enter Tryz.func211, Tryz.ntmps211
    go_wp2_with fail
    refine (C1.out _).mono ?_
    rintro x w1 ⟨rfl, rfl⟩
    go_wp2_with fail
    refine (C2.out _).mono ?_
    rintro x w2 ⟨rfl, rfl⟩
    go_wp2_with fail
    refine (C3.out _ (hs.alloc _)).mono ?_
    rintro x w3 ⟨rfl, hb3⟩
    go_wp2_with fail
    refine (C4.out _).mono ?_
    rintro x w4 ⟨rfl, rfl⟩
    go_wp2
    go_ret
    exact ⟨ret_bool (by rw [HK.out]; simp), (by repeat (first | exact bz0 _ _ | refine bz1 ?_ | refine bz2 ?_ _ | refine bz3 ?_ _ | refine bz4 ?_ hb3 | refine bz5 ?_ _ | refine bz6 ?_ _ | refine bz7 ?_ hb3))⟩
theorem rounded_spec (fm mode : Int) (ng : Bool) (zs : List Int) (e : Int) (p : Option Addr) (c : Nat) (w : World) (hs : Sl .u32 w (.slice p zs.length c) zs) (hz : Nm.Dg zs) (hl : zs.length ≤ 1048576) :
    Calls Tryz.prog 187 #[.int .i64 fm, .int .i64 mode, .agg #[.bool ng, .slice p zs.length c], .int .i64 e] w fun x w' => x = .returned (.tuple #[.int .u64 (RdB fm mode ng zs e), .int .i64 (RdF fm mode ng zs e), .bool (RdO fm mode ng zs e)]) ∧ Below w.heap.size w w' := by
  have C := hid (fun w' h => form_spec fm mode ng zs e p c w' h hl)
  cases hk : RdO fm mode ng zs e
  · have HR := hid (Rd_no hk)
    rw [hk] at C
    clear hk
    go_enter Tryz.func187, Tryz.ntmps187
    go_wp2_with fail
    refine (C.out _ (hs.alloc _)).mono ?_
    rintro x w1 ⟨rfl, hb1⟩
    go_wp2
    go_ret3
    exact ⟨ret_uib2 HR.out.1.symm HR.out.2.symm rfl, (by repeat (first | exact bz0 _ _ | refine bz1 ?_ | refine bz2 ?_ _ | refine bz3 ?_ _ | refine bz4 ?_ hb1 | refine bz5 ?_ _ | refine bz6 ?_ _ | refine bz7 ?_ hb1))⟩
  rw [hk] at C
  by_cases h0 : zs.length = 0
  · have HR := hid (Rd_zero (fm := fm) (mode := mode) (ng := ng) (e := e) h0)
    have hb0 : ((zs.length : Int) == 0) = true := by rw [beq_iff_eq]; omega
    clear hk h0
    go_enter Tryz.func187, Tryz.ntmps187
    go_wp2_with fail
    refine (C.out _ (hs.alloc _)).mono ?_
    rintro x w1 ⟨rfl, hb1⟩
    obtain ⟨x10, x11⟩ := (Box.new w (.bool ng) (.slice p zs.length c) 31).below hb1
    go_wp2
    go_ret3
    exact ⟨ret_uib2 HR.out.1.symm HR.out.2.symm rfl, (by repeat (first | exact bz0 _ _ | refine bz1 ?_ | refine bz2 ?_ _ | refine bz3 ?_ _ | refine bz4 ?_ hb1 | refine bz5 ?_ _ | refine bz6 ?_ _ | refine bz7 ?_ hb1))⟩
  · have hb0 : ((zs.length : Int) == 0) = false := by rw [beq_eq_false_iff_ne]; omega
    have hk' := hk
    unfold RdO at hk'
    simp only [Bool.and_eq_true] at hk'
    obtain ⟨⟨⟨k1, k2⟩, k3⟩, k4⟩ := hk'
    have k5 := inZ_yes k4
    obtain ⟨hzl, hbl⟩ := lim_ok hz k3
    have ha : (Nm.val zs).toNat ≠ 0 := by
      intro h; rw [h, Nm.lim_zero] at hzl; rw [hzl] at h0; exact h0 rfl
    obtain ⟨a, haz⟩ : ∃ a, a = (Nm.val zs).toNat := ⟨_, rfl⟩
    rw [← haz] at hzl hbl ha
    have HB : Hid (RdB fm mode ng zs e = if fm = 32 then rdB 24 (-149) 2139095040 2147483648 mode ng a e else rdB 53 (-1074) 9218868437227405312 9223372036854775808 mode ng a e) := hid (by unfold RdB; rw [hk, if_pos rfl, if_neg h0, ← haz])
    have HF : Hid (RdF fm mode ng zs e = if fm = 32 then rdF 24 (-149) 2139095040 mode ng a e else rdF 53 (-1074) 9218868437227405312 mode ng a e) := hid (by unfold RdF; rw [hk, if_pos rfl, if_neg h0, ← haz])
    clear hk k4 h0 haz
    subst hzl
    rcases fmt_cases k1 with rfl | rfl
    · go_enter Tryz.func187, Tryz.ntmps187
      go_wp2_with fail
      refine (C.out _ (hs.alloc _)).mono ?_
      rintro x w1 ⟨rfl, hb1⟩
      obtain ⟨x10, x11⟩ := (Box.new w (.bool ng) (.slice p (Nm.lim a).length c) 31).below hb1
      go_wp2_with fail
      refine (l3r_32 mode ng a e p c _ ((hs.alloc _).below hb1) k2 ha (by omega) (by omega) (by omega)).mono ?_
      rintro x w2 ⟨rfl, hb2⟩
      go_wp2
      go_ret3
      exact ⟨ret_uib2 (by rw [HB.out]; rfl) (by rw [HF.out]; rfl) rfl, (by repeat (first | exact bz0 _ _ | refine bz1 ?_ | refine bz2 ?_ _ | refine bz3 ?_ _ | refine bz4 ?_ hb2 | refine bz4 ?_ hb1 | refine bz5 ?_ _ | refine bz6 ?_ _ | refine bz7 ?_ hb2 | refine bz7 ?_ hb1))⟩
    · go_enter Tryz.func187, Tryz.ntmps187
      go_wp2_with fail
      refine (C.out _ (hs.alloc _)).mono ?_
      rintro x w1 ⟨rfl, hb1⟩
      obtain ⟨x10, x11⟩ := (Box.new w (.bool ng) (.slice p (Nm.lim a).length c) 31).below hb1
      go_wp2_with fail
      refine (l3r_64 mode ng a e p c _ ((hs.alloc _).below hb1) k2 ha (by omega) (by omega) (by omega)).mono ?_
      rintro x w2 ⟨rfl, hb2⟩
      go_wp2
      go_ret3
      exact ⟨ret_uib2 (by rw [HB.out]; rfl) (by rw [HF.out]; rfl) rfl, (by repeat (first | exact bz0 _ _ | refine bz1 ?_ | refine bz2 ?_ _ | refine bz3 ?_ _ | refine bz4 ?_ hb2 | refine bz4 ?_ hb1 | refine bz5 ?_ _ | refine bz6 ?_ _ | refine bz7 ?_ hb2 | refine bz7 ?_ hb1))⟩
def EfO (fm : Int) (ng : Bool) (zs : List Int) (e : Int) : Bool := RdO fm 1 ng zs e && decide (RdF fm 1 ng zs e = 0)
def EfB (fm : Int) (ng : Bool) (zs : List Int) (e : Int) : Int := if EfO fm ng zs e then RdB fm 1 ng zs e else 0
theorem exact_spec (fm : Int) (ng : Bool) (zs : List Int) (e : Int) (p : Option Addr) (c : Nat) (w : World) (hs : Sl .u32 w (.slice p zs.length c) zs) (hz : Nm.Dg zs) (hl : zs.length ≤ 1048576) :
    Calls Tryz.prog 120 #[.int .i64 fm, .agg #[.bool ng, .slice p zs.length c], .int .i64 e] w fun x w' => x = .returned (.tuple #[.int .u64 (EfB fm ng zs e), .bool (EfO fm ng zs e)]) ∧ Below w.heap.size w w' := by
  obtain ⟨b, hb⟩ : ∃ b, b = RdB fm 1 ng zs e := ⟨_, rfl⟩
  obtain ⟨f, hf⟩ : ∃ f, f = RdF fm 1 ng zs e := ⟨_, rfl⟩
  obtain ⟨o, ho⟩ : ∃ o, o = RdO fm 1 ng zs e := ⟨_, rfl⟩
  have C := hid (rounded_spec fm 1 ng zs e p c (w.alloc (.cells #[.bool ng, .slice p zs.length c] 31)) (hs.alloc _) hz hl)
  rw [← hb, ← hf, ← ho] at C
  have HO : Hid (EfO fm ng zs e = (o && decide (f = 0))) := hid (by unfold EfO; rw [← ho, ← hf])
  have HB : Hid (EfB fm ng zs e = if (o && decide (f = 0)) then b else 0) := hid (by unfold EfB; rw [HO.out, ← hb])
  clear hb hf ho
  cases o with
  | false =>
    go_enter Tryz.func120, Tryz.ntmps120
    go_wp2_with fail
    refine C.out.mono ?_
    rintro x w1 ⟨rfl, hb1⟩
    go_wp2
    go_ret2
    exact ⟨ret_ub (by rw [HB.out]; rfl) (by rw [HO.out]; rfl), (by repeat (first | exact bz0 _ _ | refine bz1 ?_ | refine bz2 ?_ _ | refine bz3 ?_ _ | refine bz4 ?_ hb1 | refine bz5 ?_ _ | refine bz6 ?_ _ | refine bz7 ?_ hb1))⟩
  | true =>
    by_cases h0 : f = 0
    · subst h0
      go_enter Tryz.func120, Tryz.ntmps120
      go_wp2_with fail
      refine C.out.mono ?_
      rintro x w1 ⟨rfl, hb1⟩
      go_wp2
      go_ret2
      exact ⟨ret_ub (by rw [HB.out]; rfl) (by rw [HO.out]; rfl), (by repeat (first | exact bz0 _ _ | refine bz1 ?_ | refine bz2 ?_ _ | refine bz3 ?_ _ | refine bz4 ?_ hb1 | refine bz5 ?_ _ | refine bz6 ?_ _ | refine bz7 ?_ hb1))⟩
    · have hne : (f != 0) = true := by rw [bne_iff_ne]; exact h0
      have HD : Hid (decide (f = 0) = false) := hid (decide_eq_false h0)
      clear h0
      go_enter Tryz.func120, Tryz.ntmps120
      go_wp2_with fail
      refine C.out.mono ?_
      rintro x w1 ⟨rfl, hb1⟩
      go_wp2
      go_ret2
      exact ⟨ret_ub (by rw [HB.out, HD.out]; rfl) (by rw [HO.out, HD.out]; rfl), (by repeat (first | exact bz0 _ _ | refine bz1 ?_ | refine bz2 ?_ _ | refine bz3 ?_ _ | refine bz4 ?_ hb1 | refine bz5 ?_ _ | refine bz6 ?_ _ | refine bz7 ?_ hb1))⟩
end Go.Proofs.YtmcflggionkhlaaGreatDoor
