/-
  What is needed of TCd, FloatK, RK, MO, DR, MQ, DP.
-/
import Derived.Test.YtbhfbaogmkgmiaaGreatDoorC20
set_option maxHeartbeats 16000000
set_option maxRecDepth 1000000
namespace Go.Proofs.YtbhfbaogmkgmiaaGreatDoor
set_option linter.unusedVariables false
set_option linter.unusedSimpArgs false
open Go.RowKit Go.Deep
namespace TCn
theorem four_cell {x y : Int} (w : World) {w' : World} {rb : Nat} {t : TypeId} (hg : (w.alloc (.cells #[.int .i64 x, .int .i64 y, .int .i64 (-9223372036854775808), .int .i64 9223372036854775807] t)).grownBy w' (some rb)) (hne : rb < w.heap.size) (k : Nat) (hk : k < 4) :
    ∃ d : Int, w'.cell? ⟨w.heap.size, k, none⟩ = some (.int .i64 d) := by
  have e := hg.block w.heap.size (by simp) (by simp; omega)
  have h : ∀ j, w'.cell? ⟨w.heap.size, j, none⟩ = (#[.int .i64 x, .int .i64 y, .int .i64 (-9223372036854775808), .int .i64 9223372036854775807] : Array Value)[j]? := fun j => by
    rw [World.cell?_of_block (a := ⟨w.heap.size, j, none⟩) e]
    exact World.cell?_alloc_new w _ _ j
  rw [h k]
  rcases (show k = 0 ∨ k = 1 ∨ k = 2 ∨ k = 3 by omega) with rfl | rfl | rfl | rfl
  · exact ⟨x, rfl⟩
  · exact ⟨y, rfl⟩
  · exact ⟨_, rfl⟩
  · exact ⟨_, rfl⟩
end TCn
end Go.Proofs.YtbhfbaogmkgmiaaGreatDoor
namespace Go.Proofs.YtbhfbaogmkgmiaaGreatDoor
set_option linter.unusedVariables false
set_option linter.unusedSimpArgs false
open Go.RowKit
theorem spec_nan (fm x : Int) (w : World) (h : okF fm x = true) (h0 : 0 ≤ x) (h1 : x < 18446744073709551616) :
    Calls Tryz.prog 172 #[.int .i64 fm, .int .u64 x] w fun e w' => e = .returned (.bool (nanB fm x)) ∧ Below w.heap.size w w' := by
  have HH := hid h
  have HR : Hid (decide (infOf fm < absF fm x) = nanB fm x) := hid rfl
  clear h
  go_enter Tryz.func172, Tryz.ntmps172
  go_wp2_with fail
  refine (spec_l2abs fm x _ HH.out h0 h1).mono ?_
  rintro e w1 ⟨rfl, hb1⟩
  go_wp2_with fail
  refine (spec_inf fm x _ HH.out).mono ?_
  rintro e w2 ⟨rfl, hb2⟩
  go_wp2
  go_ret
  exact ⟨ret_bool HR.out, (by repeat (first | exact bz0 _ _ | refine bz1 ?_ | refine bz2 ?_ _ | refine bz3 ?_ _ | refine bz4 ?_ hb2 | refine bz4 ?_ hb1 | refine bz5 ?_ _ | refine bz6 ?_ _ | refine bz7 ?_ hb2 | refine bz7 ?_ hb1))⟩
end Go.Proofs.YtbhfbaogmkgmiaaGreatDoor
namespace Go.Proofs.YtbhfbaogmkgmiaaGreatDoor
set_option linter.unusedVariables false
set_option linter.unusedSimpArgs false
open Go.RowKit Go.Deep
theorem l1uint_z (m : Int) (ng : Bool) (w : World) (h0 : 0 ≤ m) (h1 : m < 18446744073709551616) :
    Calls Tryz.prog 122 #[.int .u64 m, .bool ng] w fun e w' => ∃ a' c', e = .returned (.agg #[.bool (Nm.wn (if ng then -m else m)), .slice a' (Nm.wl (if ng then -m else m)).length c']) ∧ Own w' w.heap.size a' c' (Nm.wl (if ng then -m else m)) ∧ Below w.heap.size w w' :=
  l1uint_v m ng w h0 h1 _ rfl
namespace Fd
/-- The bits of what is rounded, without the sign. -/
def mgB (P : Nat) (q : Int) (I : Nat) (mode : Int) (ng : Bool) (a : Nat) (e : Int) : Int := if Nm.flo P I (rdU P q mode ng a e) then (Nm.flb P (rdU P q mode ng a e) : Nat) else if ovB mode ng then (I : Int) - 1 else I
theorem mgB_eq (P : Nat) (q : Int) (I : Nat) (S mode : Int) (ng : Bool) (a : Nat) (e : Int) : rdB P q I S mode ng a e = sgn S (mgB P q I mode ng a e) ng := by
  unfold rdB mgB
  split
  · rfl
  · split <;> rfl
theorem mgB_bd {P I : Nat} {q mode : Int} {ng : Bool} {a : Nat} {e : Int} (hI : 0 < I) : 0 ≤ mgB P q I mode ng a e ∧ mgB P q I mode ng a e ≤ I := by
  unfold mgB
  by_cases hf : Nm.flo P I (rdU P q mode ng a e) = true
  · rw [if_pos hf]
    have : Nm.flb P (rdU P q mode ng a e) < I := by
      unfold Nm.flo at hf
      simp only [Bool.and_eq_true, decide_eq_true_eq] at hf
      exact hf.2
    omega
  · rw [if_neg hf]; split <;> omega
theorem near_z (rb : Nat) (ca : Option Addr) (cc : Nat) (cs : List Int) (lo hi : Int) (w : World) (hr : RD w rb ca cc cs) (h0 : -1000000 ≤ lo) (h1 : lo ≤ hi) (h2 : hi ≤ 1000000) :
    Calls Tryz.prog 152 #[.pointer (some ⟨rb, 0, none⟩), .int .i64 lo, .int .i64 hi] w fun e w' => ∃ v : Int, e = .returned (.int .i64 v) ∧ RD w' rb ca cc cs ∧ w.grownBy w' (some rb) := by
  go_enter Tryz.func152, Tryz.ntmps152
  go_wp2_with fail
  refine (below_any rb ca cc cs 8 _ hr (by decide) (by decide)).mono ?_
  rintro e w1 ⟨v, rfl, v0, v1, hr1, hg1⟩
  rcases (show v = 0 ∨ v = 1 ∨ 1 < v by omega) with rfl | rfl | hv
  · go_wp2
    go_ret
    exact ⟨_, rfl, hr1, hg1⟩
  · go_wp2
    go_ret
    exact ⟨_, rfl, hr1, hg1⟩
  · have e0 : (v == 0) = false := by simp; omega
    have e1 : (v == 1) = false := by simp; omega
    have e2 : decide (hi < lo) = false := by simp; omega
    have W1 : IntKind.u64.wrap (hi - lo + 1) = hi - lo + 1 := by rw [IntKind.wrap_u64]; omega
    have W2 : (hi - lo + 1 == 0) = false := by simp; omega
    have CW := hid (word_any rb ca cc cs _ hr1)
    go_wp2_with fail
    refine CW.out.mono ?_
    rintro e w2 ⟨u, rfl, u0, u1, hr2, hg2⟩
    go_wp2
    go_ret
    exact ⟨_, rfl, hr2, grown_trans hg1 hg2⟩
theorem off_z (rb : Nat) (ca : Option Addr) (cc : Nat) (cs : List Int) (lo hi : Int) (w : World) (hr : RD w rb ca cc cs) (h0 : -1000000 ≤ lo) (h1 : lo ≤ hi) (h2 : hi ≤ 1000000) :
    Calls Tryz.prog 65 #[.pointer (some ⟨rb, 0, none⟩), .int .i64 lo, .int .i64 hi] w fun e w' => ∃ v : Int, e = .returned (.int .i64 v) ∧ RD w' rb ca cc cs ∧ w.grownBy w' (some rb) := by
  go_enter Tryz.func65, Tryz.ntmps65
  go_wp2_with fail
  refine (once_any rb ca cc cs 24 _ hr (by decide) (by decide)).mono ?_
  rintro e w1 ⟨v, rfl, hr1, hg1⟩
  cases v
  · go_wp2_with fail
    refine (near_z rb ca cc cs lo hi _ hr1 h0 h1 h2).mono ?_
    rintro e w2 ⟨u, rfl, hr2, hg2⟩
    go_wp2
    go_ret
    exact ⟨_, rfl, hr2, grown_trans hg1 hg2⟩
  · have l1 := hr1.lt
    go_wp2_with fail
    refine (below_any rb ca cc cs 4 _ (hr1.alloc _) (by decide) (by decide)).mono ?_
    rintro e w3 ⟨kz, rfl, k0, k1, hr3, hg3⟩
    obtain ⟨k, rfl⟩ := Int.eq_ofNat_of_zero_le k0
    obtain ⟨d, hd⟩ := TCn.four_cell w1 hg3 l1 k (by omega)
    go_wp2
    go_ret
    exact ⟨d, rfl, hr3, grown_trans (grown_alloc hg1 _) hg3⟩
theorem ord_R32 (mode : Int) (z : Int) (e : Int) (hO : RdO 32 mode (Nm.wn z) (Nm.wl z) e = true) :
    0 ≤ RdB 32 mode (Nm.wn z) (Nm.wl z) e ∧ RdB 32 mode (Nm.wn z) (Nm.wl z) e < 4294967296 ∧ numB 32 (RdB 32 mode (Nm.wn z) (Nm.wl z) e) = true ∧
    ordI 32 (RdB 32 mode (Nm.wn z) (Nm.wl z) e) = if z < 0 then -1 - mgB 24 (-149) 2139095040 mode true z.natAbs e else if z = 0 then 0 else mgB 24 (-149) 2139095040 mode false z.natAbs e := by
  by_cases hz : z = 0
  · have h := (Rd_zero (fm := 32) (mode := mode) (ng := Nm.wn z) (e := e) ((wl_zero' z).2 hz)).1
    rw [h, if_neg (by omega), if_pos hz]
    exact ⟨by decide, by decide, by decide +kernel, by decide +kernel⟩
  · obtain ⟨b1, -⟩ := Rd_any32 mode (Nm.wn z) (Nm.wl z) e hO (fun h => hz ((wl_zero' z).1 h))
    rw [b1, Nm.val_wl, Int.toNat_natCast, mgB_eq]
    obtain ⟨m0, m1⟩ := mgB_bd (P := 24) (I := 2139095040) (q := (-149)) (mode := mode) (ng := Nm.wn z) (a := z.natAbs) (e := e) (by decide)
    have hb := sgn_abs32 m0 (by omega) (Nm.wn z)
    refine ⟨hb.1, hb.2.1, ?_, ?_⟩
    · unfold numB
      rw [cls32 hb.2.1]
      have e1 : sgn 2147483648 (mgB 24 (-149) 2139095040 mode (Nm.wn z) z.natAbs e) (Nm.wn z) % 2147483648 = mgB 24 (-149) 2139095040 mode (Nm.wn z) z.natAbs e := by
        unfold sgn; split <;> omega
      rw [e1]
      unfold clsY
      simp only [decide_eq_true_eq]
      repeat' split
      all_goals omega
    · rw [od32 hb.1 hb.2.1]
      unfold Nm.wn sgn
      by_cases hn : z < 0
      · have ht : decide (z < 0) = true := decide_eq_true hn
        unfold Nm.wn at m0 m1
        rw [ht] at m0 m1 ⊢
        simp only [if_true]
        rw [if_neg (by omega), if_pos hn]
        omega
      · have ht : decide (z < 0) = false := decide_eq_false hn
        unfold Nm.wn at m0 m1
        rw [ht] at m0 m1 ⊢
        simp only [Bool.false_eq_true, if_false]
        rw [if_pos (by omega), if_neg hn, if_neg hz]
theorem ord_R64 (mode : Int) (z : Int) (e : Int) (hO : RdO 64 mode (Nm.wn z) (Nm.wl z) e = true) :
    0 ≤ RdB 64 mode (Nm.wn z) (Nm.wl z) e ∧ RdB 64 mode (Nm.wn z) (Nm.wl z) e < 18446744073709551616 ∧ numB 64 (RdB 64 mode (Nm.wn z) (Nm.wl z) e) = true ∧
    ordI 64 (RdB 64 mode (Nm.wn z) (Nm.wl z) e) = if z < 0 then -1 - mgB 53 (-1074) 9218868437227405312 mode true z.natAbs e else if z = 0 then 0 else mgB 53 (-1074) 9218868437227405312 mode false z.natAbs e := by
  by_cases hz : z = 0
  · have h := (Rd_zero (fm := 64) (mode := mode) (ng := Nm.wn z) (e := e) ((wl_zero' z).2 hz)).1
    rw [h, if_neg (by omega), if_pos hz]
    exact ⟨by decide, by decide, by decide +kernel, by decide +kernel⟩
  · obtain ⟨b1, -⟩ := Rd_any64 mode (Nm.wn z) (Nm.wl z) e hO (fun h => hz ((wl_zero' z).1 h))
    rw [b1, Nm.val_wl, Int.toNat_natCast, mgB_eq]
    obtain ⟨m0, m1⟩ := mgB_bd (P := 53) (I := 9218868437227405312) (q := (-1074)) (mode := mode) (ng := Nm.wn z) (a := z.natAbs) (e := e) (by decide)
    have hb := sgn_abs64 m0 (by omega) (Nm.wn z)
    refine ⟨hb.1, hb.2.1, ?_, ?_⟩
    · unfold numB
      rw [cls64 ]
      have e1 : sgn 9223372036854775808 (mgB 53 (-1074) 9218868437227405312 mode (Nm.wn z) z.natAbs e) (Nm.wn z) % 9223372036854775808 = mgB 53 (-1074) 9218868437227405312 mode (Nm.wn z) z.natAbs e := by
        unfold sgn; split <;> omega
      rw [e1]
      unfold clsY
      simp only [decide_eq_true_eq]
      repeat' split
      all_goals omega
    · rw [od64 hb.1 hb.2.1]
      unfold Nm.wn sgn
      by_cases hn : z < 0
      · have ht : decide (z < 0) = true := decide_eq_true hn
        unfold Nm.wn at m0 m1
        rw [ht] at m0 m1 ⊢
        simp only [if_true]
        rw [if_neg (by omega), if_pos hn]
        omega
      · have ht : decide (z < 0) = false := decide_eq_false hn
        unfold Nm.wn at m0 m1
        rw [ht] at m0 m1 ⊢
        simp only [Bool.false_eq_true, if_false]
        rw [if_pos (by omega), if_neg hn, if_neg hz]
theorem RdB_bd (fm mode z e : Int) : 0 ≤ RdB fm mode (Nm.wn z) (Nm.wl z) e ∧ RdB fm mode (Nm.wn z) (Nm.wl z) e < 18446744073709551616 := by
  cases hO : RdO fm mode (Nm.wn z) (Nm.wl z) e
  · rw [(Rd_no hO).1]; decide
  · have hf : fmtB fm = true := by unfold RdO at hO; simp at hO; exact hO.1.1.1
    rcases fmt_cases hf with rfl | rfl
    · obtain ⟨h1, h2, -, -⟩ := ord_R32 mode z e hO; omega
    · obtain ⟨h1, h2, -, -⟩ := ord_R64 mode z e hO; omega
end Fd
end Go.Proofs.YtbhfbaogmkgmiaaGreatDoor
