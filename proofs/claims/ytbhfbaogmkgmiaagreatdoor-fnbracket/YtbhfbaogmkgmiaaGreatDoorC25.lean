/-
  What is needed of Mini, NumsB, FloatH, WideT, FloatL, BW.
-/
import Derived.Test.YtbhfbaogmkgmiaaGreatDoorC12
import Derived.Test.YtbhfbaogmkgmiaaGreatDoorC22
set_option maxHeartbeats 16000000
set_option maxRecDepth 1000000
namespace Go.Proofs.YtbhfbaogmkgmiaaGreatDoor
set_option linter.unusedVariables false
set_option linter.unusedSimpArgs false
open Go.RowKit Go.Deep
theorem rdy {P : Program} {ops : Array Oper} {Q : Exit → Act → World → Prop} {md : Region.Mode} {S : World → Prop} (i : Nat) {o : Oper} {fuel : Nat} {listed : Array Bool} {a : Act} {w : World} (h2 : ops[i]? = some o) (h3 : ∀ (K' : Act → World → Prop), Shut (∀ (a : Act) (w : World), S w → (S w → wpAnyH P md ops Q S fuel (listed.setIfInBounds i true) a w) → K' a w) → if Region.wanted o (yielded ops a.tmps) = true then Oper.wp P o a w K' Q else K' (a.put o.dst undef) w) (h1 : Region.ready md ops listed = [i] := by kernel_rfl) : wpAnyH P md ops Q S (fuel + 1) listed a w :=
  wpAnyH_ready h1 (by simp) (AllReadyH.cons h2 h3 AllReadyH.nil)
end Go.Proofs.YtbhfbaogmkgmiaaGreatDoor
namespace Go.Proofs.YtbhfbaogmkgmiaaGreatDoor
set_option linter.unusedVariables false
namespace Nm
theorem wl_nz (x : Int) : Nz (wl x) := lim_nz _
end Nm
set_option linter.unusedSimpArgs false
open Go.RowKit
theorem abs_le {fm x : Int} (h0 : 0 ≤ x) : absF fm x ≤ x := by
  unfold absF sgOf
  split
  · split <;> omega
  · omega
end Go.Proofs.YtbhfbaogmkgmiaaGreatDoor
namespace Go.Proofs.YtbhfbaogmkgmiaaGreatDoor
set_option linter.unusedVariables false
set_option linter.unusedSimpArgs false
open Go.RowKit Go.Deep
theorem op_no (x : Int) : opL false x = [] ∧ opN false x = false ∧ opO false x = false := ⟨rfl, rfl, rfl⟩
end Go.Proofs.YtbhfbaogmkgmiaaGreatDoor
namespace Go.Proofs.YtbhfbaogmkgmiaaGreatDoor
set_option linter.unusedVariables false
set_option linter.unusedSimpArgs false
open Go.RowKit
/-- The next float up. -/
def upF (fm x : Int) : Int := if okF fm x then (if nanB fm x then nanOf fm else if absF fm x == 0 then 1 else if sigB fm x then x - 1 else if x == infOf fm then x else x + 1) else 0
theorem up_no {fm x : Int} (h : okF fm x = false) : upF fm x = 0 := by unfold upF; rw [h]; rfl
theorem up_nan {fm x : Int} (h : okF fm x = true) (h1 : nanB fm x = true) : upF fm x = nanOf fm := by unfold upF; rw [h, h1]; rfl
theorem up_zero {fm x : Int} (h : okF fm x = true) (h1 : nanB fm x = false) (h2 : (absF fm x == 0) = true) : upF fm x = 1 := by unfold upF; rw [h, h1, h2]; rfl
theorem up_neg {fm x : Int} (h : okF fm x = true) (h1 : nanB fm x = false) (h2 : (absF fm x == 0) = false) (h3 : sigB fm x = true) : upF fm x = x - 1 := by unfold upF; rw [h, h1, h2, h3]; rfl
theorem up_inf {fm x : Int} (h : okF fm x = true) (h1 : nanB fm x = false) (h2 : (absF fm x == 0) = false) (h3 : sigB fm x = false) (h4 : (x == infOf fm) = true) : upF fm x = x := by unfold upF; rw [h, h1, h2, h3, h4]; rfl
theorem up_pos {fm x : Int} (h : okF fm x = true) (h1 : nanB fm x = false) (h2 : (absF fm x == 0) = false) (h3 : sigB fm x = false) (h4 : (x == infOf fm) = false) : upF fm x = x + 1 := by unfold upF; rw [h, h1, h2, h3, h4]; rfl
theorem up_bd {fm x : Int} (h : okF fm x = true) (h0 : 0 ≤ x) (h1 : nanB fm x = false) (h3 : sigB fm x = false) : x ≤ 9218868437227405312 := by
  rcases okF_cases h with ⟨rfl, hx⟩ | rfl
  · omega
  · unfold nanB infOf at h1; unfold sigB at h3; rw [abs64] at h1 h3; simp at h1 h3; omega
theorem up_bd' {fm x : Int} (h0 : 0 ≤ x) (h3 : sigB fm x = true) : 1 ≤ x := by
  unfold sigB at h3; have := abs_bd (fm := fm) h0; have := abs_le (fm := fm) h0; simp at h3; omega

theorem spec_nanof32 (w : World) :
    Calls Tryz.prog 137 #[.int .i64 32] w fun e w' => e = .returned (.int .u64 (nanOf 32)) ∧ Below w.heap.size w w' := by
  have HR : Hid (nanOf 32 = 2143289344) := hid rfl
  go_enter Tryz.func137, Tryz.ntmps137
  go_wp2
  go_ret
  exact ⟨ret_int HR.out.symm, (by repeat (first | exact bz0 _ _ | refine bz1 ?_ | refine bz2 ?_ _ | refine bz3 ?_ _ | refine bz5 ?_ _ | refine bz6 ?_ _))⟩
theorem spec_nanof64 (w : World) :
    Calls Tryz.prog 137 #[.int .i64 64] w fun e w' => e = .returned (.int .u64 (nanOf 64)) ∧ Below w.heap.size w w' := by
  have HR : Hid (nanOf 64 = 9221120237041090560) := hid rfl
  go_enter Tryz.func137, Tryz.ntmps137
  go_wp2
  go_ret
  exact ⟨ret_int HR.out.symm, (by repeat (first | exact bz0 _ _ | refine bz1 ?_ | refine bz2 ?_ _ | refine bz3 ?_ _ | refine bz5 ?_ _ | refine bz6 ?_ _))⟩
theorem spec_nanG (fm x : Int) (w : World) (h : okF fm x = true) :
    Calls Tryz.prog 137 #[.int .i64 fm] w fun e w' => e = .returned (.int .u64 (nanOf fm)) ∧ Below w.heap.size w w' := by
  rcases okF_cases h with ⟨rfl, hx⟩ | rfl
  · exact spec_nanof32 w
  · exact spec_nanof64 w
theorem spec_up (fm x : Int) (w : World) (h0 : 0 ≤ x) (h1 : x < 18446744073709551616) :
    Calls Tryz.prog 150 #[.int .i64 fm, .int .u64 x] w fun e w' => e = .returned (.int .u64 (upF fm x)) ∧ Below w.heap.size w w' := by
  cases ho : okF fm x
  · have HR := hid (up_no ho)
    go_enter Tryz.func150, Tryz.ntmps150
    go_wp2_with fail
    refine (spec_ok fm x _).mono ?_
    rintro e w1 ⟨rfl, hb1⟩
    go_wp2
    go_ret
    exact ⟨ret_int HR.out.symm, (by repeat (first | exact bz0 _ _ | refine bz1 ?_ | refine bz2 ?_ _ | refine bz3 ?_ _ | refine bz4 ?_ hb1 | refine bz5 ?_ _ | refine bz6 ?_ _ | refine bz7 ?_ hb1))⟩
  have HO := hid ho
  cases hn : nanB fm x
  rotate_left
  · have HR := hid (up_nan ho hn)
    go_enter Tryz.func150, Tryz.ntmps150
    go_wp2_with fail
    refine (spec_ok fm x _).mono ?_
    rintro e w1 ⟨rfl, hb1⟩
    go_wp2_with fail
    refine (spec_nan fm x _ HO.out h0 h1).mono ?_
    rintro e w2 ⟨rfl, hb2⟩
    go_wp2_with fail
    refine (spec_nanG fm x _ HO.out).mono ?_
    rintro e w3 ⟨rfl, hb3⟩
    go_wp2
    go_ret
    exact ⟨ret_int HR.out.symm, (by repeat (first | exact bz0 _ _ | refine bz1 ?_ | refine bz2 ?_ _ | refine bz3 ?_ _ | refine bz4 ?_ hb3 | refine bz4 ?_ hb2 | refine bz4 ?_ hb1 | refine bz5 ?_ _ | refine bz6 ?_ _ | refine bz7 ?_ hb3 | refine bz7 ?_ hb2 | refine bz7 ?_ hb1))⟩
  cases hz : (absF fm x == 0)
  rotate_left
  · have HR := hid (up_zero ho hn hz)
    go_enter Tryz.func150, Tryz.ntmps150
    go_wp2_with fail
    refine (spec_ok fm x _).mono ?_
    rintro e w1 ⟨rfl, hb1⟩
    go_wp2_with fail
    refine (spec_nan fm x _ HO.out h0 h1).mono ?_
    rintro e w2 ⟨rfl, hb2⟩
    go_wp2_with fail
    refine (spec_l2abs fm x _ HO.out h0 h1).mono ?_
    rintro e w3 ⟨rfl, hb3⟩
    go_wp2
    go_ret
    exact ⟨ret_int HR.out.symm, (by repeat (first | exact bz0 _ _ | refine bz1 ?_ | refine bz2 ?_ _ | refine bz3 ?_ _ | refine bz4 ?_ hb3 | refine bz4 ?_ hb2 | refine bz4 ?_ hb1 | refine bz5 ?_ _ | refine bz6 ?_ _ | refine bz7 ?_ hb3 | refine bz7 ?_ hb2 | refine bz7 ?_ hb1))⟩
  cases hs : sigB fm x
  · have bd := up_bd ho h0 hn hs
    cases hi : (x == infOf fm)
    · have HR := hid (up_pos ho hn hz hs hi)
      go_enter Tryz.func150, Tryz.ntmps150
      go_wp2_with fail
      refine (spec_ok fm x _).mono ?_
      rintro e w1 ⟨rfl, hb1⟩
      go_wp2_with fail
      refine (spec_nan fm x _ HO.out h0 h1).mono ?_
      rintro e w2 ⟨rfl, hb2⟩
      go_wp2_with fail
      refine (spec_l2abs fm x _ HO.out h0 h1).mono ?_
      rintro e w3 ⟨rfl, hb3⟩
      go_wp2_with fail
      refine (spec_l2neg fm x _ HO.out h0 h1).mono ?_
      rintro e w4 ⟨rfl, hb4⟩
      go_wp2_with fail
      refine (spec_inf fm x _ HO.out).mono ?_
      rintro e w5 ⟨rfl, hb5⟩
      go_wp2
      go_ret
      exact ⟨ret_int HR.out.symm, (by repeat (first | exact bz0 _ _ | refine bz1 ?_ | refine bz2 ?_ _ | refine bz3 ?_ _ | refine bz4 ?_ hb5 | refine bz4 ?_ hb4 | refine bz4 ?_ hb3 | refine bz4 ?_ hb2 | refine bz4 ?_ hb1 | refine bz5 ?_ _ | refine bz6 ?_ _ | refine bz7 ?_ hb5 | refine bz7 ?_ hb4 | refine bz7 ?_ hb3 | refine bz7 ?_ hb2 | refine bz7 ?_ hb1))⟩
    · have HR := hid (up_inf ho hn hz hs hi)
      go_enter Tryz.func150, Tryz.ntmps150
      go_wp2_with fail
      refine (spec_ok fm x _).mono ?_
      rintro e w1 ⟨rfl, hb1⟩
      go_wp2_with fail
      refine (spec_nan fm x _ HO.out h0 h1).mono ?_
      rintro e w2 ⟨rfl, hb2⟩
      go_wp2_with fail
      refine (spec_l2abs fm x _ HO.out h0 h1).mono ?_
      rintro e w3 ⟨rfl, hb3⟩
      go_wp2_with fail
      refine (spec_l2neg fm x _ HO.out h0 h1).mono ?_
      rintro e w4 ⟨rfl, hb4⟩
      go_wp2_with fail
      refine (spec_inf fm x _ HO.out).mono ?_
      rintro e w5 ⟨rfl, hb5⟩
      go_wp2
      go_ret
      exact ⟨ret_int HR.out.symm, (by repeat (first | exact bz0 _ _ | refine bz1 ?_ | refine bz2 ?_ _ | refine bz3 ?_ _ | refine bz4 ?_ hb5 | refine bz4 ?_ hb4 | refine bz4 ?_ hb3 | refine bz4 ?_ hb2 | refine bz4 ?_ hb1 | refine bz5 ?_ _ | refine bz6 ?_ _ | refine bz7 ?_ hb5 | refine bz7 ?_ hb4 | refine bz7 ?_ hb3 | refine bz7 ?_ hb2 | refine bz7 ?_ hb1))⟩
  · have HR := hid (up_neg ho hn hz hs)
    have bd := up_bd' (fm := fm) h0 hs
    go_enter Tryz.func150, Tryz.ntmps150
    go_wp2_with fail
    refine (spec_ok fm x _).mono ?_
    rintro e w1 ⟨rfl, hb1⟩
    go_wp2_with fail
    refine (spec_nan fm x _ HO.out h0 h1).mono ?_
    rintro e w2 ⟨rfl, hb2⟩
    go_wp2_with fail
    refine (spec_l2abs fm x _ HO.out h0 h1).mono ?_
    rintro e w3 ⟨rfl, hb3⟩
    go_wp2_with fail
    refine (spec_l2neg fm x _ HO.out h0 h1).mono ?_
    rintro e w4 ⟨rfl, hb4⟩
    go_wp2
    go_ret
    exact ⟨ret_int HR.out.symm, (by repeat (first | exact bz0 _ _ | refine bz1 ?_ | refine bz2 ?_ _ | refine bz3 ?_ _ | refine bz4 ?_ hb4 | refine bz4 ?_ hb3 | refine bz4 ?_ hb2 | refine bz4 ?_ hb1 | refine bz5 ?_ _ | refine bz6 ?_ _ | refine bz7 ?_ hb4 | refine bz7 ?_ hb3 | refine bz7 ?_ hb2 | refine bz7 ?_ hb1))⟩
end Go.Proofs.YtbhfbaogmkgmiaaGreatDoor
namespace Go.Proofs.YtbhfbaogmkgmiaaGreatDoor
set_option linter.unusedVariables false
set_option linter.unusedSimpArgs false
open Go.RowKit Go.Deep
namespace Fd
theorem WZ.two {W : World} {rb b : Nat} (h : WZ W rb b) {q : Nat} (hq : b ≠ q) (u v : Value) : WZ ((W.setCell ⟨q, 0, none⟩ u).setCell ⟨q, 1, none⟩ v) rb b := ⟨(h.r.other hq _).other hq _, h.lt⟩
end Fd
end Go.Proofs.YtbhfbaogmkgmiaaGreatDoor
