/-
  What is needed of NQ.
-/
import Derived.Test.YtmcflggionkhlaaGreatDoorH35
set_option maxHeartbeats 16000000
set_option maxRecDepth 1000000
namespace Go.Proofs.YtmcflggionkhlaaGreatDoor
set_option linter.unusedVariables false
set_option linter.unusedSimpArgs false
open Go.RowKit Go.Deep
theorem plus_odd (sg1 inf1 G1 : Bool) (L1 : List Int) (E1 : Int) (a1 : Option Addr) (c1 : Nat) (sg2 inf2 G2 : Bool) (L2 : List Int) (E2 : Int) (a2 : Option Addr) (c2 : Nat) (mode : Int) (w : World) (h1 : inf1 = true) (h2 : inf2 = true) (h3 : (sg1 != sg2) = true) :
    Calls Tryz.prog 87 #[.agg #[.bool sg1, .bool inf1, .bool G1, .slice a1 L1.length c1, .int .i64 E1], .agg #[.bool sg2, .bool inf2, .bool G2, .slice a2 L2.length c2, .int .i64 E2], .int .i64 mode] w fun r w' => ∃ s : ByteArray, r = .returned (.tuple #[.agg #[.bool false, .bool false, .bool false, .slice none 0 0, .int .i64 0], .iface 168 (.agg #[.iface 170 (.agg #[.string s])])]) ∧ Below w.heap.size w w' := by
  have X := ((Q5.new w (.bool sg1) (.bool inf1) (.bool G1) (.slice a1 L1.length c1) (.int .i64 E1) 99).alloc (.cells #[.bool sg2, .bool inf2, .bool G2, .slice a2 L2.length c2, .int .i64 E2] 99)).alloc (.cells #[.bool false, .bool false, .bool false, .slice none 0 0, .int .i64 0] 99)
  have Y := (Q5.nw2 w (.cells #[.bool sg1, .bool inf1, .bool G1, .slice a1 L1.length c1, .int .i64 E1] 99) (.bool sg2) (.bool inf2) (.bool G2) (.slice a2 L2.length c2) (.int .i64 E2) 99).alloc (.cells #[.bool false, .bool false, .bool false, .slice none 0 0, .int .i64 0] 99)
  have R := Q5.nw3 w (.cells #[.bool sg1, .bool inf1, .bool G1, .slice a1 L1.length c1, .int .i64 E1] 99) (.cells #[.bool sg2, .bool inf2, .bool G2, .slice a2 L2.length c2, .int .i64 E2] 99) (.bool false) (.bool false) (.bool false) (.slice none 0 0) (.int .i64 0) 99
  have bel0 : Below w.heap.size w (((w.alloc (.cells #[.bool sg1, .bool inf1, .bool G1, .slice a1 L1.length c1, .int .i64 E1] 99)).alloc (.cells #[.bool sg2, .bool inf2, .bool G2, .slice a2 L2.length c2, .int .i64 E2] 99)).alloc (.cells #[.bool false, .bool false, .bool false, .slice none 0 0, .int .i64 0] 99)) := (by repeat (first | exact bz0 _ _ | refine bz1 ?_ | refine bz2 ?_ _ | refine bz3 ?_ _ | refine bz5 ?_ _ | refine bz6 ?_ _))
  subst h1 h2
  obtain ⟨x0, x1, x2, x3, x4⟩ := X.cs
  obtain ⟨y0, y1, y2, y3, y4⟩ := Y.cs
  obtain ⟨r0, r1, r2, r3, r4, f0, f1, f2, f3, f4⟩ := R
  cases sg1 <;> cases sg2 <;> first | (exfalso; revert h3; decide) | skip
  all_goals
    clear h3
    go_enter Tryz.func87, Tryz.ntmps87
    go_wp2
    refine bodyPost_ret (by simp [results, Tryz.results87, go_sem, r0, r1, r2, r3, r4]; rfl) rfl ⟨_, rfl, ?_⟩
    exact (by (repeat with_reducible first | refine Below.setCell ?_ ?_ _ | exact bz0 _ _ | refine bz1 ?_ | refine bz2 ?_ _ | refine bz3 ?_ _ | refine bz4 ?_ bel0 | refine Below.alloc ?_ ?_ _ | refine Below.trans ?_ (Below.mono bel0 ?_)) <;> first | omega | (simp; done) | (simp; omega))
theorem plus_inf1 (sg1 inf1 G1 : Bool) (L1 : List Int) (E1 : Int) (a1 : Option Addr) (c1 : Nat) (sg2 inf2 G2 : Bool) (L2 : List Int) (E2 : Int) (a2 : Option Addr) (c2 : Nat) (mode : Int) (w : World) (h1 : inf1 = true) (h3 : inf2 = false ∨ (sg1 != sg2) = false) :
    Calls Tryz.prog 87 #[.agg #[.bool sg1, .bool inf1, .bool G1, .slice a1 L1.length c1, .int .i64 E1], .agg #[.bool sg2, .bool inf2, .bool G2, .slice a2 L2.length c2, .int .i64 E2], .int .i64 mode] w fun r w' => r = .returned (.tuple #[.agg #[.bool sg1, .bool true, .bool G1, .slice a1 L1.length c1, .int .i64 E1], .nilIface]) ∧ Below w.heap.size w w' := by
  have X := ((Q5.new w (.bool sg1) (.bool inf1) (.bool G1) (.slice a1 L1.length c1) (.int .i64 E1) 99).alloc (.cells #[.bool sg2, .bool inf2, .bool G2, .slice a2 L2.length c2, .int .i64 E2] 99)).alloc (.cells #[.bool false, .bool false, .bool false, .slice none 0 0, .int .i64 0] 99)
  have Y := (Q5.nw2 w (.cells #[.bool sg1, .bool inf1, .bool G1, .slice a1 L1.length c1, .int .i64 E1] 99) (.bool sg2) (.bool inf2) (.bool G2) (.slice a2 L2.length c2) (.int .i64 E2) 99).alloc (.cells #[.bool false, .bool false, .bool false, .slice none 0 0, .int .i64 0] 99)
  have R := Q5.nw3 w (.cells #[.bool sg1, .bool inf1, .bool G1, .slice a1 L1.length c1, .int .i64 E1] 99) (.cells #[.bool sg2, .bool inf2, .bool G2, .slice a2 L2.length c2, .int .i64 E2] 99) (.bool false) (.bool false) (.bool false) (.slice none 0 0) (.int .i64 0) 99
  have bel0 : Below w.heap.size w (((w.alloc (.cells #[.bool sg1, .bool inf1, .bool G1, .slice a1 L1.length c1, .int .i64 E1] 99)).alloc (.cells #[.bool sg2, .bool inf2, .bool G2, .slice a2 L2.length c2, .int .i64 E2] 99)).alloc (.cells #[.bool false, .bool false, .bool false, .slice none 0 0, .int .i64 0] 99)) := (by repeat (first | exact bz0 _ _ | refine bz1 ?_ | refine bz2 ?_ _ | refine bz3 ?_ _ | refine bz5 ?_ _ | refine bz6 ?_ _))
  subst h1
  obtain ⟨x0, x1, x2, x3, x4⟩ := X.cs
  obtain ⟨y0, y1, y2, y3, y4⟩ := Y.cs
  obtain ⟨r0, r1, r2, r3, r4, f0, f1, f2, f3, f4⟩ := R
  cases inf2 with
  | false =>
    clear h3
    go_enter Tryz.func87, Tryz.ntmps87
    go_wp2
    refine bodyPost_ret (v := .tuple #[.agg #[.bool sg1, .bool true, .bool G1, .slice a1 L1.length c1, .int .i64 E1], .nilIface]) (by simp [results, Tryz.results87, go_sem, r0, r1, r2, r3, r4]) rfl ⟨rfl, ?_⟩
    exact (by (repeat with_reducible first | refine Below.setCell ?_ ?_ _ | exact bz0 _ _ | refine bz1 ?_ | refine bz2 ?_ _ | refine bz3 ?_ _ | refine bz4 ?_ bel0 | refine Below.alloc ?_ ?_ _ | refine Below.trans ?_ (Below.mono bel0 ?_)) <;> first | omega | (simp; done) | (simp; omega))
  | true =>
    have h4 : (sg1 != sg2) = false := h3.resolve_left (by decide)
    clear h3
    cases sg1 <;> cases sg2 <;> first | (exfalso; revert h4; decide) | skip
    all_goals
      clear h4
      go_enter Tryz.func87, Tryz.ntmps87
      go_wp2
      refine bodyPost_ret (v := .tuple #[.agg #[.bool _, .bool true, .bool G1, .slice a1 L1.length c1, .int .i64 E1], .nilIface]) (by simp [results, Tryz.results87, go_sem, r0, r1, r2, r3, r4]) rfl ⟨rfl, ?_⟩
      exact (by (repeat with_reducible first | refine Below.setCell ?_ ?_ _ | exact bz0 _ _ | refine bz1 ?_ | refine bz2 ?_ _ | refine bz3 ?_ _ | refine bz4 ?_ bel0 | refine Below.alloc ?_ ?_ _ | refine Below.trans ?_ (Below.mono bel0 ?_)) <;> first | omega | (simp; done) | (simp; omega))
theorem plus_inf2 (sg1 inf1 G1 : Bool) (L1 : List Int) (E1 : Int) (a1 : Option Addr) (c1 : Nat) (sg2 inf2 G2 : Bool) (L2 : List Int) (E2 : Int) (a2 : Option Addr) (c2 : Nat) (mode : Int) (w : World) (h1 : inf1 = false) (h2 : inf2 = true) :
    Calls Tryz.prog 87 #[.agg #[.bool sg1, .bool inf1, .bool G1, .slice a1 L1.length c1, .int .i64 E1], .agg #[.bool sg2, .bool inf2, .bool G2, .slice a2 L2.length c2, .int .i64 E2], .int .i64 mode] w fun r w' => r = .returned (.tuple #[.agg #[.bool sg2, .bool true, .bool G2, .slice a2 L2.length c2, .int .i64 E2], .nilIface]) ∧ Below w.heap.size w w' := by
  have X := ((Q5.new w (.bool sg1) (.bool inf1) (.bool G1) (.slice a1 L1.length c1) (.int .i64 E1) 99).alloc (.cells #[.bool sg2, .bool inf2, .bool G2, .slice a2 L2.length c2, .int .i64 E2] 99)).alloc (.cells #[.bool false, .bool false, .bool false, .slice none 0 0, .int .i64 0] 99)
  have Y := (Q5.nw2 w (.cells #[.bool sg1, .bool inf1, .bool G1, .slice a1 L1.length c1, .int .i64 E1] 99) (.bool sg2) (.bool inf2) (.bool G2) (.slice a2 L2.length c2) (.int .i64 E2) 99).alloc (.cells #[.bool false, .bool false, .bool false, .slice none 0 0, .int .i64 0] 99)
  have R := Q5.nw3 w (.cells #[.bool sg1, .bool inf1, .bool G1, .slice a1 L1.length c1, .int .i64 E1] 99) (.cells #[.bool sg2, .bool inf2, .bool G2, .slice a2 L2.length c2, .int .i64 E2] 99) (.bool false) (.bool false) (.bool false) (.slice none 0 0) (.int .i64 0) 99
  have bel0 : Below w.heap.size w (((w.alloc (.cells #[.bool sg1, .bool inf1, .bool G1, .slice a1 L1.length c1, .int .i64 E1] 99)).alloc (.cells #[.bool sg2, .bool inf2, .bool G2, .slice a2 L2.length c2, .int .i64 E2] 99)).alloc (.cells #[.bool false, .bool false, .bool false, .slice none 0 0, .int .i64 0] 99)) := (by repeat (first | exact bz0 _ _ | refine bz1 ?_ | refine bz2 ?_ _ | refine bz3 ?_ _ | refine bz5 ?_ _ | refine bz6 ?_ _))
  subst h1 h2
  obtain ⟨x0, x1, x2, x3, x4⟩ := X.cs
  obtain ⟨y0, y1, y2, y3, y4⟩ := Y.cs
  obtain ⟨r0, r1, r2, r3, r4, f0, f1, f2, f3, f4⟩ := R
  go_enter Tryz.func87, Tryz.ntmps87
  go_wp2
  refine bodyPost_ret (v := .tuple #[.agg #[.bool sg2, .bool true, .bool G2, .slice a2 L2.length c2, .int .i64 E2], .nilIface]) (by simp [results, Tryz.results87, go_sem, r0, r1, r2, r3, r4]) rfl ⟨rfl, ?_⟩
  exact (by (repeat with_reducible first | refine Below.setCell ?_ ?_ _ | exact bz0 _ _ | refine bz1 ?_ | refine bz2 ?_ _ | refine bz3 ?_ _ | refine bz4 ?_ bel0 | refine Below.alloc ?_ ?_ _ | refine Below.trans ?_ (Below.mono bel0 ?_)) <;> first | omega | (simp; done) | (simp; omega))
/-- The sign of a sum of finite ones that comes to 0, or of what it comes to. -/
def plN (z sg1 sg2 Gs : Bool) (mode : Int) : Bool := if z then (sg1 && sg2 || ((sg1 != sg2) && decide (mode = 3))) else Gs
theorem plus_fin (sg1 G1 : Bool) (L1 : List Int) (E1 : Int) (a1 : Option Addr) (c1 : Nat) (sg2 G2 : Bool) (L2 : List Int) (E2 : Int) (a2 : Option Addr) (c2 : Nat) (mode : Int) (w : World) (em : Int) (hem : em = min E1 E2) (h1 : -5000 ≤ E1 ∧ E1 ≤ 5000) (h2 : -5000 ≤ E2 ∧ E2 ≤ 5000) (s1 : Sl .u32 w (.slice a1 L1.length c1) L1) (s2 : Sl .u32 w (.slice a2 L2.length c2) L2)
    (Gv : Bool) (Lv : List Int) (Gw : Bool) (Lw : List Int) (Gs : Bool) (Ls : List Int) (ng : Bool) (hng : ng = plN (decide (Ls.length = 0)) sg1 sg2 Gs mode) (hls : Ls.length ≤ 200)
    (hv : ∀ w' : World, Sl .u32 w' (.slice a1 L1.length c1) L1 → Calls Tryz.prog 20 #[.agg #[.bool G1, .slice a1 L1.length c1], .int .i64 (E1 - em)] w' fun r w'' => ∃ a' c', r = .returned (.tuple #[.agg #[.bool Gv, .slice a' Lv.length c'], .bool true]) ∧ Own w'' w'.heap.size a' c' Lv ∧ Below w'.heap.size w' w'')
    (hw : ∀ w' : World, Sl .u32 w' (.slice a2 L2.length c2) L2 → Calls Tryz.prog 20 #[.agg #[.bool G2, .slice a2 L2.length c2], .int .i64 (E2 - em)] w' fun r w'' => ∃ a' c', r = .returned (.tuple #[.agg #[.bool Gw, .slice a' Lw.length c'], .bool true]) ∧ Own w'' w'.heap.size a' c' Lw ∧ Below w'.heap.size w' w'')
    (hs : ∀ (av : Option Addr) (cv : Nat) (aw : Option Addr) (cw : Nat) (w' : World), Sl .u32 w' (.slice av Lv.length cv) Lv → Sl .u32 w' (.slice aw Lw.length cw) Lw → Calls Tryz.prog 72 #[.agg #[.bool Gv, .slice av Lv.length cv], .agg #[.bool Gw, .slice aw Lw.length cw]] w' fun r w'' => ∃ a' c', r = .returned (.tuple #[.agg #[.bool Gs, .slice a' Ls.length c'], .bool true]) ∧ Own w'' w'.heap.size a' c' Ls ∧ Below w'.heap.size w' w'') :
    Calls Tryz.prog 87 #[.agg #[.bool sg1, .bool false, .bool G1, .slice a1 L1.length c1, .int .i64 E1], .agg #[.bool sg2, .bool false, .bool G2, .slice a2 L2.length c2, .int .i64 E2], .int .i64 mode] w fun r w' => ∃ a' c', r = .returned (.tuple #[.agg #[.bool ng, .bool false, .bool Gs, .slice a' Ls.length c', .int .i64 em], .nilIface]) ∧ Own w' w.heap.size a' c' Ls ∧ Below w.heap.size w w' := by
  have CV := hid hv
  have CW := hid hw
  have CS := hid hs
  have CZ := hid (fun a c w' => zero_any Gs false Gs a Ls.length c em w' (by omega))
  obtain ⟨z, hz⟩ : ∃ z, z = decide (Ls.length = 0) := ⟨_, rfl⟩
  rw [← hz] at hng
  simp only [← hz, Bool.not_false, Bool.true_and] at CZ
  obtain ⟨m3, hm3⟩ : ∃ m, m = decide (mode = 3) := ⟨_, rfl⟩
  have hmd : (mode == 3) = m3 := by rw [hm3, Bool.eq_iff_iff, beq_iff_eq, decide_eq_true_eq]
  unfold plN at hng
  rw [← hm3] at hng
  have HNG := hid hng
  have HEM := hid hem
  have b1 : -5000 ≤ em ∧ em ≤ 5000 := by omega
  clear hz hm3 hng hem hv hw hs
  have X := ((Q5.new w (.bool sg1) (.bool false) (.bool G1) (.slice a1 L1.length c1) (.int .i64 E1) 99).alloc (.cells #[.bool sg2, .bool false, .bool G2, .slice a2 L2.length c2, .int .i64 E2] 99)).alloc (.cells #[.bool false, .bool false, .bool false, .slice none 0 0, .int .i64 0] 99)
  have Y := (Q5.nw2 w (.cells #[.bool sg1, .bool false, .bool G1, .slice a1 L1.length c1, .int .i64 E1] 99) (.bool sg2) (.bool false) (.bool G2) (.slice a2 L2.length c2) (.int .i64 E2) 99).alloc (.cells #[.bool false, .bool false, .bool false, .slice none 0 0, .int .i64 0] 99)
  have R := Q5.nw3 w (.cells #[.bool sg1, .bool false, .bool G1, .slice a1 L1.length c1, .int .i64 E1] 99) (.cells #[.bool sg2, .bool false, .bool G2, .slice a2 L2.length c2, .int .i64 E2] 99) (.bool false) (.bool false) (.bool false) (.slice none 0 0) (.int .i64 0) 99
  have bel0 : Below w.heap.size w (((w.alloc (.cells #[.bool sg1, .bool false, .bool G1, .slice a1 L1.length c1, .int .i64 E1] 99)).alloc (.cells #[.bool sg2, .bool false, .bool G2, .slice a2 L2.length c2, .int .i64 E2] 99)).alloc (.cells #[.bool false, .bool false, .bool false, .slice none 0 0, .int .i64 0] 99)) := (by repeat (first | exact bz0 _ _ | refine bz1 ?_ | refine bz2 ?_ _ | refine bz3 ?_ _ | refine bz5 ?_ _ | refine bz6 ?_ _))
  go_enter Tryz.func87, Tryz.ntmps87
  go_upto_region 7 with fail
  obtain ⟨W, hW⟩ : ∃ W, W = (((w.alloc (.cells #[.bool sg1, .bool false, .bool G1, .slice a1 L1.length c1, .int .i64 E1] 99)).alloc (.cells #[.bool sg2, .bool false, .bool G2, .slice a2 L2.length c2, .int .i64 E2] 99)).alloc (.cells #[.bool false, .bool false, .bool false, .slice none 0 0, .int .i64 0] 99)) := ⟨_, rfl⟩
  rw [← hW] at X Y R bel0 ⊢
  clear hW
  go_cut [8] (fun s wx => s = .int .i64 em ∧ wx = W)
  case first =>
    obtain ⟨x0, x1, x2, x3, x4⟩ := X.cs
    obtain ⟨y0, y1, y2, y3, y4⟩ := Y.cs
    by_cases hc : E1 < E2
    all_goals go_wp2_with fail
    all_goals go_meet
    all_goals exact ⟨by rw [HEM.out]; congr 1; omega, rfl⟩
  case rest =>
  obtain ⟨rfl, rfl⟩ := hcut
  have lR := R.lt
  obtain ⟨x0, x1, x2, x3, x4⟩ := X.cs
  obtain ⟨y0, y1, y2, y3, y4⟩ := Y.cs
  go_wp2_with fail
  refine (CV.out _ (s1.below bel0)).mono ?_
  rintro r w1 ⟨av, cv, rfl, ov, hb1⟩
  clear x0 x1 x2 x3 x4 y0 y1 y2 y3 y4
  have lw1 := hb1.size
  have bel1 := bel_al (bel_go bel0 hb1) (.cells #[.bool Gv, .slice av Lv.length cv] 31)
  replace X := (X.below hb1).alloc (.cells #[.bool Gv, .slice av Lv.length cv] 31)
  replace Y := (Y.below hb1).alloc (.cells #[.bool Gv, .slice av Lv.length cv] 31)
  replace R := (R.below hb1).alloc (.cells #[.bool Gv, .slice av Lv.length cv] 31)
  have V := R2.new w1 (.bool Gv) (.slice av Lv.length cv) 31
  have ov' := ov.alloc (.cells #[.bool Gv, .slice av Lv.length cv] 31)
  clear hb1 ov
  obtain ⟨x0, x1, x2, x3, x4⟩ := X.cs
  obtain ⟨y0, y1, y2, y3, y4⟩ := Y.cs
  go_wp2_with fail
  refine (CW.out _ (s2.below bel1)).mono ?_
  rintro r w2 ⟨aw, cw, rfl, ow, hb2⟩
  clear x0 x1 x2 x3 x4 y0 y1 y2 y3 y4
  have lw2 : w1.heap.size < w2.heap.size := by have := hb2.size; simp at this; omega
  have bel2 := bel_al (bel_go bel1 hb2) (.cells #[.bool Gw, .slice aw Lw.length cw] 31)
  replace X := (X.below hb2).alloc (.cells #[.bool Gw, .slice aw Lw.length cw] 31)
  replace Y := (Y.below hb2).alloc (.cells #[.bool Gw, .slice aw Lw.length cw] 31)
  replace R := (R.below hb2).alloc (.cells #[.bool Gw, .slice aw Lw.length cw] 31)
  replace V := (V.below hb2).alloc (.cells #[.bool Gw, .slice aw Lw.length cw] 31)
  have U := R2.new w2 (.bool Gw) (.slice aw Lw.length cw) 31
  have ov2 := (ov'.below hb2).alloc (.cells #[.bool Gw, .slice aw Lw.length cw] 31)
  have ow2 := ow.alloc (.cells #[.bool Gw, .slice aw Lw.length cw] 31)
  clear hb2 ow ov'
  obtain ⟨v0, v1, v2, v3⟩ := V
  obtain ⟨u0, u1, u2, u3⟩ := U
  go_wp2_with fail
  refine (CS.out av cv aw cw _ ov2.sl ow2.sl).mono ?_
  rintro r w3 ⟨az, cz, rfl, os, hb3⟩
  clear v0 v1 v2 v3
  have lw3 : w2.heap.size < w3.heap.size := by have := hb3.size; simp at this; omega
  replace X := X.below hb3
  replace Y := Y.below hb3
  replace R := R.below hb3
  obtain ⟨u0, u1, u2, u3⟩ := (R2.below ⟨u0, u1, u2, u3⟩ hb3 : R2 w3 w2.heap.size _ _)
  have bel3 := bel_go bel2 hb3
  clear hb3 ov2 ow2 s1 s2
  go_upto_region 11 with fail
  obtain ⟨W4, hW4⟩ : ∃ W4, W4 = (w3.setCell ⟨w2.heap.size, 0, none⟩ (.bool Gs)).setCell ⟨w2.heap.size, 1, none⟩ (.slice az Ls.length cz) := ⟨_, rfl⟩
  have U4 : R2 W4 w2.heap.size (.bool Gs) (.slice az Ls.length cz) := by rw [hW4]; exact R2.set ⟨u0, u1, u2, u3⟩ _ _
  have hh : ∀ b, b ≠ w2.heap.size → W4.heap[b]? = w3.heap[b]? := fun b hb => by rw [hW4, Below.heap_setCell _ _ _ _ hb, Below.heap_setCell _ _ _ _ hb]
  have X4 := X.of_block (hh _ (by omega))
  have Y4 := Y.of_block (hh _ (by omega))
  have R4 := R.of_block (hh _ (by omega))
  have bel4 : Below w.heap.size w W4 := by rw [hW4]; exact (by (repeat with_reducible first | refine Below.setCell ?_ ?_ _ | exact bz0 _ _ | refine bz1 ?_ | refine bz2 ?_ _ | refine bz3 ?_ _ | refine bz4 ?_ bel3 | refine Below.alloc ?_ ?_ _ | refine Below.trans ?_ (Below.mono bel3 ?_)) <;> first | omega | (simp; done) | (simp; omega))
  have os4 : Own W4 (w2.heap.size + 1) az cz Ls := by
    rw [hW4]
    have o' := os.base (B' := w2.heap.size + 1) (by simp)
    exact (o'.setBelow (by simp) _).setBelow (by simp) _
  have lW4 : W4.heap.size = w3.heap.size := by rw [hW4]; simp
  have ob := os4.block
  rw [← hW4]
  clear hW4 hh u0 u1 u2 u3 X Y R bel3 os bel2 bel1 bel0
  obtain ⟨u0, u1, u2, u3⟩ := U4
  go_wp2_with fail
  refine (CZ.out az cz _).mono ?_
  rintro r w5 ⟨rfl, hb5⟩
  have bel5 := bel_go (bel_al bel4 (.cells #[.bool Gs, .bool false, .bool Gs, .slice az Ls.length cz, .int .i64 em] 99)) hb5
  have N5 := (Q5.new W4 (.bool Gs) (.bool false) (.bool Gs) (.slice az Ls.length cz) (.int .i64 em) 99).below hb5
  rw [lW4] at N5
  obtain ⟨n0, n1, n2, n3, n4, m0, m1, m2, m3', m4⟩ := N5
  obtain ⟨x0, x1, x2, x3, x4⟩ := ((X4.alloc (.cells #[.bool Gs, .bool false, .bool Gs, .slice az Ls.length cz, .int .i64 em] 99)).below hb5).cs
  obtain ⟨y0, y1, y2, y3, y4⟩ := ((Y4.alloc (.cells #[.bool Gs, .bool false, .bool Gs, .slice az Ls.length cz, .int .i64 em] 99)).below hb5).cs
  obtain ⟨r0, r1, r2, r3, r4, f0, f1, f2, f3, f4⟩ := (R4.alloc (.cells #[.bool Gs, .bool false, .bool Gs, .slice az Ls.length cz, .int .i64 em] 99)).below hb5
  have os5 := (os4.alloc (.cells #[.bool Gs, .bool false, .bool Gs, .slice az Ls.length cz, .int .i64 em] 99)).below hb5
  have lw5 : W4.heap.size < w5.heap.size := by have := hb5.size; simp at this; omega
  clear u0 u1 u2 u3 X4 Y4 R4 os4 bel4
  cases z with
  | false =>
    have hn : ng = Gs := by have := HNG.out; simpa using this
    subst hn
    go_wp2
    refine bodyPost_ret (v := .tuple #[.agg #[.bool ng, .bool false, .bool ng, .slice az Ls.length cz, .int .i64 em], .nilIface]) (by simp [results, Tryz.results87, go_sem, r0, r1, r2, r3, r4]) rfl ⟨az, cz, rfl, ?_, ?_⟩
    · refine Own.base (B := w2.heap.size + 1) ?_ (by omega)
      repeat (first | with_reducible exact os5 | (with_reducible refine Own.setBelow ?_ ?_ _; rotate_left; (simp; try omega)))
    · exact (by (repeat with_reducible first | refine Below.setCell ?_ ?_ _ | exact bz0 _ _ | refine bz1 ?_ | refine bz2 ?_ _ | refine bz3 ?_ _ | refine bz4 ?_ bel5 | refine Below.alloc ?_ ?_ _ | refine Below.trans ?_ (Below.mono bel5 ?_)) <;> first | omega | (simp; done) | (simp; omega))
  | true =>
    cases sg1 <;> cases sg2
    all_goals
      have hn := HNG.out
      simp at hn
      subst hn
      go_wp2
      refine bodyPost_ret (v := .tuple #[.agg #[.bool _, .bool false, .bool Gs, .slice az Ls.length cz, .int .i64 em], .nilIface]) (by simp [results, Tryz.results87, go_sem, r0, r1, r2, r3, r4]) rfl ⟨az, cz, rfl, ?_, ?_⟩
      · refine Own.base (B := w2.heap.size + 1) ?_ (by omega)
        have o6 := os5
        repeat (first | with_reducible exact o6 | (with_reducible refine Own.setBelow ?_ ?_ _; rotate_left; focus (first | (simp; done) | (simp; omega))) | (with_reducible refine Own.setOther ?_ ?_ _; rotate_left; (intro g hg; simp; rcases ob with ⟨e, _⟩ | ⟨g', e, hq, hr⟩; (rw [e] at hg; cases hg); (rw [e] at hg; cases hg; omega))))
      · exact (by (repeat with_reducible first | refine Below.setCell ?_ ?_ _ | exact bz0 _ _ | refine bz1 ?_ | refine bz2 ?_ _ | refine bz3 ?_ _ | refine bz4 ?_ bel5 | refine Below.alloc ?_ ?_ _ | refine Below.trans ?_ (Below.mono bel5 ?_)) <;> first | omega | (simp; done) | (simp; omega))
end Go.Proofs.YtmcflggionkhlaaGreatDoor
