/-
  What is needed of TCd, NZ, TP, PX, NQ, DR.
-/
import Derived.Test.YtmcflggionkhlaaGreatDoorK35
import Derived.Test.YtmcflggionkhlaaGreatDoorK37
import Derived.Test.YtmcflggionkhlaaGreatDoorK39
set_option maxHeartbeats 16000000
set_option maxRecDepth 1000000
namespace Go.Proofs.YtmcflggionkhlaaGreatDoor
set_option linter.unusedVariables false
set_option linter.unusedSimpArgs false
open Go.RowKit Go.Deep
namespace TCn
theorem four_cell {x y : Int} (w : World) {w' : World} {rb : Nat} {t : TypeId} (hg : (w.alloc (.cells #[.int .i64 x, .int .i64 y, .int .i64 (-9223372036854775808), .int .i64 9223372036854775807] t)).grownBy w' (some rb)) (hne : rb < w.heap.size) (k : Nat) (hk : k < 4) :
    ∃ d : Int, w'.cell? ⟨w.heap.size, k, none⟩ = some (.int .i64 d) := by
  have e := hg.block w.heap.size (by simp) (by simp; omega)
  have h : ∀ j, w'.cell? ⟨w.heap.size, j, none⟩ = (#[.int .i64 x, .int .i64 y, .int .i64 (-9223372036854775808), .int .i64 9223372036854775807] : Array Value)[j]? := fun j => by
    rw [World.cell?_of_block (a := ⟨w.heap.size, j, none⟩) e]
    exact World.cell?_alloc_new w _ _ j
  rw [h k]
  rcases (show k = 0 ∨ k = 1 ∨ k = 2 ∨ k = 3 by omega) with rfl | rfl | rfl | rfl
  · exact ⟨x, rfl⟩
  · exact ⟨y, rfl⟩
  · exact ⟨_, rfl⟩
  · exact ⟨_, rfl⟩
end TCn
namespace Fd
theorem near_z (rb : Nat) (ca : Option Addr) (cc : Nat) (cs : List Int) (lo hi : Int) (w : World) (hr : RD w rb ca cc cs) (h0 : -1000000 ≤ lo) (h1 : lo ≤ hi) (h2 : hi ≤ 1000000) :
    Calls Tryz.prog 156 #[.pointer (some ⟨rb, 0, none⟩), .int .i64 lo, .int .i64 hi] w fun e w' => ∃ v : Int, e = .returned (.int .i64 v) ∧ RD w' rb ca cc cs ∧ w.grownBy w' (some rb) := by
  go_enter Tryz.func156, Tryz.ntmps156
  go_wp2_with fail
  refine (below_any rb ca cc cs 8 _ hr (by decide) (by decide)).mono ?_
  rintro e w1 ⟨v, rfl, v0, v1, hr1, hg1⟩
  rcases (show v = 0 ∨ v = 1 ∨ 1 < v by omega) with rfl | rfl | hv
  · go_wp2
    go_ret
    exact ⟨_, rfl, hr1, hg1⟩
  · go_wp2
    go_ret
    exact ⟨_, rfl, hr1, hg1⟩
  · have e0 : (v == 0) = false := by simp; omega
    have e1 : (v == 1) = false := by simp; omega
    have e2 : decide (hi < lo) = false := by simp; omega
    have W1 : IntKind.u64.wrap (hi - lo + 1) = hi - lo + 1 := by rw [IntKind.wrap_u64]; omega
    have W2 : (hi - lo + 1 == 0) = false := by simp; omega
    have CW := hid (word_any rb ca cc cs _ hr1)
    go_wp2_with fail
    refine CW.out.mono ?_
    rintro e w2 ⟨u, rfl, u0, u1, hr2, hg2⟩
    go_wp2
    go_ret
    exact ⟨_, rfl, hr2, grown_trans hg1 hg2⟩
theorem off_z (rb : Nat) (ca : Option Addr) (cc : Nat) (cs : List Int) (lo hi : Int) (w : World) (hr : RD w rb ca cc cs) (h0 : -1000000 ≤ lo) (h1 : lo ≤ hi) (h2 : hi ≤ 1000000) :
    Calls Tryz.prog 82 #[.pointer (some ⟨rb, 0, none⟩), .int .i64 lo, .int .i64 hi] w fun e w' => ∃ v : Int, e = .returned (.int .i64 v) ∧ RD w' rb ca cc cs ∧ w.grownBy w' (some rb) := by
  go_enter Tryz.func82, Tryz.ntmps82
  go_wp2_with fail
  refine (once_any rb ca cc cs 24 _ hr (by decide) (by decide)).mono ?_
  rintro e w1 ⟨v, rfl, hr1, hg1⟩
  cases v
  · go_wp2_with fail
    refine (near_z rb ca cc cs lo hi _ hr1 h0 h1 h2).mono ?_
    rintro e w2 ⟨u, rfl, hr2, hg2⟩
    go_wp2
    go_ret
    exact ⟨_, rfl, hr2, grown_trans hg1 hg2⟩
  · have l1 := hr1.lt
    go_wp2_with fail
    refine (below_any rb ca cc cs 4 _ (hr1.alloc _) (by decide) (by decide)).mono ?_
    rintro e w3 ⟨kz, rfl, k0, k1, hr3, hg3⟩
    obtain ⟨k, rfl⟩ := Int.eq_ofNat_of_zero_le k0
    obtain ⟨d, hd⟩ := TCn.four_cell w1 hg3 l1 k (by omega)
    go_wp2
    go_ret
    exact ⟨d, rfl, hr3, grown_trans (grown_alloc hg1 _) hg3⟩
end Fd
theorem un_abs {fm x : Int} (hf : finB fm x = true) : (unI fm x).natAbs = Nm.sh (pM fm x).toNat (pE fm x - unQ fm) := by
  unfold unI; rw [hf, if_pos rfl]; cases pS fm x <;> simp
theorem fin_ok {fm x : Int} (hf : finB fm x = true) : okF fm x = true := by
  cases h : okF fm x
  · exfalso
    have : cls fm x = -1 := by unfold cls; rw [h]; rfl
    unfold finB at hf; rw [this] at hf; simp at hf
  · rfl
theorem un_bl (fm x : Int) : bitLen (unI fm x).natAbs ≤ 2200 := by
  cases hf : finB fm x
  · rw [un_no hf]; decide
  · rw [un_abs hf]; exact un_bits hf
theorem bl_pos {z : Int} (h : z ≠ 0) : 1 ≤ bitLen z.natAbs := by
  have : ¬ bitLen z.natAbs ≤ 0 := by
    rw [Nm.bl_le_iff]; simp; omega
  omega
theorem wl_zero : Nm.wl 0 = [] := Nm.lim_zero
theorem wn_zero : Nm.wn 0 = false := by decide
theorem pmul_impl (x y z u : Int) (a b : Option Addr) (cap cap' : Nat) (w : World) (hx : Sl .u32 w (.slice a (Nm.wl x).length cap) (Nm.wl x)) (hy : Sl .u32 w (.slice b (Nm.wl y).length cap') (Nm.wl y)) (lx : (Nm.wl x).length ≤ 200) (ly : (Nm.wl y).length ≤ 200) (hz : z = x * y) (hu : u = if Nm.fits z then z else 0) :
    Calls Tryz.prog 127 #[.agg #[.bool (Nm.wn x), .slice a (Nm.wl x).length cap], .agg #[.bool (Nm.wn y), .slice b (Nm.wl y).length cap']] w fun e w' => ∃ a' c', e = .returned (.tuple #[.agg #[.bool (Nm.wn u), .slice a' (Nm.wl u).length c'], .bool (Nm.fits z)]) ∧ Own w' w.heap.size a' c' (Nm.wl u) ∧ Below w.heap.size w w' := by
  have h := wmul_impl (Nm.wn x) (Nm.wn y) a b cap cap' (Nm.wl x) (Nm.wl y) w hx hy (Nm.wl_dg _) (Nm.wl_dg _) (by omega) (by omega) z (by rw [Nm.wv_out, Nm.wv_out]; exact hz)
  rw [okB_wl lx, okB_wl ly, Bool.and_self, (op_yes _).1, (op_yes _).2.1, (op_yes _).2.2] at h
  cases hf : Nm.fits z
  · rw [hf, if_neg (by decide)] at hu
    have e1 : Nm.outL z = [] := by unfold Nm.outL; rw [hf]; rfl
    have e2 : Nm.outN z = false := by unfold Nm.outN; rw [hf]; rfl
    rw [hf, e1, e2] at h
    rw [hu, wl_zero, wn_zero]
    exact h
  · rw [hf, if_pos rfl] at hu
    have e4 := out_fits hf
    rw [hf, e4.1, e4.2] at h
    rw [hu]; exact h
theorem plus_odd (sg1 inf1 G1 : Bool) (L1 : List Int) (E1 : Int) (a1 : Option Addr) (c1 : Nat) (sg2 inf2 G2 : Bool) (L2 : List Int) (E2 : Int) (a2 : Option Addr) (c2 : Nat) (mode : Int) (w : World) (h1 : inf1 = true) (h2 : inf2 = true) (h3 : (sg1 != sg2) = true) :
    Calls Tryz.prog 87 #[.agg #[.bool sg1, .bool inf1, .bool G1, .slice a1 L1.length c1, .int .i64 E1], .agg #[.bool sg2, .bool inf2, .bool G2, .slice a2 L2.length c2, .int .i64 E2], .int .i64 mode] w fun r w' => ∃ s : ByteArray, r = .returned (.tuple #[.agg #[.bool false, .bool false, .bool false, .slice none 0 0, .int .i64 0], .iface 168 (.agg #[.iface 170 (.agg #[.string s])])]) ∧ Below w.heap.size w w' := by
  have X := ((Q5.new w (.bool sg1) (.bool inf1) (.bool G1) (.slice a1 L1.length c1) (.int .i64 E1) 99).alloc (.cells #[.bool sg2, .bool inf2, .bool G2, .slice a2 L2.length c2, .int .i64 E2] 99)).alloc (.cells #[.bool false, .bool false, .bool false, .slice none 0 0, .int .i64 0] 99)
  have Y := (Q5.nw2 w (.cells #[.bool sg1, .bool inf1, .bool G1, .slice a1 L1.length c1, .int .i64 E1] 99) (.bool sg2) (.bool inf2) (.bool G2) (.slice a2 L2.length c2) (.int .i64 E2) 99).alloc (.cells #[.bool false, .bool false, .bool false, .slice none 0 0, .int .i64 0] 99)
  have R := Q5.nw3 w (.cells #[.bool sg1, .bool inf1, .bool G1, .slice a1 L1.length c1, .int .i64 E1] 99) (.cells #[.bool sg2, .bool inf2, .bool G2, .slice a2 L2.length c2, .int .i64 E2] 99) (.bool false) (.bool false) (.bool false) (.slice none 0 0) (.int .i64 0) 99
  have bel0 : Below w.heap.size w (((w.alloc (.cells #[.bool sg1, .bool inf1, .bool G1, .slice a1 L1.length c1, .int .i64 E1] 99)).alloc (.cells #[.bool sg2, .bool inf2, .bool G2, .slice a2 L2.length c2, .int .i64 E2] 99)).alloc (.cells #[.bool false, .bool false, .bool false, .slice none 0 0, .int .i64 0] 99)) := (by repeat (first | exact bz0 _ _ | refine bz1 ?_ | refine bz2 ?_ _ | refine bz3 ?_ _ | refine bz5 ?_ _ | refine bz6 ?_ _))
  subst h1 h2
  obtain ⟨x0, x1, x2, x3, x4⟩ := X.cs
  obtain ⟨y0, y1, y2, y3, y4⟩ := Y.cs
  obtain ⟨r0, r1, r2, r3, r4, f0, f1, f2, f3, f4⟩ := R
  cases sg1 <;> cases sg2 <;> first | (exfalso; revert h3; decide) | skip
  all_goals
    clear h3
    go_enter Tryz.func87, Tryz.ntmps87
    go_wp2
    refine bodyPost_ret (by simp [results, Tryz.results87, go_sem, r0, r1, r2, r3, r4]; rfl) rfl ⟨_, rfl, ?_⟩
    exact (by (repeat with_reducible first | refine Below.setCell ?_ ?_ _ | exact bz0 _ _ | refine bz1 ?_ | refine bz2 ?_ _ | refine bz3 ?_ _ | refine bz4 ?_ bel0 | refine Below.alloc ?_ ?_ _ | refine Below.trans ?_ (Below.mono bel0 ?_)) <;> first | omega | (simp; done) | (simp; omega))
theorem plus_inf1 (sg1 inf1 G1 : Bool) (L1 : List Int) (E1 : Int) (a1 : Option Addr) (c1 : Nat) (sg2 inf2 G2 : Bool) (L2 : List Int) (E2 : Int) (a2 : Option Addr) (c2 : Nat) (mode : Int) (w : World) (h1 : inf1 = true) (h3 : inf2 = false ∨ (sg1 != sg2) = false) :
    Calls Tryz.prog 87 #[.agg #[.bool sg1, .bool inf1, .bool G1, .slice a1 L1.length c1, .int .i64 E1], .agg #[.bool sg2, .bool inf2, .bool G2, .slice a2 L2.length c2, .int .i64 E2], .int .i64 mode] w fun r w' => r = .returned (.tuple #[.agg #[.bool sg1, .bool true, .bool G1, .slice a1 L1.length c1, .int .i64 E1], .nilIface]) ∧ Below w.heap.size w w' := by
  have X := ((Q5.new w (.bool sg1) (.bool inf1) (.bool G1) (.slice a1 L1.length c1) (.int .i64 E1) 99).alloc (.cells #[.bool sg2, .bool inf2, .bool G2, .slice a2 L2.length c2, .int .i64 E2] 99)).alloc (.cells #[.bool false, .bool false, .bool false, .slice none 0 0, .int .i64 0] 99)
  have Y := (Q5.nw2 w (.cells #[.bool sg1, .bool inf1, .bool G1, .slice a1 L1.length c1, .int .i64 E1] 99) (.bool sg2) (.bool inf2) (.bool G2) (.slice a2 L2.length c2) (.int .i64 E2) 99).alloc (.cells #[.bool false, .bool false, .bool false, .slice none 0 0, .int .i64 0] 99)
  have R := Q5.nw3 w (.cells #[.bool sg1, .bool inf1, .bool G1, .slice a1 L1.length c1, .int .i64 E1] 99) (.cells #[.bool sg2, .bool inf2, .bool G2, .slice a2 L2.length c2, .int .i64 E2] 99) (.bool false) (.bool false) (.bool false) (.slice none 0 0) (.int .i64 0) 99
  have bel0 : Below w.heap.size w (((w.alloc (.cells #[.bool sg1, .bool inf1, .bool G1, .slice a1 L1.length c1, .int .i64 E1] 99)).alloc (.cells #[.bool sg2, .bool inf2, .bool G2, .slice a2 L2.length c2, .int .i64 E2] 99)).alloc (.cells #[.bool false, .bool false, .bool false, .slice none 0 0, .int .i64 0] 99)) := (by repeat (first | exact bz0 _ _ | refine bz1 ?_ | refine bz2 ?_ _ | refine bz3 ?_ _ | refine bz5 ?_ _ | refine bz6 ?_ _))
  subst h1
  obtain ⟨x0, x1, x2, x3, x4⟩ := X.cs
  obtain ⟨y0, y1, y2, y3, y4⟩ := Y.cs
  obtain ⟨r0, r1, r2, r3, r4, f0, f1, f2, f3, f4⟩ := R
  cases inf2 with
  | false =>
    clear h3
    go_enter Tryz.func87, Tryz.ntmps87
    go_wp2
    refine bodyPost_ret (v := .tuple #[.agg #[.bool sg1, .bool true, .bool G1, .slice a1 L1.length c1, .int .i64 E1], .nilIface]) (by simp [results, Tryz.results87, go_sem, r0, r1, r2, r3, r4]) rfl ⟨rfl, ?_⟩
    exact (by (repeat with_reducible first | refine Below.setCell ?_ ?_ _ | exact bz0 _ _ | refine bz1 ?_ | refine bz2 ?_ _ | refine bz3 ?_ _ | refine bz4 ?_ bel0 | refine Below.alloc ?_ ?_ _ | refine Below.trans ?_ (Below.mono bel0 ?_)) <;> first | omega | (simp; done) | (simp; omega))
  | true =>
    have h4 : (sg1 != sg2) = false := h3.resolve_left (by decide)
    clear h3
    cases sg1 <;> cases sg2 <;> first | (exfalso; revert h4; decide) | skip
    all_goals
      clear h4
      go_enter Tryz.func87, Tryz.ntmps87
      go_wp2
      refine bodyPost_ret (v := .tuple #[.agg #[.bool _, .bool true, .bool G1, .slice a1 L1.length c1, .int .i64 E1], .nilIface]) (by simp [results, Tryz.results87, go_sem, r0, r1, r2, r3, r4]) rfl ⟨rfl, ?_⟩
      exact (by (repeat with_reducible first | refine Below.setCell ?_ ?_ _ | exact bz0 _ _ | refine bz1 ?_ | refine bz2 ?_ _ | refine bz3 ?_ _ | refine bz4 ?_ bel0 | refine Below.alloc ?_ ?_ _ | refine Below.trans ?_ (Below.mono bel0 ?_)) <;> first | omega | (simp; done) | (simp; omega))
theorem plus_inf2 (sg1 inf1 G1 : Bool) (L1 : List Int) (E1 : Int) (a1 : Option Addr) (c1 : Nat) (sg2 inf2 G2 : Bool) (L2 : List Int) (E2 : Int) (a2 : Option Addr) (c2 : Nat) (mode : Int) (w : World) (h1 : inf1 = false) (h2 : inf2 = true) :
    Calls Tryz.prog 87 #[.agg #[.bool sg1, .bool inf1, .bool G1, .slice a1 L1.length c1, .int .i64 E1], .agg #[.bool sg2, .bool inf2, .bool G2, .slice a2 L2.length c2, .int .i64 E2], .int .i64 mode] w fun r w' => r = .returned (.tuple #[.agg #[.bool sg2, .bool true, .bool G2, .slice a2 L2.length c2, .int .i64 E2], .nilIface]) ∧ Below w.heap.size w w' := by
  have X := ((Q5.new w (.bool sg1) (.bool inf1) (.bool G1) (.slice a1 L1.length c1) (.int .i64 E1) 99).alloc (.cells #[.bool sg2, .bool inf2, .bool G2, .slice a2 L2.length c2, .int .i64 E2] 99)).alloc (.cells #[.bool false, .bool false, .bool false, .slice none 0 0, .int .i64 0] 99)
  have Y := (Q5.nw2 w (.cells #[.bool sg1, .bool inf1, .bool G1, .slice a1 L1.length c1, .int .i64 E1] 99) (.bool sg2) (.bool inf2) (.bool G2) (.slice a2 L2.length c2) (.int .i64 E2) 99).alloc (.cells #[.bool false, .bool false, .bool false, .slice none 0 0, .int .i64 0] 99)
  have R := Q5.nw3 w (.cells #[.bool sg1, .bool inf1, .bool G1, .slice a1 L1.length c1, .int .i64 E1] 99) (.cells #[.bool sg2, .bool inf2, .bool G2, .slice a2 L2.length c2, .int .i64 E2] 99) (.bool false) (.bool false) (.bool false) (.slice none 0 0) (.int .i64 0) 99
  have bel0 : Below w.heap.size w (((w.alloc (.cells #[.bool sg1, .bool inf1, .bool G1, .slice a1 L1.length c1, .int .i64 E1] 99)).alloc (.cells #[.bool sg2, .bool inf2, .bool G2, .slice a2 L2.length c2, .int .i64 E2] 99)).alloc (.cells #[.bool false, .bool false, .bool false, .slice none 0 0, .int .i64 0] 99)) := (by repeat (first | exact bz0 _ _ | refine bz1 ?_ | refine bz2 ?_ _ | refine bz3 ?_ _ | refine bz5 ?_ _ | refine bz6 ?_ _))
  subst h1 h2
  obtain ⟨x0, x1, x2, x3, x4⟩ := X.cs
  obtain ⟨y0, y1, y2, y3, y4⟩ := Y.cs
  obtain ⟨r0, r1, r2, r3, r4, f0, f1, f2, f3, f4⟩ := R
  go_enter Tryz.func87, Tryz.ntmps87
  go_wp2
  refine bodyPost_ret (v := .tuple #[.agg #[.bool sg2, .bool true, .bool G2, .slice a2 L2.length c2, .int .i64 E2], .nilIface]) (by simp [results, Tryz.results87, go_sem, r0, r1, r2, r3, r4]) rfl ⟨rfl, ?_⟩
  exact (by (repeat with_reducible first | refine Below.setCell ?_ ?_ _ | exact bz0 _ _ | refine bz1 ?_ | refine bz2 ?_ _ | refine bz3 ?_ _ | refine bz4 ?_ bel0 | refine Below.alloc ?_ ?_ _ | refine Below.trans ?_ (Below.mono bel0 ?_)) <;> first | omega | (simp; done) | (simp; omega))
/-- The sign of a sum of finite ones that comes to 0, or of what it comes to. -/
def plN (z sg1 sg2 Gs : Bool) (mode : Int) : Bool := if z then (sg1 && sg2 || ((sg1 != sg2) && decide (mode = 3))) else Gs
theorem plus_fin (sg1 G1 : Bool) (L1 : List Int) (E1 : Int) (a1 : Option Addr) (c1 : Nat) (sg2 G2 : Bool) (L2 : List Int) (E2 : Int) (a2 : Option Addr) (c2 : Nat) (mode : Int) (w : World) (em : Int) (hem : em = min E1 E2) (h1 : -5000 ≤ E1 ∧ E1 ≤ 5000) (h2 : -5000 ≤ E2 ∧ E2 ≤ 5000) (s1 : Sl .u32 w (.slice a1 L1.length c1) L1) (s2 : Sl .u32 w (.slice a2 L2.length c2) L2)
    (Gv : Bool) (Lv : List Int) (Gw : Bool) (Lw : List Int) (Gs : Bool) (Ls : List Int) (ng : Bool) (hng : ng = plN (decide (Ls.length = 0)) sg1 sg2 Gs mode) (hls : Ls.length ≤ 200)
    (hv : ∀ w' : World, Sl .u32 w' (.slice a1 L1.length c1) L1 → Calls Tryz.prog 20 #[.agg #[.bool G1, .slice a1 L1.length c1], .int .i64 (E1 - em)] w' fun r w'' => ∃ a' c', r = .returned (.tuple #[.agg #[.bool Gv, .slice a' Lv.length c'], .bool true]) ∧ Own w'' w'.heap.size a' c' Lv ∧ Below w'.heap.size w' w'')
    (hw : ∀ w' : World, Sl .u32 w' (.slice a2 L2.length c2) L2 → Calls Tryz.prog 20 #[.agg #[.bool G2, .slice a2 L2.length c2], .int .i64 (E2 - em)] w' fun r w'' => ∃ a' c', r = .returned (.tuple #[.agg #[.bool Gw, .slice a' Lw.length c'], .bool true]) ∧ Own w'' w'.heap.size a' c' Lw ∧ Below w'.heap.size w' w'')
    (hs : ∀ (av : Option Addr) (cv : Nat) (aw : Option Addr) (cw : Nat) (w' : World), Sl .u32 w' (.slice av Lv.length cv) Lv → Sl .u32 w' (.slice aw Lw.length cw) Lw → Calls Tryz.prog 72 #[.agg #[.bool Gv, .slice av Lv.length cv], .agg #[.bool Gw, .slice aw Lw.length cw]] w' fun r w'' => ∃ a' c', r = .returned (.tuple #[.agg #[.bool Gs, .slice a' Ls.length c'], .bool true]) ∧ Own w'' w'.heap.size a' c' Ls ∧ Below w'.heap.size w' w'') :
    Calls Tryz.prog 87 #[.agg #[.bool sg1, .bool false, .bool G1, .slice a1 L1.length c1, .int .i64 E1], .agg #[.bool sg2, .bool false, .bool G2, .slice a2 L2.length c2, .int .i64 E2], .int .i64 mode] w fun r w' => ∃ a' c', r = .returned (.tuple #[.agg #[.bool ng, .bool false, .bool Gs, .slice a' Ls.length c', .int .i64 em], .nilIface]) ∧ Own w' w.heap.size a' c' Ls ∧ Below w.heap.size w w' := by
  have CV := hid hv
  have CW := hid hw
  have CS := hid hs
  have CZ := hid (fun a c w' => zero_any Gs false Gs a Ls.length c em w' (by omega))
  obtain ⟨z, hz⟩ : ∃ z, z = decide (Ls.length = 0) := ⟨_, rfl⟩
  rw [← hz] at hng
  simp only [← hz, Bool.not_false, Bool.true_and] at CZ
  obtain ⟨m3, hm3⟩ : ∃ m, m = decide (mode = 3) := ⟨_, rfl⟩
  have hmd : (mode == 3) = m3 := by rw [hm3, Bool.eq_iff_iff, beq_iff_eq, decide_eq_true_eq]
  unfold plN at hng
  rw [← hm3] at hng
  have HNG := hid hng
  have HEM := hid hem
  have b1 : -5000 ≤ em ∧ em ≤ 5000 := by omega
  clear hz hm3 hng hem hv hw hs
  have X := ((Q5.new w (.bool sg1) (.bool false) (.bool G1) (.slice a1 L1.length c1) (.int .i64 E1) 99).alloc (.cells #[.bool sg2, .bool false, .bool G2, .slice a2 L2.length c2, .int .i64 E2] 99)).alloc (.cells #[.bool false, .bool false, .bool false, .slice none 0 0, .int .i64 0] 99)
  have Y := (Q5.nw2 w (.cells #[.bool sg1, .bool false, .bool G1, .slice a1 L1.length c1, .int .i64 E1] 99) (.bool sg2) (.bool false) (.bool G2) (.slice a2 L2.length c2) (.int .i64 E2) 99).alloc (.cells #[.bool false, .bool false, .bool false, .slice none 0 0, .int .i64 0] 99)
  have R := Q5.nw3 w (.cells #[.bool sg1, .bool false, .bool G1, .slice a1 L1.length c1, .int .i64 E1] 99) (.cells #[.bool sg2, .bool false, .bool G2, .slice a2 L2.length c2, .int .i64 E2] 99) (.bool false) (.bool false) (.bool false) (.slice none 0 0) (.int .i64 0) 99
  have bel0 : Below w.heap.size w (((w.alloc (.cells #[.bool sg1, .bool false, .bool G1, .slice a1 L1.length c1, .int .i64 E1] 99)).alloc (.cells #[.bool sg2, .bool false, .bool G2, .slice a2 L2.length c2, .int .i64 E2] 99)).alloc (.cells #[.bool false, .bool false, .bool false, .slice none 0 0, .int .i64 0] 99)) := (by repeat (first | exact bz0 _ _ | refine bz1 ?_ | refine bz2 ?_ _ | refine bz3 ?_ _ | refine bz5 ?_ _ | refine bz6 ?_ _))
  go_enter Tryz.func87, Tryz.ntmps87
  go_upto_region 7 with fail
  obtain ⟨W, hW⟩ : ∃ W, W = (((w.alloc (.cells #[.bool sg1, .bool false, .bool G1, .slice a1 L1.length c1, .int .i64 E1] 99)).alloc (.cells #[.bool sg2, .bool false, .bool G2, .slice a2 L2.length c2, .int .i64 E2] 99)).alloc (.cells #[.bool false, .bool false, .bool false, .slice none 0 0, .int .i64 0] 99)) := ⟨_, rfl⟩
  rw [← hW] at X Y R bel0 ⊢
  clear hW
  go_cut [8] (fun s wx => s = .int .i64 em ∧ wx = W)
  case first =>
    obtain ⟨x0, x1, x2, x3, x4⟩ := X.cs
    obtain ⟨y0, y1, y2, y3, y4⟩ := Y.cs
    by_cases hc : E1 < E2
    all_goals go_wp2_with fail
    all_goals go_meet
    all_goals exact ⟨by rw [HEM.out]; congr 1; omega, rfl⟩
  case rest =>
  obtain ⟨rfl, rfl⟩ := hcut
  have lR := R.lt
  obtain ⟨x0, x1, x2, x3, x4⟩ := X.cs
  obtain ⟨y0, y1, y2, y3, y4⟩ := Y.cs
  go_wp2_with fail
  refine (CV.out _ (s1.below bel0)).mono ?_
  rintro r w1 ⟨av, cv, rfl, ov, hb1⟩
  clear x0 x1 x2 x3 x4 y0 y1 y2 y3 y4
  have lw1 := hb1.size
  have bel1 := bel_al (bel_go bel0 hb1) (.cells #[.bool Gv, .slice av Lv.length cv] 31)
  replace X := (X.below hb1).alloc (.cells #[.bool Gv, .slice av Lv.length cv] 31)
  replace Y := (Y.below hb1).alloc (.cells #[.bool Gv, .slice av Lv.length cv] 31)
  replace R := (R.below hb1).alloc (.cells #[.bool Gv, .slice av Lv.length cv] 31)
  have V := R2.new w1 (.bool Gv) (.slice av Lv.length cv) 31
  have ov' := ov.alloc (.cells #[.bool Gv, .slice av Lv.length cv] 31)
  clear hb1 ov
  obtain ⟨x0, x1, x2, x3, x4⟩ := X.cs
  obtain ⟨y0, y1, y2, y3, y4⟩ := Y.cs
  go_wp2_with fail
  refine (CW.out _ (s2.below bel1)).mono ?_
  rintro r w2 ⟨aw, cw, rfl, ow, hb2⟩
  clear x0 x1 x2 x3 x4 y0 y1 y2 y3 y4
  have lw2 : w1.heap.size < w2.heap.size := by have := hb2.size; simp at this; omega
  have bel2 := bel_al (bel_go bel1 hb2) (.cells #[.bool Gw, .slice aw Lw.length cw] 31)
  replace X := (X.below hb2).alloc (.cells #[.bool Gw, .slice aw Lw.length cw] 31)
  replace Y := (Y.below hb2).alloc (.cells #[.bool Gw, .slice aw Lw.length cw] 31)
  replace R := (R.below hb2).alloc (.cells #[.bool Gw, .slice aw Lw.length cw] 31)
  replace V := (V.below hb2).alloc (.cells #[.bool Gw, .slice aw Lw.length cw] 31)
  have U := R2.new w2 (.bool Gw) (.slice aw Lw.length cw) 31
  have ov2 := (ov'.below hb2).alloc (.cells #[.bool Gw, .slice aw Lw.length cw] 31)
  have ow2 := ow.alloc (.cells #[.bool Gw, .slice aw Lw.length cw] 31)
  clear hb2 ow ov'
  obtain ⟨v0, v1, v2, v3⟩ := V
  obtain ⟨u0, u1, u2, u3⟩ := U
  go_wp2_with fail
  refine (CS.out av cv aw cw _ ov2.sl ow2.sl).mono ?_
  rintro r w3 ⟨az, cz, rfl, os, hb3⟩
  clear v0 v1 v2 v3
  have lw3 : w2.heap.size < w3.heap.size := by have := hb3.size; simp at this; omega
  replace X := X.below hb3
  replace Y := Y.below hb3
  replace R := R.below hb3
  obtain ⟨u0, u1, u2, u3⟩ := (R2.below ⟨u0, u1, u2, u3⟩ hb3 : R2 w3 w2.heap.size _ _)
  have bel3 := bel_go bel2 hb3
  clear hb3 ov2 ow2 s1 s2
  go_upto_region 11 with fail
  obtain ⟨W4, hW4⟩ : ∃ W4, W4 = (w3.setCell ⟨w2.heap.size, 0, none⟩ (.bool Gs)).setCell ⟨w2.heap.size, 1, none⟩ (.slice az Ls.length cz) := ⟨_, rfl⟩
  have U4 : R2 W4 w2.heap.size (.bool Gs) (.slice az Ls.length cz) := by rw [hW4]; exact R2.set ⟨u0, u1, u2, u3⟩ _ _
  have hh : ∀ b, b ≠ w2.heap.size → W4.heap[b]? = w3.heap[b]? := fun b hb => by rw [hW4, Below.heap_setCell _ _ _ _ hb, Below.heap_setCell _ _ _ _ hb]
  have X4 := X.of_block (hh _ (by omega))
  have Y4 := Y.of_block (hh _ (by omega))
  have R4 := R.of_block (hh _ (by omega))
  have bel4 : Below w.heap.size w W4 := by rw [hW4]; exact (by (repeat with_reducible first | refine Below.setCell ?_ ?_ _ | exact bz0 _ _ | refine bz1 ?_ | refine bz2 ?_ _ | refine bz3 ?_ _ | refine bz4 ?_ bel3 | refine Below.alloc ?_ ?_ _ | refine Below.trans ?_ (Below.mono bel3 ?_)) <;> first | omega | (simp; done) | (simp; omega))
  have os4 : Own W4 (w2.heap.size + 1) az cz Ls := by
    rw [hW4]
    have o' := os.base (B' := w2.heap.size + 1) (by simp)
    exact (o'.setBelow (by simp) _).setBelow (by simp) _
  have lW4 : W4.heap.size = w3.heap.size := by rw [hW4]; simp
  have ob := os4.block
  rw [← hW4]
  clear hW4 hh u0 u1 u2 u3 X Y R bel3 os bel2 bel1 bel0
  obtain ⟨u0, u1, u2, u3⟩ := U4
  go_wp2_with fail
  refine (CZ.out az cz _).mono ?_
  rintro r w5 ⟨rfl, hb5⟩
  have bel5 := bel_go (bel_al bel4 (.cells #[.bool Gs, .bool false, .bool Gs, .slice az Ls.length cz, .int .i64 em] 99)) hb5
  have N5 := (Q5.new W4 (.bool Gs) (.bool false) (.bool Gs) (.slice az Ls.length cz) (.int .i64 em) 99).below hb5
  rw [lW4] at N5
  obtain ⟨n0, n1, n2, n3, n4, m0, m1, m2, m3', m4⟩ := N5
  obtain ⟨x0, x1, x2, x3, x4⟩ := ((X4.alloc (.cells #[.bool Gs, .bool false, .bool Gs, .slice az Ls.length cz, .int .i64 em] 99)).below hb5).cs
  obtain ⟨y0, y1, y2, y3, y4⟩ := ((Y4.alloc (.cells #[.bool Gs, .bool false, .bool Gs, .slice az Ls.length cz, .int .i64 em] 99)).below hb5).cs
  obtain ⟨r0, r1, r2, r3, r4, f0, f1, f2, f3, f4⟩ := (R4.alloc (.cells #[.bool Gs, .bool false, .bool Gs, .slice az Ls.length cz, .int .i64 em] 99)).below hb5
  have os5 := (os4.alloc (.cells #[.bool Gs, .bool false, .bool Gs, .slice az Ls.length cz, .int .i64 em] 99)).below hb5
  have lw5 : W4.heap.size < w5.heap.size := by have := hb5.size; simp at this; omega
  clear u0 u1 u2 u3 X4 Y4 R4 os4 bel4
  cases z with
  | false =>
    have hn : ng = Gs := by have := HNG.out; simpa using this
    subst hn
    go_wp2
    refine bodyPost_ret (v := .tuple #[.agg #[.bool ng, .bool false, .bool ng, .slice az Ls.length cz, .int .i64 em], .nilIface]) (by simp [results, Tryz.results87, go_sem, r0, r1, r2, r3, r4]) rfl ⟨az, cz, rfl, ?_, ?_⟩
    · refine Own.base (B := w2.heap.size + 1) ?_ (by omega)
      repeat (first | with_reducible exact os5 | (with_reducible refine Own.setBelow ?_ ?_ _; rotate_left; (simp; try omega)))
    · exact (by (repeat with_reducible first | refine Below.setCell ?_ ?_ _ | exact bz0 _ _ | refine bz1 ?_ | refine bz2 ?_ _ | refine bz3 ?_ _ | refine bz4 ?_ bel5 | refine Below.alloc ?_ ?_ _ | refine Below.trans ?_ (Below.mono bel5 ?_)) <;> first | omega | (simp; done) | (simp; omega))
  | true =>
    cases sg1 <;> cases sg2
    all_goals
      have hn := HNG.out
      simp at hn
      subst hn
      go_wp2
      refine bodyPost_ret (v := .tuple #[.agg #[.bool _, .bool false, .bool Gs, .slice az Ls.length cz, .int .i64 em], .nilIface]) (by simp [results, Tryz.results87, go_sem, r0, r1, r2, r3, r4]) rfl ⟨az, cz, rfl, ?_, ?_⟩
      · refine Own.base (B := w2.heap.size + 1) ?_ (by omega)
        have o6 := os5
        repeat (first | with_reducible exact o6 | (with_reducible refine Own.setBelow ?_ ?_ _; rotate_left; focus (first | (simp; done) | (simp; omega))) | (with_reducible refine Own.setOther ?_ ?_ _; rotate_left; (intro g hg; simp; rcases ob with ⟨e, _⟩ | ⟨g', e, hq, hr⟩; (rw [e] at hg; cases hg); (rw [e] at hg; cases hg; omega))))
      · exact (by (repeat with_reducible first | refine Below.setCell ?_ ?_ _ | exact bz0 _ _ | refine bz1 ?_ | refine bz2 ?_ _ | refine bz3 ?_ _ | refine bz4 ?_ bel5 | refine Below.alloc ?_ ?_ _ | refine Below.trans ?_ (Below.mono bel5 ?_)) <;> first | omega | (simp; done) | (simp; omega))
namespace Fd
theorem bl_add {x y : Int} {k : Nat} (hx : bitLen x.natAbs ≤ k) (hy : bitLen y.natAbs ≤ k) : bitLen (x + y).natAbs ≤ k + 1 := by
  have h1 := (Nm.bl_le_iff _ k).1 hx
  have h2 := (Nm.bl_le_iff _ k).1 hy
  refine (Nm.bl_le_iff _ _).2 ?_
  have h3 : (x + y).natAbs ≤ x.natAbs + y.natAbs := Int.natAbs_add_le _ _
  rw [Nat.pow_succ]; omega
theorem un_bl (fm x : Int) : bitLen (unI fm x).natAbs ≤ 2200 := by
  cases hf : finB fm x
  · rw [un_no hf]; decide
  · have h : (unI fm x).natAbs = Nm.sh (pM fm x).toNat (pE fm x - unQ fm) := by unfold unI; rw [hf, if_pos rfl]; cases pS fm x <;> simp
    rw [h]; exact un_bits hf
end Fd
end Go.Proofs.YtmcflggionkhlaaGreatDoor
