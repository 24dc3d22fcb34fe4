/-
  What is needed of NT, FM, NP.
-/
import Derived.Test.YtmcflggionkhlaaGreatDoorF17
import Derived.Test.YtmcflggionkhlaaGreatDoorF38
set_option maxHeartbeats 16000000
set_option maxRecDepth 1000000
namespace Go.Proofs.YtmcflggionkhlaaGreatDoor
set_option linter.unusedVariables false
set_option linter.unusedSimpArgs false
open Go.RowKit Go.Deep
/-- Whether a product is invalid: infinity and zero. -/
def oddB (inf1 z1 inf2 z2 : Bool) : Bool := (inf1 && (!inf2 && z2)) || ((!inf1 && z1) && inf2)
theorem times_odd (sg1 inf1 G1 : Bool) (L1 : List Int) (E1 : Int) (a1 : Option Addr) (c1 : Nat) (sg2 inf2 G2 : Bool) (L2 : List Int) (E2 : Int) (a2 : Option Addr) (c2 : Nat) (w : World) (hl1 : L1.length ≤ 200) (hl2 : L2.length ≤ 200) (ho : oddB inf1 (decide (L1.length = 0)) inf2 (decide (L2.length = 0)) = true) :
    Calls Tryz.prog 160 #[.agg #[.bool sg1, .bool inf1, .bool G1, .slice a1 L1.length c1, .int .i64 E1], .agg #[.bool sg2, .bool inf2, .bool G2, .slice a2 L2.length c2, .int .i64 E2]] w fun r w' => ∃ s : ByteArray, r = .returned (.tuple #[.agg #[.bool false, .bool false, .bool false, .slice none 0 0, .int .i64 0], .iface 168 (.agg #[.iface 170 (.agg #[.string s])])]) ∧ Below w.heap.size w w' := by
  have C1 := hid (fun w' => zero_any sg1 inf1 G1 a1 L1.length c1 E1 w' (by omega))
  have C2 := hid (fun w' => zero_any sg2 inf2 G2 a2 L2.length c2 E2 w' (by omega))
  obtain ⟨z1, e1⟩ : ∃ z, z = decide (L1.length = 0) := ⟨_, rfl⟩
  obtain ⟨z2, e2⟩ : ∃ z, z = decide (L2.length = 0) := ⟨_, rfl⟩
  rw [← e1] at C1 ho
  rw [← e2] at C2 ho
  clear e1 e2
  have X := ((Q5.new w (.bool sg1) (.bool inf1) (.bool G1) (.slice a1 L1.length c1) (.int .i64 E1) 99).alloc (.cells #[.bool sg2, .bool inf2, .bool G2, .slice a2 L2.length c2, .int .i64 E2] 99)).alloc (.cells #[.bool false, .bool false, .bool false, .slice none 0 0, .int .i64 0] 99)
  have Y := (Q5.nw2 w (.cells #[.bool sg1, .bool inf1, .bool G1, .slice a1 L1.length c1, .int .i64 E1] 99) (.bool sg2) (.bool inf2) (.bool G2) (.slice a2 L2.length c2) (.int .i64 E2) 99).alloc (.cells #[.bool false, .bool false, .bool false, .slice none 0 0, .int .i64 0] 99)
  have R := Q5.nw3 w (.cells #[.bool sg1, .bool inf1, .bool G1, .slice a1 L1.length c1, .int .i64 E1] 99) (.cells #[.bool sg2, .bool inf2, .bool G2, .slice a2 L2.length c2, .int .i64 E2] 99) (.bool false) (.bool false) (.bool false) (.slice none 0 0) (.int .i64 0) 99
  have bel0 : Below w.heap.size w (((w.alloc (.cells #[.bool sg1, .bool inf1, .bool G1, .slice a1 L1.length c1, .int .i64 E1] 99)).alloc (.cells #[.bool sg2, .bool inf2, .bool G2, .slice a2 L2.length c2, .int .i64 E2] 99)).alloc (.cells #[.bool false, .bool false, .bool false, .slice none 0 0, .int .i64 0] 99)) := (by repeat (first | exact bz0 _ _ | refine bz1 ?_ | refine bz2 ?_ _ | refine bz3 ?_ _ | refine bz5 ?_ _ | refine bz6 ?_ _))
  cases inf1 with
  | true =>
    have h2 : (!inf2 && z2) = true := by revert ho; cases inf2 <;> cases z2 <;> simp [oddB]
    rw [h2] at C2
    clear ho h2 C1
    obtain ⟨x0, x1, x2, x3, x4⟩ := X.cs
    obtain ⟨y0, y1, y2, y3, y4⟩ := Y.cs
    go_enter Tryz.func160, Tryz.ntmps160
    go_wp2_with fail
    refine (C2.out _).mono ?_
    rintro r w1 ⟨rfl, hb1⟩
    clear x0 x1 x2 x3 x4 y0 y1 y2 y3 y4
    obtain ⟨r0, r1, r2, r3, r4, f0, f1, f2, f3, f4⟩ := R.below hb1
    go_wp2
    refine bodyPost_ret (by simp [results, Tryz.results160, go_sem, r0, r1, r2, r3, r4]; rfl) rfl ⟨_, rfl, ?_⟩
    exact (by (repeat with_reducible first | refine Below.setCell ?_ ?_ _ | exact bz0 _ _ | refine bz1 ?_ | refine bz2 ?_ _ | refine bz3 ?_ _ | refine bz4 ?_ hb1 | refine bz4 ?_ bel0 | refine Below.alloc ?_ ?_ _ | refine Below.trans ?_ (Below.mono hb1 ?_) | refine Below.trans ?_ (Below.mono bel0 ?_)) <;> first | omega | (simp; done) | (simp; omega))
  | false =>
    obtain ⟨rfl, rfl⟩ : z1 = true ∧ inf2 = true := by revert ho; cases inf2 <;> cases z1 <;> simp [oddB]
    simp only [Bool.not_false, Bool.true_and] at C1
    clear ho C2
    obtain ⟨x0, x1, x2, x3, x4⟩ := X.cs
    obtain ⟨y0, y1, y2, y3, y4⟩ := Y.cs
    go_enter Tryz.func160, Tryz.ntmps160
    go_wp2_with fail
    refine (C1.out _).mono ?_
    rintro r w1 ⟨rfl, hb1⟩
    clear x0 x1 x2 x3 x4 y0 y1 y2 y3 y4
    obtain ⟨y0, y1, y2, y3, y4⟩ := (Y.below hb1).cs
    obtain ⟨r0, r1, r2, r3, r4, f0, f1, f2, f3, f4⟩ := R.below hb1
    go_wp2
    refine bodyPost_ret (by simp [results, Tryz.results160, go_sem, r0, r1, r2, r3, r4]; rfl) rfl ⟨_, rfl, ?_⟩
    exact (by (repeat with_reducible first | refine Below.setCell ?_ ?_ _ | exact bz0 _ _ | refine bz1 ?_ | refine bz2 ?_ _ | refine bz3 ?_ _ | refine bz4 ?_ hb1 | refine bz4 ?_ bel0 | refine Below.alloc ?_ ?_ _ | refine Below.trans ?_ (Below.mono hb1 ?_) | refine Below.trans ?_ (Below.mono bel0 ?_)) <;> first | omega | (simp; done) | (simp; omega))
theorem times_inf (sg1 inf1 G1 : Bool) (L1 : List Int) (E1 : Int) (a1 : Option Addr) (c1 : Nat) (sg2 inf2 G2 : Bool) (L2 : List Int) (E2 : Int) (a2 : Option Addr) (c2 : Nat) (w : World) (hl1 : L1.length ≤ 200) (hl2 : L2.length ≤ 200) (ho : oddB inf1 (decide (L1.length = 0)) inf2 (decide (L2.length = 0)) = false) (hi : (inf1 || inf2) = true) (ng : Bool) (hng : ng = (sg1 != sg2)) :
    Calls Tryz.prog 160 #[.agg #[.bool sg1, .bool inf1, .bool G1, .slice a1 L1.length c1, .int .i64 E1], .agg #[.bool sg2, .bool inf2, .bool G2, .slice a2 L2.length c2, .int .i64 E2]] w fun r w' => r = .returned (.tuple #[.agg #[.bool ng, .bool true, .bool false, .slice none 0 0, .int .i64 0], .nilIface]) ∧ Below w.heap.size w w' := by
  have C1 := hid (fun w' => zero_any sg1 inf1 G1 a1 L1.length c1 E1 w' (by omega))
  have C2 := hid (fun w' => zero_any sg2 inf2 G2 a2 L2.length c2 E2 w' (by omega))
  obtain ⟨z1, e1⟩ : ∃ z, z = decide (L1.length = 0) := ⟨_, rfl⟩
  obtain ⟨z2, e2⟩ : ∃ z, z = decide (L2.length = 0) := ⟨_, rfl⟩
  rw [← e1] at C1 ho
  rw [← e2] at C2 ho
  clear e1 e2
  have hng' : (sg1 != sg2) = ng := hng.symm
  have hng2 : (sg1 == sg2) = !ng := by rw [← hng']; cases sg1 <;> cases sg2 <;> rfl
  clear hng
  have X := ((Q5.new w (.bool sg1) (.bool inf1) (.bool G1) (.slice a1 L1.length c1) (.int .i64 E1) 99).alloc (.cells #[.bool sg2, .bool inf2, .bool G2, .slice a2 L2.length c2, .int .i64 E2] 99)).alloc (.cells #[.bool false, .bool false, .bool false, .slice none 0 0, .int .i64 0] 99)
  have Y := (Q5.nw2 w (.cells #[.bool sg1, .bool inf1, .bool G1, .slice a1 L1.length c1, .int .i64 E1] 99) (.bool sg2) (.bool inf2) (.bool G2) (.slice a2 L2.length c2) (.int .i64 E2) 99).alloc (.cells #[.bool false, .bool false, .bool false, .slice none 0 0, .int .i64 0] 99)
  have R := Q5.nw3 w (.cells #[.bool sg1, .bool inf1, .bool G1, .slice a1 L1.length c1, .int .i64 E1] 99) (.cells #[.bool sg2, .bool inf2, .bool G2, .slice a2 L2.length c2, .int .i64 E2] 99) (.bool false) (.bool false) (.bool false) (.slice none 0 0) (.int .i64 0) 99
  have bel0 : Below w.heap.size w (((w.alloc (.cells #[.bool sg1, .bool inf1, .bool G1, .slice a1 L1.length c1, .int .i64 E1] 99)).alloc (.cells #[.bool sg2, .bool inf2, .bool G2, .slice a2 L2.length c2, .int .i64 E2] 99)).alloc (.cells #[.bool false, .bool false, .bool false, .slice none 0 0, .int .i64 0] 99)) := (by repeat (first | exact bz0 _ _ | refine bz1 ?_ | refine bz2 ?_ _ | refine bz3 ?_ _ | refine bz5 ?_ _ | refine bz6 ?_ _))
  cases inf1 with
  | true =>
    have h2 : (!inf2 && z2) = false := by revert ho; cases inf2 <;> cases z2 <;> simp [oddB]
    rw [h2] at C2
    simp only [Bool.not_true, Bool.false_and] at C1
    clear ho h2 hi
    obtain ⟨x0, x1, x2, x3, x4⟩ := X.cs
    obtain ⟨y0, y1, y2, y3, y4⟩ := Y.cs
    go_enter Tryz.func160, Tryz.ntmps160
    go_wp2_with fail
    refine (C2.out _).mono ?_
    rintro r w1 ⟨rfl, hb1⟩
    clear x0 x1 x2 x3 x4 y0 y1 y2 y3 y4
    replace X := X.below hb1
    replace Y := Y.below hb1
    replace R := R.below hb1
    obtain ⟨x0, x1, x2, x3, x4⟩ := X.cs
    obtain ⟨y0, y1, y2, y3, y4⟩ := Y.cs
    go_wp2_with fail
    refine (C1.out _).mono ?_
    rintro r w2 ⟨rfl, hb2⟩
    clear x0 x1 x2 x3 x4 y0 y1 y2 y3 y4
    obtain ⟨x0, x1, x2, x3, x4⟩ := (X.below hb2).cs
    obtain ⟨y0, y1, y2, y3, y4⟩ := (Y.below hb2).cs
    obtain ⟨r0, r1, r2, r3, r4, f0, f1, f2, f3, f4⟩ := R.below hb2
    go_wp2
    refine bodyPost_ret (v := .tuple #[.agg #[.bool ng, .bool true, .bool false, .slice none 0 0, .int .i64 0], .nilIface]) (by simp [results, Tryz.results160, go_sem, r0, r1, r2, r3, r4, hng2]) rfl ⟨rfl, ?_⟩
    exact (by (repeat with_reducible first | refine Below.setCell ?_ ?_ _ | exact bz0 _ _ | refine bz1 ?_ | refine bz2 ?_ _ | refine bz3 ?_ _ | refine bz4 ?_ hb2 | refine bz4 ?_ hb1 | refine bz4 ?_ bel0 | refine Below.alloc ?_ ?_ _ | refine Below.trans ?_ (Below.mono hb2 ?_) | refine Below.trans ?_ (Below.mono hb1 ?_) | refine Below.trans ?_ (Below.mono bel0 ?_)) <;> first | omega | (simp; done) | (simp; omega))
  | false =>
    have hi2 : inf2 = true := by simpa using hi
    subst hi2
    have hz1 : z1 = false := by revert ho; cases z1 <;> simp [oddB]
    subst hz1
    simp only [Bool.not_false, Bool.true_and] at C1
    clear ho hi C2
    obtain ⟨x0, x1, x2, x3, x4⟩ := X.cs
    obtain ⟨y0, y1, y2, y3, y4⟩ := Y.cs
    go_enter Tryz.func160, Tryz.ntmps160
    go_wp2_with fail
    refine (C1.out _).mono ?_
    rintro r w1 ⟨rfl, hb1⟩
    clear x0 x1 x2 x3 x4 y0 y1 y2 y3 y4
    obtain ⟨x0, x1, x2, x3, x4⟩ := (X.below hb1).cs
    obtain ⟨y0, y1, y2, y3, y4⟩ := (Y.below hb1).cs
    obtain ⟨r0, r1, r2, r3, r4, f0, f1, f2, f3, f4⟩ := R.below hb1
    go_wp2
    refine bodyPost_ret (v := .tuple #[.agg #[.bool ng, .bool true, .bool false, .slice none 0 0, .int .i64 0], .nilIface]) (by simp [results, Tryz.results160, go_sem, r0, r1, r2, r3, r4, hng2]) rfl ⟨rfl, ?_⟩
    exact (by (repeat with_reducible first | refine Below.setCell ?_ ?_ _ | exact bz0 _ _ | refine bz1 ?_ | refine bz2 ?_ _ | refine bz3 ?_ _ | refine bz4 ?_ hb1 | refine bz4 ?_ bel0 | refine Below.alloc ?_ ?_ _ | refine Below.trans ?_ (Below.mono hb1 ?_) | refine Below.trans ?_ (Below.mono bel0 ?_)) <;> first | omega | (simp; done) | (simp; omega))
theorem mul_ok {na nb : Bool} {xs ys : List Int} (a b : Option Addr) (cap cap' : Nat) (w : World) (hx : Sl .u32 w (.slice a xs.length cap) xs) (hy : Sl .u32 w (.slice b ys.length cap') ys) (dx : Nm.Dg xs) (dy : Nm.Dg ys) (ho : okB na xs = true) (ho' : okB nb ys = true) (x : Int) (hxv : x = Nm.wv na xs * Nm.wv nb ys) (hf : Nm.fits x = true) :
    Calls Tryz.prog 127 #[.agg #[.bool na, .slice a xs.length cap], .agg #[.bool nb, .slice b ys.length cap']] w fun e w' => ∃ a' c', e = .returned (.tuple #[.agg #[.bool (Nm.wn x), .slice a' (Nm.wl x).length c'], .bool true]) ∧ Own w' w.heap.size a' c' (Nm.wl x) ∧ Below w.heap.size w w' := by
  have h1 := (okB_nz ho).2
  have h2 := (okB_nz ho').2
  have h := wmul_impl na nb a b cap cap' xs ys w hx hy dx dy (by omega) (by omega) x hxv
  have e4 := out_fits hf
  rw [ho, ho', Bool.and_self, (op_yes _).1, (op_yes _).2.1, (op_yes _).2.2, hf, e4.1, e4.2] at h
  exact h
theorem times_fin (sg1 G1 : Bool) (L1 : List Int) (E1 : Int) (a1 : Option Addr) (c1 : Nat) (sg2 G2 : Bool) (L2 : List Int) (E2 : Int) (a2 : Option Addr) (c2 : Nat) (w : World) (ng G : Bool) (L : List Int) (E : Int) (hng : ng = (sg1 != sg2)) (hE : E = E1 + E2) (h1 : -5000 ≤ E1 ∧ E1 ≤ 5000) (h2 : -5000 ≤ E2 ∧ E2 ≤ 5000) (hl1 : L1.length ≤ 200) (hl2 : L2.length ≤ 200) (s1 : Sl .u32 w (.slice a1 L1.length c1) L1) (s2 : Sl .u32 w (.slice a2 L2.length c2) L2)
    (hm : ∀ w' : World, Sl .u32 w' (.slice a1 L1.length c1) L1 → Sl .u32 w' (.slice a2 L2.length c2) L2 → Calls Tryz.prog 127 #[.agg #[.bool G1, .slice a1 L1.length c1], .agg #[.bool G2, .slice a2 L2.length c2]] w' fun r w'' => ∃ a' c', r = .returned (.tuple #[.agg #[.bool G, .slice a' L.length c'], .bool true]) ∧ Own w'' w'.heap.size a' c' L ∧ Below w'.heap.size w' w'') :
    Calls Tryz.prog 160 #[.agg #[.bool sg1, .bool false, .bool G1, .slice a1 L1.length c1, .int .i64 E1], .agg #[.bool sg2, .bool false, .bool G2, .slice a2 L2.length c2, .int .i64 E2]] w fun r w' => ∃ a' c', r = .returned (.tuple #[.agg #[.bool ng, .bool false, .bool G, .slice a' L.length c', .int .i64 E], .nilIface]) ∧ Own w' w.heap.size a' c' L ∧ Below w.heap.size w w' := by
  have C1 := hid (fun w' => zero_any sg1 false G1 a1 L1.length c1 E1 w' (by omega))
  have CM := hid hm
  obtain ⟨z1, e1⟩ : ∃ z, z = decide (L1.length = 0) := ⟨_, rfl⟩
  rw [← e1] at C1
  simp only [Bool.not_false, Bool.true_and] at C1
  clear e1 hm
  have hng' : (sg1 != sg2) = ng := hng.symm
  have hng2 : (sg1 == sg2) = !ng := by rw [← hng']; cases sg1 <;> cases sg2 <;> rfl
  have hwr : IntKind.i64.wrap (E1 + E2) = E := by rw [hE, IntKind.wrap_i64]; omega
  clear hng hE
  have X := ((Q5.new w (.bool sg1) (.bool false) (.bool G1) (.slice a1 L1.length c1) (.int .i64 E1) 99).alloc (.cells #[.bool sg2, .bool false, .bool G2, .slice a2 L2.length c2, .int .i64 E2] 99)).alloc (.cells #[.bool false, .bool false, .bool false, .slice none 0 0, .int .i64 0] 99)
  have Y := (Q5.nw2 w (.cells #[.bool sg1, .bool false, .bool G1, .slice a1 L1.length c1, .int .i64 E1] 99) (.bool sg2) (.bool false) (.bool G2) (.slice a2 L2.length c2) (.int .i64 E2) 99).alloc (.cells #[.bool false, .bool false, .bool false, .slice none 0 0, .int .i64 0] 99)
  have R := Q5.nw3 w (.cells #[.bool sg1, .bool false, .bool G1, .slice a1 L1.length c1, .int .i64 E1] 99) (.cells #[.bool sg2, .bool false, .bool G2, .slice a2 L2.length c2, .int .i64 E2] 99) (.bool false) (.bool false) (.bool false) (.slice none 0 0) (.int .i64 0) 99
  have bel0 : Below w.heap.size w (((w.alloc (.cells #[.bool sg1, .bool false, .bool G1, .slice a1 L1.length c1, .int .i64 E1] 99)).alloc (.cells #[.bool sg2, .bool false, .bool G2, .slice a2 L2.length c2, .int .i64 E2] 99)).alloc (.cells #[.bool false, .bool false, .bool false, .slice none 0 0, .int .i64 0] 99)) := (by repeat (first | exact bz0 _ _ | refine bz1 ?_ | refine bz2 ?_ _ | refine bz3 ?_ _ | refine bz5 ?_ _ | refine bz6 ?_ _))
  cases z1
  all_goals
    obtain ⟨x0, x1, x2, x3, x4⟩ := X.cs
    obtain ⟨y0, y1, y2, y3, y4⟩ := Y.cs
    go_enter Tryz.func160, Tryz.ntmps160
    go_wp2_with fail
    refine (C1.out _).mono ?_
    rintro r w1 ⟨rfl, hb1⟩
    clear x0 x1 x2 x3 x4 y0 y1 y2 y3 y4
    replace X := X.below hb1
    replace Y := Y.below hb1
    replace R := R.below hb1
    have bel1 := bel_go bel0 hb1
    obtain ⟨x0, x1, x2, x3, x4⟩ := X.cs
    obtain ⟨y0, y1, y2, y3, y4⟩ := Y.cs
    go_wp2_with fail
    refine (CM.out _ (s1.below bel1) (s2.below bel1)).mono ?_
    rintro r w2 ⟨a3, c3, rfl, o3, hb2⟩
    clear x0 x1 x2 x3 x4 y0 y1 y2 y3 y4
    have lw1 := R.lt
    have lw2 := hb2.size
    obtain ⟨x0, x1, x2, x3, x4⟩ := ((X.below hb2).alloc (.cells #[.bool G, .slice a3 L.length c3] 31)).cs
    obtain ⟨y0, y1, y2, y3, y4⟩ := ((Y.below hb2).alloc (.cells #[.bool G, .slice a3 L.length c3] 31)).cs
    obtain ⟨r0, r1, r2, r3, r4, f0, f1, f2, f3, f4⟩ := (R.below hb2).alloc (.cells #[.bool G, .slice a3 L.length c3] 31)
    obtain ⟨d0, d1⟩ := Box.new w2 (.bool G) (.slice a3 L.length c3) 31
    have o4 := o3.alloc (.cells #[.bool G, .slice a3 L.length c3] 31)
    go_wp2
    refine bodyPost_ret (v := .tuple #[.agg #[.bool ng, .bool false, .bool G, .slice a3 L.length c3, .int .i64 E], .nilIface]) (by simp [results, Tryz.results160, go_sem, r0, r1, r2, r3, r4, hng2]) rfl ⟨a3, c3, rfl, ?_, ?_⟩
    · refine Own.base (B := w1.heap.size) ?_ (by omega)
      repeat (first | with_reducible exact o4 | (with_reducible refine Own.setBelow ?_ ?_ _; rotate_left; (simp; try omega)))
    · exact (by (repeat with_reducible first | refine Below.setCell ?_ ?_ _ | exact bz0 _ _ | refine bz1 ?_ | refine bz2 ?_ _ | refine bz3 ?_ _ | refine bz4 ?_ hb2 | refine bz4 ?_ bel1 | refine Below.alloc ?_ ?_ _ | refine Below.trans ?_ (Below.mono hb2 ?_) | refine Below.trans ?_ (Below.mono bel1 ?_)) <;> first | omega | (simp; done) | (simp; omega))
/-- A product, of what are no NaNs: i: one is infinity; z: one is zero. -/
def mB (nan inf sg : Int) (i z neg : Bool) (rb : Int) : Int := if i && z then nan else if i then sgn sg inf neg else if z then sgn sg 0 neg else rb
def mF (i z : Bool) (rf : Int) : Int := if i && z then 8 else if i || z then 0 else rf
theorem zF_inf {fm x : Int} (hx : okF fm x = true) (h : nI fm x = true) : zF fm x = false := by
  have h3 : cls fm x = 3 := by simpa [nI] using h
  unfold zF; rw [← cls_zero hx, h3]; rfl
theorem nZm_bd (fm x y : Int) : (nZ fm x * nZ fm y).natAbs < 2 ^ 106 := by
  have h1 := (nZ_bd fm x).1
  have h2 := (nZ_bd fm y).1
  rw [Int.natAbs_mul]
  have : (nZ fm x).natAbs * (nZ fm y).natAbs ≤ 9007199254740991 * 9007199254740991 := Nat.mul_le_mul (by omega) (by omega)
  omega
theorem nZm_len (fm x y : Int) : (Nm.wl (nZ fm x * nZ fm y)).length ≤ 200 := wl_of (nZm_bd fm x y) (by decide)
theorem exact4 (fm x y : Int) (w : World) (hx : finB fm x = true) (hy : finB fm y = true) (x0 : 0 ≤ x) (x1 : x < 18446744073709551616) (y0 : 0 ≤ y) (y1 : y < 18446744073709551616) (hox : okF fm x = true) (hoy : okF fm y = true) (G : Bool) (L : List Int) (E : Int) (hG : G = Nm.wn (nZ fm x * nZ fm y)) (hL : L = Nm.wl (nZ fm x * nZ fm y)) (hE : E = nE fm x + nE fm y) :
    Calls Tryz.prog 97 #[.int .i64 fm, .int .u64 x, .int .u64 y] w fun r w' => ∃ a' c', r = .returned (.tuple #[.agg #[.bool G, .slice a' L.length c'], .int .i64 E]) ∧ Own w' w.heap.size a' c' L ∧ Below w.heap.size w w' := by
  have C1 := hid (fun w' => sparts_any fm x w' hx x0 x1)
  have C2 := hid (fun w' => sparts_any fm y w' hy y0 y1)
  obtain ⟨fx1, fx2, fx3, fx4, -, -⟩ := fin_facts hox hx
  obtain ⟨fy1, fy2, fy3, fy4, -, -⟩ := fin_facts hoy hy
  have bx := pM_bd fm x
  have by' := pM_bd fm y
  have ex := pE_bd fm x
  have ey := pE_bd fm y
  have U1 := hid (fun w' => l1uint_z (pM fm x) (pS fm x) w' bx.1 (by omega))
  have U2 := hid (fun w' => l1uint_z (pM fm y) (pS fm y) w' by'.1 (by omega))
  rw [← fx3] at U1
  rw [← fy3] at U2
  have CM := hid (fun a c b d w' h h' => l1mul_any (Nm.wn (nZ fm x)) (Nm.wn (nZ fm y)) a b c d (Nm.wl (nZ fm x)) (Nm.wl (nZ fm y)) w' h h' (Nm.wl_dg _) (Nm.wl_dg _) (Nm.wl_nz _) (Nm.wl_nz _) (by have := nZ_len fm x; omega) (by have := nZ_len fm y; omega) (nZ fm x * nZ fm y) (by rw [Nm.wv_out, Nm.wv_out]))
  rw [fx4, fy4] at hE
  simp only [← hG, ← hL] at CM
  obtain ⟨s1, hs1⟩ : ∃ s, s = pS fm x := ⟨_, rfl⟩
  obtain ⟨s2, hs2⟩ : ∃ s, s = pS fm y := ⟨_, rfl⟩
  obtain ⟨m1, hm1⟩ : ∃ s, s = pM fm x := ⟨_, rfl⟩
  obtain ⟨m2, hm2⟩ : ∃ s, s = pM fm y := ⟨_, rfl⟩
  obtain ⟨e1, he1⟩ : ∃ s, s = pE fm x := ⟨_, rfl⟩
  obtain ⟨e2, he2⟩ : ∃ s, s = pE fm y := ⟨_, rfl⟩
  obtain ⟨G1, hG1⟩ : ∃ s, s = Nm.wn (nZ fm x) := ⟨_, rfl⟩
  obtain ⟨G2, hG2⟩ : ∃ s, s = Nm.wn (nZ fm y) := ⟨_, rfl⟩
  obtain ⟨L1, hL1⟩ : ∃ s, s = Nm.wl (nZ fm x) := ⟨_, rfl⟩
  obtain ⟨L2, hL2⟩ : ∃ s, s = Nm.wl (nZ fm y) := ⟨_, rfl⟩
  rw [← hs1, ← hm1, ← he1] at C1
  rw [← hs2, ← hm2, ← he2] at C2
  rw [← hs1, ← hm1, ← hG1, ← hL1] at U1
  rw [← hs2, ← hm2, ← hG2, ← hL2] at U2
  simp only [← hG1, ← hL1, ← hG2, ← hL2] at CM
  rw [← he1, ← he2] at hE
  rw [← hm1] at bx
  rw [← hm2] at by'
  rw [← he1] at ex
  rw [← he2] at ey
  have hwE : IntKind.i64.wrap (e1 + e2) = E := by rw [hE, IntKind.wrap_i64]; omega
  have hw1 : IntKind.u64.wrap m1 = m1 := by rw [IntKind.wrap_u64]; omega
  have hw2 : IntKind.u64.wrap m2 = m2 := by rw [IntKind.wrap_u64]; omega
  clear hs1 hs2 hm1 hm2 he1 he2 hG1 hG2 hL1 hL2 hE fx1 fx2 fx3 fx4 fy1 fy2 fy3 fy4 hG hL hx hy hox hoy bx by' ex ey
  have R := R2.new w (.bool false) (.slice none 0 0) 31
  go_enter Tryz.func97, Tryz.ntmps97
  go_wp2_with fail
  refine (C1.out _).mono ?_
  rintro r w1 ⟨rfl, hb1⟩
  replace R := (R.below hb1).alloc (.cells #[.bool s1, .int .i64 m1, .int .i64 e1] 77)
  have P := R3.new w1 (.bool s1) (.int .i64 m1) (.int .i64 e1) 77
  have bel1 : Below w.heap.size w (w1.alloc (.cells #[.bool s1, .int .i64 m1, .int .i64 e1] 77)) := (by repeat (first | exact bz0 _ _ | refine bz1 ?_ | refine bz2 ?_ _ | refine bz3 ?_ _ | refine bz4 ?_ hb1 | refine bz5 ?_ _ | refine bz6 ?_ _ | refine bz7 ?_ hb1))
  have lw1 : w.heap.size < w1.heap.size := by have := hb1.size; simp at this; omega
  go_wp2_with fail
  refine (C2.out _).mono ?_
  rintro r w2 ⟨rfl, hb2⟩
  replace R := (R.below hb2).alloc (.cells #[.bool s2, .int .i64 m2, .int .i64 e2] 77)
  replace P := (P.below hb2).al (.cells #[.bool s2, .int .i64 m2, .int .i64 e2] 77)
  have Q := R3.new w2 (.bool s2) (.int .i64 m2) (.int .i64 e2) 77
  have bel2w := bel_go bel1 hb2
  have bel2 := bel_al (bel_go bel1 hb2) (.cells #[.bool s2, .int .i64 m2, .int .i64 e2] 77)
  have lw2 : w1.heap.size < w2.heap.size := by have := hb2.size; simp at this; omega
  clear hb1 hb2 bel1
  have Pd := P.dr
  have Qd := Q.dr
  have pd := And.intro (And.intro Pd.c0 (And.intro Pd.c1 Pd.c2)) (And.intro Qd.c0 (And.intro Qd.c1 Qd.c2))
  go_wp2_with fail
  go_region_held3 (fun w' => (w'.cell? ⟨w1.heap.size, 0, none⟩ = some (.bool s1) ∧ w'.cell? ⟨w1.heap.size, 1, none⟩ = some (.int .i64 m1) ∧ w'.cell? ⟨w1.heap.size, 2, none⟩ = some (.int .i64 e1)) ∧ (w'.cell? ⟨w2.heap.size, 0, none⟩ = some (.bool s2) ∧ w'.cell? ⟨w2.heap.size, 1, none⟩ = some (.int .i64 m2) ∧ w'.cell? ⟨w2.heap.size, 2, none⟩ = some (.int .i64 e2)))
    (first | with_reducible assumption | with_reducible exact pd | with_reducible exact ss3 _ _ | fail)
    (first
      | (go_at_call 114; with_reducible refine (U1.out _).mono ?_; rintro r q1 ⟨a1, k1, rfl, hp1, hq1⟩; have P1 := Pd.below hq1; have Q1 := Qd.below hq1; have R1 := R.drew.below hq1; have u1 := And.intro (And.intro P1.c0 (And.intro P1.c1 P1.c2)) (And.intro Q1.c0 (And.intro Q1.c1 Q1.c2)))
      | (go_at_call 114; with_reducible refine (U2.out _).mono ?_; rintro r q2 ⟨a2, k2, rfl, hp2, hq2⟩; have P2 := P1.below hq2; have Q2 := Q1.below hq2; have R2' := R1.below hq2; have u2 := And.intro (And.intro P2.c0 (And.intro P2.c1 P2.c2)) (And.intro Q2.c0 (And.intro Q2.c1 Q2.c2)); have hp12 := hp1.below hq2)
      | (go_at_call 165; refine (CM.out a1 k1 a2 k2 _ hp12.sl hp2.sl).mono ?_; rintro r q3 ⟨a3, k3, rfl, hp3, hq3⟩; have P3 := P2.below hq3; have Q3 := Q2.below hq3; have u3 := And.intro (And.intro P3.c0 (And.intro P3.c1 P3.c2)) (And.intro Q3.c0 (And.intro Q3.c1 Q3.c2)); have ss3 := fun u v => And.intro (let P4 := (R3.other P3 (p := ⟨w.heap.size, 0, none⟩) (by simp; omega) u).other (p := ⟨w.heap.size, 1, none⟩) (by simp; omega) v; And.intro P4.c0 (And.intro P4.c1 P4.c2)) (let Q4 := (R3.other Q3 (p := ⟨w.heap.size, 0, none⟩) (by simp; omega) u).other (p := ⟨w.heap.size, 1, none⟩) (by simp; omega) v; And.intro Q4.c0 (And.intro Q4.c1 Q4.c2)); obtain ⟨r0, r1, g0, g1⟩ := R2'.below hq3))
  have z1 := hq1.size
  have z2 := hq2.size
  have z0 : w2.heap.size + 1 ≤ q1.heap.size := by simpa using z1
  go_wp2
  refine bodyPost_ret (v := .tuple #[.agg #[.bool G, .slice a3 L.length k3], .int .i64 E]) (by simp [results, Tryz.results97, go_sem, r0, r1]) rfl ⟨a3, k3, rfl, ?_, ?_⟩
  · exact Own.base ((hp3.setBelow (by simp; omega) _).setBelow (by simp; omega) _) (by omega)
  · exact (by (repeat with_reducible first | refine Below.setCell ?_ ?_ _ | exact bz0 _ _ | refine bz1 ?_ | refine bz2 ?_ _ | refine bz3 ?_ _ | refine bz4 ?_ hq3 | refine bz4 ?_ hq2 | refine bz4 ?_ hq1 | refine bz4 ?_ bel2w | refine Below.alloc ?_ ?_ _ | refine Below.trans ?_ (Below.mono hq3 ?_) | refine Below.trans ?_ (Below.mono hq2 ?_) | refine Below.trans ?_ (Below.mono hq1 ?_) | refine Below.trans ?_ (Below.mono bel2w ?_)) <;> first | omega | (simp; done) | (simp; omega))
/-- What productOf answers at two floats, by letters. -/
abbrev ProdAt (u : Value) (fm x y : Int) (sg inf G : Bool) (L : List Int) (E : Int) (n b : Bool) : Prop := ∀ w : World, EE u w → Calls Tryz.prog 84 #[.int .i64 fm, .int .u64 x, .int .u64 y] w fun r w' => ∃ a' c' ev, r = .returned (.tuple #[.agg #[.bool sg, .bool inf, .bool G, .slice a' L.length c', .int .i64 E], ev]) ∧ EK u ev n b ∧ Own w' w.heap.size a' c' L ∧ Below w.heap.size w w'
theorem prod_nan (fm x y : Int) (u : Value) (sg1 inf1 G1 : Bool) (L1 : List Int) (E1 : Int) (n1 b1 : Bool) (sg2 inf2 G2 : Bool) (L2 : List Int) (E2 : Int) (n2 b2 : Bool) (hx : NumAt u fm x sg1 inf1 G1 L1 E1 n1 b1) (hy : NumAt u fm y sg2 inf2 G2 L2 E2 n2 b2) (hn : (n1 || n2) = true) (b : Bool) (hb : b = (b1 || b2)) :
    ProdAt u fm x y false false false [] 0 true b := by
  intro w hE
  have CT := hid (fun w' h => two_nums fm x y u sg1 inf1 G1 L1 E1 n1 b1 sg2 inf2 G2 L2 E2 n2 b2 hx hy w' h)
  rw [hn, ← hb] at CT
  clear hn hb hx hy
  have R := Q5.new w (.bool false) (.bool false) (.bool false) (.slice none 0 0) (.int .i64 0) 99
  have bel0 : Below w.heap.size w (w.alloc (.cells #[.bool false, .bool false, .bool false, .slice none 0 0, .int .i64 0] 99)) := (by repeat (first | exact bz0 _ _ | refine bz1 ?_ | refine bz2 ?_ _ | refine bz3 ?_ _ | refine bz5 ?_ _ | refine bz6 ?_ _))
  go_enter Tryz.func84, Tryz.ntmps84
  go_wp2_with fail
  refine (CT.out _ (hE.below bel0)).mono ?_
  rintro r w1 ⟨a1, c1, a2, c2, ev, rfl, kv, o1, o2, hb1⟩
  have bel1 := bel_go bel0 hb1
  replace R := ((R.below hb1).alloc (.cells #[.bool sg1, .bool inf1, .bool G1, .slice a1 L1.length c1, .int .i64 E1] 99)).alloc (.cells #[.bool sg2, .bool inf2, .bool G2, .slice a2 L2.length c2, .int .i64 E2] 99)
  obtain ⟨r0, r1, r2, r3, r4, f0, f1, f2, f3, f4⟩ := R
  clear o1 o2
  cases kv with
  | quiet =>
    go_wp2
    refine bodyPost_ret (v := .tuple #[.agg #[.bool false, .bool false, .bool false, .slice none 0 0, .int .i64 0], .iface 168 (.agg #[.iface 247 u])]) (by simp [results, Tryz.results84, go_sem, r0, r1, r2, r3, r4]) rfl ⟨none, 0, _, rfl, EK.quiet, Own.nil _ _, ?_⟩
    exact (by (repeat with_reducible first | refine Below.setCell ?_ ?_ _ | exact bz0 _ _ | refine bz1 ?_ | refine bz2 ?_ _ | refine bz3 ?_ _ | refine bz4 ?_ hb1 | refine bz4 ?_ bel0 | refine Below.alloc ?_ ?_ _ | refine Below.trans ?_ (Below.mono hb1 ?_) | refine Below.trans ?_ (Below.mono bel0 ?_)) <;> first | omega | (simp; done) | (simp; omega))
  | bad s =>
    go_wp2
    refine bodyPost_ret (v := .tuple #[.agg #[.bool false, .bool false, .bool false, .slice none 0 0, .int .i64 0], .iface 168 (.agg #[.iface 170 (.agg #[.string s])])]) (by simp [results, Tryz.results84, go_sem, r0, r1, r2, r3, r4]) rfl ⟨none, 0, _, rfl, EK.bad s, Own.nil _ _, ?_⟩
    exact (by (repeat with_reducible first | refine Below.setCell ?_ ?_ _ | exact bz0 _ _ | refine bz1 ?_ | refine bz2 ?_ _ | refine bz3 ?_ _ | refine bz4 ?_ hb1 | refine bz4 ?_ bel0 | refine Below.alloc ?_ ?_ _ | refine Below.trans ?_ (Below.mono hb1 ?_) | refine Below.trans ?_ (Below.mono bel0 ?_)) <;> first | omega | (simp; done) | (simp; omega))
theorem prod_num (fm x y : Int) (u : Value) (sg1 inf1 G1 : Bool) (L1 : List Int) (E1 : Int) (n1 b1 : Bool) (sg2 inf2 G2 : Bool) (L2 : List Int) (E2 : Int) (n2 b2 : Bool) (hx : NumAt u fm x sg1 inf1 G1 L1 E1 n1 b1) (hy : NumAt u fm y sg2 inf2 G2 L2 E2 n2 b2) (hn : (n1 || n2) = false) (sg inf G : Bool) (L : List Int) (E : Int) (n b : Bool)
    (hm : ∀ (B : Nat) (a1 : Option Addr) (c1 : Nat) (a2 : Option Addr) (c2 : Nat) (w : World), B ≤ w.heap.size → Own w B a1 c1 L1 → Own w B a2 c2 L2 → Calls Tryz.prog 160 #[.agg #[.bool sg1, .bool inf1, .bool G1, .slice a1 L1.length c1, .int .i64 E1], .agg #[.bool sg2, .bool inf2, .bool G2, .slice a2 L2.length c2, .int .i64 E2]] w fun r w' => ∃ a3 c3 ev, r = .returned (.tuple #[.agg #[.bool sg, .bool inf, .bool G, .slice a3 L.length c3, .int .i64 E], ev]) ∧ EK u ev n b ∧ Own w' B a3 c3 L ∧ Below w.heap.size w w') :
    ProdAt u fm x y sg inf G L E n b := by
  intro w hE
  have CT := hid (fun w' h => two_nums fm x y u sg1 inf1 G1 L1 E1 n1 b1 sg2 inf2 G2 L2 E2 n2 b2 hx hy w' h)
  have CM := hid hm
  rw [hn] at CT
  obtain ⟨b0, hb0⟩ : ∃ b0, b0 = (b1 || b2) := ⟨_, rfl⟩
  rw [← hb0] at CT
  clear hb0
  clear hn hx hy hm
  have R := Q5.new w (.bool false) (.bool false) (.bool false) (.slice none 0 0) (.int .i64 0) 99
  have bel0 : Below w.heap.size w (w.alloc (.cells #[.bool false, .bool false, .bool false, .slice none 0 0, .int .i64 0] 99)) := (by repeat (first | exact bz0 _ _ | refine bz1 ?_ | refine bz2 ?_ _ | refine bz3 ?_ _ | refine bz5 ?_ _ | refine bz6 ?_ _))
  go_enter Tryz.func84, Tryz.ntmps84
  go_wp2_with fail
  refine (CT.out _ (hE.below bel0)).mono ?_
  rintro r w1 ⟨a1, c1, a2, c2, ev, rfl, kv, o1, o2, hb1⟩
  have bel1w := bel_go bel0 hb1
  have bel1 := bel_al (bel_al (bel_go bel0 hb1) (.cells #[.bool sg1, .bool inf1, .bool G1, .slice a1 L1.length c1, .int .i64 E1] 99)) (.cells #[.bool sg2, .bool inf2, .bool G2, .slice a2 L2.length c2, .int .i64 E2] 99)
  replace R := ((R.below hb1).alloc (.cells #[.bool sg1, .bool inf1, .bool G1, .slice a1 L1.length c1, .int .i64 E1] 99)).alloc (.cells #[.bool sg2, .bool inf2, .bool G2, .slice a2 L2.length c2, .int .i64 E2] 99)
  have PX := (Q5.new w1 (.bool sg1) (.bool inf1) (.bool G1) (.slice a1 L1.length c1) (.int .i64 E1) 99).alloc (.cells #[.bool sg2, .bool inf2, .bool G2, .slice a2 L2.length c2, .int .i64 E2] 99)
  have PY := Q5.nw2 w1 (.cells #[.bool sg1, .bool inf1, .bool G1, .slice a1 L1.length c1, .int .i64 E1] 99) (.bool sg2) (.bool inf2) (.bool G2) (.slice a2 L2.length c2) (.int .i64 E2) 99
  have s1 := ((o1.alloc (.cells #[.bool sg1, .bool inf1, .bool G1, .slice a1 L1.length c1, .int .i64 E1] 99)).alloc (.cells #[.bool sg2, .bool inf2, .bool G2, .slice a2 L2.length c2, .int .i64 E2] 99)).base (B' := w.heap.size + 1) (by simp)
  have s2 := ((o2.alloc (.cells #[.bool sg1, .bool inf1, .bool G1, .slice a1 L1.length c1, .int .i64 E1] 99)).alloc (.cells #[.bool sg2, .bool inf2, .bool G2, .slice a2 L2.length c2, .int .i64 E2] 99)).base (B' := w.heap.size + 1) (by simp)
  have lr := R.lt
  have lb1 := hb1.size
  have lb1' : w.heap.size + 1 ≤ w1.heap.size := by simpa using lb1
  clear o1 o2
  cases kv with
  | no =>
    obtain ⟨x0, x1, x2, x3, x4⟩ := PX.cs
    obtain ⟨y0, y1, y2, y3, y4⟩ := PY.cs
    go_wp2_with fail
    refine (CM.out (w.heap.size + 1) a1 c1 a2 c2 _ (by simp; omega) s1 s2).mono ?_
    rintro r w2 ⟨a3, c3, ev, rfl, kv, o3, hb2⟩
    clear x0 x1 x2 x3 x4 y0 y1 y2 y3 y4
    obtain ⟨r0, r1, r2, r3, r4, f0, f1, f2, f3, f4⟩ := R.below hb2
    go_wp2
    refine bodyPost_ret (v := .tuple #[.agg #[.bool sg, .bool inf, .bool G, .slice a3 L.length c3, .int .i64 E], ev]) (by simp [results, Tryz.results84, go_sem, r0, r1, r2, r3, r4]) rfl ⟨a3, c3, ev, rfl, kv, ?_, ?_⟩
    · have o4 := o3
      refine Own.base (B := w.heap.size + 1) ?_ (by omega)
      repeat (first | with_reducible exact o4 | (with_reducible refine Own.setBelow ?_ ?_ _; rotate_left; (simp; try omega)))
    · exact (by (repeat with_reducible first | refine Below.setCell ?_ ?_ _ | exact bz0 _ _ | refine bz1 ?_ | refine bz2 ?_ _ | refine bz3 ?_ _ | refine bz4 ?_ hb2 | refine bz4 ?_ bel1w | refine Below.alloc ?_ ?_ _ | refine Below.trans ?_ (Below.mono hb2 ?_) | refine Below.trans ?_ (Below.mono bel1w ?_)) <;> first | omega | (simp; done) | (simp; omega))
end Go.Proofs.YtmcflggionkhlaaGreatDoor
