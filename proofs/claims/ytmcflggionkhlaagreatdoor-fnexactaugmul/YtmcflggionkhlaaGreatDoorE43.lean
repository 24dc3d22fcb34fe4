/-
  What is needed of NT, NP.
-/
import Derived.Test.YtmcflggionkhlaaGreatDoorE36
import Derived.Test.YtmcflggionkhlaaGreatDoorE41
set_option maxHeartbeats 16000000
set_option maxRecDepth 1000000
namespace Go.Proofs.YtmcflggionkhlaaGreatDoor
set_option linter.unusedVariables false
set_option linter.unusedSimpArgs false
open Go.RowKit Go.Deep
/-- Whether a product is invalid: infinity and zero. -/
def oddB (inf1 z1 inf2 z2 : Bool) : Bool := (inf1 && (!inf2 && z2)) || ((!inf1 && z1) && inf2)
theorem times_odd (sg1 inf1 G1 : Bool) (L1 : List Int) (E1 : Int) (a1 : Option Addr) (c1 : Nat) (sg2 inf2 G2 : Bool) (L2 : List Int) (E2 : Int) (a2 : Option Addr) (c2 : Nat) (w : World) (hl1 : L1.length ≤ 200) (hl2 : L2.length ≤ 200) (ho : oddB inf1 (decide (L1.length = 0)) inf2 (decide (L2.length = 0)) = true) :
    Calls Tryz.prog 160 #[.agg #[.bool sg1, .bool inf1, .bool G1, .slice a1 L1.length c1, .int .i64 E1], .agg #[.bool sg2, .bool inf2, .bool G2, .slice a2 L2.length c2, .int .i64 E2]] w fun r w' => ∃ s : ByteArray, r = .returned (.tuple #[.agg #[.bool false, .bool false, .bool false, .slice none 0 0, .int .i64 0], .iface 168 (.agg #[.iface 170 (.agg #[.string s])])]) ∧ Below w.heap.size w w' := by
  have C1 := hid (fun w' => zero_any sg1 inf1 G1 a1 L1.length c1 E1 w' (by omega))
  have C2 := hid (fun w' => zero_any sg2 inf2 G2 a2 L2.length c2 E2 w' (by omega))
  obtain ⟨z1, e1⟩ : ∃ z, z = decide (L1.length = 0) := ⟨_, rfl⟩
  obtain ⟨z2, e2⟩ : ∃ z, z = decide (L2.length = 0) := ⟨_, rfl⟩
  rw [← e1] at C1 ho
  rw [← e2] at C2 ho
  clear e1 e2
  have X := ((Q5.new w (.bool sg1) (.bool inf1) (.bool G1) (.slice a1 L1.length c1) (.int .i64 E1) 99).alloc (.cells #[.bool sg2, .bool inf2, .bool G2, .slice a2 L2.length c2, .int .i64 E2] 99)).alloc (.cells #[.bool false, .bool false, .bool false, .slice none 0 0, .int .i64 0] 99)
  have Y := (Q5.nw2 w (.cells #[.bool sg1, .bool inf1, .bool G1, .slice a1 L1.length c1, .int .i64 E1] 99) (.bool sg2) (.bool inf2) (.bool G2) (.slice a2 L2.length c2) (.int .i64 E2) 99).alloc (.cells #[.bool false, .bool false, .bool false, .slice none 0 0, .int .i64 0] 99)
  have R := Q5.nw3 w (.cells #[.bool sg1, .bool inf1, .bool G1, .slice a1 L1.length c1, .int .i64 E1] 99) (.cells #[.bool sg2, .bool inf2, .bool G2, .slice a2 L2.length c2, .int .i64 E2] 99) (.bool false) (.bool false) (.bool false) (.slice none 0 0) (.int .i64 0) 99
  have bel0 : Below w.heap.size w (((w.alloc (.cells #[.bool sg1, .bool inf1, .bool G1, .slice a1 L1.length c1, .int .i64 E1] 99)).alloc (.cells #[.bool sg2, .bool inf2, .bool G2, .slice a2 L2.length c2, .int .i64 E2] 99)).alloc (.cells #[.bool false, .bool false, .bool false, .slice none 0 0, .int .i64 0] 99)) := (by repeat (first | exact bz0 _ _ | refine bz1 ?_ | refine bz2 ?_ _ | refine bz3 ?_ _ | refine bz5 ?_ _ | refine bz6 ?_ _))
  cases inf1 with
  | true =>
    have h2 : (!inf2 && z2) = true := by revert ho; cases inf2 <;> cases z2 <;> simp [oddB]
    rw [h2] at C2
    clear ho h2 C1
    obtain ⟨x0, x1, x2, x3, x4⟩ := X.cs
    obtain ⟨y0, y1, y2, y3, y4⟩ := Y.cs
    go_enter Tryz.func160, Tryz.ntmps160
    go_wp2_with fail
    refine (C2.out _).mono ?_
    rintro r w1 ⟨rfl, hb1⟩
    clear x0 x1 x2 x3 x4 y0 y1 y2 y3 y4
    obtain ⟨r0, r1, r2, r3, r4, f0, f1, f2, f3, f4⟩ := R.below hb1
    go_wp2
    refine bodyPost_ret (by simp [results, Tryz.results160, go_sem, r0, r1, r2, r3, r4]; rfl) rfl ⟨_, rfl, ?_⟩
    exact (by (repeat with_reducible first | refine Below.setCell ?_ ?_ _ | exact bz0 _ _ | refine bz1 ?_ | refine bz2 ?_ _ | refine bz3 ?_ _ | refine bz4 ?_ hb1 | refine bz4 ?_ bel0 | refine Below.alloc ?_ ?_ _ | refine Below.trans ?_ (Below.mono hb1 ?_) | refine Below.trans ?_ (Below.mono bel0 ?_)) <;> first | omega | (simp; done) | (simp; omega))
  | false =>
    obtain ⟨rfl, rfl⟩ : z1 = true ∧ inf2 = true := by revert ho; cases inf2 <;> cases z1 <;> simp [oddB]
    simp only [Bool.not_false, Bool.true_and] at C1
    clear ho C2
    obtain ⟨x0, x1, x2, x3, x4⟩ := X.cs
    obtain ⟨y0, y1, y2, y3, y4⟩ := Y.cs
    go_enter Tryz.func160, Tryz.ntmps160
    go_wp2_with fail
    refine (C1.out _).mono ?_
    rintro r w1 ⟨rfl, hb1⟩
    clear x0 x1 x2 x3 x4 y0 y1 y2 y3 y4
    obtain ⟨y0, y1, y2, y3, y4⟩ := (Y.below hb1).cs
    obtain ⟨r0, r1, r2, r3, r4, f0, f1, f2, f3, f4⟩ := R.below hb1
    go_wp2
    refine bodyPost_ret (by simp [results, Tryz.results160, go_sem, r0, r1, r2, r3, r4]; rfl) rfl ⟨_, rfl, ?_⟩
    exact (by (repeat with_reducible first | refine Below.setCell ?_ ?_ _ | exact bz0 _ _ | refine bz1 ?_ | refine bz2 ?_ _ | refine bz3 ?_ _ | refine bz4 ?_ hb1 | refine bz4 ?_ bel0 | refine Below.alloc ?_ ?_ _ | refine Below.trans ?_ (Below.mono hb1 ?_) | refine Below.trans ?_ (Below.mono bel0 ?_)) <;> first | omega | (simp; done) | (simp; omega))
theorem times_inf (sg1 inf1 G1 : Bool) (L1 : List Int) (E1 : Int) (a1 : Option Addr) (c1 : Nat) (sg2 inf2 G2 : Bool) (L2 : List Int) (E2 : Int) (a2 : Option Addr) (c2 : Nat) (w : World) (hl1 : L1.length ≤ 200) (hl2 : L2.length ≤ 200) (ho : oddB inf1 (decide (L1.length = 0)) inf2 (decide (L2.length = 0)) = false) (hi : (inf1 || inf2) = true) (ng : Bool) (hng : ng = (sg1 != sg2)) :
    Calls Tryz.prog 160 #[.agg #[.bool sg1, .bool inf1, .bool G1, .slice a1 L1.length c1, .int .i64 E1], .agg #[.bool sg2, .bool inf2, .bool G2, .slice a2 L2.length c2, .int .i64 E2]] w fun r w' => r = .returned (.tuple #[.agg #[.bool ng, .bool true, .bool false, .slice none 0 0, .int .i64 0], .nilIface]) ∧ Below w.heap.size w w' := by
  have C1 := hid (fun w' => zero_any sg1 inf1 G1 a1 L1.length c1 E1 w' (by omega))
  have C2 := hid (fun w' => zero_any sg2 inf2 G2 a2 L2.length c2 E2 w' (by omega))
  obtain ⟨z1, e1⟩ : ∃ z, z = decide (L1.length = 0) := ⟨_, rfl⟩
  obtain ⟨z2, e2⟩ : ∃ z, z = decide (L2.length = 0) := ⟨_, rfl⟩
  rw [← e1] at C1 ho
  rw [← e2] at C2 ho
  clear e1 e2
  have hng' : (sg1 != sg2) = ng := hng.symm
  have hng2 : (sg1 == sg2) = !ng := by rw [← hng']; cases sg1 <;> cases sg2 <;> rfl
  clear hng
  have X := ((Q5.new w (.bool sg1) (.bool inf1) (.bool G1) (.slice a1 L1.length c1) (.int .i64 E1) 99).alloc (.cells #[.bool sg2, .bool inf2, .bool G2, .slice a2 L2.length c2, .int .i64 E2] 99)).alloc (.cells #[.bool false, .bool false, .bool false, .slice none 0 0, .int .i64 0] 99)
  have Y := (Q5.nw2 w (.cells #[.bool sg1, .bool inf1, .bool G1, .slice a1 L1.length c1, .int .i64 E1] 99) (.bool sg2) (.bool inf2) (.bool G2) (.slice a2 L2.length c2) (.int .i64 E2) 99).alloc (.cells #[.bool false, .bool false, .bool false, .slice none 0 0, .int .i64 0] 99)
  have R := Q5.nw3 w (.cells #[.bool sg1, .bool inf1, .bool G1, .slice a1 L1.length c1, .int .i64 E1] 99) (.cells #[.bool sg2, .bool inf2, .bool G2, .slice a2 L2.length c2, .int .i64 E2] 99) (.bool false) (.bool false) (.bool false) (.slice none 0 0) (.int .i64 0) 99
  have bel0 : Below w.heap.size w (((w.alloc (.cells #[.bool sg1, .bool inf1, .bool G1, .slice a1 L1.length c1, .int .i64 E1] 99)).alloc (.cells #[.bool sg2, .bool inf2, .bool G2, .slice a2 L2.length c2, .int .i64 E2] 99)).alloc (.cells #[.bool false, .bool false, .bool false, .slice none 0 0, .int .i64 0] 99)) := (by repeat (first | exact bz0 _ _ | refine bz1 ?_ | refine bz2 ?_ _ | refine bz3 ?_ _ | refine bz5 ?_ _ | refine bz6 ?_ _))
  cases inf1 with
  | true =>
    have h2 : (!inf2 && z2) = false := by revert ho; cases inf2 <;> cases z2 <;> simp [oddB]
    rw [h2] at C2
    simp only [Bool.not_true, Bool.false_and] at C1
    clear ho h2 hi
    obtain ⟨x0, x1, x2, x3, x4⟩ := X.cs
    obtain ⟨y0, y1, y2, y3, y4⟩ := Y.cs
    go_enter Tryz.func160, Tryz.ntmps160
    go_wp2_with fail
    refine (C2.out _).mono ?_
    rintro r w1 ⟨rfl, hb1⟩
    clear x0 x1 x2 x3 x4 y0 y1 y2 y3 y4
    replace X := X.below hb1
    replace Y := Y.below hb1
    replace R := R.below hb1
    obtain ⟨x0, x1, x2, x3, x4⟩ := X.cs
    obtain ⟨y0, y1, y2, y3, y4⟩ := Y.cs
    go_wp2_with fail
    refine (C1.out _).mono ?_
    rintro r w2 ⟨rfl, hb2⟩
    clear x0 x1 x2 x3 x4 y0 y1 y2 y3 y4
    obtain ⟨x0, x1, x2, x3, x4⟩ := (X.below hb2).cs
    obtain ⟨y0, y1, y2, y3, y4⟩ := (Y.below hb2).cs
    obtain ⟨r0, r1, r2, r3, r4, f0, f1, f2, f3, f4⟩ := R.below hb2
    go_wp2
    refine bodyPost_ret (v := .tuple #[.agg #[.bool ng, .bool true, .bool false, .slice none 0 0, .int .i64 0], .nilIface]) (by simp [results, Tryz.results160, go_sem, r0, r1, r2, r3, r4, hng2]) rfl ⟨rfl, ?_⟩
    exact (by (repeat with_reducible first | refine Below.setCell ?_ ?_ _ | exact bz0 _ _ | refine bz1 ?_ | refine bz2 ?_ _ | refine bz3 ?_ _ | refine bz4 ?_ hb2 | refine bz4 ?_ hb1 | refine bz4 ?_ bel0 | refine Below.alloc ?_ ?_ _ | refine Below.trans ?_ (Below.mono hb2 ?_) | refine Below.trans ?_ (Below.mono hb1 ?_) | refine Below.trans ?_ (Below.mono bel0 ?_)) <;> first | omega | (simp; done) | (simp; omega))
  | false =>
    have hi2 : inf2 = true := by simpa using hi
    subst hi2
    have hz1 : z1 = false := by revert ho; cases z1 <;> simp [oddB]
    subst hz1
    simp only [Bool.not_false, Bool.true_and] at C1
    clear ho hi C2
    obtain ⟨x0, x1, x2, x3, x4⟩ := X.cs
    obtain ⟨y0, y1, y2, y3, y4⟩ := Y.cs
    go_enter Tryz.func160, Tryz.ntmps160
    go_wp2_with fail
    refine (C1.out _).mono ?_
    rintro r w1 ⟨rfl, hb1⟩
    clear x0 x1 x2 x3 x4 y0 y1 y2 y3 y4
    obtain ⟨x0, x1, x2, x3, x4⟩ := (X.below hb1).cs
    obtain ⟨y0, y1, y2, y3, y4⟩ := (Y.below hb1).cs
    obtain ⟨r0, r1, r2, r3, r4, f0, f1, f2, f3, f4⟩ := R.below hb1
    go_wp2
    refine bodyPost_ret (v := .tuple #[.agg #[.bool ng, .bool true, .bool false, .slice none 0 0, .int .i64 0], .nilIface]) (by simp [results, Tryz.results160, go_sem, r0, r1, r2, r3, r4, hng2]) rfl ⟨rfl, ?_⟩
    exact (by (repeat with_reducible first | refine Below.setCell ?_ ?_ _ | exact bz0 _ _ | refine bz1 ?_ | refine bz2 ?_ _ | refine bz3 ?_ _ | refine bz4 ?_ hb1 | refine bz4 ?_ bel0 | refine Below.alloc ?_ ?_ _ | refine Below.trans ?_ (Below.mono hb1 ?_) | refine Below.trans ?_ (Below.mono bel0 ?_)) <;> first | omega | (simp; done) | (simp; omega))
theorem mul_ok {na nb : Bool} {xs ys : List Int} (a b : Option Addr) (cap cap' : Nat) (w : World) (hx : Sl .u32 w (.slice a xs.length cap) xs) (hy : Sl .u32 w (.slice b ys.length cap') ys) (dx : Nm.Dg xs) (dy : Nm.Dg ys) (ho : okB na xs = true) (ho' : okB nb ys = true) (x : Int) (hxv : x = Nm.wv na xs * Nm.wv nb ys) (hf : Nm.fits x = true) :
    Calls Tryz.prog 127 #[.agg #[.bool na, .slice a xs.length cap], .agg #[.bool nb, .slice b ys.length cap']] w fun e w' => ∃ a' c', e = .returned (.tuple #[.agg #[.bool (Nm.wn x), .slice a' (Nm.wl x).length c'], .bool true]) ∧ Own w' w.heap.size a' c' (Nm.wl x) ∧ Below w.heap.size w w' := by
  have h1 := (okB_nz ho).2
  have h2 := (okB_nz ho').2
  have h := wmul_impl na nb a b cap cap' xs ys w hx hy dx dy (by omega) (by omega) x hxv
  have e4 := out_fits hf
  rw [ho, ho', Bool.and_self, (op_yes _).1, (op_yes _).2.1, (op_yes _).2.2, hf, e4.1, e4.2] at h
  exact h
theorem times_fin (sg1 G1 : Bool) (L1 : List Int) (E1 : Int) (a1 : Option Addr) (c1 : Nat) (sg2 G2 : Bool) (L2 : List Int) (E2 : Int) (a2 : Option Addr) (c2 : Nat) (w : World) (ng G : Bool) (L : List Int) (E : Int) (hng : ng = (sg1 != sg2)) (hE : E = E1 + E2) (h1 : -5000 ≤ E1 ∧ E1 ≤ 5000) (h2 : -5000 ≤ E2 ∧ E2 ≤ 5000) (hl1 : L1.length ≤ 200) (hl2 : L2.length ≤ 200) (s1 : Sl .u32 w (.slice a1 L1.length c1) L1) (s2 : Sl .u32 w (.slice a2 L2.length c2) L2)
    (hm : ∀ w' : World, Sl .u32 w' (.slice a1 L1.length c1) L1 → Sl .u32 w' (.slice a2 L2.length c2) L2 → Calls Tryz.prog 127 #[.agg #[.bool G1, .slice a1 L1.length c1], .agg #[.bool G2, .slice a2 L2.length c2]] w' fun r w'' => ∃ a' c', r = .returned (.tuple #[.agg #[.bool G, .slice a' L.length c'], .bool true]) ∧ Own w'' w'.heap.size a' c' L ∧ Below w'.heap.size w' w'') :
    Calls Tryz.prog 160 #[.agg #[.bool sg1, .bool false, .bool G1, .slice a1 L1.length c1, .int .i64 E1], .agg #[.bool sg2, .bool false, .bool G2, .slice a2 L2.length c2, .int .i64 E2]] w fun r w' => ∃ a' c', r = .returned (.tuple #[.agg #[.bool ng, .bool false, .bool G, .slice a' L.length c', .int .i64 E], .nilIface]) ∧ Own w' w.heap.size a' c' L ∧ Below w.heap.size w w' := by
  have C1 := hid (fun w' => zero_any sg1 false G1 a1 L1.length c1 E1 w' (by omega))
  have CM := hid hm
  obtain ⟨z1, e1⟩ : ∃ z, z = decide (L1.length = 0) := ⟨_, rfl⟩
  rw [← e1] at C1
  simp only [Bool.not_false, Bool.true_and] at C1
  clear e1 hm
  have hng' : (sg1 != sg2) = ng := hng.symm
  have hng2 : (sg1 == sg2) = !ng := by rw [← hng']; cases sg1 <;> cases sg2 <;> rfl
  have hwr : IntKind.i64.wrap (E1 + E2) = E := by rw [hE, IntKind.wrap_i64]; omega
  clear hng hE
  have X := ((Q5.new w (.bool sg1) (.bool false) (.bool G1) (.slice a1 L1.length c1) (.int .i64 E1) 99).alloc (.cells #[.bool sg2, .bool false, .bool G2, .slice a2 L2.length c2, .int .i64 E2] 99)).alloc (.cells #[.bool false, .bool false, .bool false, .slice none 0 0, .int .i64 0] 99)
  have Y := (Q5.nw2 w (.cells #[.bool sg1, .bool false, .bool G1, .slice a1 L1.length c1, .int .i64 E1] 99) (.bool sg2) (.bool false) (.bool G2) (.slice a2 L2.length c2) (.int .i64 E2) 99).alloc (.cells #[.bool false, .bool false, .bool false, .slice none 0 0, .int .i64 0] 99)
  have R := Q5.nw3 w (.cells #[.bool sg1, .bool false, .bool G1, .slice a1 L1.length c1, .int .i64 E1] 99) (.cells #[.bool sg2, .bool false, .bool G2, .slice a2 L2.length c2, .int .i64 E2] 99) (.bool false) (.bool false) (.bool false) (.slice none 0 0) (.int .i64 0) 99
  have bel0 : Below w.heap.size w (((w.alloc (.cells #[.bool sg1, .bool false, .bool G1, .slice a1 L1.length c1, .int .i64 E1] 99)).alloc (.cells #[.bool sg2, .bool false, .bool G2, .slice a2 L2.length c2, .int .i64 E2] 99)).alloc (.cells #[.bool false, .bool false, .bool false, .slice none 0 0, .int .i64 0] 99)) := (by repeat (first | exact bz0 _ _ | refine bz1 ?_ | refine bz2 ?_ _ | refine bz3 ?_ _ | refine bz5 ?_ _ | refine bz6 ?_ _))
  cases z1
  all_goals
    obtain ⟨x0, x1, x2, x3, x4⟩ := X.cs
    obtain ⟨y0, y1, y2, y3, y4⟩ := Y.cs
    go_enter Tryz.func160, Tryz.ntmps160
    go_wp2_with fail
    refine (C1.out _).mono ?_
    rintro r w1 ⟨rfl, hb1⟩
    clear x0 x1 x2 x3 x4 y0 y1 y2 y3 y4
    replace X := X.below hb1
    replace Y := Y.below hb1
    replace R := R.below hb1
    have bel1 := bel_go bel0 hb1
    obtain ⟨x0, x1, x2, x3, x4⟩ := X.cs
    obtain ⟨y0, y1, y2, y3, y4⟩ := Y.cs
    go_wp2_with fail
    refine (CM.out _ (s1.below bel1) (s2.below bel1)).mono ?_
    rintro r w2 ⟨a3, c3, rfl, o3, hb2⟩
    clear x0 x1 x2 x3 x4 y0 y1 y2 y3 y4
    have lw1 := R.lt
    have lw2 := hb2.size
    obtain ⟨x0, x1, x2, x3, x4⟩ := ((X.below hb2).alloc (.cells #[.bool G, .slice a3 L.length c3] 31)).cs
    obtain ⟨y0, y1, y2, y3, y4⟩ := ((Y.below hb2).alloc (.cells #[.bool G, .slice a3 L.length c3] 31)).cs
    obtain ⟨r0, r1, r2, r3, r4, f0, f1, f2, f3, f4⟩ := (R.below hb2).alloc (.cells #[.bool G, .slice a3 L.length c3] 31)
    obtain ⟨d0, d1⟩ := Box.new w2 (.bool G) (.slice a3 L.length c3) 31
    have o4 := o3.alloc (.cells #[.bool G, .slice a3 L.length c3] 31)
    go_wp2
    refine bodyPost_ret (v := .tuple #[.agg #[.bool ng, .bool false, .bool G, .slice a3 L.length c3, .int .i64 E], .nilIface]) (by simp [results, Tryz.results160, go_sem, r0, r1, r2, r3, r4, hng2]) rfl ⟨a3, c3, rfl, ?_, ?_⟩
    · refine Own.base (B := w1.heap.size) ?_ (by omega)
      repeat (first | with_reducible exact o4 | (with_reducible refine Own.setBelow ?_ ?_ _; rotate_left; (simp; try omega)))
    · exact (by (repeat with_reducible first | refine Below.setCell ?_ ?_ _ | exact bz0 _ _ | refine bz1 ?_ | refine bz2 ?_ _ | refine bz3 ?_ _ | refine bz4 ?_ hb2 | refine bz4 ?_ bel1 | refine Below.alloc ?_ ?_ _ | refine Below.trans ?_ (Below.mono hb2 ?_) | refine Below.trans ?_ (Below.mono bel1 ?_)) <;> first | omega | (simp; done) | (simp; omega))
/-- What productOf answers at two floats, by letters. -/
abbrev ProdAt (u : Value) (fm x y : Int) (sg inf G : Bool) (L : List Int) (E : Int) (n b : Bool) : Prop := ∀ w : World, EE u w → Calls Tryz.prog 84 #[.int .i64 fm, .int .u64 x, .int .u64 y] w fun r w' => ∃ a' c' ev, r = .returned (.tuple #[.agg #[.bool sg, .bool inf, .bool G, .slice a' L.length c', .int .i64 E], ev]) ∧ EK u ev n b ∧ Own w' w.heap.size a' c' L ∧ Below w.heap.size w w'
theorem prod_nan (fm x y : Int) (u : Value) (sg1 inf1 G1 : Bool) (L1 : List Int) (E1 : Int) (n1 b1 : Bool) (sg2 inf2 G2 : Bool) (L2 : List Int) (E2 : Int) (n2 b2 : Bool) (hx : NumAt u fm x sg1 inf1 G1 L1 E1 n1 b1) (hy : NumAt u fm y sg2 inf2 G2 L2 E2 n2 b2) (hn : (n1 || n2) = true) (b : Bool) (hb : b = (b1 || b2)) :
    ProdAt u fm x y false false false [] 0 true b := by
  intro w hE
  have CT := hid (fun w' h => two_nums fm x y u sg1 inf1 G1 L1 E1 n1 b1 sg2 inf2 G2 L2 E2 n2 b2 hx hy w' h)
  rw [hn, ← hb] at CT
  clear hn hb hx hy
  have R := Q5.new w (.bool false) (.bool false) (.bool false) (.slice none 0 0) (.int .i64 0) 99
  have bel0 : Below w.heap.size w (w.alloc (.cells #[.bool false, .bool false, .bool false, .slice none 0 0, .int .i64 0] 99)) := (by repeat (first | exact bz0 _ _ | refine bz1 ?_ | refine bz2 ?_ _ | refine bz3 ?_ _ | refine bz5 ?_ _ | refine bz6 ?_ _))
  go_enter Tryz.func84, Tryz.ntmps84
  go_wp2_with fail
  refine (CT.out _ (hE.below bel0)).mono ?_
  rintro r w1 ⟨a1, c1, a2, c2, ev, rfl, kv, o1, o2, hb1⟩
  have bel1 := bel_go bel0 hb1
  replace R := ((R.below hb1).alloc (.cells #[.bool sg1, .bool inf1, .bool G1, .slice a1 L1.length c1, .int .i64 E1] 99)).alloc (.cells #[.bool sg2, .bool inf2, .bool G2, .slice a2 L2.length c2, .int .i64 E2] 99)
  obtain ⟨r0, r1, r2, r3, r4, f0, f1, f2, f3, f4⟩ := R
  clear o1 o2
  cases kv with
  | quiet =>
    go_wp2
    refine bodyPost_ret (v := .tuple #[.agg #[.bool false, .bool false, .bool false, .slice none 0 0, .int .i64 0], .iface 168 (.agg #[.iface 247 u])]) (by simp [results, Tryz.results84, go_sem, r0, r1, r2, r3, r4]) rfl ⟨none, 0, _, rfl, EK.quiet, Own.nil _ _, ?_⟩
    exact (by (repeat with_reducible first | refine Below.setCell ?_ ?_ _ | exact bz0 _ _ | refine bz1 ?_ | refine bz2 ?_ _ | refine bz3 ?_ _ | refine bz4 ?_ hb1 | refine bz4 ?_ bel0 | refine Below.alloc ?_ ?_ _ | refine Below.trans ?_ (Below.mono hb1 ?_) | refine Below.trans ?_ (Below.mono bel0 ?_)) <;> first | omega | (simp; done) | (simp; omega))
  | bad s =>
    go_wp2
    refine bodyPost_ret (v := .tuple #[.agg #[.bool false, .bool false, .bool false, .slice none 0 0, .int .i64 0], .iface 168 (.agg #[.iface 170 (.agg #[.string s])])]) (by simp [results, Tryz.results84, go_sem, r0, r1, r2, r3, r4]) rfl ⟨none, 0, _, rfl, EK.bad s, Own.nil _ _, ?_⟩
    exact (by (repeat with_reducible first | refine Below.setCell ?_ ?_ _ | exact bz0 _ _ | refine bz1 ?_ | refine bz2 ?_ _ | refine bz3 ?_ _ | refine bz4 ?_ hb1 | refine bz4 ?_ bel0 | refine Below.alloc ?_ ?_ _ | refine Below.trans ?_ (Below.mono hb1 ?_) | refine Below.trans ?_ (Below.mono bel0 ?_)) <;> first | omega | (simp; done) | (simp; omega))
theorem prod_num (fm x y : Int) (u : Value) (sg1 inf1 G1 : Bool) (L1 : List Int) (E1 : Int) (n1 b1 : Bool) (sg2 inf2 G2 : Bool) (L2 : List Int) (E2 : Int) (n2 b2 : Bool) (hx : NumAt u fm x sg1 inf1 G1 L1 E1 n1 b1) (hy : NumAt u fm y sg2 inf2 G2 L2 E2 n2 b2) (hn : (n1 || n2) = false) (sg inf G : Bool) (L : List Int) (E : Int) (n b : Bool)
    (hm : ∀ (B : Nat) (a1 : Option Addr) (c1 : Nat) (a2 : Option Addr) (c2 : Nat) (w : World), B ≤ w.heap.size → Own w B a1 c1 L1 → Own w B a2 c2 L2 → Calls Tryz.prog 160 #[.agg #[.bool sg1, .bool inf1, .bool G1, .slice a1 L1.length c1, .int .i64 E1], .agg #[.bool sg2, .bool inf2, .bool G2, .slice a2 L2.length c2, .int .i64 E2]] w fun r w' => ∃ a3 c3 ev, r = .returned (.tuple #[.agg #[.bool sg, .bool inf, .bool G, .slice a3 L.length c3, .int .i64 E], ev]) ∧ EK u ev n b ∧ Own w' B a3 c3 L ∧ Below w.heap.size w w') :
    ProdAt u fm x y sg inf G L E n b := by
  intro w hE
  have CT := hid (fun w' h => two_nums fm x y u sg1 inf1 G1 L1 E1 n1 b1 sg2 inf2 G2 L2 E2 n2 b2 hx hy w' h)
  have CM := hid hm
  rw [hn] at CT
  obtain ⟨b0, hb0⟩ : ∃ b0, b0 = (b1 || b2) := ⟨_, rfl⟩
  rw [← hb0] at CT
  clear hb0
  clear hn hx hy hm
  have R := Q5.new w (.bool false) (.bool false) (.bool false) (.slice none 0 0) (.int .i64 0) 99
  have bel0 : Below w.heap.size w (w.alloc (.cells #[.bool false, .bool false, .bool false, .slice none 0 0, .int .i64 0] 99)) := (by repeat (first | exact bz0 _ _ | refine bz1 ?_ | refine bz2 ?_ _ | refine bz3 ?_ _ | refine bz5 ?_ _ | refine bz6 ?_ _))
  go_enter Tryz.func84, Tryz.ntmps84
  go_wp2_with fail
  refine (CT.out _ (hE.below bel0)).mono ?_
  rintro r w1 ⟨a1, c1, a2, c2, ev, rfl, kv, o1, o2, hb1⟩
  have bel1w := bel_go bel0 hb1
  have bel1 := bel_al (bel_al (bel_go bel0 hb1) (.cells #[.bool sg1, .bool inf1, .bool G1, .slice a1 L1.length c1, .int .i64 E1] 99)) (.cells #[.bool sg2, .bool inf2, .bool G2, .slice a2 L2.length c2, .int .i64 E2] 99)
  replace R := ((R.below hb1).alloc (.cells #[.bool sg1, .bool inf1, .bool G1, .slice a1 L1.length c1, .int .i64 E1] 99)).alloc (.cells #[.bool sg2, .bool inf2, .bool G2, .slice a2 L2.length c2, .int .i64 E2] 99)
  have PX := (Q5.new w1 (.bool sg1) (.bool inf1) (.bool G1) (.slice a1 L1.length c1) (.int .i64 E1) 99).alloc (.cells #[.bool sg2, .bool inf2, .bool G2, .slice a2 L2.length c2, .int .i64 E2] 99)
  have PY := Q5.nw2 w1 (.cells #[.bool sg1, .bool inf1, .bool G1, .slice a1 L1.length c1, .int .i64 E1] 99) (.bool sg2) (.bool inf2) (.bool G2) (.slice a2 L2.length c2) (.int .i64 E2) 99
  have s1 := ((o1.alloc (.cells #[.bool sg1, .bool inf1, .bool G1, .slice a1 L1.length c1, .int .i64 E1] 99)).alloc (.cells #[.bool sg2, .bool inf2, .bool G2, .slice a2 L2.length c2, .int .i64 E2] 99)).base (B' := w.heap.size + 1) (by simp)
  have s2 := ((o2.alloc (.cells #[.bool sg1, .bool inf1, .bool G1, .slice a1 L1.length c1, .int .i64 E1] 99)).alloc (.cells #[.bool sg2, .bool inf2, .bool G2, .slice a2 L2.length c2, .int .i64 E2] 99)).base (B' := w.heap.size + 1) (by simp)
  have lr := R.lt
  have lb1 := hb1.size
  have lb1' : w.heap.size + 1 ≤ w1.heap.size := by simpa using lb1
  clear o1 o2
  cases kv with
  | no =>
    obtain ⟨x0, x1, x2, x3, x4⟩ := PX.cs
    obtain ⟨y0, y1, y2, y3, y4⟩ := PY.cs
    go_wp2_with fail
    refine (CM.out (w.heap.size + 1) a1 c1 a2 c2 _ (by simp; omega) s1 s2).mono ?_
    rintro r w2 ⟨a3, c3, ev, rfl, kv, o3, hb2⟩
    clear x0 x1 x2 x3 x4 y0 y1 y2 y3 y4
    obtain ⟨r0, r1, r2, r3, r4, f0, f1, f2, f3, f4⟩ := R.below hb2
    go_wp2
    refine bodyPost_ret (v := .tuple #[.agg #[.bool sg, .bool inf, .bool G, .slice a3 L.length c3, .int .i64 E], ev]) (by simp [results, Tryz.results84, go_sem, r0, r1, r2, r3, r4]) rfl ⟨a3, c3, ev, rfl, kv, ?_, ?_⟩
    · have o4 := o3
      refine Own.base (B := w.heap.size + 1) ?_ (by omega)
      repeat (first | with_reducible exact o4 | (with_reducible refine Own.setBelow ?_ ?_ _; rotate_left; (simp; try omega)))
    · exact (by (repeat with_reducible first | refine Below.setCell ?_ ?_ _ | exact bz0 _ _ | refine bz1 ?_ | refine bz2 ?_ _ | refine bz3 ?_ _ | refine bz4 ?_ hb2 | refine bz4 ?_ bel1w | refine Below.alloc ?_ ?_ _ | refine Below.trans ?_ (Below.mono hb2 ?_) | refine Below.trans ?_ (Below.mono bel1w ?_)) <;> first | omega | (simp; done) | (simp; omega))
end Go.Proofs.YtmcflggionkhlaaGreatDoor
