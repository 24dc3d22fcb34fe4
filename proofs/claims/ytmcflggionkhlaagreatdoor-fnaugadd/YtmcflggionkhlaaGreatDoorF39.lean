/-
  What is needed of NP, NQ, FO.
-/
import Derived.Test.YtmcflggionkhlaaGreatDoorF38
set_option maxHeartbeats 16000000
set_option maxRecDepth 1000000
namespace Go.Proofs.YtmcflggionkhlaaGreatDoor
set_option linter.unusedVariables false
set_option linter.unusedSimpArgs false
open Go.RowKit Go.Deep
/-- What totalOf answers at two floats, by letters. -/
abbrev TotAt (u : Value) (fm mode x y : Int) (sg inf G : Bool) (L : List Int) (E : Int) (n b : Bool) : Prop := ∀ w : World, EE u w → Calls Tryz.prog 105 #[.int .i64 fm, .int .i64 mode, .int .u64 x, .int .u64 y] w fun r w' => ∃ a' c' ev, r = .returned (.tuple #[.agg #[.bool sg, .bool inf, .bool G, .slice a' L.length c', .int .i64 E], ev]) ∧ EK u ev n b ∧ Own w' w.heap.size a' c' L ∧ Below w.heap.size w w'
theorem tot_nan (fm mode x y : Int) (u : Value) (sg1 inf1 G1 : Bool) (L1 : List Int) (E1 : Int) (n1 b1 : Bool) (sg2 inf2 G2 : Bool) (L2 : List Int) (E2 : Int) (n2 b2 : Bool) (hx : NumAt u fm x sg1 inf1 G1 L1 E1 n1 b1) (hy : NumAt u fm y sg2 inf2 G2 L2 E2 n2 b2) (hn : (n1 || n2) = true) (b : Bool) (hb : b = (b1 || b2)) :
    TotAt u fm mode x y false false false [] 0 true b := by
  intro w hE
  have CT := hid (fun w' h => two_nums fm x y u sg1 inf1 G1 L1 E1 n1 b1 sg2 inf2 G2 L2 E2 n2 b2 hx hy w' h)
  rw [hn, ← hb] at CT
  clear hn hb hx hy
  have R := Q5.new w (.bool false) (.bool false) (.bool false) (.slice none 0 0) (.int .i64 0) 99
  have bel0 : Below w.heap.size w (w.alloc (.cells #[.bool false, .bool false, .bool false, .slice none 0 0, .int .i64 0] 99)) := (by repeat (first | exact bz0 _ _ | refine bz1 ?_ | refine bz2 ?_ _ | refine bz3 ?_ _ | refine bz5 ?_ _ | refine bz6 ?_ _))
  go_enter Tryz.func105, Tryz.ntmps105
  go_wp2_with fail
  refine (CT.out _ (hE.below bel0)).mono ?_
  rintro r w1 ⟨a1, c1, a2, c2, ev, rfl, kv, o1, o2, hb1⟩
  have bel1 := bel_go bel0 hb1
  replace R := ((R.below hb1).alloc (.cells #[.bool sg1, .bool inf1, .bool G1, .slice a1 L1.length c1, .int .i64 E1] 99)).alloc (.cells #[.bool sg2, .bool inf2, .bool G2, .slice a2 L2.length c2, .int .i64 E2] 99)
  obtain ⟨r0, r1, r2, r3, r4, f0, f1, f2, f3, f4⟩ := R
  clear o1 o2
  cases kv with
  | quiet =>
    go_wp2
    refine bodyPost_ret (v := .tuple #[.agg #[.bool false, .bool false, .bool false, .slice none 0 0, .int .i64 0], .iface 168 (.agg #[.iface 247 u])]) (by simp [results, Tryz.results105, go_sem, r0, r1, r2, r3, r4]) rfl ⟨none, 0, _, rfl, EK.quiet, Own.nil _ _, ?_⟩
    exact (by (repeat with_reducible first | refine Below.setCell ?_ ?_ _ | exact bz0 _ _ | refine bz1 ?_ | refine bz2 ?_ _ | refine bz3 ?_ _ | refine bz4 ?_ hb1 | refine bz4 ?_ bel0 | refine Below.alloc ?_ ?_ _ | refine Below.trans ?_ (Below.mono hb1 ?_) | refine Below.trans ?_ (Below.mono bel0 ?_)) <;> first | omega | (simp; done) | (simp; omega))
  | bad s =>
    go_wp2
    refine bodyPost_ret (v := .tuple #[.agg #[.bool false, .bool false, .bool false, .slice none 0 0, .int .i64 0], .iface 168 (.agg #[.iface 170 (.agg #[.string s])])]) (by simp [results, Tryz.results105, go_sem, r0, r1, r2, r3, r4]) rfl ⟨none, 0, _, rfl, EK.bad s, Own.nil _ _, ?_⟩
    exact (by (repeat with_reducible first | refine Below.setCell ?_ ?_ _ | exact bz0 _ _ | refine bz1 ?_ | refine bz2 ?_ _ | refine bz3 ?_ _ | refine bz4 ?_ hb1 | refine bz4 ?_ bel0 | refine Below.alloc ?_ ?_ _ | refine Below.trans ?_ (Below.mono hb1 ?_) | refine Below.trans ?_ (Below.mono bel0 ?_)) <;> first | omega | (simp; done) | (simp; omega))
theorem tot_num (fm mode x y : Int) (u : Value) (sg1 inf1 G1 : Bool) (L1 : List Int) (E1 : Int) (n1 b1 : Bool) (sg2 inf2 G2 : Bool) (L2 : List Int) (E2 : Int) (n2 b2 : Bool) (hx : NumAt u fm x sg1 inf1 G1 L1 E1 n1 b1) (hy : NumAt u fm y sg2 inf2 G2 L2 E2 n2 b2) (hn : (n1 || n2) = false) (sg inf G : Bool) (L : List Int) (E : Int) (n b : Bool)
    (hm : ∀ (B : Nat) (a1 : Option Addr) (c1 : Nat) (a2 : Option Addr) (c2 : Nat) (w : World), B ≤ w.heap.size → Own w B a1 c1 L1 → Own w B a2 c2 L2 → Calls Tryz.prog 87 #[.agg #[.bool sg1, .bool inf1, .bool G1, .slice a1 L1.length c1, .int .i64 E1], .agg #[.bool sg2, .bool inf2, .bool G2, .slice a2 L2.length c2, .int .i64 E2], .int .i64 mode] w fun r w' => ∃ a3 c3 ev, r = .returned (.tuple #[.agg #[.bool sg, .bool inf, .bool G, .slice a3 L.length c3, .int .i64 E], ev]) ∧ EK u ev n b ∧ Own w' B a3 c3 L ∧ Below w.heap.size w w') :
    TotAt u fm mode x y sg inf G L E n b := by
  intro w hE
  have CT := hid (fun w' h => two_nums fm x y u sg1 inf1 G1 L1 E1 n1 b1 sg2 inf2 G2 L2 E2 n2 b2 hx hy w' h)
  have CM := hid hm
  rw [hn] at CT
  obtain ⟨b0, hb0⟩ : ∃ b0, b0 = (b1 || b2) := ⟨_, rfl⟩
  rw [← hb0] at CT
  clear hb0
  clear hn hx hy hm
  have R := Q5.new w (.bool false) (.bool false) (.bool false) (.slice none 0 0) (.int .i64 0) 99
  have bel0 : Below w.heap.size w (w.alloc (.cells #[.bool false, .bool false, .bool false, .slice none 0 0, .int .i64 0] 99)) := (by repeat (first | exact bz0 _ _ | refine bz1 ?_ | refine bz2 ?_ _ | refine bz3 ?_ _ | refine bz5 ?_ _ | refine bz6 ?_ _))
  go_enter Tryz.func105, Tryz.ntmps105
  go_wp2_with fail
  refine (CT.out _ (hE.below bel0)).mono ?_
  rintro r w1 ⟨a1, c1, a2, c2, ev, rfl, kv, o1, o2, hb1⟩
  have bel1w := bel_go bel0 hb1
  have bel1 := bel_al (bel_al (bel_go bel0 hb1) (.cells #[.bool sg1, .bool inf1, .bool G1, .slice a1 L1.length c1, .int .i64 E1] 99)) (.cells #[.bool sg2, .bool inf2, .bool G2, .slice a2 L2.length c2, .int .i64 E2] 99)
  replace R := ((R.below hb1).alloc (.cells #[.bool sg1, .bool inf1, .bool G1, .slice a1 L1.length c1, .int .i64 E1] 99)).alloc (.cells #[.bool sg2, .bool inf2, .bool G2, .slice a2 L2.length c2, .int .i64 E2] 99)
  have PX := (Q5.new w1 (.bool sg1) (.bool inf1) (.bool G1) (.slice a1 L1.length c1) (.int .i64 E1) 99).alloc (.cells #[.bool sg2, .bool inf2, .bool G2, .slice a2 L2.length c2, .int .i64 E2] 99)
  have PY := Q5.nw2 w1 (.cells #[.bool sg1, .bool inf1, .bool G1, .slice a1 L1.length c1, .int .i64 E1] 99) (.bool sg2) (.bool inf2) (.bool G2) (.slice a2 L2.length c2) (.int .i64 E2) 99
  have s1 := ((o1.alloc (.cells #[.bool sg1, .bool inf1, .bool G1, .slice a1 L1.length c1, .int .i64 E1] 99)).alloc (.cells #[.bool sg2, .bool inf2, .bool G2, .slice a2 L2.length c2, .int .i64 E2] 99)).base (B' := w.heap.size + 1) (by simp)
  have s2 := ((o2.alloc (.cells #[.bool sg1, .bool inf1, .bool G1, .slice a1 L1.length c1, .int .i64 E1] 99)).alloc (.cells #[.bool sg2, .bool inf2, .bool G2, .slice a2 L2.length c2, .int .i64 E2] 99)).base (B' := w.heap.size + 1) (by simp)
  have lr := R.lt
  have lb1 := hb1.size
  have lb1' : w.heap.size + 1 ≤ w1.heap.size := by simpa using lb1
  clear o1 o2
  cases kv with
  | no =>
    obtain ⟨x0, x1, x2, x3, x4⟩ := PX.cs
    obtain ⟨y0, y1, y2, y3, y4⟩ := PY.cs
    go_wp2_with fail
    refine (CM.out (w.heap.size + 1) a1 c1 a2 c2 _ (by simp; omega) s1 s2).mono ?_
    rintro r w2 ⟨a3, c3, ev, rfl, kv, o3, hb2⟩
    clear x0 x1 x2 x3 x4 y0 y1 y2 y3 y4
    obtain ⟨r0, r1, r2, r3, r4, f0, f1, f2, f3, f4⟩ := R.below hb2
    go_wp2
    refine bodyPost_ret (v := .tuple #[.agg #[.bool sg, .bool inf, .bool G, .slice a3 L.length c3, .int .i64 E], ev]) (by simp [results, Tryz.results105, go_sem, r0, r1, r2, r3, r4]) rfl ⟨a3, c3, ev, rfl, kv, ?_, ?_⟩
    · have o4 := o3
      refine Own.base (B := w.heap.size + 1) ?_ (by omega)
      repeat (first | with_reducible exact o4 | (with_reducible refine Own.setBelow ?_ ?_ _; rotate_left; (simp; try omega)))
    · exact (by (repeat with_reducible first | refine Below.setCell ?_ ?_ _ | exact bz0 _ _ | refine bz1 ?_ | refine bz2 ?_ _ | refine bz3 ?_ _ | refine bz4 ?_ hb2 | refine bz4 ?_ bel1w | refine Below.alloc ?_ ?_ _ | refine Below.trans ?_ (Below.mono hb2 ?_) | refine Below.trans ?_ (Below.mono bel1w ?_)) <;> first | omega | (simp; done) | (simp; omega))
theorem plus_odd (sg1 inf1 G1 : Bool) (L1 : List Int) (E1 : Int) (a1 : Option Addr) (c1 : Nat) (sg2 inf2 G2 : Bool) (L2 : List Int) (E2 : Int) (a2 : Option Addr) (c2 : Nat) (mode : Int) (w : World) (h1 : inf1 = true) (h2 : inf2 = true) (h3 : (sg1 != sg2) = true) :
    Calls Tryz.prog 87 #[.agg #[.bool sg1, .bool inf1, .bool G1, .slice a1 L1.length c1, .int .i64 E1], .agg #[.bool sg2, .bool inf2, .bool G2, .slice a2 L2.length c2, .int .i64 E2], .int .i64 mode] w fun r w' => ∃ s : ByteArray, r = .returned (.tuple #[.agg #[.bool false, .bool false, .bool false, .slice none 0 0, .int .i64 0], .iface 168 (.agg #[.iface 170 (.agg #[.string s])])]) ∧ Below w.heap.size w w' := by
  have X := ((Q5.new w (.bool sg1) (.bool inf1) (.bool G1) (.slice a1 L1.length c1) (.int .i64 E1) 99).alloc (.cells #[.bool sg2, .bool inf2, .bool G2, .slice a2 L2.length c2, .int .i64 E2] 99)).alloc (.cells #[.bool false, .bool false, .bool false, .slice none 0 0, .int .i64 0] 99)
  have Y := (Q5.nw2 w (.cells #[.bool sg1, .bool inf1, .bool G1, .slice a1 L1.length c1, .int .i64 E1] 99) (.bool sg2) (.bool inf2) (.bool G2) (.slice a2 L2.length c2) (.int .i64 E2) 99).alloc (.cells #[.bool false, .bool false, .bool false, .slice none 0 0, .int .i64 0] 99)
  have R := Q5.nw3 w (.cells #[.bool sg1, .bool inf1, .bool G1, .slice a1 L1.length c1, .int .i64 E1] 99) (.cells #[.bool sg2, .bool inf2, .bool G2, .slice a2 L2.length c2, .int .i64 E2] 99) (.bool false) (.bool false) (.bool false) (.slice none 0 0) (.int .i64 0) 99
  have bel0 : Below w.heap.size w (((w.alloc (.cells #[.bool sg1, .bool inf1, .bool G1, .slice a1 L1.length c1, .int .i64 E1] 99)).alloc (.cells #[.bool sg2, .bool inf2, .bool G2, .slice a2 L2.length c2, .int .i64 E2] 99)).alloc (.cells #[.bool false, .bool false, .bool false, .slice none 0 0, .int .i64 0] 99)) := (by repeat (first | exact bz0 _ _ | refine bz1 ?_ | refine bz2 ?_ _ | refine bz3 ?_ _ | refine bz5 ?_ _ | refine bz6 ?_ _))
  subst h1 h2
  obtain ⟨x0, x1, x2, x3, x4⟩ := X.cs
  obtain ⟨y0, y1, y2, y3, y4⟩ := Y.cs
  obtain ⟨r0, r1, r2, r3, r4, f0, f1, f2, f3, f4⟩ := R
  cases sg1 <;> cases sg2 <;> first | (exfalso; revert h3; decide) | skip
  all_goals
    clear h3
    go_enter Tryz.func87, Tryz.ntmps87
    go_wp2
    refine bodyPost_ret (by simp [results, Tryz.results87, go_sem, r0, r1, r2, r3, r4]; rfl) rfl ⟨_, rfl, ?_⟩
    exact (by (repeat with_reducible first | refine Below.setCell ?_ ?_ _ | exact bz0 _ _ | refine bz1 ?_ | refine bz2 ?_ _ | refine bz3 ?_ _ | refine bz4 ?_ bel0 | refine Below.alloc ?_ ?_ _ | refine Below.trans ?_ (Below.mono bel0 ?_)) <;> first | omega | (simp; done) | (simp; omega))
theorem plus_inf1 (sg1 inf1 G1 : Bool) (L1 : List Int) (E1 : Int) (a1 : Option Addr) (c1 : Nat) (sg2 inf2 G2 : Bool) (L2 : List Int) (E2 : Int) (a2 : Option Addr) (c2 : Nat) (mode : Int) (w : World) (h1 : inf1 = true) (h3 : inf2 = false ∨ (sg1 != sg2) = false) :
    Calls Tryz.prog 87 #[.agg #[.bool sg1, .bool inf1, .bool G1, .slice a1 L1.length c1, .int .i64 E1], .agg #[.bool sg2, .bool inf2, .bool G2, .slice a2 L2.length c2, .int .i64 E2], .int .i64 mode] w fun r w' => r = .returned (.tuple #[.agg #[.bool sg1, .bool true, .bool G1, .slice a1 L1.length c1, .int .i64 E1], .nilIface]) ∧ Below w.heap.size w w' := by
  have X := ((Q5.new w (.bool sg1) (.bool inf1) (.bool G1) (.slice a1 L1.length c1) (.int .i64 E1) 99).alloc (.cells #[.bool sg2, .bool inf2, .bool G2, .slice a2 L2.length c2, .int .i64 E2] 99)).alloc (.cells #[.bool false, .bool false, .bool false, .slice none 0 0, .int .i64 0] 99)
  have Y := (Q5.nw2 w (.cells #[.bool sg1, .bool inf1, .bool G1, .slice a1 L1.length c1, .int .i64 E1] 99) (.bool sg2) (.bool inf2) (.bool G2) (.slice a2 L2.length c2) (.int .i64 E2) 99).alloc (.cells #[.bool false, .bool false, .bool false, .slice none 0 0, .int .i64 0] 99)
  have R := Q5.nw3 w (.cells #[.bool sg1, .bool inf1, .bool G1, .slice a1 L1.length c1, .int .i64 E1] 99) (.cells #[.bool sg2, .bool inf2, .bool G2, .slice a2 L2.length c2, .int .i64 E2] 99) (.bool false) (.bool false) (.bool false) (.slice none 0 0) (.int .i64 0) 99
  have bel0 : Below w.heap.size w (((w.alloc (.cells #[.bool sg1, .bool inf1, .bool G1, .slice a1 L1.length c1, .int .i64 E1] 99)).alloc (.cells #[.bool sg2, .bool inf2, .bool G2, .slice a2 L2.length c2, .int .i64 E2] 99)).alloc (.cells #[.bool false, .bool false, .bool false, .slice none 0 0, .int .i64 0] 99)) := (by repeat (first | exact bz0 _ _ | refine bz1 ?_ | refine bz2 ?_ _ | refine bz3 ?_ _ | refine bz5 ?_ _ | refine bz6 ?_ _))
  subst h1
  obtain ⟨x0, x1, x2, x3, x4⟩ := X.cs
  obtain ⟨y0, y1, y2, y3, y4⟩ := Y.cs
  obtain ⟨r0, r1, r2, r3, r4, f0, f1, f2, f3, f4⟩ := R
  cases inf2 with
  | false =>
    clear h3
    go_enter Tryz.func87, Tryz.ntmps87
    go_wp2
    refine bodyPost_ret (v := .tuple #[.agg #[.bool sg1, .bool true, .bool G1, .slice a1 L1.length c1, .int .i64 E1], .nilIface]) (by simp [results, Tryz.results87, go_sem, r0, r1, r2, r3, r4]) rfl ⟨rfl, ?_⟩
    exact (by (repeat with_reducible first | refine Below.setCell ?_ ?_ _ | exact bz0 _ _ | refine bz1 ?_ | refine bz2 ?_ _ | refine bz3 ?_ _ | refine bz4 ?_ bel0 | refine Below.alloc ?_ ?_ _ | refine Below.trans ?_ (Below.mono bel0 ?_)) <;> first | omega | (simp; done) | (simp; omega))
  | true =>
    have h4 : (sg1 != sg2) = false := h3.resolve_left (by decide)
    clear h3
    cases sg1 <;> cases sg2 <;> first | (exfalso; revert h4; decide) | skip
    all_goals
      clear h4
      go_enter Tryz.func87, Tryz.ntmps87
      go_wp2
      refine bodyPost_ret (v := .tuple #[.agg #[.bool _, .bool true, .bool G1, .slice a1 L1.length c1, .int .i64 E1], .nilIface]) (by simp [results, Tryz.results87, go_sem, r0, r1, r2, r3, r4]) rfl ⟨rfl, ?_⟩
      exact (by (repeat with_reducible first | refine Below.setCell ?_ ?_ _ | exact bz0 _ _ | refine bz1 ?_ | refine bz2 ?_ _ | refine bz3 ?_ _ | refine bz4 ?_ bel0 | refine Below.alloc ?_ ?_ _ | refine Below.trans ?_ (Below.mono bel0 ?_)) <;> first | omega | (simp; done) | (simp; omega))
theorem plus_inf2 (sg1 inf1 G1 : Bool) (L1 : List Int) (E1 : Int) (a1 : Option Addr) (c1 : Nat) (sg2 inf2 G2 : Bool) (L2 : List Int) (E2 : Int) (a2 : Option Addr) (c2 : Nat) (mode : Int) (w : World) (h1 : inf1 = false) (h2 : inf2 = true) :
    Calls Tryz.prog 87 #[.agg #[.bool sg1, .bool inf1, .bool G1, .slice a1 L1.length c1, .int .i64 E1], .agg #[.bool sg2, .bool inf2, .bool G2, .slice a2 L2.length c2, .int .i64 E2], .int .i64 mode] w fun r w' => r = .returned (.tuple #[.agg #[.bool sg2, .bool true, .bool G2, .slice a2 L2.length c2, .int .i64 E2], .nilIface]) ∧ Below w.heap.size w w' := by
  have X := ((Q5.new w (.bool sg1) (.bool inf1) (.bool G1) (.slice a1 L1.length c1) (.int .i64 E1) 99).alloc (.cells #[.bool sg2, .bool inf2, .bool G2, .slice a2 L2.length c2, .int .i64 E2] 99)).alloc (.cells #[.bool false, .bool false, .bool false, .slice none 0 0, .int .i64 0] 99)
  have Y := (Q5.nw2 w (.cells #[.bool sg1, .bool inf1, .bool G1, .slice a1 L1.length c1, .int .i64 E1] 99) (.bool sg2) (.bool inf2) (.bool G2) (.slice a2 L2.length c2) (.int .i64 E2) 99).alloc (.cells #[.bool false, .bool false, .bool false, .slice none 0 0, .int .i64 0] 99)
  have R := Q5.nw3 w (.cells #[.bool sg1, .bool inf1, .bool G1, .slice a1 L1.length c1, .int .i64 E1] 99) (.cells #[.bool sg2, .bool inf2, .bool G2, .slice a2 L2.length c2, .int .i64 E2] 99) (.bool false) (.bool false) (.bool false) (.slice none 0 0) (.int .i64 0) 99
  have bel0 : Below w.heap.size w (((w.alloc (.cells #[.bool sg1, .bool inf1, .bool G1, .slice a1 L1.length c1, .int .i64 E1] 99)).alloc (.cells #[.bool sg2, .bool inf2, .bool G2, .slice a2 L2.length c2, .int .i64 E2] 99)).alloc (.cells #[.bool false, .bool false, .bool false, .slice none 0 0, .int .i64 0] 99)) := (by repeat (first | exact bz0 _ _ | refine bz1 ?_ | refine bz2 ?_ _ | refine bz3 ?_ _ | refine bz5 ?_ _ | refine bz6 ?_ _))
  subst h1 h2
  obtain ⟨x0, x1, x2, x3, x4⟩ := X.cs
  obtain ⟨y0, y1, y2, y3, y4⟩ := Y.cs
  obtain ⟨r0, r1, r2, r3, r4, f0, f1, f2, f3, f4⟩ := R
  go_enter Tryz.func87, Tryz.ntmps87
  go_wp2
  refine bodyPost_ret (v := .tuple #[.agg #[.bool sg2, .bool true, .bool G2, .slice a2 L2.length c2, .int .i64 E2], .nilIface]) (by simp [results, Tryz.results87, go_sem, r0, r1, r2, r3, r4]) rfl ⟨rfl, ?_⟩
  exact (by (repeat with_reducible first | refine Below.setCell ?_ ?_ _ | exact bz0 _ _ | refine bz1 ?_ | refine bz2 ?_ _ | refine bz3 ?_ _ | refine bz4 ?_ bel0 | refine Below.alloc ?_ ?_ _ | refine Below.trans ?_ (Below.mono bel0 ?_)) <;> first | omega | (simp; done) | (simp; omega))
theorem nI_z {fm x : Int} (hx : okF fm x = true) (h : nI fm x = true) : nZ fm x = 0 := by
  have h3 : cls fm x = 3 := by simpa [nI] using h
  have hf : finB fm x = false := by unfold finB; rw [h3]; decide
  exact (odd_facts hx hf).1
end Go.Proofs.YtmcflggionkhlaaGreatDoor
