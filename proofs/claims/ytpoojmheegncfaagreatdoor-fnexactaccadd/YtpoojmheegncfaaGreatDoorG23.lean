/-
  Several texts in one: NC, Laid.
-/
import Derived.Test.YtpoojmheegncfaaGreatDoorG22
import Derived.Test.YtpoojmheegncfaaGreatDoorG01
import Derived.Test.YtpoojmheegncfaaGreatDoorCards
import Derived.Test.YtpoojmheegncfaaGreatDoorTie
import Derived.Test.YtpoojmheegncfaaGreatDoorG06
import Derived.ProofKit
import Derived.OpenShut
import Derived.WalkSmall
import Derived.Deep.DeepHandedRow
import Derived.Deep.Strs
import Derived.Lib.LaidTab
/-
  A tally of one term, by the program.
-/
namespace Go.Proofs.YtpoojmheegncfaaGreatDoor
set_option linter.unusedVariables false
set_option linter.unusedSimpArgs false
open Go.RowKit Go.Deep
theorem heap9n (w : World) (B b : Nat) (h : b ≠ B) (u0 u1 u2 u3 u4 u5 u6 u7 u8 : Value) : (((((((((w.setCell ⟨B, 0, none⟩ u0).setCell ⟨B, 1, none⟩ u1).setCell ⟨B, 2, none⟩ u2).setCell ⟨B, 3, none⟩ u3).setCell ⟨B, 4, none⟩ u4).setCell ⟨B, 5, none⟩ u5).setCell ⟨B, 6, none⟩ u6).setCell ⟨B, 7, none⟩ u7).setCell ⟨B, 8, none⟩ u8).heap[b]? = w.heap[b]? := by
  rw [Below.heap_setCell _ _ _ _ h, Below.heap_setCell _ _ _ _ h, Below.heap_setCell _ _ _ _ h, Below.heap_setCell _ _ _ _ h, Below.heap_setCell _ _ _ _ h, Below.heap_setCell _ _ _ _ h, Below.heap_setCell _ _ _ _ h, Below.heap_setCell _ _ _ _ h, Below.heap_setCell _ _ _ _ h]
theorem keep59 {w : World} {B b b' : Nat} {v0 v1 v2 v3 v4 z0 z1 : Value} (h : Q5 w b v0 v1 v2 v3 v4) (h' : Box w b' z0 z1) (n : b ≠ B) (n' : b' ≠ B) (u0 u1 u2 u3 u4 u5 u6 u7 u8 : Value) (W : World) (hW : W = (((((((((w.setCell ⟨B, 0, none⟩ u0).setCell ⟨B, 1, none⟩ u1).setCell ⟨B, 2, none⟩ u2).setCell ⟨B, 3, none⟩ u3).setCell ⟨B, 4, none⟩ u4).setCell ⟨B, 5, none⟩ u5).setCell ⟨B, 6, none⟩ u6).setCell ⟨B, 7, none⟩ u7).setCell ⟨B, 8, none⟩ u8)) :
    (W.cell? ⟨b, 0, none⟩ = some v0 ∧ W.cell? ⟨b, 1, none⟩ = some v1 ∧ W.cell? ⟨b, 2, none⟩ = some v2 ∧ W.cell? ⟨b, 3, none⟩ = some v3 ∧ W.cell? ⟨b, 4, none⟩ = some v4) ∧ W.cell? ⟨b', 0, none⟩ = some z0 ∧ W.cell? ⟨b', 1, none⟩ = some z1 := by
  subst hW
  have e := heap9n w B b' n' u0 u1 u2 u3 u4 u5 u6 u7 u8
  exact ⟨(h.of_block (heap9n w B b n u0 u1 u2 u3 u4 u5 u6 u7 u8)).cs, (World.cell?_of_block (a := ⟨b', 0, none⟩) e).trans h'.1, (World.cell?_of_block (a := ⟨b', 1, none⟩) e).trans h'.2⟩
theorem Q9.nwn (w : World) (o : Obj) (v0 v1 v2 v3 v4 v5 v6 v7 v8 : Value) (t : TypeId) : Q9 ((w.alloc o).alloc (.cells #[v0, v1, v2, v3, v4, v5, v6, v7, v8] t)) (w.heap.size + 1) v0 v1 v2 v3 v4 v5 v6 v7 v8 := by simpa using Q9.new (w.alloc o) v0 v1 v2 v3 v4 v5 v6 v7 v8 t
set_option maxHeartbeats 8000000 in
set_option maxRecDepth 100000 in
theorem one_32 (neg inf G : Bool) (p : Option Addr) (cap : Nat) (L : List Int) (e : Int) (ev : Value) (m1 m2 m3 m4 m5 G2 : Bool) (L2 : List Int) (w : World) (hT : Tab w) (hg : EA.ErrT w) (hs : Sl .u32 w (.slice p L.length cap) L) (h0 : -5000 ≤ e) (h1 : e ≤ 5000)
    (hm : ∀ w' : World, EA.ErrT w' → Calls Tryz.prog 115 #[.agg #[.bool neg, .bool inf, .bool G, .slice p L.length cap, .int .i64 e], ev] w' fun r w'' => r = .returned (.agg #[.int .i64 1, .bool m1, .bool m2, .bool m3, .bool m4, .bool m5]) ∧ Below w'.heap.size w' w'')
    (hw : ∀ w' : World, Sl .u32 w' (.slice p L.length cap) L → Calls Tryz.prog 114 #[.agg #[.bool G, .slice p L.length cap], .int .i64 (e + 298)] w' fun r w'' => ∃ a' c', r = .returned (.tuple #[.agg #[.bool G2, .slice a' L2.length c'], .bool true]) ∧ Own w'' w'.heap.size a' c' L2 ∧ Below w'.heap.size w' w'') :
    Calls Tryz.prog 61 #[.int .i64 32, .agg #[.bool neg, .bool inf, .bool G, .slice p L.length cap, .int .i64 e], ev] w fun r w' => ∃ a' c', r = .returned (.agg #[.int .i64 1, .bool m1, .bool m2, .bool m3, .bool m4, .bool m5, .int .i64 32, .bool G2, .slice a' L2.length c']) ∧ Own w' w.heap.size a' c' L2 ∧ Below w.heap.size w w' := by
  have CM := hid hm
  have CW := hid hw
  clear hm hw
  have hwr : IntKind.i64.wrap (e + 298) = e + 298 := by rw [IntKind.wrap_i64]; omega
  have X := (Q5.new w (.bool neg) (.bool inf) (.bool G) (.slice p L.length cap) (.int .i64 e) 63).alloc (.cells #[.int .i64 0, .bool false, .bool false, .bool false, .bool false, .bool false, .int .i64 0, .bool false, .slice none 0 0] 87)
  have R := Q9.nwn w (.cells #[.bool neg, .bool inf, .bool G, .slice p L.length cap, .int .i64 e] 63) (.int .i64 0) (.bool false) (.bool false) (.bool false) (.bool false) (.bool false) (.int .i64 0) (.bool false) (.slice none 0 0) 87
  have bel0 : Below w.heap.size w ((w.alloc (.cells #[.bool neg, .bool inf, .bool G, .slice p L.length cap, .int .i64 e] 63)).alloc (.cells #[.int .i64 0, .bool false, .bool false, .bool false, .bool false, .bool false, .int .i64 0, .bool false, .slice none 0 0] 87)) := (by repeat (first | exact Below.refl _ _ | refine Below.drew ?_ | refine bel_dn ?_ _ | refine bel_al ?_ _ | refine Below.setCell ?_ (by first | omega | (simp; done) | (simp; omega)) _ | refine Below.alloc ?_ (by first | omega | (simp; done) | (simp; omega)) _))
  go_enter Tryz.func61, Tryz.ntmps61
  go_wp2_with fail
  refine (sizes32 _ (hT.below bel0)).mono ?_
  rintro r w1 ⟨rfl, hb1⟩
  replace X := (X.below hb1).alloc (.cells #[.int .u64 23, .int .u64 255, .int .i64 (-149)] 122)
  replace R := (R.below hb1).alloc (.cells #[.int .u64 23, .int .u64 255, .int .i64 (-149)] 122)
  have z1 := Z3.new w1 (.int .u64 23) (.int .u64 255) (.int .i64 (-149)) 122
  have bel1 := bel_al (bel_go bel0 hb1) (.cells #[.int .u64 23, .int .u64 255, .int .i64 (-149)] 122)
  clear hb1 bel0
  obtain ⟨x0, x1, x2, x3, x4⟩ := X.cs
  obtain ⟨zc0, zc1, zc2⟩ := z1
  go_wp2_with fail
  refine (CW.out _ (hs.below bel1)).mono ?_
  rintro r w2 ⟨a2, k2, rfl, ho2, hb2⟩
  clear x0 x1 x2 x3 x4 zc0 zc1 zc2
  have lr := R.lt
  have lb1 := bel1.size
  have z2 := hb2.size
  have z2' : w1.heap.size + 1 ≤ w2.heap.size := by simpa using z2
  have lw1 : w.heap.size + 1 < w1.heap.size + 1 := by simpa using lr
  replace X := (X.below hb2).alloc (.cells #[.bool G2, .slice a2 L2.length k2] 35)
  replace R := (R.below hb2).alloc (.cells #[.bool G2, .slice a2 L2.length k2] 35)
  have S := Box.new w2 (.bool G2) (.slice a2 L2.length k2) 35
  have ho3 : Own (w2.alloc (.cells #[.bool G2, .slice a2 L2.length k2] 35)) (w1.heap.size + 1) a2 k2 L2 := (by simpa using ho2.alloc (.cells #[.bool G2, .slice a2 L2.length k2] 35))
  have bel2 := bel_go bel1 hb2
  have hg2 : EA.ErrT (w2.alloc (.cells #[.bool G2, .slice a2 L2.length k2] 35)).drew := EA.five hg (Below.drew (bel_al bel2 _))
  have xd := X.drew.cs
  have Sd : Box (w2.alloc (.cells #[.bool G2, .slice a2 L2.length k2] 35)).drew w2.heap.size (.bool G2) (.slice a2 L2.length k2) := S
  have Sd' := Sd
  obtain ⟨sd0, sd1⟩ := Sd'
  clear ho2 bel1 hb2
  go_wp2_with fail
  go_region_held3 (fun w' => (w'.cell? ⟨w.heap.size, 0, none⟩ = some (.bool neg) ∧ w'.cell? ⟨w.heap.size, 1, none⟩ = some (.bool inf) ∧ w'.cell? ⟨w.heap.size, 2, none⟩ = some (.bool G) ∧ w'.cell? ⟨w.heap.size, 3, none⟩ = some (.slice p L.length cap) ∧ w'.cell? ⟨w.heap.size, 4, none⟩ = some (.int .i64 e)) ∧ w'.cell? ⟨w2.heap.size, 0, none⟩ = some (.bool G2) ∧ w'.cell? ⟨w2.heap.size, 1, none⟩ = some (.slice a2 L2.length k2))
    (first | with_reducible assumption | with_reducible exact ⟨xd, sd0, sd1⟩ | with_reducible exact keep59 X1 S1 (by omega) (by omega) _ _ _ _ _ _ _ _ _ _ rfl | fail)
    (first
      | (go_at_call 115; refine (CM.out _ hg2).mono ?_; rintro r q1 ⟨rfl, hq1⟩; have X1 := X.drew.below hq1; have S1 := Box.below Sd hq1; have u1 := And.intro X1.cs (And.intro S1.1 S1.2); obtain ⟨r0, r1, r2, r3, r4, r5, r6, r7, r8, f0, f1, f2, f3, f4, f5, f6, f7, f8⟩ := R.drew.below hq1))
  have ho4 := ho3.drew.below hq1
  go_wp2
  refine bodyPost_ret (v := .agg #[.int .i64 1, .bool m1, .bool m2, .bool m3, .bool m4, .bool m5, .int .i64 32, .bool G2, .slice a2 L2.length k2]) (by simp [results, Tryz.results61, go_sem, r0, r1, r2, r3, r4, r5, r6, r7, r8]) rfl ⟨a2, k2, rfl, ?_, ?_⟩
  · refine Own.base (B := w1.heap.size + 1) ?_ (by omega)
    repeat (first | with_reducible exact ho4 | (with_reducible refine Own.setBelow ?_ ?_ _; rotate_left; (simp; try omega)))
  · exact (by repeat (first | (with_reducible refine Below.setCell ?_ ?_ _; rotate_left; focus (first | omega | (simp; done) | (simp; omega))) | (with_reducible exact Below.refl _ _) | (with_reducible refine Below.drew ?_) | (with_reducible refine bel_dn ?_ _) | (with_reducible refine bel_al ?_ _) | (with_reducible refine bel_go ?_ hq1) | (with_reducible refine bel_go ?_ bel2) | (with_reducible refine Below.alloc ?_ ?_ _; rotate_left; focus (first | omega | (simp; done) | (simp; omega))) | (with_reducible refine Below.trans ?_ (Below.mono hq1 ?_); rotate_left; focus (first | omega | (simp; done) | (simp; omega))) | (with_reducible refine Below.trans ?_ (Below.mono bel2 ?_); rotate_left; focus (first | omega | (simp; done) | (simp; omega)))))
set_option maxHeartbeats 8000000 in
set_option maxRecDepth 100000 in
theorem one_64 (neg inf G : Bool) (p : Option Addr) (cap : Nat) (L : List Int) (e : Int) (ev : Value) (m1 m2 m3 m4 m5 G2 : Bool) (L2 : List Int) (w : World) (hT : Tab w) (hg : EA.ErrT w) (hs : Sl .u32 w (.slice p L.length cap) L) (h0 : -5000 ≤ e) (h1 : e ≤ 5000)
    (hm : ∀ w' : World, EA.ErrT w' → Calls Tryz.prog 115 #[.agg #[.bool neg, .bool inf, .bool G, .slice p L.length cap, .int .i64 e], ev] w' fun r w'' => r = .returned (.agg #[.int .i64 1, .bool m1, .bool m2, .bool m3, .bool m4, .bool m5]) ∧ Below w'.heap.size w' w'')
    (hw : ∀ w' : World, Sl .u32 w' (.slice p L.length cap) L → Calls Tryz.prog 114 #[.agg #[.bool G, .slice p L.length cap], .int .i64 (e + 2148)] w' fun r w'' => ∃ a' c', r = .returned (.tuple #[.agg #[.bool G2, .slice a' L2.length c'], .bool true]) ∧ Own w'' w'.heap.size a' c' L2 ∧ Below w'.heap.size w' w'') :
    Calls Tryz.prog 61 #[.int .i64 64, .agg #[.bool neg, .bool inf, .bool G, .slice p L.length cap, .int .i64 e], ev] w fun r w' => ∃ a' c', r = .returned (.agg #[.int .i64 1, .bool m1, .bool m2, .bool m3, .bool m4, .bool m5, .int .i64 64, .bool G2, .slice a' L2.length c']) ∧ Own w' w.heap.size a' c' L2 ∧ Below w.heap.size w w' := by
  have CM := hid hm
  have CW := hid hw
  clear hm hw
  have hwr : IntKind.i64.wrap (e + 2148) = e + 2148 := by rw [IntKind.wrap_i64]; omega
  have X := (Q5.new w (.bool neg) (.bool inf) (.bool G) (.slice p L.length cap) (.int .i64 e) 63).alloc (.cells #[.int .i64 0, .bool false, .bool false, .bool false, .bool false, .bool false, .int .i64 0, .bool false, .slice none 0 0] 87)
  have R := Q9.nwn w (.cells #[.bool neg, .bool inf, .bool G, .slice p L.length cap, .int .i64 e] 63) (.int .i64 0) (.bool false) (.bool false) (.bool false) (.bool false) (.bool false) (.int .i64 0) (.bool false) (.slice none 0 0) 87
  have bel0 : Below w.heap.size w ((w.alloc (.cells #[.bool neg, .bool inf, .bool G, .slice p L.length cap, .int .i64 e] 63)).alloc (.cells #[.int .i64 0, .bool false, .bool false, .bool false, .bool false, .bool false, .int .i64 0, .bool false, .slice none 0 0] 87)) := (by repeat (first | exact Below.refl _ _ | refine Below.drew ?_ | refine bel_dn ?_ _ | refine bel_al ?_ _ | refine Below.setCell ?_ (by first | omega | (simp; done) | (simp; omega)) _ | refine Below.alloc ?_ (by first | omega | (simp; done) | (simp; omega)) _))
  go_enter Tryz.func61, Tryz.ntmps61
  go_wp2_with fail
  refine (sizes64 _ (hT.below bel0)).mono ?_
  rintro r w1 ⟨rfl, hb1⟩
  replace X := (X.below hb1).alloc (.cells #[.int .u64 52, .int .u64 2047, .int .i64 (-1074)] 122)
  replace R := (R.below hb1).alloc (.cells #[.int .u64 52, .int .u64 2047, .int .i64 (-1074)] 122)
  have z1 := Z3.new w1 (.int .u64 52) (.int .u64 2047) (.int .i64 (-1074)) 122
  have bel1 := bel_al (bel_go bel0 hb1) (.cells #[.int .u64 52, .int .u64 2047, .int .i64 (-1074)] 122)
  clear hb1 bel0
  obtain ⟨x0, x1, x2, x3, x4⟩ := X.cs
  obtain ⟨zc0, zc1, zc2⟩ := z1
  go_wp2_with fail
  refine (CW.out _ (hs.below bel1)).mono ?_
  rintro r w2 ⟨a2, k2, rfl, ho2, hb2⟩
  clear x0 x1 x2 x3 x4 zc0 zc1 zc2
  have lr := R.lt
  have lb1 := bel1.size
  have z2 := hb2.size
  have z2' : w1.heap.size + 1 ≤ w2.heap.size := by simpa using z2
  have lw1 : w.heap.size + 1 < w1.heap.size + 1 := by simpa using lr
  replace X := (X.below hb2).alloc (.cells #[.bool G2, .slice a2 L2.length k2] 35)
  replace R := (R.below hb2).alloc (.cells #[.bool G2, .slice a2 L2.length k2] 35)
  have S := Box.new w2 (.bool G2) (.slice a2 L2.length k2) 35
  have ho3 : Own (w2.alloc (.cells #[.bool G2, .slice a2 L2.length k2] 35)) (w1.heap.size + 1) a2 k2 L2 := (by simpa using ho2.alloc (.cells #[.bool G2, .slice a2 L2.length k2] 35))
  have bel2 := bel_go bel1 hb2
  have hg2 : EA.ErrT (w2.alloc (.cells #[.bool G2, .slice a2 L2.length k2] 35)).drew := EA.five hg (Below.drew (bel_al bel2 _))
  have xd := X.drew.cs
  have Sd : Box (w2.alloc (.cells #[.bool G2, .slice a2 L2.length k2] 35)).drew w2.heap.size (.bool G2) (.slice a2 L2.length k2) := S
  have Sd' := Sd
  obtain ⟨sd0, sd1⟩ := Sd'
  clear ho2 bel1 hb2
  go_wp2_with fail
  go_region_held3 (fun w' => (w'.cell? ⟨w.heap.size, 0, none⟩ = some (.bool neg) ∧ w'.cell? ⟨w.heap.size, 1, none⟩ = some (.bool inf) ∧ w'.cell? ⟨w.heap.size, 2, none⟩ = some (.bool G) ∧ w'.cell? ⟨w.heap.size, 3, none⟩ = some (.slice p L.length cap) ∧ w'.cell? ⟨w.heap.size, 4, none⟩ = some (.int .i64 e)) ∧ w'.cell? ⟨w2.heap.size, 0, none⟩ = some (.bool G2) ∧ w'.cell? ⟨w2.heap.size, 1, none⟩ = some (.slice a2 L2.length k2))
    (first | with_reducible assumption | with_reducible exact ⟨xd, sd0, sd1⟩ | with_reducible exact keep59 X1 S1 (by omega) (by omega) _ _ _ _ _ _ _ _ _ _ rfl | fail)
    (first
      | (go_at_call 115; refine (CM.out _ hg2).mono ?_; rintro r q1 ⟨rfl, hq1⟩; have X1 := X.drew.below hq1; have S1 := Box.below Sd hq1; have u1 := And.intro X1.cs (And.intro S1.1 S1.2); obtain ⟨r0, r1, r2, r3, r4, r5, r6, r7, r8, f0, f1, f2, f3, f4, f5, f6, f7, f8⟩ := R.drew.below hq1))
  have ho4 := ho3.drew.below hq1
  go_wp2
  refine bodyPost_ret (v := .agg #[.int .i64 1, .bool m1, .bool m2, .bool m3, .bool m4, .bool m5, .int .i64 64, .bool G2, .slice a2 L2.length k2]) (by simp [results, Tryz.results61, go_sem, r0, r1, r2, r3, r4, r5, r6, r7, r8]) rfl ⟨a2, k2, rfl, ?_, ?_⟩
  · refine Own.base (B := w1.heap.size + 1) ?_ (by omega)
    repeat (first | with_reducible exact ho4 | (with_reducible refine Own.setBelow ?_ ?_ _; rotate_left; (simp; try omega)))
  · exact (by repeat (first | (with_reducible refine Below.setCell ?_ ?_ _; rotate_left; focus (first | omega | (simp; done) | (simp; omega))) | (with_reducible exact Below.refl _ _) | (with_reducible refine Below.drew ?_) | (with_reducible refine bel_dn ?_ _) | (with_reducible refine bel_al ?_ _) | (with_reducible refine bel_go ?_ hq1) | (with_reducible refine bel_go ?_ bel2) | (with_reducible refine Below.alloc ?_ ?_ _; rotate_left; focus (first | omega | (simp; done) | (simp; omega))) | (with_reducible refine Below.trans ?_ (Below.mono hq1 ?_); rotate_left; focus (first | omega | (simp; done) | (simp; omega))) | (with_reducible refine Below.trans ?_ (Below.mono bel2 ?_); rotate_left; focus (first | omega | (simp; done) | (simp; omega)))))
end Go.Proofs.YtpoojmheegncfaaGreatDoor
/-
  The package's table of formats, as the row's list tells it: its cells.
-/
namespace Go.Proofs.YtpoojmheegncfaaGreatDoor
set_option linter.unusedVariables false
set_option linter.unusedSimpArgs false
namespace Ld
open Go.RowKit Go.Deep
theorem own : ownKnob Tryz.prog.godebug = none := by kernel_rfl
theorem laidOut : laidOutB Tryz.prog = true := by kernel_rfl
theorem gTab : Tryz.prog.globalNamed "loop.example/g00672/impl.formSizes" = some 1 := by kernel_rfl
theorem gTabType : (Tryz.prog.globals[1]?).map (·.type) = some 165 := by kernel_rfl
theorem cellsS : Tryz.prog.cellsOf 122 = 3 := by kernel_rfl
theorem cellsU : Tryz.prog.cellsOf 22 = 1 := by kernel_rfl
theorem cellsI : Tryz.prog.cellsOf 2 = 1 := by kernel_rfl

theorem bu64 {a : Int} (h : (Lit.int .u64 a).wf = true) : 0 ≤ a ∧ a < 18446744073709551616 := by have := bounds_u64 h; omega
theorem bi64 {a : Int} (h : (Lit.int .i64 a).wf = true) : -9223372036854775808 ≤ a ∧ a ≤ 9223372036854775807 := by have := bounds_i64 h; omega
theorem lt_of_var {P : Program} {w : World} {n : String} {g : Nat} {cs : Array Value} (hg : P.globalNamed n = some g) (h : w.var? P n = some cs) : g < w.heap.size := by
  simp only [World.var?, hg, Option.bind_some] at h
  by_cases hlt : g < w.heap.size
  · exact hlt
  · rw [Array.getElem?_eq_none (by omega)] at h; simp at h

/-- One row of the table: its three cells. -/
theorem three {H : Type} {enc : TypeId × Value → H} {w : World} {base : Nat} {sp : Nat → Bool} {held : Bool} {m : Nat} {cs : List Value} {a b c : Int} {q : List MemPlace}
    (h : DataW.trod enc Tryz.prog w base sp held m 122 cs = some (.agg [.lit (.int .u64 a), .lit (.int .u64 b), .lit (.int .i64 c)], q)) :
    cs[0]? = some (.int .u64 a) ∧ cs[1]? = some (.int .u64 b) ∧ cs[2]? = some (.int .i64 c) := by
  obtain ⟨y0, y1, y2, n, hx, hl, h0, h1, h2⟩ := trod_struct3 Tryz.underlying122 h
  obtain ⟨n0, e0, rfl, _⟩ := DataW.trod_int Tryz.underlying22 h0
  obtain ⟨n1, e1, rfl, _⟩ := DataW.trod_int Tryz.underlying22 h1
  obtain ⟨n2, e2, rfl, _⟩ := DataW.trod_int Tryz.underlying2 h2
  simp only [Prod.mk.injEq, DataW.agg.injEq, List.cons.injEq, DataW.lit.injEq, Lit.int.injEq, true_and, and_true] at hx
  obtain ⟨⟨rfl, rfl, rfl⟩, _⟩ := hx
  simp only [cellsU, cellsI] at e0 e1 e2
  refine ⟨?_, ?_, ?_⟩
  · have := congrArg (·[0]?) e0; simpa [List.getElem?_take, List.getElem?_drop] using this
  · have := congrArg (·[0]?) e1; simpa [List.getElem?_take, List.getElem?_drop] using this
  · have := congrArg (·[0]?) e2; simpa [List.getElem?_take, List.getElem?_drop] using this

theorem table {W : World} (h : laidMet Tryz.prog [("loop.example/g00672/impl.formSizes", Rows.laid_loop_example_g00672_impl_formSizes)] W) : Tab W := by
  obtain ⟨ps, ⟨g', t', cs, fuel, p, q, hg', ht', hvar, hd, _, _⟩, _⟩ := h
  obtain rfl := Option.some.inj (gTab.symm.trans hg')
  obtain rfl := Option.some.inj (gTabType.symm.trans ht')
  obtain ⟨xs, m, rfl, hx, hlen, hxl, hel⟩ := DataW.trod_array Tryz.underlying165 hd
  match xs, hxl with
  | [x0, x1, x2], _ =>
    simp only [Rows.laid_loop_example_g00672_impl_formSizes, Prod.mk.injEq, DataW.agg.injEq, List.map_cons, List.map_nil, List.cons.injEq, and_true] at hx
    obtain ⟨⟨hx0, hx1, hx2⟩, _⟩ := hx
    have t0 := hel 0 (by decide); have t1 := hel 1 (by decide); have t2 := hel 2 (by decide)
    simp only [cellsS, List.getElem?_cons_zero, List.getElem?_cons_succ] at t0 t1 t2
    obtain ⟨x0a, x0b⟩ := x0; obtain ⟨x1a, x1b⟩ := x1; obtain ⟨x2a, x2b⟩ := x2
    simp only at hx0 hx1 hx2
    subst hx0; subst hx1; subst hx2
    have r0 := three t0; have r1 := three t1; have r2 := three t2
    have cell : ∀ i v, cs.toList[i]? = some v → W.cell? ⟨1, i, none⟩ = some v := fun i v hv => by
      rw [World.var?_cell gTab hvar i]; simpa using hv
    simp [List.getElem?_take, List.getElem?_drop] at r0 r1 r2
    exact ⟨cell 0 _ (by simpa using r0.1), cell 1 _ (by simpa using r0.2.1), cell 2 _ (by simpa using r0.2.2), cell 3 _ (by simpa using r1.1), cell 4 _ (by simpa using r1.2.1), cell 5 _ (by simpa using r1.2.2), cell 6 _ (by simpa using r2.1), cell 7 _ (by simpa using r2.2.1), cell 8 _ (by simpa using r2.2.2)⟩
end Ld
end Go.Proofs.YtpoojmheegncfaaGreatDoor
