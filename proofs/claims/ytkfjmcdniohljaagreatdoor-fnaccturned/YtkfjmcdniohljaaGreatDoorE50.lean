/-
  What is needed of NC.
-/
import Derived.Test.YtkfjmcdniohljaaGreatDoorE48
set_option maxHeartbeats 16000000
set_option maxRecDepth 1000000
namespace Go.Proofs.YtkfjmcdniohljaaGreatDoor
set_option linter.unusedVariables false
set_option linter.unusedSimpArgs false
open Go.RowKit Go.Deep
theorem keep59 {w : World} {B b b' : Nat} {v0 v1 v2 v3 v4 z0 z1 : Value} (h : Q5 w b v0 v1 v2 v3 v4) (h' : Box w b' z0 z1) (n : b ≠ B) (n' : b' ≠ B) (u0 u1 u2 u3 u4 u5 u6 u7 u8 : Value) (W : World) (hW : W = (((((((((w.setCell ⟨B, 0, none⟩ u0).setCell ⟨B, 1, none⟩ u1).setCell ⟨B, 2, none⟩ u2).setCell ⟨B, 3, none⟩ u3).setCell ⟨B, 4, none⟩ u4).setCell ⟨B, 5, none⟩ u5).setCell ⟨B, 6, none⟩ u6).setCell ⟨B, 7, none⟩ u7).setCell ⟨B, 8, none⟩ u8)) :
    (W.cell? ⟨b, 0, none⟩ = some v0 ∧ W.cell? ⟨b, 1, none⟩ = some v1 ∧ W.cell? ⟨b, 2, none⟩ = some v2 ∧ W.cell? ⟨b, 3, none⟩ = some v3 ∧ W.cell? ⟨b, 4, none⟩ = some v4) ∧ W.cell? ⟨b', 0, none⟩ = some z0 ∧ W.cell? ⟨b', 1, none⟩ = some z1 := by
  subst hW
  have e := heap9n w B b' n' u0 u1 u2 u3 u4 u5 u6 u7 u8
  exact ⟨(h.of_block (heap9n w B b n u0 u1 u2 u3 u4 u5 u6 u7 u8)).cs, (World.cell?_of_block (a := ⟨b', 0, none⟩) e).trans h'.1, (World.cell?_of_block (a := ⟨b', 1, none⟩) e).trans h'.2⟩
theorem Q9.nwn (w : World) (o : Obj) (v0 v1 v2 v3 v4 v5 v6 v7 v8 : Value) (t : TypeId) : Q9 ((w.alloc o).alloc (.cells #[v0, v1, v2, v3, v4, v5, v6, v7, v8] t)) (w.heap.size + 1) v0 v1 v2 v3 v4 v5 v6 v7 v8 := by simpa using Q9.new (w.alloc o) v0 v1 v2 v3 v4 v5 v6 v7 v8 t
theorem one_32 (neg inf G : Bool) (p : Option Addr) (cap : Nat) (L : List Int) (e : Int) (ev : Value) (m1 m2 m3 m4 m5 G2 : Bool) (L2 : List Int) (w : World) (hT : Tab w) (hg : EA.ErrT w) (hs : Sl .u32 w (.slice p L.length cap) L) (h0 : -5000 ≤ e) (h1 : e ≤ 5000)
    (hm : ∀ w' : World, EA.ErrT w' → Calls Tryz.prog 203 #[.agg #[.bool neg, .bool inf, .bool G, .slice p L.length cap, .int .i64 e], ev] w' fun r w'' => r = .returned (.agg #[.int .i64 1, .bool m1, .bool m2, .bool m3, .bool m4, .bool m5]) ∧ Below w'.heap.size w' w'')
    (hw : ∀ w' : World, Sl .u32 w' (.slice p L.length cap) L → Calls Tryz.prog 21 #[.agg #[.bool G, .slice p L.length cap], .int .i64 (e + 298)] w' fun r w'' => ∃ a' c', r = .returned (.tuple #[.agg #[.bool G2, .slice a' L2.length c'], .bool true]) ∧ Own w'' w'.heap.size a' c' L2 ∧ Below w'.heap.size w' w'') :
    Calls Tryz.prog 124 #[.int .i64 32, .agg #[.bool neg, .bool inf, .bool G, .slice p L.length cap, .int .i64 e], ev] w fun r w' => ∃ a' c', r = .returned (.agg #[.int .i64 1, .bool m1, .bool m2, .bool m3, .bool m4, .bool m5, .int .i64 32, .bool G2, .slice a' L2.length c']) ∧ Own w' w.heap.size a' c' L2 ∧ Below w.heap.size w w' := by
  have CM := hid hm
  have CW := hid hw
  clear hm hw
  have hwr : IntKind.i64.wrap (e + 298) = e + 298 := by rw [IntKind.wrap_i64]; omega
  have X := (Q5.new w (.bool neg) (.bool inf) (.bool G) (.slice p L.length cap) (.int .i64 e) 98).alloc (.cells #[.int .i64 0, .bool false, .bool false, .bool false, .bool false, .bool false, .int .i64 0, .bool false, .slice none 0 0] 145)
  have R := Q9.nwn w (.cells #[.bool neg, .bool inf, .bool G, .slice p L.length cap, .int .i64 e] 98) (.int .i64 0) (.bool false) (.bool false) (.bool false) (.bool false) (.bool false) (.int .i64 0) (.bool false) (.slice none 0 0) 145
  have bel0 : Below w.heap.size w ((w.alloc (.cells #[.bool neg, .bool inf, .bool G, .slice p L.length cap, .int .i64 e] 98)).alloc (.cells #[.int .i64 0, .bool false, .bool false, .bool false, .bool false, .bool false, .int .i64 0, .bool false, .slice none 0 0] 145)) := (by repeat (first | exact bz0 _ _ | refine bz1 ?_ | refine bz2 ?_ _ | refine bz3 ?_ _ | refine bz5 ?_ _ | refine bz6 ?_ _))
  go_enter Tryz.func124, Tryz.ntmps124
  go_wp2_with fail
  refine (sizes32 _ (hT.below bel0)).mono ?_
  rintro r w1 ⟨rfl, hb1⟩
  replace X := (X.below hb1).alloc (.cells #[.int .u64 23, .int .u64 255, .int .i64 (-149)] 121)
  replace R := (R.below hb1).alloc (.cells #[.int .u64 23, .int .u64 255, .int .i64 (-149)] 121)
  have z1 := Z3.new w1 (.int .u64 23) (.int .u64 255) (.int .i64 (-149)) 121
  have bel1 := bel_al (bel_go bel0 hb1) (.cells #[.int .u64 23, .int .u64 255, .int .i64 (-149)] 121)
  clear hb1 bel0
  obtain ⟨x0, x1, x2, x3, x4⟩ := X.cs
  obtain ⟨zc0, zc1, zc2⟩ := z1
  go_wp2_with fail
  refine (CW.out _ (hs.below bel1)).mono ?_
  rintro r w2 ⟨a2, k2, rfl, ho2, hb2⟩
  clear x0 x1 x2 x3 x4 zc0 zc1 zc2
  have lr := R.lt
  have lb1 := bel1.size
  have z2 := hb2.size
  have z2' : w1.heap.size + 1 ≤ w2.heap.size := by simpa using z2
  have lw1 : w.heap.size + 1 < w1.heap.size + 1 := by simpa using lr
  replace X := (X.below hb2).alloc (.cells #[.bool G2, .slice a2 L2.length k2] 32)
  replace R := (R.below hb2).alloc (.cells #[.bool G2, .slice a2 L2.length k2] 32)
  have S := Box.new w2 (.bool G2) (.slice a2 L2.length k2) 32
  have ho3 : Own (w2.alloc (.cells #[.bool G2, .slice a2 L2.length k2] 32)) (w1.heap.size + 1) a2 k2 L2 := (by simpa using ho2.alloc (.cells #[.bool G2, .slice a2 L2.length k2] 32))
  have bel2 := bel_go bel1 hb2
  have hg2 : EA.ErrT (w2.alloc (.cells #[.bool G2, .slice a2 L2.length k2] 32)).drew := EA.five hg (Below.drew (bel_al bel2 _))
  have xd := X.drew.cs
  have Sd : Box (w2.alloc (.cells #[.bool G2, .slice a2 L2.length k2] 32)).drew w2.heap.size (.bool G2) (.slice a2 L2.length k2) := S
  have Sd' := Sd
  obtain ⟨sd0, sd1⟩ := Sd'
  clear ho2 bel1 hb2
  go_wp2_with fail
  go_region_held3 (fun w' => (w'.cell? ⟨w.heap.size, 0, none⟩ = some (.bool neg) ∧ w'.cell? ⟨w.heap.size, 1, none⟩ = some (.bool inf) ∧ w'.cell? ⟨w.heap.size, 2, none⟩ = some (.bool G) ∧ w'.cell? ⟨w.heap.size, 3, none⟩ = some (.slice p L.length cap) ∧ w'.cell? ⟨w.heap.size, 4, none⟩ = some (.int .i64 e)) ∧ w'.cell? ⟨w2.heap.size, 0, none⟩ = some (.bool G2) ∧ w'.cell? ⟨w2.heap.size, 1, none⟩ = some (.slice a2 L2.length k2))
    (first | with_reducible assumption | with_reducible exact ⟨xd, sd0, sd1⟩ | with_reducible exact keep59 X1 S1 (by omega) (by omega) _ _ _ _ _ _ _ _ _ _ rfl | fail)
    (first
      | (go_at_call 203; refine (CM.out _ hg2).mono ?_; rintro r q1 ⟨rfl, hq1⟩; have X1 := X.drew.below hq1; have S1 := Box.below Sd hq1; have u1 := And.intro X1.cs (And.intro S1.1 S1.2); obtain ⟨r0, r1, r2, r3, r4, r5, r6, r7, r8, f0, f1, f2, f3, f4, f5, f6, f7, f8⟩ := R.drew.below hq1))
  have ho4 := ho3.drew.below hq1
  go_wp2
  refine bodyPost_ret (v := .agg #[.int .i64 1, .bool m1, .bool m2, .bool m3, .bool m4, .bool m5, .int .i64 32, .bool G2, .slice a2 L2.length k2]) (by simp [results, Tryz.results124, go_sem, r0, r1, r2, r3, r4, r5, r6, r7, r8]) rfl ⟨a2, k2, rfl, ?_, ?_⟩
  · refine Own.base (B := w1.heap.size + 1) ?_ (by omega)
    repeat (first | with_reducible exact ho4 | (with_reducible refine Own.setBelow ?_ ?_ _; rotate_left; (simp; try omega)))
  · exact (by (repeat with_reducible first | refine Below.setCell ?_ ?_ _ | exact bz0 _ _ | refine bz1 ?_ | refine bz2 ?_ _ | refine bz3 ?_ _ | refine bz4 ?_ hq1 | refine bz4 ?_ bel2 | refine Below.alloc ?_ ?_ _ | refine Below.trans ?_ (Below.mono hq1 ?_) | refine Below.trans ?_ (Below.mono bel2 ?_)) <;> first | omega | (simp; done) | (simp; omega))
theorem one_64 (neg inf G : Bool) (p : Option Addr) (cap : Nat) (L : List Int) (e : Int) (ev : Value) (m1 m2 m3 m4 m5 G2 : Bool) (L2 : List Int) (w : World) (hT : Tab w) (hg : EA.ErrT w) (hs : Sl .u32 w (.slice p L.length cap) L) (h0 : -5000 ≤ e) (h1 : e ≤ 5000)
    (hm : ∀ w' : World, EA.ErrT w' → Calls Tryz.prog 203 #[.agg #[.bool neg, .bool inf, .bool G, .slice p L.length cap, .int .i64 e], ev] w' fun r w'' => r = .returned (.agg #[.int .i64 1, .bool m1, .bool m2, .bool m3, .bool m4, .bool m5]) ∧ Below w'.heap.size w' w'')
    (hw : ∀ w' : World, Sl .u32 w' (.slice p L.length cap) L → Calls Tryz.prog 21 #[.agg #[.bool G, .slice p L.length cap], .int .i64 (e + 2148)] w' fun r w'' => ∃ a' c', r = .returned (.tuple #[.agg #[.bool G2, .slice a' L2.length c'], .bool true]) ∧ Own w'' w'.heap.size a' c' L2 ∧ Below w'.heap.size w' w'') :
    Calls Tryz.prog 124 #[.int .i64 64, .agg #[.bool neg, .bool inf, .bool G, .slice p L.length cap, .int .i64 e], ev] w fun r w' => ∃ a' c', r = .returned (.agg #[.int .i64 1, .bool m1, .bool m2, .bool m3, .bool m4, .bool m5, .int .i64 64, .bool G2, .slice a' L2.length c']) ∧ Own w' w.heap.size a' c' L2 ∧ Below w.heap.size w w' := by
  have CM := hid hm
  have CW := hid hw
  clear hm hw
  have hwr : IntKind.i64.wrap (e + 2148) = e + 2148 := by rw [IntKind.wrap_i64]; omega
  have X := (Q5.new w (.bool neg) (.bool inf) (.bool G) (.slice p L.length cap) (.int .i64 e) 98).alloc (.cells #[.int .i64 0, .bool false, .bool false, .bool false, .bool false, .bool false, .int .i64 0, .bool false, .slice none 0 0] 145)
  have R := Q9.nwn w (.cells #[.bool neg, .bool inf, .bool G, .slice p L.length cap, .int .i64 e] 98) (.int .i64 0) (.bool false) (.bool false) (.bool false) (.bool false) (.bool false) (.int .i64 0) (.bool false) (.slice none 0 0) 145
  have bel0 : Below w.heap.size w ((w.alloc (.cells #[.bool neg, .bool inf, .bool G, .slice p L.length cap, .int .i64 e] 98)).alloc (.cells #[.int .i64 0, .bool false, .bool false, .bool false, .bool false, .bool false, .int .i64 0, .bool false, .slice none 0 0] 145)) := (by repeat (first | exact bz0 _ _ | refine bz1 ?_ | refine bz2 ?_ _ | refine bz3 ?_ _ | refine bz5 ?_ _ | refine bz6 ?_ _))
  go_enter Tryz.func124, Tryz.ntmps124
  go_wp2_with fail
  refine (sizes64 _ (hT.below bel0)).mono ?_
  rintro r w1 ⟨rfl, hb1⟩
  replace X := (X.below hb1).alloc (.cells #[.int .u64 52, .int .u64 2047, .int .i64 (-1074)] 121)
  replace R := (R.below hb1).alloc (.cells #[.int .u64 52, .int .u64 2047, .int .i64 (-1074)] 121)
  have z1 := Z3.new w1 (.int .u64 52) (.int .u64 2047) (.int .i64 (-1074)) 121
  have bel1 := bel_al (bel_go bel0 hb1) (.cells #[.int .u64 52, .int .u64 2047, .int .i64 (-1074)] 121)
  clear hb1 bel0
  obtain ⟨x0, x1, x2, x3, x4⟩ := X.cs
  obtain ⟨zc0, zc1, zc2⟩ := z1
  go_wp2_with fail
  refine (CW.out _ (hs.below bel1)).mono ?_
  rintro r w2 ⟨a2, k2, rfl, ho2, hb2⟩
  clear x0 x1 x2 x3 x4 zc0 zc1 zc2
  have lr := R.lt
  have lb1 := bel1.size
  have z2 := hb2.size
  have z2' : w1.heap.size + 1 ≤ w2.heap.size := by simpa using z2
  have lw1 : w.heap.size + 1 < w1.heap.size + 1 := by simpa using lr
  replace X := (X.below hb2).alloc (.cells #[.bool G2, .slice a2 L2.length k2] 32)
  replace R := (R.below hb2).alloc (.cells #[.bool G2, .slice a2 L2.length k2] 32)
  have S := Box.new w2 (.bool G2) (.slice a2 L2.length k2) 32
  have ho3 : Own (w2.alloc (.cells #[.bool G2, .slice a2 L2.length k2] 32)) (w1.heap.size + 1) a2 k2 L2 := (by simpa using ho2.alloc (.cells #[.bool G2, .slice a2 L2.length k2] 32))
  have bel2 := bel_go bel1 hb2
  have hg2 : EA.ErrT (w2.alloc (.cells #[.bool G2, .slice a2 L2.length k2] 32)).drew := EA.five hg (Below.drew (bel_al bel2 _))
  have xd := X.drew.cs
  have Sd : Box (w2.alloc (.cells #[.bool G2, .slice a2 L2.length k2] 32)).drew w2.heap.size (.bool G2) (.slice a2 L2.length k2) := S
  have Sd' := Sd
  obtain ⟨sd0, sd1⟩ := Sd'
  clear ho2 bel1 hb2
  go_wp2_with fail
  go_region_held3 (fun w' => (w'.cell? ⟨w.heap.size, 0, none⟩ = some (.bool neg) ∧ w'.cell? ⟨w.heap.size, 1, none⟩ = some (.bool inf) ∧ w'.cell? ⟨w.heap.size, 2, none⟩ = some (.bool G) ∧ w'.cell? ⟨w.heap.size, 3, none⟩ = some (.slice p L.length cap) ∧ w'.cell? ⟨w.heap.size, 4, none⟩ = some (.int .i64 e)) ∧ w'.cell? ⟨w2.heap.size, 0, none⟩ = some (.bool G2) ∧ w'.cell? ⟨w2.heap.size, 1, none⟩ = some (.slice a2 L2.length k2))
    (first | with_reducible assumption | with_reducible exact ⟨xd, sd0, sd1⟩ | with_reducible exact keep59 X1 S1 (by omega) (by omega) _ _ _ _ _ _ _ _ _ _ rfl | fail)
    (first
      | (go_at_call 203; refine (CM.out _ hg2).mono ?_; rintro r q1 ⟨rfl, hq1⟩; have X1 := X.drew.below hq1; have S1 := Box.below Sd hq1; have u1 := And.intro X1.cs (And.intro S1.1 S1.2); obtain ⟨r0, r1, r2, r3, r4, r5, r6, r7, r8, f0, f1, f2, f3, f4, f5, f6, f7, f8⟩ := R.drew.below hq1))
  have ho4 := ho3.drew.below hq1
  go_wp2
  refine bodyPost_ret (v := .agg #[.int .i64 1, .bool m1, .bool m2, .bool m3, .bool m4, .bool m5, .int .i64 64, .bool G2, .slice a2 L2.length k2]) (by simp [results, Tryz.results124, go_sem, r0, r1, r2, r3, r4, r5, r6, r7, r8]) rfl ⟨a2, k2, rfl, ?_, ?_⟩
  · refine Own.base (B := w1.heap.size + 1) ?_ (by omega)
    repeat (first | with_reducible exact ho4 | (with_reducible refine Own.setBelow ?_ ?_ _; rotate_left; (simp; try omega)))
  · exact (by (repeat with_reducible first | refine Below.setCell ?_ ?_ _ | exact bz0 _ _ | refine bz1 ?_ | refine bz2 ?_ _ | refine bz3 ?_ _ | refine bz4 ?_ hq1 | refine bz4 ?_ bel2 | refine Below.alloc ?_ ?_ _ | refine Below.trans ?_ (Below.mono hq1 ?_) | refine Below.trans ?_ (Below.mono bel2 ?_)) <;> first | omega | (simp; done) | (simp; omega))
end Go.Proofs.YtkfjmcdniohljaaGreatDoor
