/-
  The walk of laws.FnWideMul, out of contracts.
-/
import Derived.Test.YtlifpkdmcpjhpaaDrawE
import Derived.Deep.RegionHeld3
import Derived.Deep.RegionWith
import Derived.Deep.DeepCutAuto
import Derived.Deep.DrawnRows
namespace Go.Proofs.Ytlifpkdmcpjhpaa
set_option linter.unusedVariables false
set_option linter.unusedSimpArgs false
open Go.RowKit Go.Deep
namespace PMul
attribute [local go_sem ↓] Go.wp_at_zero Go.wp_at_succ
set_option maxRecDepth 4000 in
set_option maxHeartbeats 4000000 in
theorem law (ca : Option Addr) (cc : Nat) (cs : List Int) (w : World) (hs : Sl .u8 w (.slice ca cs.length cc) cs) (hby : ∀ i, 0 ≤ cs.getD i 0 ∧ cs.getD i 0 ≤ 255) (hl : cs.length ≤ 1048576)
    (hall : ∀ (na nb : Bool) (xs ys : List Int), xs.length ≤ 2000 → ys.length ≤ 2000 → Nm.Dg xs → Nm.Dg ys → ∃ (G Gc Gr Gs : Bool) (L Lc Lr Ls : List Int) (O Oc Or Os n1 : Bool) (L1 : List Int), L.length ≤ 200 ∧ Lc.length ≤ 200 ∧ Lr.length ≤ 200 ∧ Ls.length ≤ 200 ∧
      (∀ (w : World) (a b : Option Addr) (cap cap' : Nat), Sl .u32 w (.slice a xs.length cap) xs → Sl .u32 w (.slice b ys.length cap') ys → Calls Try.prog 28 #[.agg #[.bool na, .slice a xs.length cap], .agg #[.bool nb, .slice b ys.length cap']] w fun e w' => ∃ a' c', e = .returned (.tuple #[.agg #[.bool G, .slice a' L.length c'], .bool O]) ∧ Own w' w.heap.size a' c' L ∧ Below w.heap.size w w') ∧ (∀ (w : World) (a b : Option Addr) (cap cap' : Nat), Sl .u32 w (.slice a xs.length cap) xs → Sl .u32 w (.slice b ys.length cap') ys → Calls Try.prog 29 #[.agg #[.bool na, .slice a xs.length cap], .agg #[.bool nb, .slice b ys.length cap']] w fun e w' => ∃ a' c', e = .returned (.tuple #[.agg #[.bool G, .slice a' L.length c'], .bool O]) ∧ Own w' w.heap.size a' c' L ∧ Below w.heap.size w w') ∧ (∀ (w : World) (a b : Option Addr) (cap cap' : Nat), Sl .u32 w (.slice a ys.length cap) ys → Sl .u32 w (.slice b xs.length cap') xs → Calls Try.prog 28 #[.agg #[.bool nb, .slice a ys.length cap], .agg #[.bool na, .slice b xs.length cap']] w fun e w' => ∃ a' c', e = .returned (.tuple #[.agg #[.bool G, .slice a' L.length c'], .bool O]) ∧ Own w' w.heap.size a' c' L ∧ Below w.heap.size w w') ∧ (∀ w : World, Calls Try.prog 30 #[.int .i64 1] w fun e w' => ∃ a' c', e = .returned (.agg #[.bool n1, .slice a' L1.length c']) ∧ Own w' w.heap.size a' c' L1 ∧ Below w.heap.size w w') ∧ (∀ (w : World) (a b : Option Addr) (cap cap' : Nat), Sl .u32 w (.slice a ys.length cap) ys → Sl .u32 w (.slice b L1.length cap') L1 → Calls Try.prog 22 #[.agg #[.bool nb, .slice a ys.length cap], .agg #[.bool n1, .slice b L1.length cap']] w fun e w' => ∃ a' c', e = .returned (.tuple #[.agg #[.bool Gc, .slice a' Lc.length c'], .bool Oc]) ∧ Own w' w.heap.size a' c' Lc ∧ Below w.heap.size w w') ∧ (∀ (w : World) (a b : Option Addr) (cap cap' : Nat), Sl .u32 w (.slice a xs.length cap) xs → Sl .u32 w (.slice b Lc.length cap') Lc → Calls Try.prog 28 #[.agg #[.bool na, .slice a xs.length cap], .agg #[.bool Gc, .slice b Lc.length cap']] w fun e w' => ∃ a' c', e = .returned (.tuple #[.agg #[.bool Gr, .slice a' Lr.length c'], .bool Or]) ∧ Own w' w.heap.size a' c' Lr ∧ Below w.heap.size w w') ∧ (∀ (w : World) (a b : Option Addr) (cap cap' : Nat), Sl .u32 w (.slice a L.length cap) L → Sl .u32 w (.slice b xs.length cap') xs → Calls Try.prog 22 #[.agg #[.bool G, .slice a L.length cap], .agg #[.bool na, .slice b xs.length cap']] w fun e w' => ∃ a' c', e = .returned (.tuple #[.agg #[.bool Gs, .slice a' Ls.length c'], .bool Os]) ∧ Own w' w.heap.size a' c' Ls ∧ Below w.heap.size w w') ∧ (O = true → Oc = true → Or = true → Os = true → Gr = Gs ∧ Lr = Ls)) :
    Calls Try.prog 4 #[.slice ca cs.length cc] w fun e w' => e = .returned (.bool true) ∧ Below w.heap.size w w' := by
  have HALL := hid hall
  clear hall
  go_enter Try.func4, Try.ntmps4
  go_wp2_with fail
  refine (big_any ca cs.length cc _ (by omega) false (by simp; omega)).mono ?_
  rintro e w0 ⟨rfl, rfl⟩
  go_wp2_with fail
  refine (drawMul_any ca cc cs _ hs hby hl).mono ?_
  rintro e w1 ⟨na, nb, xs, ys, a1, b1, c1, d1, rfl, lx, ly, dx, dy, oa, ob, hb1⟩
  obtain ⟨G, Gc, Gr, Gs, L, Lc, Lr, Ls, O, Oc, Or, Os, n1, L1, hL, hLc, hLr, hLs, m1, m0, m2, f1, p1, m3, p2, hfin⟩ := HALL.out na nb xs ys lx ly dx dy
  have M1 := hid m1; have M0 := hid m0; have M2 := hid m2; have F1 := hid f1; have P1 := hid p1; have M3 := hid m3; have P2 := hid p2; have HFIN := hid hfin
  clear m1 m0 m2 f1 p1 m3 p2 hfin dx dy
  have hoo : (O == O) = true := by simp
  have A := (Box.new w1 (.bool na) (.slice a1 xs.length c1) 26).alloc (.cells #[.bool nb, .slice b1 ys.length d1] 26)
  have B := Box.new2 w1 (.cells #[.bool na, .slice a1 xs.length c1] 26) (.bool nb) (.slice b1 ys.length d1) 26
  replace oa := (oa.alloc (.cells #[.bool na, .slice a1 xs.length c1] 26)).alloc (.cells #[.bool nb, .slice b1 ys.length d1] 26)
  replace ob := (ob.alloc (.cells #[.bool na, .slice a1 xs.length c1] 26)).alloc (.cells #[.bool nb, .slice b1 ys.length d1] 26)
  have hbwP := bel_al (bel_al hb1 (.cells #[.bool na, .slice a1 xs.length c1] 26)) (.cells #[.bool nb, .slice b1 ys.length d1] 26)
  have A0 := A.1
  have A1 := A.2
  have B0 := B.1
  have B1 := B.2
  go_wp2_with fail
  refine (M1.out _ a1 b1 c1 d1 oa.sl ob.sl).mono ?_
  rintro e w2 ⟨a2, c2, rfl, op, hb2⟩
  clear A0 A1 B0 B1
  replace A := A.below hb2
  replace B := B.below hb2
  replace oa := oa.below hb2
  replace ob := ob.below hb2
  have hbw2 := bel_go hbwP hb2
  replace A := A.alloc (.cells #[.bool G, .slice a2 L.length c2] 26)
  replace B := B.alloc (.cells #[.bool G, .slice a2 L.length c2] 26)
  replace oa := oa.alloc (.cells #[.bool G, .slice a2 L.length c2] 26)
  replace ob := ob.alloc (.cells #[.bool G, .slice a2 L.length c2] 26)
  replace op := op.alloc (.cells #[.bool G, .slice a2 L.length c2] 26)
  have P := Box.new w2 (.bool G) (.slice a2 L.length c2) 26
  have hbwP := bel_al hbw2 (.cells #[.bool G, .slice a2 L.length c2] 26)
  have A0 := A.1
  have A1 := A.2
  have B0 := B.1
  have B1 := B.2
  go_wp2_with fail
  refine (M0.out _ a1 b1 c1 d1 oa.sl ob.sl).mono ?_
  rintro e w3 ⟨a3, c3, rfl, ow, hb3⟩
  clear A0 A1 B0 B1
  replace A := A.below hb3
  replace B := B.below hb3
  replace P := P.below hb3
  replace oa := oa.below hb3
  replace ob := ob.below hb3
  replace op := op.below hb3
  have hbw3 := bel_go hbwP hb3
  replace A := A.alloc (.cells #[.bool G, .slice a3 L.length c3] 26)
  replace B := B.alloc (.cells #[.bool G, .slice a3 L.length c3] 26)
  replace P := P.alloc (.cells #[.bool G, .slice a3 L.length c3] 26)
  replace oa := oa.alloc (.cells #[.bool G, .slice a3 L.length c3] 26)
  replace ob := ob.alloc (.cells #[.bool G, .slice a3 L.length c3] 26)
  replace op := op.alloc (.cells #[.bool G, .slice a3 L.length c3] 26)
  replace ow := ow.alloc (.cells #[.bool G, .slice a3 L.length c3] 26)
  have W := Box.new w3 (.bool G) (.slice a3 L.length c3) 26
  have hbwP := bel_al hbw3 (.cells #[.bool G, .slice a3 L.length c3] 26)
  have B0 := B.1
  have B1 := B.2
  have A0 := A.1
  have A1 := A.2
  go_wp2_with fail
  refine (M2.out _ b1 a1 d1 c1 ob.sl oa.sl).mono ?_
  rintro e w4 ⟨a4, c4, rfl, oq, hb4⟩
  clear B0 B1 A0 A1
  replace A := A.below hb4
  replace B := B.below hb4
  replace P := P.below hb4
  replace W := W.below hb4
  replace oa := oa.below hb4
  replace ob := ob.below hb4
  replace op := op.below hb4
  replace ow := ow.below hb4
  have hbw4 := bel_go hbwP hb4
  replace A := A.alloc (.cells #[.bool G, .slice a4 L.length c4] 26)
  replace B := B.alloc (.cells #[.bool G, .slice a4 L.length c4] 26)
  replace P := P.alloc (.cells #[.bool G, .slice a4 L.length c4] 26)
  replace W := W.alloc (.cells #[.bool G, .slice a4 L.length c4] 26)
  replace oa := oa.alloc (.cells #[.bool G, .slice a4 L.length c4] 26)
  replace ob := ob.alloc (.cells #[.bool G, .slice a4 L.length c4] 26)
  replace op := op.alloc (.cells #[.bool G, .slice a4 L.length c4] 26)
  replace ow := ow.alloc (.cells #[.bool G, .slice a4 L.length c4] 26)
  replace oq := oq.alloc (.cells #[.bool G, .slice a4 L.length c4] 26)
  have Q := Box.new w4 (.bool G) (.slice a4 L.length c4) 26
  have hbwP := bel_al hbw4 (.cells #[.bool G, .slice a4 L.length c4] 26)
  have P0 := P.1
  have P1 := P.2
  have W0 := W.1
  have W1 := W.2
  go_wp2_with fail
  refine (same_yes G a2 a3 c2 c3 L _ op.sl ow.sl (by omega)).mono ?_
  rintro e w5 ⟨rfl, hb5⟩
  clear P0 P1 W0 W1
  replace A := A.below hb5
  replace B := B.below hb5
  replace P := P.below hb5
  replace W := W.below hb5
  replace Q := Q.below hb5
  replace oa := oa.below hb5
  replace ob := ob.below hb5
  replace op := op.below hb5
  replace ow := ow.below hb5
  replace oq := oq.below hb5
  have hbwP := bel_go hbwP hb5
  have P0 := P.1
  have P1 := P.2
  have Q0 := Q.1
  have Q1 := Q.2
  go_wp2_with fail
  refine (same_yes G a2 a4 c2 c4 L _ op.sl oq.sl (by omega)).mono ?_
  rintro e w6 ⟨rfl, hb6⟩
  clear P0 P1 Q0 Q1
  replace A := A.below hb6
  replace B := B.below hb6
  replace P := P.below hb6
  replace W := W.below hb6
  replace Q := Q.below hb6
  replace oa := oa.below hb6
  replace ob := ob.below hb6
  replace op := op.below hb6
  replace ow := ow.below hb6
  replace oq := oq.below hb6
  have hbwP := bel_go hbwP hb6
  cases O
  case' false =>
    have P0 := P.1
    have P1 := P.2
    have W0 := W.1
    have W1 := W.2
    go_wp2_with fail
    refine (same_yes G a2 a3 c2 c3 L _ op.sl ow.sl (by omega)).mono ?_
    rintro e w7 ⟨rfl, hb7⟩
    clear P0 P1 W0 W1
    replace A := A.below hb7
    replace B := B.below hb7
    replace P := P.below hb7
    replace W := W.below hb7
    replace Q := Q.below hb7
    replace oa := oa.below hb7
    replace ob := ob.below hb7
    replace op := op.below hb7
    replace ow := ow.below hb7
    replace oq := oq.below hb7
    have hbwP := bel_go hbwP hb7
    have P0 := P.1
    have P1 := P.2
    have Q0 := Q.1
    have Q1 := Q.2
    go_wp2_with fail
    refine (same_yes G a2 a4 c2 c4 L _ op.sl oq.sl (by omega)).mono ?_
    rintro e w8 ⟨rfl, hb8⟩
    go_wp2
    go_ret
    exact ⟨rfl, bel_go hbwP hb8⟩
  clear hoo
  have B0 := B.1
  have B1 := B.2
  go_upto_region 9 with fail
  obtain ⟨BB, hBB⟩ : ∃ BB, BB = w1.heap.size + 1 := ⟨_, rfl⟩
  have kd : w6.drew.cell? ⟨w1.heap.size + 1, 0, none⟩ = some (.bool nb) ∧ w6.drew.cell? ⟨w1.heap.size + 1, 1, none⟩ = some (.slice b1 ys.length d1) := ⟨B0, B1⟩
  clear hBB BB
  have lB : w1.heap.size + 1 < w6.heap.size := World.block_lt_of_cell? w6 _ B0
  go_cut [11, 12] (fun v11 v12 wx => ∃ p : Nat, ∃ a' c', v11 = .pointer (some ⟨p, 0, none⟩) ∧ v12 = .bool Oc ∧ Box wx p (.bool Gc) (.slice a' Lc.length c') ∧ Own wx w6.heap.size a' c' Lc ∧ Below w6.heap.size w6 wx)
  case first =>
    go_region_held3 (fun w' => w'.cell? ⟨w1.heap.size + 1, 0, none⟩ = some (.bool nb) ∧ w'.cell? ⟨w1.heap.size + 1, 1, none⟩ = some (.slice b1 ys.length d1))
      (first
        | with_reducible assumption
        | with_reducible exact Box.below (w := w6) ⟨B0, B1⟩ (bel_al (Below.drew (Below.refl _ _)) _)
        | with_reducible exact Box.below (w := w6) ⟨B0, B1⟩ (bel_al hB2 _)
        | with_reducible exact Box.below (w := w6) ⟨B0, B1⟩ (bel_al hB1 _)
        | exact Box.below (w := w6) ⟨B0, B1⟩ (bel_al (Below.drew (Below.refl _ _)) _)
        | exact Box.below (w := w6) ⟨B0, B1⟩ (bel_al hB1 _)
        | exact Box.below (w := w6) ⟨B0, B1⟩ (bel_al hB2 _)
        | (refine Box.below (w := w6) ⟨B0, B1⟩ (Below.setCell (Below.setCell hB2 ?_ _) ?_ _) <;> (simp; try omega)))
      (first
        | (go_at_call 30; refine (F1.out _).mono ?_; rintro e q1 ⟨e1, g1, rfl, hp1, hq1⟩; have hB1 : Below w6.heap.size w6 q1 := (by first | exact bel_go (Below.drew (Below.refl _ _)) hq1 | exact bel_go (bel_al (Below.drew (Below.refl _ _)) _) hq1); have z1 := hB1.size; have kq1 := Box.below (w := w6) ⟨B0, B1⟩ hB1; obtain ⟨kq10, kq11⟩ := kq1; have kq := And.intro kq10 kq11; (first | (have rb1 : R2 q1 w6.heap.size (.bool false) (.slice none 0 0) := R2.below (R2.new w6.drew (.bool false) (.slice none 0 0) 26) hq1) | skip))
        | (go_at_call 22; refine (P1.out _ b1 e1 d1 g1 (by first | exact (ob.below hB1).sl | exact Sl.alloc (ob.below hB1).sl _) (by first | exact hp1.sl | exact Sl.alloc hp1.sl _)).mono ?_; rintro e q2 ⟨e2, g2, rfl, hp2, hq2⟩; have hB12 : Below q1.heap.size q1 q2 := (by first | exact hq2 | exact bel_go (bel_al (Below.refl _ _) _) hq2); have hB2 : Below w6.heap.size w6 q2 := bel_go hB1 hB12; have z2 := hB12.size; have kq2 := Box.below (w := w6) ⟨B0, B1⟩ hB2; obtain ⟨kq20, kq21⟩ := kq2; have kqq := And.intro kq20 kq21; (first | (have rb2 := R2.below rb1 hq2; obtain ⟨t0, t1, t2, t3⟩ := rb2) | (have rb2 : R2 q2 q1.heap.size (.bool false) (.slice none 0 0) := R2.below (R2.new q1 (.bool false) (.slice none 0 0) 26) hq2; obtain ⟨t0, t1, t2, t3⟩ := rb2) | skip)))
    all_goals (go_wp2_with fail; go_meet)
    · exact ⟨q2.heap.size, e2, g2, rfl, rfl, Box.new q2 _ _ _, Own.base (hp2.alloc _) (by omega), bel_al hB2 _⟩
    · have hb2' : Own q2 (q1.heap.size + 1) e2 g2 Lc := (by simpa using hp2)
      have rs := R2.set ⟨t0, t1, t2, t3⟩ (.bool Gc) (.slice e2 Lc.length g2)
      exact ⟨q1.heap.size, e2, g2, rfl, rfl, ⟨rs.c0, rs.c1⟩, Own.base ((hb2'.setBelow (by simp) _).setBelow (by simp) _) (by omega), (hB2.setCell (by simp; omega) _).setCell (by simp; omega) _⟩
    · have rs := R2.set ⟨t0, t1, t2, t3⟩ (.bool Gc) (.slice e2 Lc.length g2)
      have hlt := World.block_lt_of_cell? q1 _ rb1.c0
      simp at hlt
      exact ⟨w6.heap.size, e2, g2, rfl, rfl, ⟨rs.c0, rs.c1⟩, Own.base ((hp2.setBelow (by simp; omega) _).setBelow (by simp; omega) _) (by omega), (hB2.setCell (by simp) _).setCell (by simp) _⟩
  case rest =>
  rename World => w9
  obtain ⟨pc, a9, c9, rfl, rfl, Cb, oc, hb9⟩ := hcut
  clear B0 B1
  replace A := A.below hb9
  replace B := B.below hb9
  replace P := P.below hb9
  replace W := W.below hb9
  replace Q := Q.below hb9
  replace oa := oa.below hb9
  replace ob := ob.below hb9
  replace op := op.below hb9
  replace ow := ow.below hb9
  replace oq := oq.below hb9
  have hbwP := bel_go hbwP hb9
  have A0 := A.1
  have A1 := A.2
  have Cb0 := Cb.1
  have Cb1 := Cb.2
  go_wp2_with fail
  refine (M3.out _ a1 a9 c1 c9 oa.sl oc.sl).mono ?_
  rintro e w10 ⟨a10, c10, rfl, orr, hb10⟩
  clear A0 A1 Cb0 Cb1
  replace A := A.below hb10
  replace B := B.below hb10
  replace P := P.below hb10
  replace W := W.below hb10
  replace Q := Q.below hb10
  replace Cb := Cb.below hb10
  replace oa := oa.below hb10
  replace ob := ob.below hb10
  replace op := op.below hb10
  replace ow := ow.below hb10
  replace oq := oq.below hb10
  replace oc := oc.below hb10
  have hbw10 := bel_go hbwP hb10
  replace A := A.alloc (.cells #[.bool Gr, .slice a10 Lr.length c10] 26)
  replace B := B.alloc (.cells #[.bool Gr, .slice a10 Lr.length c10] 26)
  replace P := P.alloc (.cells #[.bool Gr, .slice a10 Lr.length c10] 26)
  replace W := W.alloc (.cells #[.bool Gr, .slice a10 Lr.length c10] 26)
  replace Q := Q.alloc (.cells #[.bool Gr, .slice a10 Lr.length c10] 26)
  replace Cb := Cb.alloc (.cells #[.bool Gr, .slice a10 Lr.length c10] 26)
  replace oa := oa.alloc (.cells #[.bool Gr, .slice a10 Lr.length c10] 26)
  replace ob := ob.alloc (.cells #[.bool Gr, .slice a10 Lr.length c10] 26)
  replace op := op.alloc (.cells #[.bool Gr, .slice a10 Lr.length c10] 26)
  replace ow := ow.alloc (.cells #[.bool Gr, .slice a10 Lr.length c10] 26)
  replace oq := oq.alloc (.cells #[.bool Gr, .slice a10 Lr.length c10] 26)
  replace oc := oc.alloc (.cells #[.bool Gr, .slice a10 Lr.length c10] 26)
  replace orr := orr.alloc (.cells #[.bool Gr, .slice a10 Lr.length c10] 26)
  have R := Box.new w10 (.bool Gr) (.slice a10 Lr.length c10) 26
  have hbwP := bel_al hbw10 (.cells #[.bool Gr, .slice a10 Lr.length c10] 26)
  have P0 := P.1
  have P1 := P.2
  have A0 := A.1
  have A1 := A.2
  go_wp2_with fail
  refine (P2.out _ a2 a1 c2 c1 op.sl oa.sl).mono ?_
  rintro e w11 ⟨a11, c11, rfl, oss, hb11⟩
  clear P0 P1 A0 A1
  replace A := A.below hb11
  replace B := B.below hb11
  replace P := P.below hb11
  replace W := W.below hb11
  replace Q := Q.below hb11
  replace Cb := Cb.below hb11
  replace R := R.below hb11
  replace oa := oa.below hb11
  replace ob := ob.below hb11
  replace op := op.below hb11
  replace ow := ow.below hb11
  replace oq := oq.below hb11
  replace oc := oc.below hb11
  replace orr := orr.below hb11
  have hbw11 := bel_go hbwP hb11
  replace A := A.alloc (.cells #[.bool Gs, .slice a11 Ls.length c11] 26)
  replace B := B.alloc (.cells #[.bool Gs, .slice a11 Ls.length c11] 26)
  replace P := P.alloc (.cells #[.bool Gs, .slice a11 Ls.length c11] 26)
  replace W := W.alloc (.cells #[.bool Gs, .slice a11 Ls.length c11] 26)
  replace Q := Q.alloc (.cells #[.bool Gs, .slice a11 Ls.length c11] 26)
  replace Cb := Cb.alloc (.cells #[.bool Gs, .slice a11 Ls.length c11] 26)
  replace R := R.alloc (.cells #[.bool Gs, .slice a11 Ls.length c11] 26)
  replace oa := oa.alloc (.cells #[.bool Gs, .slice a11 Ls.length c11] 26)
  replace ob := ob.alloc (.cells #[.bool Gs, .slice a11 Ls.length c11] 26)
  replace op := op.alloc (.cells #[.bool Gs, .slice a11 Ls.length c11] 26)
  replace ow := ow.alloc (.cells #[.bool Gs, .slice a11 Ls.length c11] 26)
  replace oq := oq.alloc (.cells #[.bool Gs, .slice a11 Ls.length c11] 26)
  replace oc := oc.alloc (.cells #[.bool Gs, .slice a11 Ls.length c11] 26)
  replace orr := orr.alloc (.cells #[.bool Gs, .slice a11 Ls.length c11] 26)
  replace oss := oss.alloc (.cells #[.bool Gs, .slice a11 Ls.length c11] 26)
  have S := Box.new w11 (.bool Gs) (.slice a11 Ls.length c11) 26
  have hbwP := bel_al hbw11 (.cells #[.bool Gs, .slice a11 Ls.length c11] 26)
  cases Oc
  · go_wp2
    go_ret
    exact ⟨rfl, hbwP⟩
  cases Or
  · go_wp2
    go_ret
    exact ⟨rfl, hbwP⟩
  cases Os
  · go_wp2
    go_ret
    exact ⟨rfl, hbwP⟩
  have hf : Gr = Gs ∧ Lr = Ls := by have := HFIN.out; simpa using this
  clear HFIN
  obtain ⟨rfl, rfl⟩ := hf
  have R0 := R.1
  have R1 := R.2
  have S0 := S.1
  have S1 := S.2
  go_wp2_with fail
  refine (same_yes Gr a10 a11 c10 c11 Lr _ orr.sl oss.sl (by omega)).mono ?_
  rintro e w12 ⟨rfl, hb12⟩
  go_wp2
  go_ret
  exact ⟨rfl, bel_go hbwP hb12⟩
end PMul
end Go.Proofs.Ytlifpkdmcpjhpaa
