/-
  The walk of laws.FnWideAdd, out of contracts.
-/
import Derived.Test.YtlifpkdmcpjhpaaDrawE
import Derived.Deep.RegionHeld3
import Derived.Deep.RegionWith
import Derived.Deep.DeepCutAuto
import Derived.Deep.DrawnRows
namespace Go.Proofs.Ytlifpkdmcpjhpaa
set_option linter.unusedVariables false
set_option linter.unusedSimpArgs false
open Go.RowKit Go.Deep
namespace PAdd
theorem both {w w' : World} {b b' : Nat} {v0 v1 u0 u1 : Value} (h : Box w b v0 v1) (k : Box w b' u0 u1) (hb : Below w.heap.size w w') : w'.cell? ⟨b, 0, none⟩ = some v0 ∧ w'.cell? ⟨b, 1, none⟩ = some v1 ∧ w'.cell? ⟨b', 0, none⟩ = some u0 ∧ w'.cell? ⟨b', 1, none⟩ = some u1 :=
  ⟨(h.below hb).1, (h.below hb).2, (k.below hb).1, (k.below hb).2⟩
attribute [local go_sem ↓] Go.wp_at_zero Go.wp_at_succ
set_option maxRecDepth 4000 in
set_option maxHeartbeats 4000000 in
theorem law (ca : Option Addr) (cc : Nat) (cs : List Int) (w : World) (hs : Sl .u8 w (.slice ca cs.length cc) cs) (hby : ∀ i, 0 ≤ cs.getD i 0 ∧ cs.getD i 0 ≤ 255) (hl : cs.length ≤ 1048576)
    (hall : ∀ (na nb : Bool) (xs ys : List Int), xs.length ≤ 2000 → ys.length ≤ 2000 → Nm.Dg xs → Nm.Dg ys → ∃ (G Gk : Bool) (L Lk L2 L3 L4 : List Int) (O Ok n2 n3 n4 : Bool), L.length ≤ 200 ∧ Lk.length ≤ 200 ∧
      (∀ (w : World) (a b : Option Addr) (cap cap' : Nat), Sl .u32 w (.slice a xs.length cap) xs → Sl .u32 w (.slice b ys.length cap') ys → Calls Try.prog 22 #[.agg #[.bool na, .slice a xs.length cap], .agg #[.bool nb, .slice b ys.length cap']] w fun e w' => ∃ a' c', e = .returned (.tuple #[.agg #[.bool G, .slice a' L.length c'], .bool O]) ∧ Own w' w.heap.size a' c' L ∧ Below w.heap.size w w') ∧ (∀ (w : World) (a b : Option Addr) (cap cap' : Nat), Sl .u32 w (.slice a xs.length cap) xs → Sl .u32 w (.slice b ys.length cap') ys → Calls Try.prog 23 #[.agg #[.bool na, .slice a xs.length cap], .agg #[.bool nb, .slice b ys.length cap']] w fun e w' => ∃ a' c', e = .returned (.tuple #[.agg #[.bool G, .slice a' L.length c'], .bool O]) ∧ Own w' w.heap.size a' c' L ∧ Below w.heap.size w w') ∧ (∀ (w : World) (a b : Option Addr) (cap cap' : Nat), Sl .u32 w (.slice a ys.length cap) ys → Sl .u32 w (.slice b xs.length cap') xs → Calls Try.prog 22 #[.agg #[.bool nb, .slice a ys.length cap], .agg #[.bool na, .slice b xs.length cap']] w fun e w' => ∃ a' c', e = .returned (.tuple #[.agg #[.bool G, .slice a' L.length c'], .bool O]) ∧ Own w' w.heap.size a' c' L ∧ Below w.heap.size w w') ∧ (∀ (w : World) (a : Option Addr) (cap : Nat), Sl .u32 w (.slice a ys.length cap) ys → Calls Try.prog 25 #[.agg #[.bool nb, .slice a ys.length cap]] w fun e w' => ∃ a' c', e = .returned (.agg #[.bool n2, .slice a' L2.length c']) ∧ Own w' w.heap.size a' c' L2 ∧ Below w.heap.size w w') ∧ (∀ (w : World) (a b : Option Addr) (cap cap' : Nat), Sl .u32 w (.slice a L.length cap) L → Sl .u32 w (.slice b L2.length cap') L2 → Calls Try.prog 22 #[.agg #[.bool G, .slice a L.length cap], .agg #[.bool n2, .slice b L2.length cap']] w fun e w' => ∃ a' c', e = .returned (.tuple #[.agg #[.bool Gk, .slice a' Lk.length c'], .bool Ok]) ∧ Own w' w.heap.size a' c' Lk ∧ Below w.heap.size w w') ∧ (∀ (w : World) (a : Option Addr) (cap : Nat), Sl .u32 w (.slice a xs.length cap) xs → Calls Try.prog 25 #[.agg #[.bool na, .slice a xs.length cap]] w fun e w' => ∃ a' c', e = .returned (.agg #[.bool n3, .slice a' L3.length c']) ∧ Own w' w.heap.size a' c' L3 ∧ Below w.heap.size w w') ∧ (∀ (w : World) (a : Option Addr) (cap : Nat), Sl .u32 w (.slice a L3.length cap) L3 → Calls Try.prog 25 #[.agg #[.bool n3, .slice a L3.length cap]] w fun e w' => ∃ a' c', e = .returned (.agg #[.bool n4, .slice a' L4.length c']) ∧ Own w' w.heap.size a' c' L4 ∧ Below w.heap.size w w') ∧ (O = true → Ok = true ∧ Gk = na ∧ Lk = xs ∧ okB G L = true ∧ n4 = na ∧ L4 = xs)) :
    Calls Try.prog 3 #[.slice ca cs.length cc] w fun e w' => e = .returned (.bool true) ∧ Below w.heap.size w w' := by
  have HALL := hid hall
  clear hall
  go_enter Try.func3, Try.ntmps3
  go_wp2_with fail
  refine (big_any ca cs.length cc _ (by omega) false (by simp; omega)).mono ?_
  rintro e w0 ⟨rfl, rfl⟩
  go_wp2_with fail
  refine (drawAdd_any ca cc cs _ hs hby hl).mono ?_
  rintro e w1 ⟨na, nb, xs, ys, a1, b1, c1, d1, rfl, lx, ly, dx, dy, oa, ob, hb1⟩
  obtain ⟨G, Gk, L, Lk, L2, L3, L4, O, Ok, n2, n3, n4, hL, hLk, m1, m0, m2, q1, m3, q2, q3, hfin⟩ := HALL.out na nb xs ys lx ly dx dy
  have M1 := hid m1; have M0 := hid m0; have M2 := hid m2; have Q1 := hid q1; have M3 := hid m3; have Q2 := hid q2; have Q3 := hid q3; have HFIN := hid hfin
  clear m1 m0 m2 q1 m3 q2 q3 hfin dx dy
  have hoo : (O == O) = true := by simp
  have A := (Box.new w1 (.bool na) (.slice a1 xs.length c1) 26).alloc (.cells #[.bool nb, .slice b1 ys.length d1] 26)
  have B := Box.new2 w1 (.cells #[.bool na, .slice a1 xs.length c1] 26) (.bool nb) (.slice b1 ys.length d1) 26
  replace oa := (oa.alloc (.cells #[.bool na, .slice a1 xs.length c1] 26)).alloc (.cells #[.bool nb, .slice b1 ys.length d1] 26)
  replace ob := (ob.alloc (.cells #[.bool na, .slice a1 xs.length c1] 26)).alloc (.cells #[.bool nb, .slice b1 ys.length d1] 26)
  have hbwP := bel_al (bel_al hb1 (.cells #[.bool na, .slice a1 xs.length c1] 26)) (.cells #[.bool nb, .slice b1 ys.length d1] 26)
  have A0 := A.1
  have A1 := A.2
  have B0 := B.1
  have B1 := B.2
  go_wp2_with fail
  refine (M1.out _ a1 b1 c1 d1 oa.sl ob.sl).mono ?_
  rintro e w2 ⟨a2, c2, rfl, op, hb2⟩
  clear A0 A1 B0 B1
  replace A := A.below hb2
  replace B := B.below hb2
  replace oa := oa.below hb2
  replace ob := ob.below hb2
  have hbw2 := bel_go hbwP hb2
  replace A := A.alloc (.cells #[.bool G, .slice a2 L.length c2] 26)
  replace B := B.alloc (.cells #[.bool G, .slice a2 L.length c2] 26)
  replace oa := oa.alloc (.cells #[.bool G, .slice a2 L.length c2] 26)
  replace ob := ob.alloc (.cells #[.bool G, .slice a2 L.length c2] 26)
  replace op := op.alloc (.cells #[.bool G, .slice a2 L.length c2] 26)
  have P := Box.new w2 (.bool G) (.slice a2 L.length c2) 26
  have hbwP := bel_al hbw2 (.cells #[.bool G, .slice a2 L.length c2] 26)
  have A0 := A.1
  have A1 := A.2
  have B0 := B.1
  have B1 := B.2
  go_wp2_with fail
  refine (M0.out _ a1 b1 c1 d1 oa.sl ob.sl).mono ?_
  rintro e w3 ⟨a3, c3, rfl, ow, hb3⟩
  clear A0 A1 B0 B1
  replace A := A.below hb3
  replace B := B.below hb3
  replace P := P.below hb3
  replace oa := oa.below hb3
  replace ob := ob.below hb3
  replace op := op.below hb3
  have hbw3 := bel_go hbwP hb3
  replace A := A.alloc (.cells #[.bool G, .slice a3 L.length c3] 26)
  replace B := B.alloc (.cells #[.bool G, .slice a3 L.length c3] 26)
  replace P := P.alloc (.cells #[.bool G, .slice a3 L.length c3] 26)
  replace oa := oa.alloc (.cells #[.bool G, .slice a3 L.length c3] 26)
  replace ob := ob.alloc (.cells #[.bool G, .slice a3 L.length c3] 26)
  replace op := op.alloc (.cells #[.bool G, .slice a3 L.length c3] 26)
  replace ow := ow.alloc (.cells #[.bool G, .slice a3 L.length c3] 26)
  have W := Box.new w3 (.bool G) (.slice a3 L.length c3) 26
  have hbwP := bel_al hbw3 (.cells #[.bool G, .slice a3 L.length c3] 26)
  have B0 := B.1
  have B1 := B.2
  have A0 := A.1
  have A1 := A.2
  go_wp2_with fail
  refine (M2.out _ b1 a1 d1 c1 ob.sl oa.sl).mono ?_
  rintro e w4 ⟨a4, c4, rfl, oq, hb4⟩
  clear B0 B1 A0 A1
  replace A := A.below hb4
  replace B := B.below hb4
  replace P := P.below hb4
  replace W := W.below hb4
  replace oa := oa.below hb4
  replace ob := ob.below hb4
  replace op := op.below hb4
  replace ow := ow.below hb4
  have hbw4 := bel_go hbwP hb4
  replace A := A.alloc (.cells #[.bool G, .slice a4 L.length c4] 26)
  replace B := B.alloc (.cells #[.bool G, .slice a4 L.length c4] 26)
  replace P := P.alloc (.cells #[.bool G, .slice a4 L.length c4] 26)
  replace W := W.alloc (.cells #[.bool G, .slice a4 L.length c4] 26)
  replace oa := oa.alloc (.cells #[.bool G, .slice a4 L.length c4] 26)
  replace ob := ob.alloc (.cells #[.bool G, .slice a4 L.length c4] 26)
  replace op := op.alloc (.cells #[.bool G, .slice a4 L.length c4] 26)
  replace ow := ow.alloc (.cells #[.bool G, .slice a4 L.length c4] 26)
  replace oq := oq.alloc (.cells #[.bool G, .slice a4 L.length c4] 26)
  have Q := Box.new w4 (.bool G) (.slice a4 L.length c4) 26
  have hbwP := bel_al hbw4 (.cells #[.bool G, .slice a4 L.length c4] 26)
  have P0 := P.1
  have P1 := P.2
  have W0 := W.1
  have W1 := W.2
  go_wp2_with fail
  refine (same_yes G a2 a3 c2 c3 L _ op.sl ow.sl (by omega)).mono ?_
  rintro e w5 ⟨rfl, hb5⟩
  clear P0 P1 W0 W1
  replace A := A.below hb5
  replace B := B.below hb5
  replace P := P.below hb5
  replace W := W.below hb5
  replace Q := Q.below hb5
  replace oa := oa.below hb5
  replace ob := ob.below hb5
  replace op := op.below hb5
  replace ow := ow.below hb5
  replace oq := oq.below hb5
  have hbwP := bel_go hbwP hb5
  have Q0 := Q.1
  have Q1 := Q.2
  have P0 := P.1
  have P1 := P.2
  go_wp2_with fail
  refine (same_yes G a4 a2 c4 c2 L _ oq.sl op.sl (by omega)).mono ?_
  rintro e w6 ⟨rfl, hb6⟩
  clear Q0 Q1 P0 P1
  replace A := A.below hb6
  replace B := B.below hb6
  replace P := P.below hb6
  replace W := W.below hb6
  replace Q := Q.below hb6
  replace oa := oa.below hb6
  replace ob := ob.below hb6
  replace op := op.below hb6
  replace ow := ow.below hb6
  replace oq := oq.below hb6
  have hbwP := bel_go hbwP hb6
  cases O
  case' false =>
    have P0 := P.1
    have P1 := P.2
    have W0 := W.1
    have W1 := W.2
    go_wp2_with fail
    refine (same_yes G a2 a3 c2 c3 L _ op.sl ow.sl (by omega)).mono ?_
    rintro e w7 ⟨rfl, hb7⟩
    clear P0 P1 W0 W1
    replace A := A.below hb7
    replace B := B.below hb7
    replace P := P.below hb7
    replace W := W.below hb7
    replace Q := Q.below hb7
    replace oa := oa.below hb7
    replace ob := ob.below hb7
    replace op := op.below hb7
    replace ow := ow.below hb7
    replace oq := oq.below hb7
    have hbwP := bel_go hbwP hb7
    have Q0 := Q.1
    have Q1 := Q.2
    have P0 := P.1
    have P1 := P.2
    go_wp2_with fail
    refine (same_yes G a4 a2 c4 c2 L _ oq.sl op.sl (by omega)).mono ?_
    rintro e w8 ⟨rfl, hb8⟩
    go_wp2
    go_ret
    exact ⟨rfl, bel_go hbwP hb8⟩
  clear hoo
  have hf : true = Ok ∧ na = Gk ∧ xs = Lk ∧ okB G L = true ∧ na = n4 ∧ xs = L4 := by
    obtain ⟨u1, u2, u3, u4, u5, u6⟩ := HFIN.out rfl
    exact ⟨u1.symm, u2.symm, u3.symm, u4, u5.symm, u6.symm⟩
  clear HFIN
  obtain ⟨rfl, rfl, rfl, hok, rfl, rfl⟩ := hf
  go_upto_region 9 with fail
  have kd := both P B (w' := w6.drew) (Below.drew (Below.refl _ _))
  have lB : w2.heap.size < w6.heap.size := World.block_lt_of_cell? w6 _ P.1
  go_cut [11, 12] (fun v11 v12 wx => ∃ p : Nat, ∃ a' c', v11 = .pointer (some ⟨p, 0, none⟩) ∧ v12 = .bool true ∧ Box wx p (.bool na) (.slice a' xs.length c') ∧ Own wx w6.heap.size a' c' xs ∧ Below w6.heap.size w6 wx)
  case first =>
    go_region_held3 (fun w' => w'.cell? ⟨w2.heap.size, 0, none⟩ = some (.bool G) ∧ w'.cell? ⟨w2.heap.size, 1, none⟩ = some (.slice a2 L.length c2) ∧ w'.cell? ⟨w1.heap.size + 1, 0, none⟩ = some (.bool nb) ∧ w'.cell? ⟨w1.heap.size + 1, 1, none⟩ = some (.slice b1 ys.length d1))
      (first
        | with_reducible assumption
        | with_reducible exact both P B (bel_al (Below.drew (Below.refl _ _)) _)
        | with_reducible exact both P B (bel_al hB2 _)
        | with_reducible exact both P B (bel_al hB1 _)
        | (refine both P B (Below.setCell (Below.setCell hB2 ?_ _) ?_ _) <;> (simp; try omega)))
      (first
        | (go_at_call 25; refine (Q1.out _ b1 d1 (by first | exact Sl.drew ob.sl | exact Sl.alloc (Sl.drew ob.sl) _)).mono ?_; rintro e q1 ⟨e1, g1, rfl, hp1, hq1⟩; have hB1 : Below w6.heap.size w6 q1 := (by first | exact bel_go (Below.drew (Below.refl _ _)) hq1 | exact bel_go (bel_al (Below.drew (Below.refl _ _)) _) hq1); have z1 := hB1.size; have kq := both P B hB1; (first | (have rb1 : R2 q1 w6.heap.size (.bool false) (.slice none 0 0) := R2.below (R2.new w6.drew (.bool false) (.slice none 0 0) 26) hq1) | skip))
        | (go_at_call 22; refine (M3.out _ a2 e1 c2 g1 (by first | exact (op.below hB1).sl | exact Sl.alloc (op.below hB1).sl _) (by first | exact hp1.sl | exact Sl.alloc hp1.sl _)).mono ?_; rintro e q2 ⟨e2, g2, rfl, hp2, hq2⟩; have hB12 : Below q1.heap.size q1 q2 := (by first | exact hq2 | exact bel_go (bel_al (Below.refl _ _) _) hq2); have hB2 : Below w6.heap.size w6 q2 := bel_go hB1 hB12; have z2 := hB12.size; have kqq := both P B hB2; (first | (have rb2 := R2.below rb1 hq2; obtain ⟨t0, t1, t2, t3⟩ := rb2) | (have rb2 : R2 q2 q1.heap.size (.bool false) (.slice none 0 0) := R2.below (R2.new q1 (.bool false) (.slice none 0 0) 26) hq2; obtain ⟨t0, t1, t2, t3⟩ := rb2) | skip)))
    all_goals (go_wp2_with fail; go_meet)
    · exact ⟨q2.heap.size, e2, g2, rfl, rfl, Box.new q2 _ _ _, Own.base (hp2.alloc _) (by omega), bel_al hB2 _⟩
    · have hb2' : Own q2 (q1.heap.size + 1) e2 g2 xs := (by simpa using hp2)
      have rs := R2.set ⟨t0, t1, t2, t3⟩ (.bool na) (.slice e2 xs.length g2)
      exact ⟨q1.heap.size, e2, g2, rfl, rfl, ⟨rs.c0, rs.c1⟩, Own.base ((hb2'.setBelow (by simp) _).setBelow (by simp) _) (by omega), (hB2.setCell (by simp; omega) _).setCell (by simp; omega) _⟩
    · have rs := R2.set ⟨t0, t1, t2, t3⟩ (.bool na) (.slice e2 xs.length g2)
      have hlt := World.block_lt_of_cell? q1 _ rb1.c0
      simp at hlt
      exact ⟨w6.heap.size, e2, g2, rfl, rfl, ⟨rs.c0, rs.c1⟩, Own.base ((hp2.setBelow (by simp; omega) _).setBelow (by simp; omega) _) (by omega), (hB2.setCell (by simp) _).setCell (by simp) _⟩
  case rest =>
  rename World => w9
  obtain ⟨pc, a9, c9, rfl, rfl, Cb, oc, hb9⟩ := hcut
  replace A := A.below hb9
  replace B := B.below hb9
  replace P := P.below hb9
  replace W := W.below hb9
  replace Q := Q.below hb9
  replace oa := oa.below hb9
  replace ob := ob.below hb9
  replace op := op.below hb9
  replace ow := ow.below hb9
  replace oq := oq.below hb9
  have hbwP := bel_go hbwP hb9
  have A0 := A.1
  have A1 := A.2
  have P0 := P.1
  have P1 := P.2
  have Cb0 := Cb.1
  have Cb1 := Cb.2
  go_wp2_with fail
  go_region_with (first
    | (go_at_call_of 24 a9; refine (same_yes na a9 a1 c9 c1 xs _ (by exact Sl.drew oc.sl) (by exact Sl.drew oa.sl) (by omega)).mono ?_; rintro e v1 ⟨rfl, hv1⟩; have oa1 := oa.drew.below hv1; have op1 := op.drew.below hv1; obtain ⟨A10, A11⟩ := Box.below (w := w9.drew) ⟨A0, A1⟩ hv1; obtain ⟨P10, P11⟩ := Box.below (w := w9.drew) ⟨P0, P1⟩ hv1)
    | (go_at_call 26; refine (ok_impl G a2 c2 L _ op1.sl (by omega)).mono ?_; rintro e v2 ⟨rfl, hv2⟩; have oa2 := oa1.below hv2; obtain ⟨A20, A21⟩ := Box.below ⟨A10, A11⟩ hv2)
    | (go_at_call_of 25 a1; refine (Q2.out _ a1 c1 oa2.sl).mono ?_; rintro e v3 ⟨e3, g3, rfl, ho3, hv3⟩; have oa3 := oa2.below hv3; obtain ⟨A30, A31⟩ := Box.below ⟨A20, A21⟩ hv3)
    | (go_at_call 25; refine (Q3.out _ e3 g3 ho3.sl).mono ?_; rintro e v4 ⟨e4, g4, rfl, ho4, hv4⟩; have oa4 := oa3.below hv4; obtain ⟨A40, A41⟩ := Box.below ⟨A30, A31⟩ hv4)
    | (go_at_call 24; refine (same_yes na e4 a1 g4 c1 xs _ ho4.sl oa4.sl (by omega)).mono ?_; rintro e v5 ⟨rfl, hv5⟩))
  all_goals go_wp2
  all_goals go_ret
  all_goals exact ⟨rfl, bel_go (bel_go (bel_go (bel_go (bel_go (Below.drew hbwP) hv1) hv2) hv3) hv4) hv5⟩
end PAdd
end Go.Proofs.Ytlifpkdmcpjhpaa
