/-
  The walk of laws.FnExactWideMul, out of contracts.
-/
import Derived.Test.YtlifpkdmcpjhpaaWideY
import Derived.Deep.RegionHeld3
import Derived.Deep.RegionWith
import Derived.Deep.DeepCutAuto
import Derived.Deep.DrawnRows
namespace Go.Proofs.Ytlifpkdmcpjhpaa
set_option linter.unusedVariables false
set_option linter.unusedSimpArgs false
open Go.RowKit Go.Deep
namespace LWideMul
theorem keep4 {w w' : World} {b b' : Nat} {v0 v1 u0 u1 : Value} (h0 : w.cell? ⟨b, 0, none⟩ = some v0) (h1 : w.cell? ⟨b, 1, none⟩ = some v1) (k0 : w.cell? ⟨b', 0, none⟩ = some u0) (k1 : w.cell? ⟨b', 1, none⟩ = some u1) (hb : Below w.heap.size w w') :
    w'.cell? ⟨b, 0, none⟩ = some v0 ∧ w'.cell? ⟨b, 1, none⟩ = some v1 ∧ w'.cell? ⟨b', 0, none⟩ = some u0 ∧ w'.cell? ⟨b', 1, none⟩ = some u1 :=
  ⟨(Box.below ⟨h0, h1⟩ hb).1, (Box.below ⟨h0, h1⟩ hb).2, (Box.below ⟨k0, k1⟩ hb).1, (Box.below ⟨k0, k1⟩ hb).2⟩
theorem four_below (W : World) {W' : World} {b b' : Nat} {v0 v1 u0 u1 : Value} (h0 : W.cell? ⟨b, 0, none⟩ = some v0) (h1 : W.cell? ⟨b, 1, none⟩ = some v1) (k0 : W.cell? ⟨b', 0, none⟩ = some u0) (k1 : W.cell? ⟨b', 1, none⟩ = some u1) (hb : Below W.heap.size W W') :
    W'.cell? ⟨b, 0, none⟩ = some v0 ∧ W'.cell? ⟨b, 1, none⟩ = some v1 ∧ W'.cell? ⟨b', 0, none⟩ = some u0 ∧ W'.cell? ⟨b', 1, none⟩ = some u1 := keep4 h0 h1 k0 k1 hb
attribute [local go_sem ↓] Go.wp_at_zero Go.wp_at_succ
set_option maxRecDepth 4000 in
set_option maxHeartbeats 8000000 in
theorem law (na nb : Bool) (a b : Option Addr) (cap cap' : Nat) (xs ys : List Int) (w : World) (hx : Sl .u32 w (.slice a xs.length cap) xs) (hy : Sl .u32 w (.slice b ys.length cap') ys) (G : Bool) (L : List Int) (O : Bool) (hl200 : L.length ≤ 200) (hdg : Nm.Dg L) (hnx : xs.length ≤ 1048576) (hny : ys.length ≤ 1048576) (hsum : xs.length + ys.length ≤ 1048576)
    (hsp : ∀ (w : World) (a b : Option Addr) (cap cap' : Nat), Sl .u32 w (.slice a xs.length cap) xs → Sl .u32 w (.slice b ys.length cap') ys → Calls Try.prog 29 #[.agg #[.bool na, .slice a xs.length cap], .agg #[.bool nb, .slice b ys.length cap']] w fun e w' => ∃ a' c', e = .returned (.tuple #[.agg #[.bool G, .slice a' L.length c'], .bool O]) ∧ Own w' w.heap.size a' c' L ∧ Below w.heap.size w w')
    (him : ∀ (w : World) (a b : Option Addr) (cap cap' : Nat), Sl .u32 w (.slice a xs.length cap) xs → Sl .u32 w (.slice b ys.length cap') ys → Calls Try.prog 28 #[.agg #[.bool na, .slice a xs.length cap], .agg #[.bool nb, .slice b ys.length cap']] w fun e w' => ∃ a' c', e = .returned (.tuple #[.agg #[.bool G, .slice a' L.length c'], .bool O]) ∧ Own w' w.heap.size a' c' L ∧ Below w.heap.size w w') :
    Calls Try.prog 13 #[.agg #[.bool na, .slice a xs.length cap], .agg #[.bool nb, .slice b ys.length cap']] w fun e w' => e = .returned (.bool true) ∧ Below w.heap.size w w' := by
  have hlx : xs.length ≤ 140737488355328 := by omega
  have hly : ys.length ≤ 140737488355328 := by omega
  have hr1 : szR 1048576 xs.length = 1048576 - xs.length := by unfold szR; rw [if_neg (by omega)]
  have hr2 : szR (1048576 - xs.length) ys.length = 1048576 - xs.length - ys.length := by unfold szR; rw [if_neg (by omega)]
  have hse := eqW_refl G L
  have hsx' := eqW_refl na xs
  have hsy' := eqW_refl nb ys
  have hoo : (O == O) = true := by simp
  have HSP := hid hsp
  have HIM := hid him
  have HDG := hid hdg
  have hr : heldR 1 (iot 1 L.length) = 1 + L.length := heldR_iot _
  have HR := hid hr
  have HS1 := hid hr1
  have HS2 := hid hr2
  clear hsp him hdg hr hr1 hr2
  go_enter Try.func13, Try.ntmps13
  have X0 := (Box.new w (.bool na) (.slice a xs.length cap) 48).alloc (.cells #[.bool nb, .slice b ys.length cap'] 48)
  have Y0 := Box.new2 w (.cells #[.bool na, .slice a xs.length cap] 48) (.bool nb) (.slice b ys.length cap') 48
  have sx0 := (hx.alloc (.cells #[.bool na, .slice a xs.length cap] 48)).alloc (.cells #[.bool nb, .slice b ys.length cap'] 48)
  have sy0 := (hy.alloc (.cells #[.bool na, .slice a xs.length cap] 48)).alloc (.cells #[.bool nb, .slice b ys.length cap'] 48)
  go_wp2_with fail
  have cs1 := fun W => szW_any na a xs.length cap 1048576 W (by omega) (by decide) (by decide)
  simp only [HS1.out] at cs1
  refine (cs1 _).mono ?_
  clear cs1
  rintro e w1 ⟨rfl, hb1⟩
  obtain ⟨x10, x11⟩ := X0.below hb1
  obtain ⟨y10, y11⟩ := Y0.below hb1
  have sx1 := sx0.below hb1; have sy1 := sy0.below hb1
  go_wp2_with fail
  have cs2 := fun W => szW_any nb b ys.length cap' (1048576 - xs.length) W (by omega) (by omega) (by omega)
  simp only [HS2.out] at cs2
  refine (cs2 _).mono ?_
  clear cs2
  rintro e w2 ⟨rfl, hb2⟩
  obtain ⟨x20, x21⟩ := Box.below ⟨x10, x11⟩ hb2
  obtain ⟨y20, y21⟩ := Box.below ⟨y10, y11⟩ hb2
  have sx2 := sx1.below hb2; have sy2 := sy1.below hb2
  have hbw2 : Below w.heap.size w w2 := (by repeat (first | exact Below.refl _ _ | refine Below.drew ?_ | refine bel_dn ?_ _ | refine bel_al ?_ _ | refine bel_go ?_ hb2 | refine bel_go ?_ hb1 | refine Below.setCell ?_ (by first | omega | (simp; done) | (simp; omega)) _ | refine Below.alloc ?_ (by first | omega | (simp; done) | (simp; omega)) _ | refine Below.trans ?_ (Below.mono hb2 (by first | omega | (simp; done) | (simp; omega))) | refine Below.trans ?_ (Below.mono hb1 (by first | omega | (simp; done) | (simp; omega)))))
  go_upto_region 8 with fail
  have lW : w.heap.size + 1 < w2.heap.size := World.block_lt_of_cell? w2 _ y20
  go_cut [6, 7] (fun v6 v7 wx => ∃ p : Nat, ∃ a' c', v6 = .pointer (some ⟨p, 0, none⟩) ∧ v7 = .bool O ∧ w2.heap.size ≤ p ∧ Box wx p (.bool G) (.slice a' L.length c') ∧ Own wx w2.heap.size a' c' L ∧ Below w2.heap.size w2 wx)
  case first =>
    go_region_held3 (fun w' => w'.cell? ⟨w.heap.size, 0, none⟩ = some (.bool na) ∧ w'.cell? ⟨w.heap.size, 1, none⟩ = some (.slice a xs.length cap) ∧ w'.cell? ⟨w.heap.size + 1, 0, none⟩ = some (.bool nb) ∧ w'.cell? ⟨w.heap.size + 1, 1, none⟩ = some (.slice b ys.length cap'))
      (first
        | assumption
        | exact ⟨x20, x21, y20, y21⟩
        | exact four_below w2 x20 x21 y20 y21 (bel_al (Below.drew (Below.refl _ _)) _)
        | exact four_below w2 x20 x21 y20 y21 hB3
        | exact four_below w2 x20 x21 y20 y21 hB2
        | exact four_below w2 x20 x21 y20 y21 hB1
        | exact four_below w2 x20 x21 y20 y21 (bel_al hB3 _)
        | exact four_below w2 x20 x21 y20 y21 (bel_al hB2 _)
        | exact four_below w2 x20 x21 y20 y21 (bel_al hB1 _)
        | (refine four_below w2 x20 x21 y20 y21 ?_; refine Below.setCell (Below.setCell hB3 ?_ _) ?_ _ <;> (simp; try omega)))
      (first
        | (go_at_call_of 51 xs; refine (toW_any na (.slice a xs.length cap) xs _ (by first | exact Sl.drew sx2 | exact Sl.alloc (Sl.drew sx2) _) hnx).mono ?_; rintro e q1 ⟨d1, f1, rfl, hp1, hq1⟩; have hB1 : Below w2.heap.size w2 q1 := (by first | exact bel_go (Below.drew (Below.refl _ _)) hq1 | exact bel_go (bel_al (Below.drew (Below.refl _ _)) _) hq1); have z1 := hB1.size; (first | (have rb1 : R2 q1 w2.heap.size (.bool false) (.slice none 0 0) := R2.below (R2.new w2.drew (.bool false) (.slice none 0 0) 26) hq1) | skip))
        | (go_at_call_of 51 ys; refine (toW_any nb (.slice b ys.length cap') ys _ (by first | exact Sl.below sy2 hB1 | exact Sl.alloc (Sl.below sy2 hB1) _) hny).mono ?_; rintro e q2 ⟨d2, f2, rfl, hp2, hq2⟩; have hB12 : Below q1.heap.size q1 q2 := (by first | exact hq2 | exact bel_go (bel_al (Below.refl _ _) _) hq2); have hB2 : Below w2.heap.size w2 q2 := bel_go hB1 hB12; have z2 := hB12.size; (first | (have rb2 := R2.below rb1 hq2) | (have rb2 : R2 q2 q1.heap.size (.bool false) (.slice none 0 0) := R2.below (R2.new q1 (.bool false) (.slice none 0 0) 26) hq2) | skip))
        | (go_at_call 29; refine (HSP.out _ d1 d2 f1 f2 (by first | exact (Own.below hp1 hB12).sl | exact Sl.alloc (Own.below hp1 hB12).sl _) (by first | exact hp2.sl | exact Sl.alloc hp2.sl _)).mono ?_; rintro e q3 ⟨d3, f3, rfl, hp3, hq3⟩; have hB23 : Below q2.heap.size q2 q3 := (by first | exact hq3 | exact bel_go (bel_al (Below.refl _ _) _) hq3); have hB3 : Below w2.heap.size w2 q3 := bel_go hB2 hB23; have z3 := hB23.size; (first | (have rb3 := R2.below rb2 hq3; obtain ⟨c0, c1, g0, g1⟩ := rb3) | (have rb3 : R2 q3 q2.heap.size (.bool false) (.slice none 0 0) := R2.below (R2.new q2 (.bool false) (.slice none 0 0) 26) hq3; obtain ⟨c0, c1, g0, g1⟩ := rb3) | skip)))
    all_goals (go_wp2_with fail; go_meet)
    · exact ⟨q3.heap.size, d3, f3, rfl, rfl, by omega, Box.new q3 _ _ _, Own.base (hp3.alloc _) (by omega), bel_al hB3 _⟩
    · have hb3 : Own q3 (q2.heap.size + 1) d3 f3 L := (by simpa using hp3)
      have rs := R2.set ⟨c0, c1, g0, g1⟩ (.bool G) (.slice d3 L.length f3)
      exact ⟨q2.heap.size, d3, f3, rfl, rfl, by omega, ⟨rs.c0, rs.c1⟩, Own.base ((hb3.setBelow (by simp) _).setBelow (by simp) _) (by omega), (hB3.setCell (by simp; omega) _).setCell (by simp; omega) _⟩
    · have rs := R2.set ⟨c0, c1, g0, g1⟩ (.bool G) (.slice d3 L.length f3)
      have hlt := World.block_lt_of_cell? q2 _ rb2.c0
      simp at hlt
      exact ⟨q1.heap.size, d3, f3, rfl, rfl, by omega, ⟨rs.c0, rs.c1⟩, Own.base ((hp3.setBelow (by simp; omega) _).setBelow (by simp; omega) _) (by omega), (hB3.setCell (by simp; omega) _).setCell (by simp; omega) _⟩
    · have rs := R2.set ⟨c0, c1, g0, g1⟩ (.bool G) (.slice d3 L.length f3)
      have hlt := World.block_lt_of_cell? q1 _ rb1.c0
      simp at hlt
      exact ⟨w2.heap.size, d3, f3, rfl, rfl, by omega, ⟨rs.c0, rs.c1⟩, Own.base ((hp3.setBelow (by simp; omega) _).setBelow (by simp; omega) _) (by omega), (hB3.setCell (by simp) _).setCell (by simp) _⟩
  case rest =>
  rename World => w3
  obtain ⟨ps, a3, c3, rfl, rfl, hps, S, ho3, hb3⟩ := hcut
  have P : Box w2 w.heap.size (.bool na) (.slice a xs.length cap) := ⟨x20, x21⟩
  have Q : Box w2 (w.heap.size + 1) (.bool nb) (.slice b ys.length cap') := ⟨y20, y21⟩
  clear x20 x21 y20 y21 x10 x11 y10 y11 X0 Y0 sx0 sy0 sx1 sy1 hb1 hb2
  have lS : ps < w3.heap.size := World.block_lt_of_cell? w3 _ S.1
  have l23 : w2.heap.size ≤ w3.heap.size := hb3.size
  have hbw3 := bel_go hbw2 hb3
  have ho3b := ho3.block
  replace P := P.below hb3
  replace Q := Q.below hb3
  replace sx2 := sx2.below hb3
  replace sy2 := sy2.below hb3
  have P0 := P.1
  have P1 := P.2
  go_wp2_with fail
  refine (toW_any na _ xs _ sx2 hnx).mono ?_
  rintro e w4 ⟨a4, c4, rfl, ho4, hb4⟩
  have l34 : w3.heap.size ≤ w4.heap.size := hb4.size
  have hbw4 := bel_go hbw3 hb4
  have ho4b := fun g hg => ho4.at xs.length c4 g hg
  clear P0 P1
  replace P := P.below hb4
  replace Q := Q.below hb4
  replace S := S.below hb4
  replace ho3 := ho3.below hb4
  replace sx2 := sx2.below hb4
  replace sy2 := sy2.below hb4
  replace P := P.alloc (.cells #[.bool na, .slice a4 xs.length c4] 26)
  replace Q := Q.alloc (.cells #[.bool na, .slice a4 xs.length c4] 26)
  replace S := S.alloc (.cells #[.bool na, .slice a4 xs.length c4] 26)
  replace ho3 := ho3.alloc (.cells #[.bool na, .slice a4 xs.length c4] 26)
  replace ho4 := ho4.alloc (.cells #[.bool na, .slice a4 xs.length c4] 26)
  replace sx2 := sx2.alloc (.cells #[.bool na, .slice a4 xs.length c4] 26)
  replace sy2 := sy2.alloc (.cells #[.bool na, .slice a4 xs.length c4] 26)
  have T := Box.new w4 (.bool na) (.slice a4 xs.length c4) 26
  have Q0 := Q.1
  have Q1 := Q.2
  go_wp2_with fail
  refine (toW_any nb _ ys _ sy2 hny).mono ?_
  rintro e w5 ⟨a5, c5, rfl, ho5, hb5⟩
  have l45 : w4.heap.size < w5.heap.size := by have := hb5.size; simp at this; omega
  have hbw5 := bel_go (bel_al hbw4 _) hb5
  have ho5b := fun g hg => ho5.at ys.length c5 g hg
  clear Q0 Q1
  replace P := P.below hb5
  replace Q := Q.below hb5
  replace S := S.below hb5
  replace T := T.below hb5
  replace ho3 := ho3.below hb5
  replace ho4 := ho4.below hb5
  replace sx2 := sx2.below hb5
  replace sy2 := sy2.below hb5
  replace P := P.alloc (.cells #[.bool nb, .slice a5 ys.length c5] 26)
  replace Q := Q.alloc (.cells #[.bool nb, .slice a5 ys.length c5] 26)
  replace S := S.alloc (.cells #[.bool nb, .slice a5 ys.length c5] 26)
  replace T := T.alloc (.cells #[.bool nb, .slice a5 ys.length c5] 26)
  replace ho3 := ho3.alloc (.cells #[.bool nb, .slice a5 ys.length c5] 26)
  replace ho4 := ho4.alloc (.cells #[.bool nb, .slice a5 ys.length c5] 26)
  replace ho5 := ho5.alloc (.cells #[.bool nb, .slice a5 ys.length c5] 26)
  replace sx2 := sx2.alloc (.cells #[.bool nb, .slice a5 ys.length c5] 26)
  replace sy2 := sy2.alloc (.cells #[.bool nb, .slice a5 ys.length c5] 26)
  have U := Box.new w5 (.bool nb) (.slice a5 ys.length c5) 26
  have T0 := T.1
  have T1 := T.2
  have U0 := U.1
  have U1 := U.2
  go_wp2_with fail
  refine (HIM.out _ a4 a5 c4 c5 ho4.sl ho5.sl).mono ?_
  rintro e w6 ⟨a6, c6, rfl, ho6, hb6⟩
  have l56 : w5.heap.size < w6.heap.size := by have := hb6.size; simp at this; omega
  have hbw6 := bel_go (bel_al hbw5 _) hb6
  have ho6b := fun g hg => ho6.at L.length c6 g hg
  clear T0 T1 U0 U1
  replace P := P.below hb6
  replace Q := Q.below hb6
  replace S := S.below hb6
  replace T := T.below hb6
  replace U := U.below hb6
  replace ho3 := ho3.below hb6
  replace ho4 := ho4.below hb6
  replace ho5 := ho5.below hb6
  replace sx2 := sx2.below hb6
  replace sy2 := sy2.below hb6
  replace P := P.alloc (.cells #[.bool G, .slice a6 L.length c6] 26)
  replace Q := Q.alloc (.cells #[.bool G, .slice a6 L.length c6] 26)
  replace S := S.alloc (.cells #[.bool G, .slice a6 L.length c6] 26)
  replace T := T.alloc (.cells #[.bool G, .slice a6 L.length c6] 26)
  replace U := U.alloc (.cells #[.bool G, .slice a6 L.length c6] 26)
  replace ho3 := ho3.alloc (.cells #[.bool G, .slice a6 L.length c6] 26)
  replace ho4 := ho4.alloc (.cells #[.bool G, .slice a6 L.length c6] 26)
  replace ho5 := ho5.alloc (.cells #[.bool G, .slice a6 L.length c6] 26)
  replace ho6 := ho6.alloc (.cells #[.bool G, .slice a6 L.length c6] 26)
  replace sx2 := sx2.alloc (.cells #[.bool G, .slice a6 L.length c6] 26)
  replace sy2 := sy2.alloc (.cells #[.bool G, .slice a6 L.length c6] 26)
  have V := Box.new w6 (.bool G) (.slice a6 L.length c6) 26
  have V0 := V.1
  have V1 := V.2
  have S0 := S.1
  have S1 := S.2
  go_wp2_with fail
  refine (eqW_any G G a6 a3 c6 c3 L L _ ho6.sl ho3.sl (by omega)).mono ?_
  rintro e w7 ⟨rfl, hb7⟩
  have hbw7 := bel_go (bel_al hbw6 _) hb7
  clear V0 V1 S0 S1
  replace P := P.below hb7
  replace Q := Q.below hb7
  replace S := S.below hb7
  replace T := T.below hb7
  replace U := U.below hb7
  replace V := V.below hb7
  replace ho3 := ho3.below hb7
  replace ho4 := ho4.below hb7
  replace ho5 := ho5.below hb7
  replace ho6 := ho6.below hb7
  replace sx2 := sx2.below hb7
  replace sy2 := sy2.below hb7
  have P0 := P.1
  have P1 := P.2
  have T0 := T.1
  have T1 := T.2
  go_wp2_with fail
  go_region_held3 (fun w' => w'.cell? ⟨w.heap.size, 0, none⟩ = some (.bool na) ∧ w'.cell? ⟨w.heap.size, 1, none⟩ = some (.slice a xs.length cap) ∧ w'.cell? ⟨w4.heap.size, 0, none⟩ = some (.bool na) ∧ w'.cell? ⟨w4.heap.size, 1, none⟩ = some (.slice a4 xs.length c4)) (first | assumption | (refine ⟨?_, ?_, ?_, ?_⟩ <;> assumption))
    (first
      | (go_at_call 51; refine (toW_any na (.slice a xs.length cap) xs _ sx2.drew hnx).mono ?_; rintro e w8 ⟨e1, e2, rfl, he1, hbe1⟩; have four := keep4 (w := w7.drew) P0 P1 T0 T1 hbe1; have hoz := ho4.drew.below hbe1)
      | (go_at_call 52; refine (eqW_any na na a4 e1 c4 e2 xs xs _ hoz.sl he1.sl (by omega)).mono ?_; rintro e w9 ⟨rfl, hbe2⟩; have f8 := keep4 four.1 four.2.1 four.2.2.1 four.2.2.2 hbe2))
  have hbe : Below w7.heap.size w7 w9 := bel_go (bel_go (Below.drew (Below.refl _ _)) hbe1) hbe2
  have hbw9 := bel_go hbw7 hbe
  clear f8 four he1 hoz hbe1 hbe2 P0 P1 T0 T1
  replace P := P.below hbe
  replace Q := Q.below hbe
  replace S := S.below hbe
  replace T := T.below hbe
  replace U := U.below hbe
  replace V := V.below hbe
  replace ho3 := ho3.below hbe
  replace ho4 := ho4.below hbe
  replace ho5 := ho5.below hbe
  replace ho6 := ho6.below hbe
  replace sx2 := sx2.below hbe
  replace sy2 := sy2.below hbe
  clear hbe
  have Q0 := Q.1
  have Q1 := Q.2
  have U0 := U.1
  have U1 := U.2
  go_wp2_with fail
  go_region_held3 (fun w' => w'.cell? ⟨w.heap.size + 1, 0, none⟩ = some (.bool nb) ∧ w'.cell? ⟨w.heap.size + 1, 1, none⟩ = some (.slice b ys.length cap') ∧ w'.cell? ⟨w5.heap.size, 0, none⟩ = some (.bool nb) ∧ w'.cell? ⟨w5.heap.size, 1, none⟩ = some (.slice a5 ys.length c5)) (first | assumption | (refine ⟨?_, ?_, ?_, ?_⟩ <;> assumption))
    (first
      | (go_at_call 51; refine (toW_any nb (.slice b ys.length cap') ys _ sy2.drew hny).mono ?_; rintro e w10 ⟨e1, e2, rfl, he1, hbe1⟩; have four := keep4 (w := w9.drew) Q0 Q1 U0 U1 hbe1; have hoz := ho5.drew.below hbe1)
      | (go_at_call 52; refine (eqW_any nb nb a5 e1 c5 e2 ys ys _ hoz.sl he1.sl (by omega)).mono ?_; rintro e w11 ⟨rfl, hbe2⟩; have f8 := keep4 four.1 four.2.1 four.2.2.1 four.2.2.2 hbe2))
  have hbe : Below w9.heap.size w9 w11 := bel_go (bel_go (Below.drew (Below.refl _ _)) hbe1) hbe2
  have hbw11 := bel_go hbw9 hbe
  clear f8 four he1 hoz hbe1 hbe2 Q0 Q1 U0 U1
  replace P := P.below hbe
  replace Q := Q.below hbe
  replace S := S.below hbe
  replace T := T.below hbe
  replace U := U.below hbe
  replace V := V.below hbe
  replace ho3 := ho3.below hbe
  replace ho4 := ho4.below hbe
  replace ho5 := ho5.below hbe
  replace ho6 := ho6.below hbe
  replace sx2 := sx2.below hbe
  replace sy2 := sy2.below hbe
  clear hbe
  have lV : w6.heap.size < w11.heap.size := World.block_lt_of_cell? w11 _ V.1
  have lw2 : w.heap.size + 1 < w2.heap.size := lW
  have la4 : ∀ g, (Value.slice a4 xs.length c4).ownBlock = some g → w3.heap.size ≤ g ∧ g < w4.heap.size := ho4b
  have la5 : ∀ g, (Value.slice a5 ys.length c5).ownBlock = some g → w4.heap.size < g ∧ g < w5.heap.size := fun g hg => by have := ho5b g hg; simp at this; omega
  have la6 : ∀ g, (Value.slice a6 L.length c6).ownBlock = some g → w5.heap.size < g ∧ g < w6.heap.size := fun g hg => by have := ho6b g hg; simp at this; omega
  have lb3 : ∀ g, a3 = some ⟨g, 0, none⟩ → g < w3.heap.size := fun g hg => by
    rcases ho3b with ⟨e, _⟩ | ⟨g', e, _, h3⟩
    · rw [e] at hg; cases hg
    · rw [e] at hg; cases hg; exact h3
  clear ho4b ho5b ho6b ho3b
  have T0 := T.1
  have T1 := T.2
  go_wp2_with fail
  refine (markW_any na a4 c4 xs 1 _ _ ho4 hnx (by decide) (by decide)).mono ?_
  rintro e w12 ⟨rfl, hm4, hg12⟩
  clear T0 T1
  clear hm4
  replace P := Box.grown P hg12 (fun g hg => by have := la4 g hg; omega)
  replace Q := Box.grown Q hg12 (fun g hg => by have := la4 g hg; omega)
  replace S := Box.grown S hg12 (fun g hg => by have := la4 g hg; omega)
  replace T := Box.grown T hg12 (fun g hg => by have := la4 g hg; omega)
  replace U := Box.grown U hg12 (fun g hg => by have := la4 g hg; omega)
  replace V := Box.grown V hg12 (fun g hg => by have := la4 g hg; omega)
  replace ho3 := Own.kept ho3 hg12 (fun g hg hr => by have h2 := la4 g hr; have h3 := lb3 g hg; omega)
  replace ho5 := Own.kept ho5 hg12 (fun g hg hr => by have h2 := la4 g hr; have h3 := la5 g (by rw [hg]; rfl); omega)
  replace ho6 := Own.kept ho6 hg12 (fun g hg hr => by have h2 := la4 g hr; have h3 := la6 g (by rw [hg]; rfl); omega)
  have hbw12 : Below w.heap.size w w12 := bel_mark hbw11 hg12 (fun g hg => by have := la4 g hg; omega)
  clear sx2 sy2
  have U0 := U.1
  have U1 := U.2
  go_wp2_with fail
  refine (markW_any nb a5 c5 ys (1 + xs.length) _ _ ho5 hny (by omega) (by omega)).mono ?_
  rintro e w13 ⟨rfl, hm5, hg13⟩
  clear U0 U1
  clear hm5
  replace P := Box.grown P hg13 (fun g hg => by have := la5 g hg; omega)
  replace Q := Box.grown Q hg13 (fun g hg => by have := la5 g hg; omega)
  replace S := Box.grown S hg13 (fun g hg => by have := la5 g hg; omega)
  replace T := Box.grown T hg13 (fun g hg => by have := la5 g hg; omega)
  replace U := Box.grown U hg13 (fun g hg => by have := la5 g hg; omega)
  replace V := Box.grown V hg13 (fun g hg => by have := la5 g hg; omega)
  replace ho3 := Own.kept ho3 hg13 (fun g hg hr => by have h2 := la5 g hr; have h3 := lb3 g hg; omega)
  replace ho6 := Own.kept ho6 hg13 (fun g hg hr => by have h2 := la5 g hr; have h3 := la6 g (by rw [hg]; rfl); omega)
  have hbw13 : Below w.heap.size w w13 := bel_mark hbw12 hg13 (fun g hg => by have := la5 g hg; omega)
  have hk0 : ¬ ((1 : Int) + xs.length + ys.length < 0) := by omega
  have V0 := V.1
  have V1 := V.2
  have S0 := S.1
  have S1 := S.2
  go_wp2_with fail
  refine (eqW_any G G a6 a3 c6 c3 L L _ ho6.sl ho3.sl (by omega)).mono ?_
  rintro e w14 ⟨rfl, hb14⟩
  have hbw14 := bel_go hbw13 hb14
  clear V0 V1 S0 S1
  replace P := P.below hb14
  replace Q := Q.below hb14
  replace S := S.below hb14
  replace T := T.below hb14
  replace U := U.below hb14
  replace V := V.below hb14
  replace ho3 := ho3.below hb14
  replace ho6 := ho6.below hb14
  have V0 := V.1
  have V1 := V.2
  go_wp2_with fail
  refine (markW_any G a6 c6 L 1 _ _ ho6 (by omega) (by decide) (by decide)).mono ?_
  rintro e w15 ⟨rfl, hm6, hg15⟩
  clear V0 V1
  replace P := Box.grown P hg15 (fun g hg => by have := la6 g hg; omega)
  replace Q := Box.grown Q hg15 (fun g hg => by have := la6 g hg; omega)
  replace S := Box.grown S hg15 (fun g hg => by have := la6 g hg; omega)
  replace T := Box.grown T hg15 (fun g hg => by have := la6 g hg; omega)
  replace U := Box.grown U hg15 (fun g hg => by have := la6 g hg; omega)
  replace V := Box.grown V hg15 (fun g hg => by have := la6 g hg; omega)
  replace ho3 := Own.kept ho3 hg15 (fun g hg hr => by have h2 := la6 g hr; have h3 := lb3 g hg; omega)
  have hbw15 : Below w.heap.size w w15 := bel_mark hbw14 hg15 (fun g hg => by have := la6 g hg; omega)
  have sx := hx.below hbw15
  have sy := hy.below hbw15
  have HEI := hid (iot_length 1 L.length)
  have hdI := iot_dg L.length (by omega)
  have V0 := V.1
  have V1 := V.2
  go_wp2_with fail
  have cc := heldW_any G a6 c6 (iot 1 L.length) 1 w15 hm6.sl hdI (by rw [HEI.out]; omega) (by decide) (by decide)
  rw [HEI.out, HR.out] at cc
  refine cc.mono ?_
  clear cc
  rintro e w16 ⟨rfl, hb16⟩
  have hbw16 := bel_go hbw15 hb16
  clear V0 V1
  replace P := P.below hb16
  replace Q := Q.below hb16
  replace S := S.below hb16
  replace T := T.below hb16
  replace U := U.below hb16
  replace V := V.below hb16
  replace ho3 := ho3.below hb16
  replace hm6 := hm6.below hb16
  replace sx := sx.below hb16
  replace sy := sy.below hb16
  have hne : ((1 : Int) + L.length != 1 + L.length) = false := by simp
  have hq0 : ¬ ((1 : Int) + L.length < 0) := by omega
  clear lW
  have P0 := P.1
  have P1 := P.2
  have Q0 := Q.1
  have Q1 := Q.2
  go_upto_region 31 with fail
  have lW : w.heap.size + 1 < w16.heap.size := World.block_lt_of_cell? w16 _ Q0
  go_cut [15, 16] (fun v6 v7 wx => ∃ p : Nat, ∃ a' c', v6 = .pointer (some ⟨p, 0, none⟩) ∧ v7 = .bool O ∧ w16.heap.size ≤ p ∧ Box wx p (.bool G) (.slice a' L.length c') ∧ Own wx w16.heap.size a' c' L ∧ Below w16.heap.size w16 wx)
  case first =>
    go_region_held3 (fun w' => w'.cell? ⟨w.heap.size, 0, none⟩ = some (.bool na) ∧ w'.cell? ⟨w.heap.size, 1, none⟩ = some (.slice a xs.length cap) ∧ w'.cell? ⟨w.heap.size + 1, 0, none⟩ = some (.bool nb) ∧ w'.cell? ⟨w.heap.size + 1, 1, none⟩ = some (.slice b ys.length cap'))
      (first
        | assumption
        | exact ⟨P0, P1, Q0, Q1⟩
        | exact four_below w16 P0 P1 Q0 Q1 (bel_al (Below.drew (Below.refl _ _)) _)
        | exact four_below w16 P0 P1 Q0 Q1 hB3
        | exact four_below w16 P0 P1 Q0 Q1 hB2
        | exact four_below w16 P0 P1 Q0 Q1 hB1
        | exact four_below w16 P0 P1 Q0 Q1 (bel_al hB3 _)
        | exact four_below w16 P0 P1 Q0 Q1 (bel_al hB2 _)
        | exact four_below w16 P0 P1 Q0 Q1 (bel_al hB1 _)
        | (refine four_below w16 P0 P1 Q0 Q1 ?_; refine Below.setCell (Below.setCell hB3 ?_ _) ?_ _ <;> (simp; try omega)))
      (first
        | (go_at_call_of 51 xs; refine (toW_any na (.slice a xs.length cap) xs _ (by first | exact Sl.drew sx | exact Sl.alloc (Sl.drew sx) _) hnx).mono ?_; rintro e q1 ⟨d1, f1, rfl, hp1, hq1⟩; have hB1 : Below w16.heap.size w16 q1 := (by first | exact bel_go (Below.drew (Below.refl _ _)) hq1 | exact bel_go (bel_al (Below.drew (Below.refl _ _)) _) hq1); have z1 := hB1.size; (first | (have rb1 : R2 q1 w16.heap.size (.bool false) (.slice none 0 0) := R2.below (R2.new w16.drew (.bool false) (.slice none 0 0) 26) hq1) | skip))
        | (go_at_call_of 51 ys; refine (toW_any nb (.slice b ys.length cap') ys _ (by first | exact Sl.below sy hB1 | exact Sl.alloc (Sl.below sy hB1) _) hny).mono ?_; rintro e q2 ⟨d2, f2, rfl, hp2, hq2⟩; have hB12 : Below q1.heap.size q1 q2 := (by first | exact hq2 | exact bel_go (bel_al (Below.refl _ _) _) hq2); have hB2 : Below w16.heap.size w16 q2 := bel_go hB1 hB12; have z2 := hB12.size; (first | (have rb2 := R2.below rb1 hq2) | (have rb2 : R2 q2 q1.heap.size (.bool false) (.slice none 0 0) := R2.below (R2.new q1 (.bool false) (.slice none 0 0) 26) hq2) | skip))
        | (go_at_call 28; refine (HIM.out _ d1 d2 f1 f2 (by first | exact (Own.below hp1 hB12).sl | exact Sl.alloc (Own.below hp1 hB12).sl _) (by first | exact hp2.sl | exact Sl.alloc hp2.sl _)).mono ?_; rintro e q3 ⟨d3, f3, rfl, hp3, hq3⟩; have hB23 : Below q2.heap.size q2 q3 := (by first | exact hq3 | exact bel_go (bel_al (Below.refl _ _) _) hq3); have hB3 : Below w16.heap.size w16 q3 := bel_go hB2 hB23; have z3 := hB23.size; (first | (have rb3 := R2.below rb2 hq3; obtain ⟨c0, c1, g0, g1⟩ := rb3) | (have rb3 : R2 q3 q2.heap.size (.bool false) (.slice none 0 0) := R2.below (R2.new q2 (.bool false) (.slice none 0 0) 26) hq3; obtain ⟨c0, c1, g0, g1⟩ := rb3) | skip)))
    all_goals (go_wp2_with fail; go_meet)
    · exact ⟨q3.heap.size, d3, f3, rfl, rfl, by omega, Box.new q3 _ _ _, Own.base (hp3.alloc _) (by omega), bel_al hB3 _⟩
    · have hb3 : Own q3 (q2.heap.size + 1) d3 f3 L := (by simpa using hp3)
      have rs := R2.set ⟨c0, c1, g0, g1⟩ (.bool G) (.slice d3 L.length f3)
      exact ⟨q2.heap.size, d3, f3, rfl, rfl, by omega, ⟨rs.c0, rs.c1⟩, Own.base ((hb3.setBelow (by simp) _).setBelow (by simp) _) (by omega), (hB3.setCell (by simp; omega) _).setCell (by simp; omega) _⟩
    · have rs := R2.set ⟨c0, c1, g0, g1⟩ (.bool G) (.slice d3 L.length f3)
      have hlt := World.block_lt_of_cell? q2 _ rb2.c0
      simp at hlt
      exact ⟨q1.heap.size, d3, f3, rfl, rfl, by omega, ⟨rs.c0, rs.c1⟩, Own.base ((hp3.setBelow (by simp; omega) _).setBelow (by simp; omega) _) (by omega), (hB3.setCell (by simp; omega) _).setCell (by simp; omega) _⟩
    · have rs := R2.set ⟨c0, c1, g0, g1⟩ (.bool G) (.slice d3 L.length f3)
      have hlt := World.block_lt_of_cell? q1 _ rb1.c0
      simp at hlt
      exact ⟨w16.heap.size, d3, f3, rfl, rfl, by omega, ⟨rs.c0, rs.c1⟩, Own.base ((hp3.setBelow (by simp; omega) _).setBelow (by simp; omega) _) (by omega), (hB3.setCell (by simp) _).setCell (by simp) _⟩
  case rest =>
  rename World => w17
  obtain ⟨ph, a7, c7, rfl, rfl, hph, Hh, ho7, hb17⟩ := hcut
  have hbw17 := bel_go hbw16 hb17
  clear P0 P1 Q0 Q1
  replace P := P.below hb17
  replace Q := Q.below hb17
  replace S := S.below hb17
  replace T := T.below hb17
  replace U := U.below hb17
  replace V := V.below hb17
  replace ho3 := ho3.below hb17
  replace hm6 := hm6.below hb17
  replace sx := sx.below hb17
  replace sy := sy.below hb17
  have Hh0 := Hh.1
  have Hh1 := Hh.2
  have S0 := S.1
  have S1 := S.2
  go_wp2_with fail
  refine (eqW_any G G a7 a3 c7 c3 L L _ ho7.sl ho3.sl (by omega)).mono ?_
  rintro e w18 ⟨rfl, hb18⟩
  have hbw18 := bel_go hbw17 hb18
  clear Hh0 Hh1 S0 S1
  replace P := P.below hb18
  replace Q := Q.below hb18
  replace S := S.below hb18
  replace T := T.below hb18
  replace U := U.below hb18
  replace V := V.below hb18
  replace Hh := Hh.below hb18
  replace ho3 := ho3.below hb18
  replace hm6 := hm6.below hb18
  replace ho7 := ho7.below hb18
  replace sx := sx.below hb18
  replace sy := sy.below hb18
  have V0 := V.1
  have V1 := V.2
  go_wp2_with fail
  have cf := heldW_any G a6 c6 (iot 1 L.length) 1 w18 hm6.sl hdI (by rw [HEI.out]; omega) (by decide) (by decide)
  rw [HEI.out, HR.out] at cf
  refine cf.mono ?_
  clear cf
  rintro e w19 ⟨rfl, hb19⟩
  go_wp2
  go_ret
  exact ⟨rfl, bel_go hbw18 hb19⟩
end LWideMul
end Go.Proofs.Ytlifpkdmcpjhpaa
