/-
  The exact product: the law.
-/
import Derived.Test.YtdjfajjlmjkpdaaDoorPZ
namespace Go.Proofs.YtdjfajjlmjkpdaaDoor
set_option linter.unusedVariables false
set_option linter.unusedSimpArgs false
open Go.RowKit Go.Deep
set_option maxHeartbeats 8000000 in
set_option maxRecDepth 100000 in
theorem law_ProdExact (fm : Int) (a : Option Addr) (cap : Nat) (xs : List Int) (w : World) (hT : Tab w) (hx : Sl .u64 w (.slice a xs.length cap) xs) (dx : D64 xs) :
    Calls Tryd.prog 4 #[.int .i64 fm, .slice a xs.length cap] w fun e w' => e = .returned (.bool true) ∧ Below w.heap.size w w' := by
  have hlm : xs.length ≤ 9223372036854775807 := by obtain ⟨_, h1, h2, _⟩ := hx.cells; unfold maxLen at h2; omega
  by_cases hn : xs.length ≤ 1048576
  · have hl : xs.length ≤ 140737488355328 := by omega
    have hl200 := prV_len fm xs
    have hdg := Nm.wl_dg (prV fm xs)
    have hse := eqW_refl (Nm.wn (prV fm xs)) (Nm.wl (prV fm xs))
    have hsp := fun a c w h => prs_all fm xs a c w h dx hn
    have him := fun a c w h h' => pri_all fm xs a c w h h' dx hn
    unfold AnsP at hsp him
    obtain ⟨L, hL⟩ : ∃ L, L = Nm.wl (prV fm xs) := ⟨_, rfl⟩
    obtain ⟨G, hG⟩ : ∃ G, G = Nm.wn (prV fm xs) := ⟨_, rfl⟩
    obtain ⟨O, hO⟩ : ∃ O, O = prO fm xs := ⟨_, rfl⟩
    obtain ⟨S, hS⟩ : ∃ S, S = prS fm xs := ⟨_, rfl⟩
    rw [← hL] at hl200 hdg hse
    rw [← hG] at hse
    simp only [← hL, ← hG, ← hO, ← hS] at him hsp
    clear hL hG hO hS
    have q3 : (O != O) = false := by simp
    have q4' : (S != S) = false := by simp
    have HSP := hid hsp
    have HIM := hid him
    have hr : heldR 1 (iot 1 L.length) = 1 + L.length := heldR_iot _
    have HR := hid hr
    have HEI := hid (iot_length 1 L.length)
    have hdI := iot_dg L.length (by omega)
    have HDI := hid hdI
    clear hsp him hdg hr dx hdI
    go_enter Tryd.func4, Tryd.ntmps4
    go_wp2_with fail
    refine (toV_any _ xs _ hx hn).mono ?_
    rintro e w1 ⟨a1, c1, rfl, s1, hb1⟩
    go_wp2_with fail
    refine (HSP.out a1 c1 _ s1).mono ?_
    rintro e w2 ⟨a2, c2, rfl, o2, hb2⟩
    have X2 := R2.new w2 (.bool G) (.slice a2 L.length c2) 29
    have bel2 := bel_al (bel_go hb1 hb2) (.cells #[.bool G, .slice a2 L.length c2] 29)
    have o2' := o2.alloc (.cells #[.bool G, .slice a2 L.length c2] 29)
    have l2 : w.heap.size ≤ w2.heap.size := by have := hb1.size; have := hb2.size; omega
    clear hb1 hb2 s1
    go_wp2_with fail
    refine (toV_row _ xs _ (hx.below bel2) hn).mono ?_
    rintro e w3 ⟨g, rfl, g0, g1, r3, hb3⟩
    have g0 : w2.heap.size + 1 ≤ g := by simpa using g0
    have X3 := X2.below hb3
    have o3 := o2'.below hb3
    have bel3 := bel_go bel2 hb3
    clear hb3 X2 o2'
    go_wp2_with fail
    refine (HIM.out _ _ _ (hT.below bel3) (row_sl r3 hn)).mono ?_
    rintro e w4 ⟨a4, c4, rfl, o4, hb4⟩
    have X4 := (X3.below hb4).alloc (.cells #[.bool G, .slice a4 L.length c4] 29)
    have Y4 := R2.new w4 (.bool G) (.slice a4 L.length c4) 29
    have p4 := o4.alloc (.cells #[.bool G, .slice a4 L.length c4] 29)
    have q4 := (o3.below hb4).alloc (.cells #[.bool G, .slice a4 L.length c4] 29)
    have r4 := row_bel (row_bel r3 hb4) (bel_al (Below.refl _ _) (.cells #[.bool G, .slice a4 L.length c4] 29))
    have bel4 := bel_al (bel_go bel3 hb4) (.cells #[.bool G, .slice a4 L.length c4] 29)
    have l4 : w3.heap.size ≤ w4.heap.size := hb4.size
    have la : ∀ g, (Value.slice a4 L.length c4).ownBlock = some g → w3.heap.size ≤ g ∧ g < w4.heap.size := fun g hg => o4.at L.length c4 g hg
    have lb : ∀ g, a2 = some ⟨g, 0, none⟩ → g < w2.heap.size := fun g hg => by
      rcases o2.block with ⟨e, _⟩ | ⟨g', e, _, h3⟩
      · rw [e] at hg; cases hg
      · rw [e] at hg; cases hg; exact h3
    have lc : ∀ g, a4 = some ⟨g, 0, none⟩ → w3.heap.size ≤ g := fun g hg => by
      rcases o4.block with ⟨e, _⟩ | ⟨g', e, h3, _⟩
      · rw [e] at hg; cases hg
      · rw [e] at hg; cases hg; exact h3
    clear hb4 X3 o3 r3 bel2 bel3 o4 o2
    obtain ⟨x0', x1', -, -⟩ := id X4
    obtain ⟨y0', y1', -, -⟩ := id Y4
    go_wp2_with fail
    refine (eqW_any G G a4 a2 c4 c2 L L _ p4.sl q4.sl (by omega)).mono ?_
    rintro e w5 ⟨rfl, hb5⟩
    clear x0' x1' y0' y1'
    have X5 := X4.below hb5
    have Y5 := Y4.below hb5
    have p5 := p4.below hb5
    have q5 := q4.below hb5
    have r5 := row_bel r4 hb5
    have bel5 := bel_go bel4 hb5
    clear hb5 X4 Y4 p4 q4 r4
    go_wp2_with fail
    refine (toV_any _ xs _ (hx.below bel5) hn).mono ?_
    rintro e w6 ⟨a6, c6, rfl, s6, hb6⟩
    go_wp2_with fail
    refine (eqV_same (some ⟨g, 0, none⟩) a6 xs.length c6 xs _ (row_sl (row_bel r5 hb6) hn) s6 hl).mono ?_
    rintro e w7 ⟨rfl, hb7⟩
    have X7 := (X5.below hb6).below hb7
    have Y7 := (Y5.below hb6).below hb7
    have p7 := (p5.below hb6).below hb7
    have q7 := (q5.below hb6).below hb7
    have r7 := row_bel (row_bel r5 hb6) hb7
    have bel7 := bel_go (bel_go bel5 hb6) hb7
    clear hb6 hb7 s6 X5 Y5 p5 q5 r5 bel5 bel4
    go_wp2_with fail
    refine (mark64_any g xs.length _ 1 _ r7 hn (by decide) (by decide)).mono ?_
    rintro e w8 ⟨rfl, hg8⟩
    have X8 := X7.grown hg8 (by omega)
    have Y8 := Y7.grown hg8 (by omega)
    have p8 := p7.kept hg8 (fun g' h' => by have := lc g' h'; simp; omega)
    have q8 := q7.kept hg8 (fun g' h' => by have := lb g' h'; simp; omega)
    have bel8 := bel_mark bel7 hg8 (fun g' h' => by cases h'; omega)
    clear X7 Y7 p7 q7 r7 bel7 hg8
    have hk0 : ¬ (1 + (xs.length : Int) < 0) := by omega
    have hk1 : decide (1 + (xs.length : Int) < 0) = false := decide_eq_false hk0
    obtain ⟨x0', x1', -, -⟩ := id X8
    obtain ⟨y0', y1', -, -⟩ := id Y8
    go_wp2_with fail
    refine (eqW_any G G a4 a2 c4 c2 L L _ p8.sl q8.sl (by omega)).mono ?_
    rintro e w9 ⟨rfl, hb9⟩
    clear x0' x1' y0' y1'
    have X9 := X8.below hb9
    have Y9 := Y8.below hb9
    have p9 := p8.below hb9
    have q9 := q8.below hb9
    have bel9 := bel_go bel8 hb9
    clear hb9 X8 Y8 p8 q8 bel8
    obtain ⟨y0', y1', -, -⟩ := id Y9
    go_wp2_with fail
    refine (markW_any G a4 c4 L 1 _ _ p9 (by omega) (by decide) (by decide)).mono ?_
    rintro e w10 ⟨rfl, hm10, hg10⟩
    clear y0' y1'
    have X10 : R2 w10 w2.heap.size (.bool G) (.slice a2 L.length c2) := by
      have := Box.grown X9.box' hg10 (fun g' hg => by have := la g' hg; omega)
      exact r2_of this X9 hg10 (fun g' hg => by have := la g' hg; omega)
    have Y10 : R2 w10 w4.heap.size (.bool G) (.slice a4 L.length c4) := by
      have := Box.grown Y9.box' hg10 (fun g' hg => by have := la g' hg; omega)
      exact r2_of this Y9 hg10 (fun g' hg => by have := la g' hg; omega)
    have q10 := q9.kept hg10 (fun g' h' h'' => by have := lb g' h'; have := la g' h''; omega)
    have bel10 := bel_mark bel9 hg10 (fun g' h' => by have := la g' h'; omega)
    have m10 : Own w10 w3.heap.size a4 c4 (iot 1 L.length) := hm10
    clear X9 Y9 p9 q9 bel9 hm10 hg10
    obtain ⟨y0', y1', -, -⟩ := id Y10
    go_wp2_with fail
    have c11 := heldW_any G a4 c4 (iot 1 L.length) 1 w10 m10.sl HDI.out (by rw [HEI.out]; omega) (by decide) (by decide)
    rw [HEI.out, HR.out] at c11
    refine c11.mono ?_
    clear c11 y0' y1'
    rintro e w11 ⟨rfl, hb11⟩
    have X11 := X10.below hb11
    have Y11 := Y10.below hb11
    have q11 := q10.below hb11
    have m11 := m10.below hb11
    have bel11 := bel_go bel10 hb11
    clear hb11 X10 Y10 q10 m10 bel10
    have hne : ((1 : Int) + L.length != 1 + L.length) = false := by simp
    have hnn : ¬ (1 + (L.length : Int) < 0) := by omega
    have hn1 : decide (1 + (L.length : Int) < 0) = false := decide_eq_false hnn
    go_wp2_with fail
    refine (toV_any _ xs _ (hx.below bel11) hn).mono ?_
    rintro e w12 ⟨a12, c12, rfl, s12, hb12⟩
    have bel12 := bel_go bel11 hb12
    go_wp2_with fail
    refine (HIM.out _ _ _ (hT.below bel12) s12).mono ?_
    rintro e w13 ⟨a13, c13, rfl, o13, hb13⟩
    have X13 := ((X11.below hb12).below hb13).alloc (.cells #[.bool G, .slice a13 L.length c13] 29)
    have Y13 := ((Y11.below hb12).below hb13).alloc (.cells #[.bool G, .slice a13 L.length c13] 29)
    have q13 := ((q11.below hb12).below hb13).alloc (.cells #[.bool G, .slice a13 L.length c13] 29)
    have m13 := ((m11.below hb12).below hb13).alloc (.cells #[.bool G, .slice a13 L.length c13] 29)
    have Z13 := R2.new w13 (.bool G) (.slice a13 L.length c13) 29
    have z13 := o13.alloc (.cells #[.bool G, .slice a13 L.length c13] 29)
    have bel13 := bel_al (bel_go bel12 hb13) (.cells #[.bool G, .slice a13 L.length c13] 29)
    clear hb12 hb13 s12 X11 Y11 q11 m11 bel11 bel12 o13
    obtain ⟨x0', x1', -, -⟩ := id X13
    obtain ⟨z0', z1', -, -⟩ := id Z13
    go_wp2_with fail
    refine (eqW_any G G a13 a2 c13 c2 L L _ z13.sl q13.sl (by omega)).mono ?_
    rintro e w14 ⟨rfl, hb14⟩
    clear x0' x1' z0' z1'
    obtain ⟨y0', y1', -, -⟩ := Y13.below hb14
    have m14 := m13.below hb14
    have bel14 := bel_go bel13 hb14
    go_wp2_with fail
    have c15 := heldW_any G a4 c4 (iot 1 L.length) 1 w14 m14.sl HDI.out (by rw [HEI.out]; omega) (by decide) (by decide)
    rw [HEI.out, HR.out] at c15
    refine c15.mono ?_
    clear c15
    rintro e w15 ⟨rfl, hb15⟩
    go_wp2
    go_ret
    exact ⟨rfl, bel_go bel14 hb15⟩
  · go_enter Tryd.func4, Tryd.ntmps4
    go_wp2
    go_ret
    exact ⟨rfl, Below.refl _ _⟩
end Go.Proofs.YtdjfajjlmjkpdaaDoor
