/-
  The walk of laws.FnExactWideNegated, out of contracts.
-/
import Derived.Test.YtlifpkdmcpjhpaaWideK
import Derived.Deep.RegionHeld3
namespace Go.Proofs.Ytlifpkdmcpjhpaa
set_option linter.unusedVariables false
set_option linter.unusedSimpArgs false
open Go.RowKit Go.Deep
namespace LWideNegated
theorem keep4 {w w' : World} {b b' : Nat} {v0 v1 u0 u1 : Value} (h0 : w.cell? ⟨b, 0, none⟩ = some v0) (h1 : w.cell? ⟨b, 1, none⟩ = some v1) (k0 : w.cell? ⟨b', 0, none⟩ = some u0) (k1 : w.cell? ⟨b', 1, none⟩ = some u1) (hb : Below w.heap.size w w') :
    w'.cell? ⟨b, 0, none⟩ = some v0 ∧ w'.cell? ⟨b, 1, none⟩ = some v1 ∧ w'.cell? ⟨b', 0, none⟩ = some u0 ∧ w'.cell? ⟨b', 1, none⟩ = some u1 :=
  ⟨(Box.below ⟨h0, h1⟩ hb).1, (Box.below ⟨h0, h1⟩ hb).2, (Box.below ⟨k0, k1⟩ hb).1, (Box.below ⟨k0, k1⟩ hb).2⟩
set_option maxHeartbeats 4000000 in
theorem law (ng : Bool) (a : Option Addr) (cap : Nat) (zs : List Int) (w : World) (hs : Sl .u32 w (.slice a zs.length cap) zs) (hz : Nm.Dg zs) (G : Bool) (L : List Int) (O : Bool) (hl200 : L.length ≤ 200) (hdg : Nm.Dg L)
    (hsp : zs.length ≤ 1048576 → ∀ (w : World) (a : Option Addr) (cap : Nat), Sl .u32 w (.slice a zs.length cap) zs → Calls Try.prog 56 #[.agg #[.bool ng, .slice a zs.length cap]] w fun e w' => ∃ a' c', e = .returned (.agg #[.bool G, .slice a' L.length c']) ∧ Own w' w.heap.size a' c' L ∧ Below w.heap.size w w')
    (him : zs.length ≤ 1048576 → ∀ (w : World) (a : Option Addr) (cap : Nat), Sl .u32 w (.slice a zs.length cap) zs → Calls Try.prog 25 #[.agg #[.bool ng, .slice a zs.length cap]] w fun e w' => ∃ a' c', e = .returned (.agg #[.bool G, .slice a' L.length c']) ∧ Own w' w.heap.size a' c' L ∧ Below w.heap.size w w') :
    Calls Try.prog 14 #[.agg #[.bool ng, .slice a zs.length cap]] w fun e w' => e = .returned (.bool true) ∧ Below w.heap.size w w' := by
  have hlm : zs.length ≤ 9223372036854775807 := by obtain ⟨_, h1, h2, _⟩ := hs.cells; unfold maxLen at h2; omega
  by_cases hn : zs.length ≤ 1048576
  rotate_left
  · have hr' : szR 1048576 zs.length < 0 := by unfold szR; rw [if_pos (by omega)]; decide
    clear hsp him
    go_enter Try.func14, Try.ntmps14
    go_wp2_with fail
    refine (szW_any ng a zs.length cap 1048576 _ hlm (by decide) (by decide)).mono ?_
    rintro e w1 ⟨rfl, hb1⟩
    go_wp2
    go_ret
    exact ⟨rfl, (by repeat (first | exact Below.refl _ _ | refine Below.drew ?_ | refine bel_dn ?_ _ | refine bel_al ?_ _ | refine bel_go ?_ hb1 | refine Below.setCell ?_ (by first | omega | (simp; done) | (simp; omega)) _ | refine Below.alloc ?_ (by first | omega | (simp; done) | (simp; omega)) _ | refine Below.trans ?_ (Below.mono hb1 (by first | omega | (simp; done) | (simp; omega)))))⟩
  have hl : zs.length ≤ 140737488355328 := by omega
  have hr' : ¬ szR 1048576 zs.length < 0 := by unfold szR; rw [if_neg (by omega)]; omega
  have hse := eqW_refl G L
  have hse' := eqW_refl ng zs
  have HSP := hid (hsp hn)
  have HIM := hid (him hn)
  have HDG := hid hdg
  have hr : heldR 1 (iot 1 L.length) = 1 + L.length := heldR_iot _
  have HR := hid hr
  have HZ := hid hz
  clear hsp him hdg hr hz
  go_enter Try.func14, Try.ntmps14
  go_wp2_with fail
  refine (szW_any ng a zs.length cap 1048576 _ hlm (by decide) (by decide)).mono ?_
  rintro e w1 ⟨rfl, hb1⟩
  obtain ⟨p10, p11⟩ := (Box.new w _ _ _).below hb1
  have hs1 := (hs.alloc _).below hb1
  go_wp2_with fail
  refine (toW_any ng _ zs _ hs1 hn).mono ?_
  rintro e w2 ⟨a2, c2, rfl, ho2, hb2⟩
  obtain ⟨p20, p21⟩ := Box.below ⟨p10, p11⟩ hb2
  have hs2 := hs1.below hb2
  go_wp2_with fail
  refine (HSP.out _ a2 c2 ho2.sl).mono ?_
  rintro e w3 ⟨a3, c3, rfl, ho3, hb3⟩
  obtain ⟨p30, p31⟩ := (Box.below ⟨p20, p21⟩ hb3).alloc (.cells #[.bool G, .slice a3 L.length c3] 26)
  have hs3 := (hs2.below hb3).alloc (.cells #[.bool G, .slice a3 L.length c3] 26)
  obtain ⟨s30, s31⟩ := Box.new w3 (.bool G) (.slice a3 L.length c3) 26
  have ho33 := ho3.alloc (.cells #[.bool G, .slice a3 L.length c3] 26)
  go_wp2_with fail
  refine (toW_any ng _ zs _ hs3 hn).mono ?_
  rintro e w4 ⟨a4, c4, rfl, ho4, hb4⟩
  obtain ⟨p40, p41⟩ := (Box.below ⟨p30, p31⟩ hb4).alloc (.cells #[.bool ng, .slice a4 zs.length c4] 26)
  obtain ⟨s40, s41⟩ := (Box.below ⟨s30, s31⟩ hb4).alloc (.cells #[.bool ng, .slice a4 zs.length c4] 26)
  obtain ⟨t40, t41⟩ := Box.new w4 (.bool ng) (.slice a4 zs.length c4) 26
  have hs4 := (hs3.below hb4).alloc (.cells #[.bool ng, .slice a4 zs.length c4] 26)
  have ho34 := (ho33.below hb4).alloc (.cells #[.bool ng, .slice a4 zs.length c4] 26)
  have ho44 := ho4.alloc (.cells #[.bool ng, .slice a4 zs.length c4] 26)
  have l34 : w3.heap.size < w4.heap.size := by have := hb4.size; simp at this; omega
  go_wp2_with fail
  refine (HIM.out _ a4 c4 ho44.sl).mono ?_
  rintro e w5 ⟨a5, c5, rfl, ho5, hb5⟩
  obtain ⟨p50, p51⟩ := (Box.below ⟨p40, p41⟩ hb5).alloc (.cells #[.bool G, .slice a5 L.length c5] 26)
  obtain ⟨s50, s51⟩ := (Box.below ⟨s40, s41⟩ hb5).alloc (.cells #[.bool G, .slice a5 L.length c5] 26)
  obtain ⟨t50, t51⟩ := (Box.below ⟨t40, t41⟩ hb5).alloc (.cells #[.bool G, .slice a5 L.length c5] 26)
  obtain ⟨g50, g51⟩ := Box.new w5 (.bool G) (.slice a5 L.length c5) 26
  have hs5 := (hs4.below hb5).alloc (.cells #[.bool G, .slice a5 L.length c5] 26)
  have ho35 := (ho34.below hb5).alloc (.cells #[.bool G, .slice a5 L.length c5] 26)
  have ho45 := (ho44.below hb5).alloc (.cells #[.bool G, .slice a5 L.length c5] 26)
  have ho55 := ho5.alloc (.cells #[.bool G, .slice a5 L.length c5] 26)
  have l45 : w4.heap.size < w5.heap.size := by have := hb5.size; simp at this; omega
  go_wp2_with fail
  refine (eqW_any G G a5 a3 c5 c3 L L _ ho55.sl ho35.sl (by omega)).mono ?_
  rintro e w6 ⟨rfl, hb6⟩
  obtain ⟨p60, p61⟩ := Box.below ⟨p50, p51⟩ hb6
  obtain ⟨s60, s61⟩ := Box.below ⟨s50, s51⟩ hb6
  obtain ⟨t60, t61⟩ := Box.below ⟨t50, t51⟩ hb6
  obtain ⟨g60, g61⟩ := Box.below ⟨g50, g51⟩ hb6
  have hs6 := hs5.below hb6; have ho36 := ho35.below hb6; have ho46 := ho45.below hb6; have ho56 := ho55.below hb6
  have l56 : w5.heap.size < w6.heap.size := World.block_lt_of_cell? w6 _ g60
  go_wp2_with fail
  go_region_held3 (fun w' => w'.cell? ⟨w.heap.size, 0, none⟩ = some (.bool ng) ∧ w'.cell? ⟨w.heap.size, 1, none⟩ = some (.slice a zs.length cap) ∧ w'.cell? ⟨w4.heap.size, 0, none⟩ = some (.bool ng) ∧ w'.cell? ⟨w4.heap.size, 1, none⟩ = some (.slice a4 zs.length c4)) (first | assumption | (refine ⟨?_, ?_, ?_, ?_⟩ <;> assumption))
    (first
      | (go_at_call 51; refine (toW_any ng (.slice a zs.length cap) zs _ hs6.drew hn).mono ?_; rintro e w7 ⟨a7, c7, rfl, ho7, hb7⟩; have four := keep4 (w := w6.drew) p60 p61 t60 t61 hb7; have fours := keep4 (w := w6.drew) s60 s61 g60 g61 hb7; have ho37 := ho36.drew.below hb7; have ho47 := ho46.drew.below hb7; have ho57 := ho56.drew.below hb7; have hs7 := hs6.drew.below hb7)
      | (go_at_call 52; refine (eqW_any ng ng a4 a7 c4 c7 zs zs _ ho47.sl ho7.sl hl).mono ?_; rintro e w8 ⟨rfl, hb8⟩; have f8 := keep4 four.1 four.2.1 four.2.2.1 four.2.2.2 hb8; have g8 := keep4 fours.1 fours.2.1 fours.2.2.1 fours.2.2.2 hb8; have ho38 := ho37.below hb8; have ho48 := ho47.below hb8; have ho58 := ho57.below hb8; have hs8 := hs7.below hb8))
  obtain ⟨p80, p81, t80, t81⟩ := f8
  obtain ⟨s80, s81, g80, g81⟩ := g8
  have l58 : w5.heap.size < w8.heap.size := World.block_lt_of_cell? w8 _ g80
  have lw1 : w.heap.size < w1.heap.size := by have := hb1.size; simp at this; omega
  have lw3 : w1.heap.size ≤ w3.heap.size := by have := hb2.size; have := hb3.size; omega
  go_wp2_with fail
  refine (markW_any ng a4 c4 zs 1 _ _ ho48 hn (by decide) (by decide)).mono ?_
  rintro e w9 ⟨rfl, hm9, hg9⟩
  have la : ∀ g, (Value.slice a4 zs.length c4).ownBlock = some g → w3.heap.size < g ∧ g < w4.heap.size := fun g hg => by
    have h1 := (ho4.at zs.length c4 g hg)
    simp at h1; omega
  obtain ⟨p90, p91⟩ := Box.grown ⟨p80, p81⟩ hg9 (fun g hg => by have := la g hg; omega)
  obtain ⟨s90, s91⟩ := Box.grown ⟨s80, s81⟩ hg9 (fun g hg => by have := la g hg; omega)
  obtain ⟨g90, g91⟩ := Box.grown ⟨g80, g81⟩ hg9 (fun g hg => by have := la g hg; omega)
  have ho39 : Own w9 _ a3 c3 L := ho38.kept hg9 (fun g hg hr => by
    have h2 := la g hr
    rcases ho3.block with ⟨e, _⟩ | ⟨g', e, _, h3⟩
    · rw [e] at hg; cases hg
    · rw [e] at hg; cases hg; omega)
  have ho59 : Own w9 _ a5 c5 L := ho58.kept hg9 (fun g hg hr => by
    have h2 := la g hr
    rcases ho5.block with ⟨e, _⟩ | ⟨g', e, h3, _⟩
    · rw [e] at hg; cases hg
    · rw [e] at hg; cases hg; simp at h3; omega)
  have bel9 : Below w.heap.size w w9 := bel_mark (W := w8) (by repeat (first | exact Below.refl _ _ | refine Below.drew ?_ | refine bel_dn ?_ _ | refine bel_al ?_ _ | refine bel_go ?_ hb8 | refine bel_go ?_ hb7 | refine bel_go ?_ hb6 | refine bel_go ?_ hb5 | refine bel_go ?_ hb4 | refine bel_go ?_ hb3 | refine bel_go ?_ hb2 | refine bel_go ?_ hb1 | refine Below.setCell ?_ (by first | omega | (simp; done) | (simp; omega)) _ | refine Below.alloc ?_ (by first | omega | (simp; done) | (simp; omega)) _ | refine Below.trans ?_ (Below.mono hb8 (by first | omega | (simp; done) | (simp; omega))) | refine Below.trans ?_ (Below.mono hb7 (by first | omega | (simp; done) | (simp; omega))) | refine Below.trans ?_ (Below.mono hb6 (by first | omega | (simp; done) | (simp; omega))) | refine Below.trans ?_ (Below.mono hb5 (by first | omega | (simp; done) | (simp; omega))) | refine Below.trans ?_ (Below.mono hb4 (by first | omega | (simp; done) | (simp; omega))) | refine Below.trans ?_ (Below.mono hb3 (by first | omega | (simp; done) | (simp; omega))) | refine Below.trans ?_ (Below.mono hb2 (by first | omega | (simp; done) | (simp; omega))) | refine Below.trans ?_ (Below.mono hb1 (by first | omega | (simp; done) | (simp; omega))))) hg9 (fun g hg => by have := la g hg; omega)
  have hs9 := hs.below bel9
  clear hm9 ho48 ho47 ho46 ho45
  have hk0 : ¬ ((1 : Int) + zs.length < 0) := by omega
  go_wp2_with fail
  refine (eqW_any G G a5 a3 c5 c3 L L _ ho59.sl ho39.sl (by omega)).mono ?_
  rintro e wa ⟨rfl, hba⟩
  obtain ⟨pa0, pa1⟩ := Box.below ⟨p90, p91⟩ hba
  obtain ⟨sa0, sa1⟩ := Box.below ⟨s90, s91⟩ hba
  obtain ⟨ga0, ga1⟩ := Box.below ⟨g90, g91⟩ hba
  have hsa := hs9.below hba; have ho3a := ho39.below hba; have ho5a := ho59.below hba
  go_wp2_with fail
  refine (markW_any G a5 c5 L 1 _ _ ho5a (by omega) (by decide) (by decide)).mono ?_
  rintro e wb ⟨rfl, hmb, hgb⟩
  have lb : ∀ g, (Value.slice a5 L.length c5).ownBlock = some g → w4.heap.size < g ∧ g < w5.heap.size := fun g hg => by
    have h1 := (ho5.at L.length c5 g hg)
    simp at h1; omega
  obtain ⟨pb0, pb1⟩ := Box.grown ⟨pa0, pa1⟩ hgb (fun g hg => by have := lb g hg; omega)
  obtain ⟨sb0, sb1⟩ := Box.grown ⟨sa0, sa1⟩ hgb (fun g hg => by have := lb g hg; omega)
  obtain ⟨gb0, gb1⟩ := Box.grown ⟨ga0, ga1⟩ hgb (fun g hg => by have := lb g hg; omega)
  have ho3b : Own wb _ a3 c3 L := ho3a.kept hgb (fun g hg hr => by
    have h2 := lb g hr
    rcases ho3.block with ⟨e, _⟩ | ⟨g', e, _, h3⟩
    · rw [e] at hg; cases hg
    · rw [e] at hg; cases hg; omega)
  have belb : Below w.heap.size w wb := bel_mark (W := wa) (bel_go bel9 hba) hgb (fun g hg => by have := lb g hg; omega)
  have hsb := hs.below belb
  have HEI := hid (iot_length 1 L.length)
  have hdI := iot_dg L.length (by omega)
  clear ho35 ho36 ho37 ho38 ho39 ho5a ho55 ho56 ho57 ho58 ho59
  go_wp2_with fail
  have cc := heldW_any G a5 c5 (iot 1 L.length) 1 wb hmb.sl hdI (by rw [HEI.out]; omega) (by decide) (by decide)
  rw [HEI.out, HR.out] at cc
  refine cc.mono ?_
  clear cc
  rintro e wc ⟨rfl, hbc⟩
  obtain ⟨pc0, pc1⟩ := Box.below ⟨pb0, pb1⟩ hbc
  obtain ⟨sc0, sc1⟩ := Box.below ⟨sb0, sb1⟩ hbc
  obtain ⟨gc0, gc1⟩ := Box.below ⟨gb0, gb1⟩ hbc
  have hsc := hsb.below hbc; have ho3c := ho3b.below hbc; have hmc := hmb.below hbc
  have hne : ((1 : Int) + L.length != 1 + L.length) = false := by simp
  have hq0 : ¬ ((1 : Int) + L.length < 0) := by omega
  go_wp2_with fail
  refine (toW_any ng _ zs _ hsc hn).mono ?_
  rintro e wd ⟨ad, cd, rfl, hod, hbd⟩
  obtain ⟨sd0, sd1⟩ := Box.below ⟨sc0, sc1⟩ hbd
  obtain ⟨gd0, gd1⟩ := Box.below ⟨gc0, gc1⟩ hbd
  have ho3d := ho3c.below hbd; have hmd := hmc.below hbd
  go_wp2_with fail
  refine (HIM.out _ ad cd hod.sl).mono ?_
  rintro e we ⟨ae, ce, rfl, hoe, hbe⟩
  obtain ⟨se0, se1⟩ := (Box.below ⟨sd0, sd1⟩ hbe).alloc (.cells #[.bool G, .slice ae L.length ce] 26)
  obtain ⟨ge0, ge1⟩ := (Box.below ⟨gd0, gd1⟩ hbe).alloc (.cells #[.bool G, .slice ae L.length ce] 26)
  obtain ⟨he0, he1⟩ := Box.new we (.bool G) (.slice ae L.length ce) 26
  have ho3e := (ho3d.below hbe).alloc (.cells #[.bool G, .slice ae L.length ce] 26)
  have hme := (hmd.below hbe).alloc (.cells #[.bool G, .slice ae L.length ce] 26)
  go_wp2_with fail
  refine (eqW_any G G ae a3 ce c3 L L _ (hoe.alloc _).sl ho3e.sl (by omega)).mono ?_
  rintro e wf ⟨rfl, hbf⟩
  obtain ⟨gf0, gf1⟩ := Box.below ⟨ge0, ge1⟩ hbf
  have hmf := hme.below hbf
  go_wp2_with fail
  have cf := heldW_any G a5 c5 (iot 1 L.length) 1 wf hmf.sl hdI (by rw [HEI.out]; omega) (by decide) (by decide)
  rw [HEI.out, HR.out] at cf
  refine cf.mono ?_
  clear cf
  rintro e wg ⟨rfl, hbg⟩
  go_wp2
  go_ret
  exact ⟨rfl, (by repeat (first | exact Below.refl _ _ | refine Below.drew ?_ | refine bel_dn ?_ _ | refine bel_al ?_ _ | refine bel_go ?_ hbg | refine bel_go ?_ hbf | refine bel_go ?_ hbe | refine bel_go ?_ hbd | refine bel_go ?_ hbc | refine bel_go ?_ belb | refine Below.setCell ?_ (by first | omega | (simp; done) | (simp; omega)) _ | refine Below.alloc ?_ (by first | omega | (simp; done) | (simp; omega)) _ | refine Below.trans ?_ (Below.mono hbg (by first | omega | (simp; done) | (simp; omega))) | refine Below.trans ?_ (Below.mono hbf (by first | omega | (simp; done) | (simp; omega))) | refine Below.trans ?_ (Below.mono hbe (by first | omega | (simp; done) | (simp; omega))) | refine Below.trans ?_ (Below.mono hbd (by first | omega | (simp; done) | (simp; omega))) | refine Below.trans ?_ (Below.mono hbc (by first | omega | (simp; done) | (simp; omega))) | refine Below.trans ?_ (Below.mono belb (by first | omega | (simp; done) | (simp; omega)))))⟩
end LWideNegated
end Go.Proofs.Ytlifpkdmcpjhpaa
