/-
  What is needed of Facts, LAccMul, SW, DU.
-/
import Derived.Test.YtnliofakkkjpoaaGreatDoorA15
set_option maxHeartbeats 16000000
set_option maxRecDepth 1000000
namespace Go.Proofs.YtnliofakkkjpoaaGreatDoor
namespace Fc
theorem own : ownKnob Tryz.prog.godebug = none := by kernel_rfl
theorem laidOut : laidOutB Tryz.prog = true := by kernel_rfl
theorem mapsRowed : Go.mapsRowed Tryz.prog = true := by kernel_rfl
theorem heard : Tryz.prog.stopsHeard = true := by kernel_rfl
theorem enter : Tryz.prog.mayEnter = true := by kernel_rfl
theorem lifts : (Rows.fnExactAccMulRow.lifted == Tryz.prog.liftsFinal) = true := by kernel_rfl
theorem lifts_of (l : _) (h : l = Rows.fnExactAccMulRow.lifted) : (l == Tryz.prog.liftsFinal) = true := by
  rw [h]; exact lifts
end Fc
set_option linter.unusedVariables false
set_option linter.unusedSimpArgs false
open Go.RowKit Go.Deep
namespace LAccMul
attribute [local go_sem ↓] Go.wp_at_zero Go.wp_at_succ
theorem law (fm : Int) (ng : Bool) (T : Int) (nn bd pl mi am : Bool) (a : Option Addr) (cap : Nat) (zs : List Int) (x : Int) (y : Int) (w : World) (hT : EX w) (hs : Sl .u32 w (.slice a zs.length cap) zs) (fmr : Int) (ngr : Bool) (Tr : Int) (nnr bdr plr mir amr : Bool) (L : List Int) (O : Int) (hl200 : L.length ≤ 200) (hdg : Nm.Dg L)
    (hsp : zs.length ≤ 1048576 → ∀ (w : World) (a : Option Addr) (cap : Nat), Sl .u32 w (.slice a zs.length cap) zs → Calls Tryz.prog 16 #[.agg #[.int .i64 fm, .bool ng, .slice a zs.length cap, .int .i64 T, .bool nn, .bool bd, .bool pl, .bool mi, .bool am], .int .u64 x, .int .u64 y] w fun e w' => ∃ a' c', e = .returned (.tuple #[.agg #[.int .i64 fmr, .bool ngr, .slice a' L.length c', .int .i64 Tr, .bool nnr, .bool bdr, .bool plr, .bool mir, .bool amr], .int .i64 O]) ∧ Own w' w.heap.size a' c' L ∧ Below w.heap.size w w')
    (him : zs.length ≤ 1048576 → ∀ (w : World) (a : Option Addr) (cap : Nat), EX w → Sl .u32 w (.slice a zs.length cap) zs → Calls Tryz.prog 18 #[.agg #[.int .i64 fm, .bool ng, .slice a zs.length cap, .int .i64 T, .bool nn, .bool bd, .bool pl, .bool mi, .bool am], .int .u64 x, .int .u64 y] w fun e w' => ∃ a' c', e = .returned (.tuple #[.agg #[.int .i64 fmr, .bool ngr, .slice a' L.length c', .int .i64 Tr, .bool nnr, .bool bdr, .bool plr, .bool mir, .bool amr], .int .i64 O]) ∧ Own w' w.heap.size a' c' L ∧ Below w.heap.size w w') :
    Calls Tryz.prog 3 #[.agg #[.int .i64 fm, .bool ng, .slice a zs.length cap, .int .i64 T, .bool nn, .bool bd, .bool pl, .bool mi, .bool am], .int .u64 x, .int .u64 y] w fun e w' => e = .returned (.bool true) ∧ Below w.heap.size w w' := by
  have hlm : zs.length ≤ 9223372036854775807 := by obtain ⟨_, h1, h2, _⟩ := hs.cells; unfold maxLen at h2; omega
  by_cases hn : zs.length ≤ 1048576
  rotate_left
  · have hr' : szR 1048576 zs.length < 0 := by unfold szR; rw [if_pos (by omega)]; decide
    clear hsp him
    go_enter Tryz.func3, Tryz.ntmps3
    go_wp2_with fail
    refine (szA_any fm ng T nn bd pl mi am a zs.length cap 1048576 _ hlm (by decide) (by decide)).mono ?_
    rintro e w1 ⟨rfl, hb1⟩
    go_wp2
    go_ret
    exact ⟨rfl, (by repeat (first | exact bz0 _ _ | refine bz1 ?_ | refine bz2 ?_ _ | refine bz3 ?_ _ | refine bz4 ?_ hb1 | refine bz5 ?_ _ | refine bz6 ?_ _ | refine bz7 ?_ hb1))⟩
  have hl : zs.length ≤ 140737488355328 := by omega
  have hr' : ¬ szR 1048576 zs.length < 0 := by unfold szR; rw [if_neg (by omega)]; omega
  have hoo : (O != O) = false := by simp
  have HSP := hid (hsp hn)
  have HIM := hid (him hn)
  have HDG := hid hdg
  have HR := hid (heldR_iot L.length : heldR 1 (iot 1 L.length) = 1 + L.length)
  clear hsp him hdg
  go_enter Tryz.func3, Tryz.ntmps3
  go_wp2_with fail
  refine (szA_any fm ng T nn bd pl mi am a zs.length cap 1048576 _ hlm (by decide) (by decide)).mono ?_
  rintro e w1 ⟨rfl, hb1⟩
  have P := (Q9.new w (.int .i64 fm) (.bool ng) (.slice a zs.length cap) (.int .i64 T) (.bool nn) (.bool bd) (.bool pl) (.bool mi) (.bool am) 26).below hb1
  have hs1 := (hs.alloc _).below hb1
  have bel1 : Below w.heap.size w w1 := (by repeat (first | exact bz0 _ _ | refine bz1 ?_ | refine bz2 ?_ _ | refine bz3 ?_ _ | refine bz4 ?_ hb1 | refine bz5 ?_ _ | refine bz6 ?_ _ | refine bz7 ?_ hb1))
  have lw1 : w.heap.size < w1.heap.size := P.lt
  clear hb1
  obtain ⟨c0, c1, c2, c3, c4, c5, c6, c7, c8⟩ := P.cs
  go_wp2_with fail
  refine (toA_any fm ng T nn bd pl mi am _ zs _ hs1 hn).mono ?_
  rintro e w2 ⟨a2, k2, rfl, ho2, hb2⟩
  clear c0 c1 c2 c3 c4 c5 c6 c7 c8
  replace P := P.below hb2
  have hs2 := hs1.below hb2
  have bel2 := bel_go bel1 hb2
  have lw2 := hb2.size
  clear hs1 hb2
  go_wp2_with fail
  refine (HSP.out _ a2 k2 ho2.sl).mono ?_
  rintro e w3 ⟨a3, k3, rfl, ho3, hb3⟩
  replace P := (P.below hb3).alloc (.cells #[.int .i64 fmr, .bool ngr, .slice a3 L.length k3, .int .i64 Tr, .bool nnr, .bool bdr, .bool plr, .bool mir, .bool amr] 31)
  have S := Q9.new w3 (.int .i64 fmr) (.bool ngr) (.slice a3 L.length k3) (.int .i64 Tr) (.bool nnr) (.bool bdr) (.bool plr) (.bool mir) (.bool amr) 31
  have hs3 := (hs2.below hb3).alloc (.cells #[.int .i64 fmr, .bool ngr, .slice a3 L.length k3, .int .i64 Tr, .bool nnr, .bool bdr, .bool plr, .bool mir, .bool amr] 31)
  have ho3' := ho3.alloc (.cells #[.int .i64 fmr, .bool ngr, .slice a3 L.length k3, .int .i64 Tr, .bool nnr, .bool bdr, .bool plr, .bool mir, .bool amr] 31)
  have bel3 := bel_al (bel_go bel2 hb3) (.cells #[.int .i64 fmr, .bool ngr, .slice a3 L.length k3, .int .i64 Tr, .bool nnr, .bool bdr, .bool plr, .bool mir, .bool amr] 31)
  have lw3 := hb3.size
  have ho3b := ho3.block
  clear hs2 hb3 ho2 ho3 HSP bel1 bel2
  obtain ⟨c0, c1, c2, c3, c4, c5, c6, c7, c8⟩ := P.cs
  go_wp2_with fail
  refine (toA_any fm ng T nn bd pl mi am _ zs _ hs3 hn).mono ?_
  rintro e w4 ⟨a4, k4, rfl, ho4, hb4⟩
  clear c0 c1 c2 c3 c4 c5 c6 c7 c8
  replace P := (P.below hb4).alloc (.cells #[.int .i64 fm, .bool ng, .slice a4 zs.length k4, .int .i64 T, .bool nn, .bool bd, .bool pl, .bool mi, .bool am] 31)
  replace S := (S.below hb4).alloc (.cells #[.int .i64 fm, .bool ng, .slice a4 zs.length k4, .int .i64 T, .bool nn, .bool bd, .bool pl, .bool mi, .bool am] 31)
  have X := Q9.new w4 (.int .i64 fm) (.bool ng) (.slice a4 zs.length k4) (.int .i64 T) (.bool nn) (.bool bd) (.bool pl) (.bool mi) (.bool am) 31
  have hs4 := (hs3.below hb4).alloc (.cells #[.int .i64 fm, .bool ng, .slice a4 zs.length k4, .int .i64 T, .bool nn, .bool bd, .bool pl, .bool mi, .bool am] 31)
  have ho34 := (ho3'.below hb4).alloc (.cells #[.int .i64 fm, .bool ng, .slice a4 zs.length k4, .int .i64 T, .bool nn, .bool bd, .bool pl, .bool mi, .bool am] 31)
  have ho44 := ho4.alloc (.cells #[.int .i64 fm, .bool ng, .slice a4 zs.length k4, .int .i64 T, .bool nn, .bool bd, .bool pl, .bool mi, .bool am] 31)
  have bel4 := bel_al (bel_go bel3 hb4) (.cells #[.int .i64 fm, .bool ng, .slice a4 zs.length k4, .int .i64 T, .bool nn, .bool bd, .bool pl, .bool mi, .bool am] 31)
  have lw4 : w3.heap.size < w4.heap.size := by have := hb4.size; simp at this; omega
  have la : ∀ g, (Value.slice a4 zs.length k4).ownBlock = some g → w3.heap.size < g ∧ g < w4.heap.size := fun g hg => by
    have h1 := (ho4.at zs.length k4 g hg)
    simp at h1; omega
  clear hs3 hb4 ho4 ho3' bel3
  obtain ⟨c0, c1, c2, c3, c4, c5, c6, c7, c8⟩ := X.cs
  go_wp2_with fail
  refine (HIM.out _ a4 k4 (hT.below bel4) ho44.sl).mono ?_
  rintro e w5 ⟨a5, k5, rfl, ho5, hb5⟩
  clear c0 c1 c2 c3 c4 c5 c6 c7 c8
  replace P := (P.below hb5).alloc (.cells #[.int .i64 fmr, .bool ngr, .slice a5 L.length k5, .int .i64 Tr, .bool nnr, .bool bdr, .bool plr, .bool mir, .bool amr] 31)
  replace S := (S.below hb5).alloc (.cells #[.int .i64 fmr, .bool ngr, .slice a5 L.length k5, .int .i64 Tr, .bool nnr, .bool bdr, .bool plr, .bool mir, .bool amr] 31)
  replace X := (X.below hb5).alloc (.cells #[.int .i64 fmr, .bool ngr, .slice a5 L.length k5, .int .i64 Tr, .bool nnr, .bool bdr, .bool plr, .bool mir, .bool amr] 31)
  have G := Q9.new w5 (.int .i64 fmr) (.bool ngr) (.slice a5 L.length k5) (.int .i64 Tr) (.bool nnr) (.bool bdr) (.bool plr) (.bool mir) (.bool amr) 31
  have hs5 := (hs4.below hb5).alloc (.cells #[.int .i64 fmr, .bool ngr, .slice a5 L.length k5, .int .i64 Tr, .bool nnr, .bool bdr, .bool plr, .bool mir, .bool amr] 31)
  have ho35 := (ho34.below hb5).alloc (.cells #[.int .i64 fmr, .bool ngr, .slice a5 L.length k5, .int .i64 Tr, .bool nnr, .bool bdr, .bool plr, .bool mir, .bool amr] 31)
  have ho45 := (ho44.below hb5).alloc (.cells #[.int .i64 fmr, .bool ngr, .slice a5 L.length k5, .int .i64 Tr, .bool nnr, .bool bdr, .bool plr, .bool mir, .bool amr] 31)
  have ho55 := ho5.alloc (.cells #[.int .i64 fmr, .bool ngr, .slice a5 L.length k5, .int .i64 Tr, .bool nnr, .bool bdr, .bool plr, .bool mir, .bool amr] 31)
  have bel5 := bel_al (bel_go bel4 hb5) (.cells #[.int .i64 fmr, .bool ngr, .slice a5 L.length k5, .int .i64 Tr, .bool nnr, .bool bdr, .bool plr, .bool mir, .bool amr] 31)
  have lw5 : w4.heap.size < w5.heap.size := by have := hb5.size; simp at this; omega
  have lb : ∀ g, (Value.slice a5 L.length k5).ownBlock = some g → w4.heap.size < g ∧ g < w5.heap.size := fun g hg => by
    have h1 := (ho5.at L.length k5 g hg)
    simp at h1; omega
  have ho5b := ho5.block
  clear hs4 hb5 ho5 ho34 ho44 bel4
  obtain ⟨c0, c1, c2, c3, c4, c5, c6, c7, c8⟩ := G.cs
  obtain ⟨d0, d1, d2, d3, d4, d5, d6, d7, d8⟩ := S.cs
  go_wp2_with fail
  refine (eqA_same fmr ngr Tr nnr bdr plr mir amr a5 a3 k5 k3 L _ ho55.sl ho35.sl (by omega)).mono ?_
  rintro e w6 ⟨rfl, hb6⟩
  clear c0 c1 c2 c3 c4 c5 c6 c7 c8 d0 d1 d2 d3 d4 d5 d6 d7 d8
  replace P := P.below hb6; replace S := S.below hb6; replace X := X.below hb6; replace G := G.below hb6
  have hs6 := hs5.below hb6; have ho36 := ho35.below hb6; have ho46 := ho45.below hb6; have ho56 := ho55.below hb6
  have bel6 := bel_go bel5 hb6
  have lw6 := G.lt
  clear hs5 ho35 ho45 ho55 hb6 bel5
  have cx := P.cs
  have cy := X.cs
  go_wp2_with fail
  go_region_held3 (fun w' => (w'.cell? ⟨w.heap.size, 0, none⟩ = some (.int .i64 fm) ∧ w'.cell? ⟨w.heap.size, 1, none⟩ = some (.bool ng) ∧ w'.cell? ⟨w.heap.size, 2, none⟩ = some (.slice a zs.length cap) ∧ w'.cell? ⟨w.heap.size, 3, none⟩ = some (.int .i64 T) ∧ w'.cell? ⟨w.heap.size, 4, none⟩ = some (.bool nn) ∧ w'.cell? ⟨w.heap.size, 5, none⟩ = some (.bool bd) ∧ w'.cell? ⟨w.heap.size, 6, none⟩ = some (.bool pl) ∧ w'.cell? ⟨w.heap.size, 7, none⟩ = some (.bool mi) ∧ w'.cell? ⟨w.heap.size, 8, none⟩ = some (.bool am)) ∧ (w'.cell? ⟨w4.heap.size, 0, none⟩ = some (.int .i64 fm) ∧ w'.cell? ⟨w4.heap.size, 1, none⟩ = some (.bool ng) ∧ w'.cell? ⟨w4.heap.size, 2, none⟩ = some (.slice a4 zs.length k4) ∧ w'.cell? ⟨w4.heap.size, 3, none⟩ = some (.int .i64 T) ∧ w'.cell? ⟨w4.heap.size, 4, none⟩ = some (.bool nn) ∧ w'.cell? ⟨w4.heap.size, 5, none⟩ = some (.bool bd) ∧ w'.cell? ⟨w4.heap.size, 6, none⟩ = some (.bool pl) ∧ w'.cell? ⟨w4.heap.size, 7, none⟩ = some (.bool mi) ∧ w'.cell? ⟨w4.heap.size, 8, none⟩ = some (.bool am))) (first | assumption | exact ⟨cx, cy⟩)
    (first
      | (go_at_call 17; refine (toA_any fm ng T nn bd pl mi am (.slice a zs.length cap) zs _ hs6.drew hn).mono ?_; rintro e w7 ⟨a7, k7, rfl, ho7, hb7⟩; have four := And.intro (P.drew.below hb7).cs (X.drew.below hb7).cs; have ho47 := ho46.drew.below hb7)
      | (go_at_call 19; refine (eqA_same fm ng T nn bd pl mi am a4 a7 k4 k7 zs _ ho47.sl ho7.sl hl).mono ?_; rintro e w8 ⟨rfl, hb8⟩; have f8 := And.intro ((P.drew.below hb7).below hb8).cs ((X.drew.below hb7).below hb8).cs))
  replace P := (P.drew.below hb7).below hb8; replace S := (S.drew.below hb7).below hb8; replace X := (X.drew.below hb7).below hb8; replace G := (G.drew.below hb7).below hb8
  have hs8 := (hs6.drew.below hb7).below hb8; have ho38 := (ho36.drew.below hb7).below hb8; have ho48 := ho47.below hb8; have ho58 := (ho56.drew.below hb7).below hb8
  have bel8 : Below w.heap.size w w8 := (by repeat (first | exact bz0 _ _ | refine bz1 ?_ | refine bz2 ?_ _ | refine bz3 ?_ _ | refine bz4 ?_ hb8 | refine bz4 ?_ hb7 | refine bz4 ?_ bel6 | refine bz5 ?_ _ | refine bz6 ?_ _ | refine bz7 ?_ hb8 | refine bz7 ?_ hb7 | refine bz7 ?_ bel6))
  clear four f8 cx cy hs6 ho36 ho46 ho56 ho7 ho47 hb7 hb8 bel6
  obtain ⟨c0, c1, c2, c3, c4, c5, c6, c7, c8⟩ := X.cs
  go_wp2_with fail
  refine (markA_any fm ng T nn bd pl mi am a4 k4 zs 1 _ _ ho48 hn (by decide) (by decide)).mono ?_
  rintro e w9 ⟨rfl, hm9, hg9⟩
  clear c0 c1 c2 c3 c4 c5 c6 c7 c8 X
  replace P := P.grown hg9 (fun g hg => by have := la g hg; omega)
  replace S := S.grown hg9 (fun g hg => by have := la g hg; omega)
  replace G := G.grown hg9 (fun g hg => by have := la g hg; omega)
  have ho39 : Own w9 _ a3 k3 L := ho38.kept hg9 (fun g hg hr => by
    have h2 := la g hr
    rcases ho3b with ⟨e, _⟩ | ⟨g', e, _, h3⟩
    · rw [e] at hg; cases hg
    · rw [e] at hg; cases hg; omega)
  have ho59 : Own w9 _ a5 k5 L := ho58.kept hg9 (fun g hg hr => by
    have h2 := la g hr
    rcases ho5b with ⟨e, _⟩ | ⟨g', e, h3, _⟩
    · rw [e] at hg; cases hg
    · rw [e] at hg; cases hg; simp at h3; omega)
  have bel9 : Below w.heap.size w w9 := bel_mark (W := w8) bel8 hg9 (fun g hg => by have := la g hg; omega)
  have hs9 := hs.below bel9
  clear hm9 ho48 ho38 ho58 hs8 hg9 bel8 la
  have hk0 : ¬ ((1 : Int) + zs.length < 0) := by omega
  obtain ⟨c0, c1, c2, c3, c4, c5, c6, c7, c8⟩ := G.cs
  obtain ⟨d0, d1, d2, d3, d4, d5, d6, d7, d8⟩ := S.cs
  go_wp2_with fail
  refine (eqA_same fmr ngr Tr nnr bdr plr mir amr a5 a3 k5 k3 L _ ho59.sl ho39.sl (by omega)).mono ?_
  rintro e wa ⟨rfl, hba⟩
  clear c0 c1 c2 c3 c4 c5 c6 c7 c8 d0 d1 d2 d3 d4 d5 d6 d7 d8
  replace P := P.below hba; replace S := S.below hba; replace G := G.below hba
  have hsa := hs9.below hba; have ho3a := ho39.below hba; have ho5a := ho59.below hba
  have bela := bel_go bel9 hba
  clear hs9 ho39 ho59 hba bel9
  obtain ⟨c0, c1, c2, c3, c4, c5, c6, c7, c8⟩ := G.cs
  go_wp2_with fail
  refine (markA_any fmr ngr Tr nnr bdr plr mir amr a5 k5 L 1 _ _ ho5a (by omega) (by decide) (by decide)).mono ?_
  rintro e wb ⟨rfl, hmb, hgb⟩
  clear c0 c1 c2 c3 c4 c5 c6 c7 c8
  replace P := P.grown hgb (fun g hg => by have := lb g hg; omega)
  replace S := S.grown hgb (fun g hg => by have := lb g hg; omega)
  replace G := G.grown hgb (fun g hg => by have := lb g hg; omega)
  have ho3w : Own wb _ a3 k3 L := ho3a.kept hgb (fun g hg hr => by
    have h2 := lb g hr
    rcases ho3b with ⟨e, _⟩ | ⟨g', e, _, h3⟩
    · rw [e] at hg; cases hg
    · rw [e] at hg; cases hg; omega)
  have belb : Below w.heap.size w wb := bel_mark (W := wa) bela hgb (fun g hg => by have := lb g hg; omega)
  have hsb := hs.below belb
  have HEI := hid (iot_length 1 L.length)
  have hdI := iot_dg L.length (by omega)
  clear ho3a ho5a hsa hgb bela lb
  obtain ⟨c0, c1, c2, c3, c4, c5, c6, c7, c8⟩ := G.cs
  go_wp2_with fail
  have cc := heldA_any fmr ngr Tr nnr bdr plr mir amr a5 k5 (iot 1 L.length) 1 wb hmb.sl hdI (by rw [HEI.out]; omega) (by decide) (by decide)
  rw [HEI.out, HR.out] at cc
  refine cc.mono ?_
  clear cc
  rintro e wc ⟨rfl, hbc⟩
  clear c0 c1 c2 c3 c4 c5 c6 c7 c8
  replace P := P.below hbc; replace S := S.below hbc; replace G := G.below hbc
  have hsc := hsb.below hbc; have ho3c := ho3w.below hbc; have hmc := hmb.below hbc
  have belc := bel_go belb hbc
  clear hsb ho3w hmb hbc belb
  have hne : ((1 : Int) + L.length != 1 + L.length) = false := by simp
  have hq0 : ¬ ((1 : Int) + L.length < 0) := by omega
  obtain ⟨c0, c1, c2, c3, c4, c5, c6, c7, c8⟩ := P.cs
  go_wp2_with fail
  refine (toA_any fm ng T nn bd pl mi am _ zs _ hsc hn).mono ?_
  rintro e wd ⟨ad, kd, rfl, hod, hbd⟩
  clear c0 c1 c2 c3 c4 c5 c6 c7 c8 P
  replace S := S.below hbd; replace G := G.below hbd
  have ho3d := ho3c.below hbd; have hmd := hmc.below hbd
  have beld := bel_go belc hbd
  clear ho3c hmc hbd belc hsc
  go_wp2_with fail
  refine (HIM.out _ ad kd (hT.below beld) hod.sl).mono ?_
  rintro e we ⟨ae, ke, rfl, hoe, hbe⟩
  replace S := (S.below hbe).alloc (.cells #[.int .i64 fmr, .bool ngr, .slice ae L.length ke, .int .i64 Tr, .bool nnr, .bool bdr, .bool plr, .bool mir, .bool amr] 31)
  replace G := (G.below hbe).alloc (.cells #[.int .i64 fmr, .bool ngr, .slice ae L.length ke, .int .i64 Tr, .bool nnr, .bool bdr, .bool plr, .bool mir, .bool amr] 31)
  have H := Q9.new we (.int .i64 fmr) (.bool ngr) (.slice ae L.length ke) (.int .i64 Tr) (.bool nnr) (.bool bdr) (.bool plr) (.bool mir) (.bool amr) 31
  have ho3e := (ho3d.below hbe).alloc (.cells #[.int .i64 fmr, .bool ngr, .slice ae L.length ke, .int .i64 Tr, .bool nnr, .bool bdr, .bool plr, .bool mir, .bool amr] 31)
  have hme := (hmd.below hbe).alloc (.cells #[.int .i64 fmr, .bool ngr, .slice ae L.length ke, .int .i64 Tr, .bool nnr, .bool bdr, .bool plr, .bool mir, .bool amr] 31)
  have hoe' := hoe.alloc (.cells #[.int .i64 fmr, .bool ngr, .slice ae L.length ke, .int .i64 Tr, .bool nnr, .bool bdr, .bool plr, .bool mir, .bool amr] 31)
  have bele := bel_al (bel_go beld hbe) (.cells #[.int .i64 fmr, .bool ngr, .slice ae L.length ke, .int .i64 Tr, .bool nnr, .bool bdr, .bool plr, .bool mir, .bool amr] 31)
  clear ho3d hmd hoe hbe beld hod
  obtain ⟨c0, c1, c2, c3, c4, c5, c6, c7, c8⟩ := H.cs
  obtain ⟨d0, d1, d2, d3, d4, d5, d6, d7, d8⟩ := S.cs
  go_wp2_with fail
  refine (eqA_same fmr ngr Tr nnr bdr plr mir amr ae a3 ke k3 L _ hoe'.sl ho3e.sl (by omega)).mono ?_
  rintro e wf ⟨rfl, hbf⟩
  clear c0 c1 c2 c3 c4 c5 c6 c7 c8 d0 d1 d2 d3 d4 d5 d6 d7 d8 S H
  replace G := G.below hbf
  have hmf := hme.below hbf
  have belf := bel_go bele hbf
  clear hme hbf bele ho3e hoe'
  obtain ⟨c0, c1, c2, c3, c4, c5, c6, c7, c8⟩ := G.cs
  go_wp2_with fail
  have cf := heldA_any fmr ngr Tr nnr bdr plr mir amr a5 k5 (iot 1 L.length) 1 wf hmf.sl hdI (by rw [HEI.out]; omega) (by decide) (by decide)
  rw [HEI.out, HR.out] at cf
  refine cf.mono ?_
  clear cf
  rintro e wg ⟨rfl, hbg⟩
  go_wp2
  go_ret
  exact ⟨rfl, (by repeat (first | exact bz0 _ _ | refine bz1 ?_ | refine bz2 ?_ _ | refine bz3 ?_ _ | refine bz4 ?_ hbg | refine bz4 ?_ belf | refine bz5 ?_ _ | refine bz6 ?_ _ | refine bz7 ?_ hbg | refine bz7 ?_ belf))⟩
end LAccMul
/-- Numbers of 64 bits in a block of the call's own. -/
def Own8 (w : World) (B g cap : Nat) (os : List Int) : Prop := w.ownsRow B 27 1 (.slice (some ⟨g, 0, none⟩) os.length cap) os.length (os.map (Value.int .u64))
theorem Own8.sl {w : World} {B g cap : Nat} {os : List Int} (h : Own8 w B g cap os) : Sl .u64 w (.slice (some ⟨g, 0, none⟩) os.length cap) os := Sl.of_own h
theorem Own8.below {w w' : World} {B g cap : Nat} {os : List Int} (h : Own8 w B g cap os) (hb : Below w.heap.size w w') : Own8 w' B g cap os := by
  refine ⟨h.1, ?_⟩
  rcases h.2 with h2 | ⟨g, cap', cur, h1, h2, h3, h4⟩
  · exact .inl h2
  · exact .inr ⟨g, cap', cur, h1, h2, by rw [hb.block g (Array.getElem?_eq_some_iff.1 h3).1]; exact h3, h4⟩
/-- A row of factors in block b. -/
def F2 (w : World) (b : Nat) (xs ys : List Int) : Prop := ∀ k, k < xs.length → w.cell? ⟨b, k * 2, none⟩ = some (.int .u64 (xs.getD k 0)) ∧ w.cell? ⟨b, k * 2 + 1, none⟩ = some (.int .u64 (ys.getD k 0))
theorem F2.below {w w' : World} {b : Nat} {xs ys : List Int} (h : F2 w b xs ys) (hb : Below w.heap.size w w') : F2 w' b xs ys := fun k hk => by
  obtain ⟨h1, h2⟩ := h k hk
  exact ⟨(hb.cell (p := ⟨b, k * 2, none⟩) (World.block_lt_of_cell? w _ h1)).trans h1, (hb.cell (p := ⟨b, k * 2 + 1, none⟩) (World.block_lt_of_cell? w _ h2)).trans h2⟩
end Go.Proofs.YtnliofakkkjpoaaGreatDoor
