/-
  Several texts in one: RG, Laid, LaidB.
-/
import Derived.Test.YtfhifjmkcjehfaaDoorG22
import Derived.Test.YtfhifjmkcjehfaaDoorG06
import Derived.Deep.RegionHeld3
import Derived.Test.YtfhifjmkcjehfaaDoorCards
import Derived.Test.YtfhifjmkcjehfaaDoorTie
import Derived.Test.YtfhifjmkcjehfaaDoorG10
import Derived.ProofKit
import Derived.OpenShut
import Derived.WalkSmall
import Derived.Deep.DeepHandedRow
import Derived.Deep.Strs
import Derived.Lib.LaidTab
import Derived.Test.YtfhifjmkcjehfaaDoorG21
import Derived.LaidSub
import Derived.MakeChecks
/-
  The laws on rounding a wide: the walks.
-/
namespace Go.Proofs.YtfhifjmkcjehfaaDoor
set_option linter.unusedVariables false
set_option linter.unusedSimpArgs false
open Go.RowKit Go.Deep
def EfO (fm : Int) (ng : Bool) (zs : List Int) (e : Int) : Bool := RdO fm 1 ng zs e && decide (RdF fm 1 ng zs e = 0)
def EfB (fm : Int) (ng : Bool) (zs : List Int) (e : Int) : Int := if EfO fm ng zs e then RdB fm 1 ng zs e else 0
set_option maxHeartbeats 2000000 in
theorem exact_spec (fm : Int) (ng : Bool) (zs : List Int) (e : Int) (p : Option Addr) (c : Nat) (w : World) (hs : Sl .u32 w (.slice p zs.length c) zs) (hz : Nm.Dg zs) (hl : zs.length ≤ 1048576) :
    Calls Tryd.prog 17 #[.int .i64 fm, .agg #[.bool ng, .slice p zs.length c], .int .i64 e] w fun x w' => x = .returned (.tuple #[.int .u64 (EfB fm ng zs e), .bool (EfO fm ng zs e)]) ∧ Below w.heap.size w w' := by
  obtain ⟨b, hb⟩ : ∃ b, b = RdB fm 1 ng zs e := ⟨_, rfl⟩
  obtain ⟨f, hf⟩ : ∃ f, f = RdF fm 1 ng zs e := ⟨_, rfl⟩
  obtain ⟨o, ho⟩ : ∃ o, o = RdO fm 1 ng zs e := ⟨_, rfl⟩
  have C := hid (rounded_spec fm 1 ng zs e p c (w.alloc (.cells #[.bool ng, .slice p zs.length c] 25)) (hs.alloc _) hz hl)
  rw [← hb, ← hf, ← ho] at C
  have HO : Hid (EfO fm ng zs e = (o && decide (f = 0))) := hid (by unfold EfO; rw [← ho, ← hf])
  have HB : Hid (EfB fm ng zs e = if (o && decide (f = 0)) then b else 0) := hid (by unfold EfB; rw [HO.out, ← hb])
  clear hb hf ho
  cases o with
  | false =>
    go_enter Tryd.func17, Tryd.ntmps17
    go_wp2_with fail
    refine C.out.mono ?_
    rintro x w1 ⟨rfl, hb1⟩
    go_wp2
    go_ret2
    exact ⟨ret_ub (by rw [HB.out]; rfl) (by rw [HO.out]; rfl), (by repeat (first | exact Below.refl _ _ | refine Below.drew ?_ | refine bel_dn ?_ _ | refine bel_al ?_ _ | refine bel_go ?_ hb1 | refine Below.setCell ?_ (by first | omega | (simp; done) | (simp; omega)) _ | refine Below.alloc ?_ (by first | omega | (simp; done) | (simp; omega)) _ | refine Below.trans ?_ (Below.mono hb1 (by first | omega | (simp; done) | (simp; omega)))))⟩
  | true =>
    by_cases h0 : f = 0
    · subst h0
      go_enter Tryd.func17, Tryd.ntmps17
      go_wp2_with fail
      refine C.out.mono ?_
      rintro x w1 ⟨rfl, hb1⟩
      go_wp2
      go_ret2
      exact ⟨ret_ub (by rw [HB.out]; rfl) (by rw [HO.out]; rfl), (by repeat (first | exact Below.refl _ _ | refine Below.drew ?_ | refine bel_dn ?_ _ | refine bel_al ?_ _ | refine bel_go ?_ hb1 | refine Below.setCell ?_ (by first | omega | (simp; done) | (simp; omega)) _ | refine Below.alloc ?_ (by first | omega | (simp; done) | (simp; omega)) _ | refine Below.trans ?_ (Below.mono hb1 (by first | omega | (simp; done) | (simp; omega)))))⟩
    · have hne : (f != 0) = true := by rw [bne_iff_ne]; exact h0
      have HD : Hid (decide (f = 0) = false) := hid (decide_eq_false h0)
      clear h0
      go_enter Tryd.func17, Tryd.ntmps17
      go_wp2_with fail
      refine C.out.mono ?_
      rintro x w1 ⟨rfl, hb1⟩
      go_wp2
      go_ret2
      exact ⟨ret_ub (by rw [HB.out, HD.out]; rfl) (by rw [HO.out, HD.out]; rfl), (by repeat (first | exact Below.refl _ _ | refine Below.drew ?_ | refine bel_dn ?_ _ | refine bel_al ?_ _ | refine bel_go ?_ hb1 | refine Below.setCell ?_ (by first | omega | (simp; done) | (simp; omega)) _ | refine Below.alloc ?_ (by first | omega | (simp; done) | (simp; omega)) _ | refine Below.trans ?_ (Below.mono hb1 (by first | omega | (simp; done) | (simp; omega)))))⟩
set_option maxHeartbeats 2000000 in
theorem exact_impl (fm : Int) (ng : Bool) (zs : List Int) (e : Int) (p : Option Addr) (c : Nat) (w : World) (hT : T3 w) (hs : Sl .u32 w (.slice p zs.length c) zs) (hz : Nm.Dg zs) (hl : zs.length ≤ 1048576) :
    Calls Tryd.prog 18 #[.int .i64 fm, .agg #[.bool ng, .slice p zs.length c], .int .i64 e] w fun x w' => x = .returned (.tuple #[.int .u64 (EfB fm ng zs e), .bool (EfO fm ng zs e)]) ∧ Below w.heap.size w w' := by
  obtain ⟨b, hb⟩ : ∃ b, b = RdB fm 1 ng zs e := ⟨_, rfl⟩
  obtain ⟨f, hf⟩ : ∃ f, f = RdF fm 1 ng zs e := ⟨_, rfl⟩
  obtain ⟨o, ho⟩ : ∃ o, o = RdO fm 1 ng zs e := ⟨_, rfl⟩
  have C := hid (rounded_impl fm 1 ng zs e p c (w.alloc (.cells #[.bool ng, .slice p zs.length c] 25)) (hT.al _) (hs.alloc _) hz hl)
  rw [← hb, ← hf, ← ho] at C
  have HO : Hid (EfO fm ng zs e = (o && decide (f = 0))) := hid (by unfold EfO; rw [← ho, ← hf])
  have HB : Hid (EfB fm ng zs e = if (o && decide (f = 0)) then b else 0) := hid (by unfold EfB; rw [HO.out, ← hb])
  clear hb hf ho
  cases o with
  | false =>
    go_enter Tryd.func18, Tryd.ntmps18
    go_wp2_with fail
    refine C.out.mono ?_
    rintro x w1 ⟨rfl, hb1⟩
    go_wp2
    go_ret2
    exact ⟨ret_ub (by rw [HB.out]; rfl) (by rw [HO.out]; rfl), (by repeat (first | exact Below.refl _ _ | refine Below.drew ?_ | refine bel_dn ?_ _ | refine bel_al ?_ _ | refine bel_go ?_ hb1 | refine Below.setCell ?_ (by first | omega | (simp; done) | (simp; omega)) _ | refine Below.alloc ?_ (by first | omega | (simp; done) | (simp; omega)) _ | refine Below.trans ?_ (Below.mono hb1 (by first | omega | (simp; done) | (simp; omega)))))⟩
  | true =>
    by_cases h0 : f = 0
    · subst h0
      go_enter Tryd.func18, Tryd.ntmps18
      go_wp2_with fail
      refine C.out.mono ?_
      rintro x w1 ⟨rfl, hb1⟩
      go_wp2
      go_ret2
      exact ⟨ret_ub (by rw [HB.out]; rfl) (by rw [HO.out]; rfl), (by repeat (first | exact Below.refl _ _ | refine Below.drew ?_ | refine bel_dn ?_ _ | refine bel_al ?_ _ | refine bel_go ?_ hb1 | refine Below.setCell ?_ (by first | omega | (simp; done) | (simp; omega)) _ | refine Below.alloc ?_ (by first | omega | (simp; done) | (simp; omega)) _ | refine Below.trans ?_ (Below.mono hb1 (by first | omega | (simp; done) | (simp; omega)))))⟩
    · have hne : (f != 0) = true := by rw [bne_iff_ne]; exact h0
      have HD : Hid (decide (f = 0) = false) := hid (decide_eq_false h0)
      clear h0
      go_enter Tryd.func18, Tryd.ntmps18
      go_wp2_with fail
      refine C.out.mono ?_
      rintro x w1 ⟨rfl, hb1⟩
      go_wp2
      go_ret2
      exact ⟨ret_ub (by rw [HB.out, HD.out]; rfl) (by rw [HO.out, HD.out]; rfl), (by repeat (first | exact Below.refl _ _ | refine Below.drew ?_ | refine bel_dn ?_ _ | refine bel_al ?_ _ | refine bel_go ?_ hb1 | refine Below.setCell ?_ (by first | omega | (simp; done) | (simp; omega)) _ | refine Below.alloc ?_ (by first | omega | (simp; done) | (simp; omega)) _ | refine Below.trans ?_ (Below.mono hb1 (by first | omega | (simp; done) | (simp; omega)))))⟩
attribute [local go_sem ↓] Go.wp_at_zero Go.wp_at_succ
set_option maxHeartbeats 4000000 in
set_option maxRecDepth 100000 in
theorem law_Rounded (fm mode : Int) (ng : Bool) (a : Option Addr) (cap : Nat) (zs : List Int) (e : Int) (w : World) (hT : T3 w) (hs : Sl .u32 w (.slice a zs.length cap) zs) (hz : Nm.Dg zs) :
    Calls Tryd.prog 4 #[.int .i64 fm, .int .i64 mode, .agg #[.bool ng, .slice a zs.length cap], .int .i64 e] w fun e w' => e = .returned (.bool true) ∧ Below w.heap.size w w' := by
  have hlm : zs.length ≤ 9223372036854775807 := by obtain ⟨_, h1, h2, _⟩ := hs.cells; unfold maxLen at h2; omega
  by_cases hn : zs.length ≤ 1048576
  · have hl : zs.length ≤ 140737488355328 := by omega
    have hr' : ¬ szR 1048576 zs.length < 0 := by unfold szR; rw [if_neg (by omega)]; omega
    have hse := eqW_refl ng zs
    obtain ⟨b, hb⟩ : ∃ b, b = RdB fm mode ng zs e := ⟨_, rfl⟩
    obtain ⟨f, hf⟩ : ∃ f, f = RdF fm mode ng zs e := ⟨_, rfl⟩
    obtain ⟨o, ho⟩ : ∃ o, o = RdO fm mode ng zs e := ⟨_, rfl⟩
    have CS := hid (fun a c w' h => rounded_spec fm mode ng zs e a c w' h hz hn)
    have CI := hid (fun a c w' h h' => rounded_impl fm mode ng zs e a c w' h h' hz hn)
    rw [← hb, ← hf, ← ho] at CS CI
    clear hb hf ho
    have q1 : (b != b) = false := by simp
    have q2 : (f != f) = false := by simp
    have q3 : (o != o) = false := by simp
    go_enter Tryd.func4, Tryd.ntmps4
    go_wp2_with fail
    refine (szW_any ng a zs.length cap 1048576 _ hlm (by decide) (by decide)).mono ?_
    rintro x w1 ⟨rfl, hb1⟩
    have x1 := (Box.new w (.bool ng) (.slice a zs.length cap) 31).below hb1
    have hs1 := (hs.alloc _).below hb1
    obtain ⟨c10, c11⟩ := x1
    go_wp2_with fail
    refine (toW_any ng _ zs _ hs1 hn).mono ?_
    rintro x w2 ⟨a2, c2, rfl, ho2, hb2⟩
    have x2 := Box.below ⟨c10, c11⟩ hb2
    have hs2 := hs1.below hb2
    clear c10 c11
    go_wp2_with fail
    refine (CS.out a2 c2 _ ho2.sl).mono ?_
    rintro x w3 ⟨rfl, hb3⟩
    have x3 := x2.below hb3
    have hs3 := hs2.below hb3
    have bel3 : Below w.heap.size w w3 := (by repeat (first | exact Below.refl _ _ | refine Below.drew ?_ | refine bel_dn ?_ _ | refine bel_al ?_ _ | refine bel_go ?_ hb3 | refine bel_go ?_ hb2 | refine bel_go ?_ hb1 | refine Below.setCell ?_ (by first | omega | (simp; done) | (simp; omega)) _ | refine Below.alloc ?_ (by first | omega | (simp; done) | (simp; omega)) _ | refine Below.trans ?_ (Below.mono hb3 (by first | omega | (simp; done) | (simp; omega))) | refine Below.trans ?_ (Below.mono hb2 (by first | omega | (simp; done) | (simp; omega))) | refine Below.trans ?_ (Below.mono hb1 (by first | omega | (simp; done) | (simp; omega)))))
    clear hb1 hb2 hb3 x2 hs1 hs2 ho2
    obtain ⟨c30, c31⟩ := x3
    go_wp2_with fail
    refine (toW_any ng _ zs _ hs3 hn).mono ?_
    rintro x w4 ⟨a4, c4, rfl, ho4, hb4⟩
    have x4 := (Box.below ⟨c30, c31⟩ hb4).alloc (.cells #[.bool ng, .slice a4 zs.length c4] 25)
    have hs4 := (hs3.below hb4).alloc (.cells #[.bool ng, .slice a4 zs.length c4] 25)
    have y4 := Box.new w4 (.bool ng) (.slice a4 zs.length c4) 25
    have o4 := ho4.sl.alloc (.cells #[.bool ng, .slice a4 zs.length c4] 25)
    have bel4 : Below w.heap.size w (w4.alloc (.cells #[.bool ng, .slice a4 zs.length c4] 25)) := bel_al (bel_go bel3 hb4) _
    have T4 := hT.below bel4
    clear c30 c31 hs3 bel3 hb4 ho4
    have y4' := y4
    obtain ⟨d40, d41⟩ := y4'
    go_wp2_with fail
    refine (CI.out a4 c4 _ T4 o4).mono ?_
    rintro x w5 ⟨rfl, hb5⟩
    obtain ⟨c50, c51⟩ := x4.below hb5
    obtain ⟨d50, d51⟩ := y4.below hb5
    have hs5 := hs4.below hb5
    have o5 := o4.below hb5
    have bel5 := bel_go bel4 hb5
    clear d40 d41 x4 y4 hs4 o4 bel4 T4 hb5
    go_wp2_with fail
    go_region_held3 (fun w' => w'.cell? ⟨w.heap.size, 0, none⟩ = some (.bool ng) ∧ w'.cell? ⟨w.heap.size, 1, none⟩ = some (.slice a zs.length cap) ∧ w'.cell? ⟨w4.heap.size, 0, none⟩ = some (.bool ng) ∧ w'.cell? ⟨w4.heap.size, 1, none⟩ = some (.slice a4 zs.length c4)) (first | assumption | (refine ⟨?_, ?_, ?_, ?_⟩ <;> assumption))
      (first
        | (go_at_call 15; refine (toW_any ng (.slice a zs.length cap) zs _ hs5.drew hn).mono ?_; rintro x w6 ⟨a6, c6, rfl, ho6, hb6⟩; have four := four_b (W := w5.drew) c50 c51 d50 d51 hb6; have o6 := (o5.drew).below hb6)
        | (go_at_call 10; refine (eqW_any ng ng a4 a6 c4 c6 zs zs _ o6 ho6.sl hl).mono ?_; rintro x w7 ⟨rfl, hb7⟩; have f7 := four_b four.1 four.2.1 four.2.2.1 four.2.2.2 hb7))
    go_wp2
    go_ret
    exact ⟨rfl, (by repeat (first | exact Below.refl _ _ | refine Below.drew ?_ | refine bel_dn ?_ _ | refine bel_al ?_ _ | refine bel_go ?_ hb7 | refine bel_go ?_ hb6 | refine bel_go ?_ bel5 | refine Below.setCell ?_ (by first | omega | (simp; done) | (simp; omega)) _ | refine Below.alloc ?_ (by first | omega | (simp; done) | (simp; omega)) _ | refine Below.trans ?_ (Below.mono hb7 (by first | omega | (simp; done) | (simp; omega))) | refine Below.trans ?_ (Below.mono hb6 (by first | omega | (simp; done) | (simp; omega))) | refine Below.trans ?_ (Below.mono bel5 (by first | omega | (simp; done) | (simp; omega)))))⟩
  · have hr' : szR 1048576 zs.length < 0 := by unfold szR; rw [if_pos (by omega)]; decide
    go_enter Tryd.func4, Tryd.ntmps4
    go_wp2_with fail
    refine (szW_any ng a zs.length cap 1048576 _ hlm (by decide) (by decide)).mono ?_
    rintro x w1 ⟨rfl, hb1⟩
    go_wp2
    go_ret
    exact ⟨rfl, (by repeat (first | exact Below.refl _ _ | refine Below.drew ?_ | refine bel_dn ?_ _ | refine bel_al ?_ _ | refine bel_go ?_ hb1 | refine Below.setCell ?_ (by first | omega | (simp; done) | (simp; omega)) _ | refine Below.alloc ?_ (by first | omega | (simp; done) | (simp; omega)) _ | refine Below.trans ?_ (Below.mono hb1 (by first | omega | (simp; done) | (simp; omega)))))⟩
set_option maxHeartbeats 4000000 in
set_option maxRecDepth 100000 in
theorem law_ExactFloat (fm : Int) (ng : Bool) (a : Option Addr) (cap : Nat) (zs : List Int) (e : Int) (w : World) (hT : T3 w) (hs : Sl .u32 w (.slice a zs.length cap) zs) (hz : Nm.Dg zs) :
    Calls Tryd.prog 5 #[.int .i64 fm, .agg #[.bool ng, .slice a zs.length cap], .int .i64 e] w fun e w' => e = .returned (.bool true) ∧ Below w.heap.size w w' := by
  have hlm : zs.length ≤ 9223372036854775807 := by obtain ⟨_, h1, h2, _⟩ := hs.cells; unfold maxLen at h2; omega
  by_cases hn : zs.length ≤ 1048576
  · have hl : zs.length ≤ 140737488355328 := by omega
    have hr' : ¬ szR 1048576 zs.length < 0 := by unfold szR; rw [if_neg (by omega)]; omega
    have hse := eqW_refl ng zs
    obtain ⟨b, hb⟩ : ∃ b, b = EfB fm ng zs e := ⟨_, rfl⟩
    obtain ⟨o, ho⟩ : ∃ o, o = EfO fm ng zs e := ⟨_, rfl⟩
    have CS := hid (fun a c w' h => exact_spec fm ng zs e a c w' h hz hn)
    have CI := hid (fun a c w' h h' => exact_impl fm ng zs e a c w' h h' hz hn)
    rw [← hb, ← ho] at CS CI
    clear hb ho
    have q1 : (b != b) = false := by simp
    have q3 : (o != o) = false := by simp
    go_enter Tryd.func5, Tryd.ntmps5
    go_wp2_with fail
    refine (szW_any ng a zs.length cap 1048576 _ hlm (by decide) (by decide)).mono ?_
    rintro x w1 ⟨rfl, hb1⟩
    have x1 := (Box.new w (.bool ng) (.slice a zs.length cap) 31).below hb1
    have hs1 := (hs.alloc _).below hb1
    obtain ⟨c10, c11⟩ := x1
    go_wp2_with fail
    refine (toW_any ng _ zs _ hs1 hn).mono ?_
    rintro x w2 ⟨a2, c2, rfl, ho2, hb2⟩
    have x2 := Box.below ⟨c10, c11⟩ hb2
    have hs2 := hs1.below hb2
    clear c10 c11
    go_wp2_with fail
    refine (CS.out a2 c2 _ ho2.sl).mono ?_
    rintro x w3 ⟨rfl, hb3⟩
    have x3 := x2.below hb3
    have hs3 := hs2.below hb3
    have bel3 : Below w.heap.size w w3 := (by repeat (first | exact Below.refl _ _ | refine Below.drew ?_ | refine bel_dn ?_ _ | refine bel_al ?_ _ | refine bel_go ?_ hb3 | refine bel_go ?_ hb2 | refine bel_go ?_ hb1 | refine Below.setCell ?_ (by first | omega | (simp; done) | (simp; omega)) _ | refine Below.alloc ?_ (by first | omega | (simp; done) | (simp; omega)) _ | refine Below.trans ?_ (Below.mono hb3 (by first | omega | (simp; done) | (simp; omega))) | refine Below.trans ?_ (Below.mono hb2 (by first | omega | (simp; done) | (simp; omega))) | refine Below.trans ?_ (Below.mono hb1 (by first | omega | (simp; done) | (simp; omega)))))
    clear hb1 hb2 hb3 x2 hs1 hs2 ho2
    obtain ⟨c30, c31⟩ := x3
    go_wp2_with fail
    refine (toW_any ng _ zs _ hs3 hn).mono ?_
    rintro x w4 ⟨a4, c4, rfl, ho4, hb4⟩
    have x4 := (Box.below ⟨c30, c31⟩ hb4).alloc (.cells #[.bool ng, .slice a4 zs.length c4] 25)
    have hs4 := (hs3.below hb4).alloc (.cells #[.bool ng, .slice a4 zs.length c4] 25)
    have y4 := Box.new w4 (.bool ng) (.slice a4 zs.length c4) 25
    have o4 := ho4.sl.alloc (.cells #[.bool ng, .slice a4 zs.length c4] 25)
    have bel4 : Below w.heap.size w (w4.alloc (.cells #[.bool ng, .slice a4 zs.length c4] 25)) := bel_al (bel_go bel3 hb4) _
    have T4 := hT.below bel4
    clear c30 c31 hs3 bel3 hb4 ho4
    have y4' := y4
    obtain ⟨d40, d41⟩ := y4'
    go_wp2_with fail
    refine (CI.out a4 c4 _ T4 o4).mono ?_
    rintro x w5 ⟨rfl, hb5⟩
    obtain ⟨c50, c51⟩ := x4.below hb5
    obtain ⟨d50, d51⟩ := y4.below hb5
    have hs5 := hs4.below hb5
    have o5 := o4.below hb5
    have bel5 := bel_go bel4 hb5
    clear d40 d41 x4 y4 hs4 o4 bel4 T4 hb5
    go_wp2_with fail
    go_region_held3 (fun w' => w'.cell? ⟨w.heap.size, 0, none⟩ = some (.bool ng) ∧ w'.cell? ⟨w.heap.size, 1, none⟩ = some (.slice a zs.length cap) ∧ w'.cell? ⟨w4.heap.size, 0, none⟩ = some (.bool ng) ∧ w'.cell? ⟨w4.heap.size, 1, none⟩ = some (.slice a4 zs.length c4)) (first | assumption | (refine ⟨?_, ?_, ?_, ?_⟩ <;> assumption))
      (first
        | (go_at_call 15; refine (toW_any ng (.slice a zs.length cap) zs _ hs5.drew hn).mono ?_; rintro x w6 ⟨a6, c6, rfl, ho6, hb6⟩; have four := four_b (W := w5.drew) c50 c51 d50 d51 hb6; have o6 := (o5.drew).below hb6)
        | (go_at_call 10; refine (eqW_any ng ng a4 a6 c4 c6 zs zs _ o6 ho6.sl hl).mono ?_; rintro x w7 ⟨rfl, hb7⟩; have f7 := four_b four.1 four.2.1 four.2.2.1 four.2.2.2 hb7))
    go_wp2
    go_ret
    exact ⟨rfl, (by repeat (first | exact Below.refl _ _ | refine Below.drew ?_ | refine bel_dn ?_ _ | refine bel_al ?_ _ | refine bel_go ?_ hb7 | refine bel_go ?_ hb6 | refine bel_go ?_ bel5 | refine Below.setCell ?_ (by first | omega | (simp; done) | (simp; omega)) _ | refine Below.alloc ?_ (by first | omega | (simp; done) | (simp; omega)) _ | refine Below.trans ?_ (Below.mono hb7 (by first | omega | (simp; done) | (simp; omega))) | refine Below.trans ?_ (Below.mono hb6 (by first | omega | (simp; done) | (simp; omega))) | refine Below.trans ?_ (Below.mono bel5 (by first | omega | (simp; done) | (simp; omega)))))⟩
  · have hr' : szR 1048576 zs.length < 0 := by unfold szR; rw [if_pos (by omega)]; decide
    go_enter Tryd.func5, Tryd.ntmps5
    go_wp2_with fail
    refine (szW_any ng a zs.length cap 1048576 _ hlm (by decide) (by decide)).mono ?_
    rintro x w1 ⟨rfl, hb1⟩
    go_wp2
    go_ret
    exact ⟨rfl, (by repeat (first | exact Below.refl _ _ | refine Below.drew ?_ | refine bel_dn ?_ _ | refine bel_al ?_ _ | refine bel_go ?_ hb1 | refine Below.setCell ?_ (by first | omega | (simp; done) | (simp; omega)) _ | refine Below.alloc ?_ (by first | omega | (simp; done) | (simp; omega)) _ | refine Below.trans ?_ (Below.mono hb1 (by first | omega | (simp; done) | (simp; omega)))))⟩
end Go.Proofs.YtfhifjmkcjehfaaDoor
/-
  The package's table of formats, as the row's list tells it: its cells.
-/
namespace Go.Proofs.YtfhifjmkcjehfaaDoor
set_option linter.unusedVariables false
set_option linter.unusedSimpArgs false
namespace Ld
open Go.RowKit Go.Deep
theorem own : ownKnob Tryd.prog.godebug = none := by kernel_rfl
theorem laidOut : laidOutB Tryd.prog = true := by kernel_rfl
theorem gTab : Tryd.prog.globalNamed "loop.example/g00672/impl.formSizes" = some 0 := by kernel_rfl
theorem gTabType : (Tryd.prog.globals[0]?).map (·.type) = some 88 := by kernel_rfl
theorem cellsS : Tryd.prog.cellsOf 52 = 3 := by kernel_rfl
theorem cellsU : Tryd.prog.cellsOf 22 = 1 := by kernel_rfl
theorem cellsI : Tryd.prog.cellsOf 2 = 1 := by kernel_rfl

theorem bu64 {a : Int} (h : (Lit.int .u64 a).wf = true) : 0 ≤ a ∧ a < 18446744073709551616 := by have := bounds_u64 h; omega
theorem bi64 {a : Int} (h : (Lit.int .i64 a).wf = true) : -9223372036854775808 ≤ a ∧ a ≤ 9223372036854775807 := by have := bounds_i64 h; omega
theorem lt_of_var {P : Program} {w : World} {n : String} {g : Nat} {cs : Array Value} (hg : P.globalNamed n = some g) (h : w.var? P n = some cs) : g < w.heap.size := by
  simp only [World.var?, hg, Option.bind_some] at h
  by_cases hlt : g < w.heap.size
  · exact hlt
  · rw [Array.getElem?_eq_none (by omega)] at h; simp at h

/-- One row of the table: its three cells. -/
theorem three {H : Type} {enc : TypeId × Value → H} {w : World} {base : Nat} {sp : Nat → Bool} {held : Bool} {m : Nat} {cs : List Value} {a b c : Int} {q : List MemPlace}
    (h : DataW.trod enc Tryd.prog w base sp held m 52 cs = some (.agg [.lit (.int .u64 a), .lit (.int .u64 b), .lit (.int .i64 c)], q)) :
    cs[0]? = some (.int .u64 a) ∧ cs[1]? = some (.int .u64 b) ∧ cs[2]? = some (.int .i64 c) := by
  obtain ⟨y0, y1, y2, n, hx, hl, h0, h1, h2⟩ := trod_struct3 Tryd.underlying52 h
  obtain ⟨n0, e0, rfl, _⟩ := DataW.trod_int Tryd.underlying22 h0
  obtain ⟨n1, e1, rfl, _⟩ := DataW.trod_int Tryd.underlying22 h1
  obtain ⟨n2, e2, rfl, _⟩ := DataW.trod_int Tryd.underlying2 h2
  simp only [Prod.mk.injEq, DataW.agg.injEq, List.cons.injEq, DataW.lit.injEq, Lit.int.injEq, true_and, and_true] at hx
  obtain ⟨⟨rfl, rfl, rfl⟩, _⟩ := hx
  simp only [cellsU, cellsI] at e0 e1 e2
  refine ⟨?_, ?_, ?_⟩
  · have := congrArg (·[0]?) e0; simpa [List.getElem?_take, List.getElem?_drop] using this
  · have := congrArg (·[0]?) e1; simpa [List.getElem?_take, List.getElem?_drop] using this
  · have := congrArg (·[0]?) e2; simpa [List.getElem?_take, List.getElem?_drop] using this

theorem table {W : World} (h : laidMet Tryd.prog [("loop.example/g00672/impl.formSizes", Rows.laid_loop_example_g00672_impl_formSizes)] W) : Tab W := by
  obtain ⟨ps, ⟨g', t', cs, fuel, p, q, hg', ht', hvar, hd, _, _⟩, _⟩ := h
  obtain rfl := Option.some.inj (gTab.symm.trans hg')
  obtain rfl := Option.some.inj (gTabType.symm.trans ht')
  obtain ⟨xs, m, rfl, hx, hlen, hxl, hel⟩ := DataW.trod_array Tryd.underlying88 hd
  match xs, hxl with
  | [x0, x1, x2], _ =>
    simp only [Rows.laid_loop_example_g00672_impl_formSizes, Prod.mk.injEq, DataW.agg.injEq, List.map_cons, List.map_nil, List.cons.injEq, and_true] at hx
    obtain ⟨⟨hx0, hx1, hx2⟩, _⟩ := hx
    have t0 := hel 0 (by decide); have t1 := hel 1 (by decide); have t2 := hel 2 (by decide)
    simp only [cellsS, List.getElem?_cons_zero, List.getElem?_cons_succ] at t0 t1 t2
    obtain ⟨x0a, x0b⟩ := x0; obtain ⟨x1a, x1b⟩ := x1; obtain ⟨x2a, x2b⟩ := x2
    simp only at hx0 hx1 hx2
    subst hx0; subst hx1; subst hx2
    have r0 := three t0; have r1 := three t1; have r2 := three t2
    have cell : ∀ i v, cs.toList[i]? = some v → W.cell? ⟨0, i, none⟩ = some v := fun i v hv => by
      rw [World.var?_cell gTab hvar i]; simpa using hv
    simp [List.getElem?_take, List.getElem?_drop] at r0 r1 r2
    exact ⟨cell 0 _ (by simpa using r0.1), cell 1 _ (by simpa using r0.2.1), cell 2 _ (by simpa using r0.2.2), cell 3 _ (by simpa using r1.1), cell 4 _ (by simpa using r1.2.1), cell 5 _ (by simpa using r1.2.2), cell 6 _ (by simpa using r2.1), cell 7 _ (by simpa using r2.2.1), cell 8 _ (by simpa using r2.2.2)⟩
end Ld
end Go.Proofs.YtfhifjmkcjehfaaDoor
/-
  The package's tables, as the row's list tells them: the formats' sizes, and Go's own tables of halvings.
-/
namespace Go.Proofs.YtfhifjmkcjehfaaDoor
set_option linter.unusedVariables false
set_option linter.unusedSimpArgs false
namespace Ld
open Go.RowKit Go.Deep
def zs32 : List Int := Lib.deBruijn32tab.map Int.ofNat
theorem tb32 {W : World} (h : laidMet Tryd.prog [("math/bits.deBruijn32tab", Rows.laid_math_bits_deBruijn32tab)] W) : Tb W 2 Lib.deBruijn32tab := by
  have h' : laidMet Tryd.prog (("math/bits.deBruijn32tab", Lib.tabData .u8 zs32) :: []) W := h
  have hg : Tryd.prog.globalNamed "math/bits.deBruijn32tab" = some 2 := by kernel_rfl
  have ht := Lib.tabIs_of_head (g := 2) (t := 115) (e := 5) (n := 32) hg (by kernel_rfl) Tryd.underlying115 Tryd.underlying5 (by kernel_rfl) (by kernel_rfl) h'
  intro i hi
  have := ht.cell hg i (by simpa [zs32] using hi)
  rw [this]
  congr 2
  unfold zs32
  rw [List.getD_eq_getElem?_getD, List.getElem?_map, List.getD_eq_getElem?_getD, List.getElem?_eq_getElem hi]; rfl
def zs64 : List Int := Lib.deBruijn64tab.map Int.ofNat
theorem tb64 {W : World} (h : laidMet Tryd.prog [("math/bits.deBruijn64tab", Rows.laid_math_bits_deBruijn64tab)] W) : Tb W 1 Lib.deBruijn64tab := by
  have h' : laidMet Tryd.prog (("math/bits.deBruijn64tab", Lib.tabData .u8 zs64) :: []) W := h
  have hg : Tryd.prog.globalNamed "math/bits.deBruijn64tab" = some 1 := by kernel_rfl
  have ht := Lib.tabIs_of_head (g := 1) (t := 114) (e := 5) (n := 64) hg (by kernel_rfl) Tryd.underlying114 Tryd.underlying5 (by kernel_rfl) (by kernel_rfl) h'
  intro i hi
  have := ht.cell hg i (by simpa [zs64] using hi)
  rw [this]
  congr 2
  unfold zs64
  rw [List.getD_eq_getElem?_getD, List.getElem?_map, List.getD_eq_getElem?_getD, List.getElem?_eq_getElem hi]; rfl
theorem three_tabs {W : World} (h : laidMetH Tryd.prog [("math/bits.deBruijn32tab", Rows.laid_math_bits_deBruijn32tab), ("math/bits.deBruijn64tab", Rows.laid_math_bits_deBruijn64tab), ("loop.example/g00672/impl.formSizes", Rows.laid_loop_example_g00672_impl_formSizes)] W) : T3 W := by
  have h : laidMet Tryd.prog _ W := (laidMetH_iff.1 h).1
  have h1 := h.filter (fun x => x.1 == "loop.example/g00672/impl.formSizes")
  have h2 := h.filter (fun x => x.1 == "math/bits.deBruijn64tab")
  have h3 := h.filter (fun x => x.1 == "math/bits.deBruijn32tab")
  exact ⟨⟨table h1, tb64 h2⟩, tb32 h3⟩
theorem two_tabs {W : World} (h : laidMetH Tryd.prog [("math/bits.deBruijn64tab", Rows.laid_math_bits_deBruijn64tab), ("loop.example/g00672/impl.formSizes", Rows.laid_loop_example_g00672_impl_formSizes)] W) : Ts W := by
  have h : laidMet Tryd.prog _ W := (laidMetH_iff.1 h).1
  have h1 := h.filter (fun x => x.1 == "loop.example/g00672/impl.formSizes")
  have h2 := h.filter (fun x => x.1 == "math/bits.deBruijn64tab")
  exact ⟨table h1, tb64 h2⟩
end Ld
end Go.Proofs.YtfhifjmkcjehfaaDoor
