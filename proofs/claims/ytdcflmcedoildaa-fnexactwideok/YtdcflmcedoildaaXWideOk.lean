/-
  At every wide, whatever its limbs, impl.WideOk answers as the specification's WideOk, and writes into no argument: laws.FnExactWideOk returns true. No conditions.
-/
import Derived.Test.YtdcflmcedoildaaLawsB
import Derived.Test.YtdcflmcedoildaaFacts
import Derived.Deep.RegionHeld3
import Derived.ProofKit
import Derived.OpenShut
import Derived.ShutString
import Derived.ChangeOld
import Derived.Lib.SmallJoins
namespace Go.Proofs.Ytdcflmcedoildaa
set_option linter.unusedVariables false
set_option linter.unusedSimpArgs false
open Go.RowKit Go.Deep
namespace XWideOk

theorem keep4 {w w' : World} {b b' : Nat} {v0 v1 u0 u1 : Value} (h0 : w.cell? ⟨b, 0, none⟩ = some v0) (h1 : w.cell? ⟨b, 1, none⟩ = some v1) (k0 : w.cell? ⟨b', 0, none⟩ = some u0) (k1 : w.cell? ⟨b', 1, none⟩ = some u1) (hb : Below w.heap.size w w') :
    w'.cell? ⟨b, 0, none⟩ = some v0 ∧ w'.cell? ⟨b, 1, none⟩ = some v1 ∧ w'.cell? ⟨b', 0, none⟩ = some u0 ∧ w'.cell? ⟨b', 1, none⟩ = some u1 :=
  ⟨(Box.below ⟨h0, h1⟩ hb).1, (Box.below ⟨h0, h1⟩ hb).2, (Box.below ⟨k0, k1⟩ hb).1, (Box.below ⟨k0, k1⟩ hb).2⟩
theorem eqW_same (n : Bool) (zs : List Int) : eqW n n zs zs = true := by simp [eqW, eqL]

set_option maxHeartbeats 1000000 in
theorem law (ng : Bool) (a : Option Addr) (cap : Nat) (zs : List Int) (w : World) (hs : Sl .u32 w (.slice a zs.length cap) zs) :
    Calls Try.prog 9 #[.agg #[.bool ng, .slice a zs.length cap]] w fun e w' => e = .returned (.bool true) ∧ Below w.heap.size w w' := by
  have hlm : zs.length ≤ 9223372036854775807 := by obtain ⟨_, h1, h2, _⟩ := hs.cells; unfold maxLen at h2; omega
  by_cases hn : zs.length ≤ 1048576
  · have hl : zs.length ≤ 140737488355328 := by omega
    have hr' : ¬ szR 1048576 zs.length < 0 := by unfold szR; rw [if_neg (by omega)]; omega
    have hbe : (okB ng zs == okB ng zs) = true := by simp
    have hse := eqW_same ng zs
    go_enter Try.func9, Try.ntmps9
    go_wp2_with fail
    refine (szW_any ng a zs.length cap 1048576 _ hlm (by decide) (by decide)).mono ?_
    rintro e w1 ⟨rfl, hb1⟩
    have x1 := (Box.new w _ _ _).below hb1
    have hs1 := (hs.alloc _).below hb1
    obtain ⟨c10, c11⟩ := x1
    go_wp2_with fail
    refine (toW_any ng _ zs _ hs1 hn).mono ?_
    rintro e w2 ⟨a2, c2, rfl, ho2, hb2⟩
    have x2 := Box.below ⟨c10, c11⟩ hb2
    have hs2 := hs1.below hb2
    go_wp2_with fail
    refine (ok_spec ng a2 c2 zs _ ho2.sl hl).mono ?_
    rintro e w3 ⟨rfl, hb3⟩
    have x3 := x2.below hb3
    have hs3 := hs2.below hb3
    obtain ⟨c30, c31⟩ := x3
    go_wp2_with fail
    refine (toW_any ng _ zs _ hs3 hn).mono ?_
    rintro e w4 ⟨a4, c4, rfl, ho4, hb4⟩
    have x4 := Box.below ⟨c30, c31⟩ hb4
    have hs4 := hs3.below hb4
    go_wp2_with fail
    refine (ok_impl ng a4 c4 zs _ (by exact (ho4.alloc _).sl) hl).mono ?_
    rintro e w5 ⟨rfl, hb5⟩
    have x5 := (x4.alloc _).below hb5
    have hs5 := (hs4.alloc _).below hb5
    have ho5 := (ho4.alloc _).below hb5
    have y5 := (Box.new _ _ _ _).below hb5
    obtain ⟨c50, c51⟩ := x5
    obtain ⟨d50, d51⟩ := y5
    go_wp2_with fail
    go_region_held3 (fun w' => w'.cell? ⟨w.heap.size, 0, none⟩ = some (.bool ng) ∧ w'.cell? ⟨w.heap.size, 1, none⟩ = some (.slice a zs.length cap) ∧ w'.cell? ⟨w4.heap.size, 0, none⟩ = some (.bool ng) ∧ w'.cell? ⟨w4.heap.size, 1, none⟩ = some (.slice a4 zs.length c4)) (first | assumption | (refine ⟨?_, ?_, ?_, ?_⟩ <;> assumption))
      (first
        | (go_at_call 51; refine (toW_any ng (.slice a zs.length cap) zs _ hs5.drew hn).mono ?_; rintro e w6 ⟨a6, c6, rfl, ho6, hb6⟩; have four := keep4 (w := w5.drew) c50 c51 d50 d51 hb6; have ho5' := (ho5.drew).below hb6)
        | (go_at_call 52; refine (eqW_any ng ng a4 a6 c4 c6 zs zs _ ho5'.sl ho6.sl hl).mono ?_; rintro e w7 ⟨rfl, hb7⟩; have f7 := keep4 four.1 four.2.1 four.2.2.1 four.2.2.2 hb7))
    go_wp2
    go_ret
    exact ⟨rfl, (by repeat (first | exact Below.refl _ _ | refine Below.drew ?_ | refine bel_al ?_ _ | refine bel_go ?_ hb7 | refine bel_go ?_ hb6 | refine bel_go ?_ hb5 | refine bel_go ?_ hb4 | refine bel_go ?_ hb3 | refine bel_go ?_ hb2 | refine bel_go ?_ hb1 | refine Below.setCell ?_ (by first | omega | (simp; done) | (simp; omega)) _ | refine Below.alloc ?_ (by first | omega | (simp; done) | (simp; omega)) _ | refine Below.trans ?_ (Below.mono hb7 (by first | omega | (simp; done) | (simp; omega))) | refine Below.trans ?_ (Below.mono hb6 (by first | omega | (simp; done) | (simp; omega))) | refine Below.trans ?_ (Below.mono hb5 (by first | omega | (simp; done) | (simp; omega))) | refine Below.trans ?_ (Below.mono hb4 (by first | omega | (simp; done) | (simp; omega))) | refine Below.trans ?_ (Below.mono hb3 (by first | omega | (simp; done) | (simp; omega))) | refine Below.trans ?_ (Below.mono hb2 (by first | omega | (simp; done) | (simp; omega))) | refine Below.trans ?_ (Below.mono hb1 (by first | omega | (simp; done) | (simp; omega)))))⟩
  · have hr' : szR 1048576 zs.length < 0 := by unfold szR; rw [if_pos (by omega)]; decide
    go_enter Try.func9, Try.ntmps9
    go_wp2_with fail
    refine (szW_any ng a zs.length cap 1048576 _ hlm (by decide) (by decide)).mono ?_
    rintro e w1 ⟨rfl, hb1⟩
    go_wp2
    go_ret
    exact ⟨rfl, (by repeat (first | exact Below.refl _ _ | refine Below.drew ?_ | refine bel_al ?_ _ | refine bel_go ?_ hb1 | refine Below.setCell ?_ (by first | omega | (simp; done) | (simp; omega)) _ | refine Below.alloc ?_ (by first | omega | (simp; done) | (simp; omega)) _ | refine Below.trans ?_ (Below.mono hb1 (by first | omega | (simp; done) | (simp; omega)))))⟩

open Go.ChangeShapes Go.WideShapes Go.ChangeAt Go.Joins
theorem cellsW : Try.prog.cellsOf 48 = 2 := by kernel_rfl

set_option maxRecDepth 100000 in
theorem lifted (os : Os) (started : os.Started) (H : Type) (enc : TypeId × Value → H) :
    ReturnsInHanded {} Try.checked os 9 .any (Rows.fnExactWideOkSpec.pre6 enc Try.prog Try.f9 Rows.fnExactWideOkRow.domain false) (Rows.fnExactWideOkSpec.post enc Try.prog Try.f9 false true false false) := by
  refine returnsInHanded_of_change (C := Try.checked) Fc.own started (by kernel_rfl) Try.func9
    (ChangeSpec.witness6 (enc := enc) (C := Try.checked) false ⟨#[], #[.agg #[.bool false, .slice none 0 0]], []⟩ 8 (by kernel_rfl) (by kernel_rfl) (by kernel_rfl) (by kernel_rfl)) ?_
  intro W base args ds gs before hval0 hW hcnd _
  have hval : ∀ (j : Nat) t v, Try.f9.params[j]? = some t → args[j]? = some v → Value.okWide Try.prog W .any base t v := hval0
  have hW' := hW
  obtain ⟨p, q, hA0, hV, rfl, hfz, hnd⟩ := hW
  have hA : DataW.TrodAll enc Try.prog W 0 (fun _ => true) true Try.f9.params.toList args.toList ds p := hA0
  rw [Try.params9] at hA hval
  obtain ⟨v0, vs0, d0, ds0, p0, q0, hargs, rfl, rfl, h0, r0⟩ := trodAll_cons hA
  obtain ⟨rfl, rfl, rfl⟩ := trodAll_nil r0
  obtain rfl : args = #[v0] := by cases args; simp_all
  obtain ⟨rfl, rfl⟩ := trodVars_none hV
  have k0 := h0
  have lt0 : ∀ x ∈ p0, x.block < W.heap.size := by obtain ⟨m, hm⟩ := k0; exact DataW.trod_lt m _ _ _ hm
  obtain ⟨c0, c1, y0, y1, m, rfl, hd, hp, hy0, hy1⟩ := open_agg2 Try.underlying48 (by kernel_rfl) cellsW (hval 0 48 v0 rfl rfl) h0
  obtain ⟨ng, e0, -⟩ := DataW.trod_bool Try.underlying4 hy0
  simp at e0; subst e0
  obtain ⟨a, len, cap, zs, e1, hsl⟩ : ∃ a len cap zs, c1 = .slice a len cap ∧ Sl .u32 W (.slice a len cap) zs := by
    rcases open_ints Try.underlying24 Try.underlying68 (by kernel_rfl) hy1 with ⟨hcs, _⟩ | ⟨x, l, c, zs, hcs, _, hl, hm, hz, _, hcell, hwz⟩
    · simp at hcs; exact ⟨_, _, _, [], hcs, Sl.nil _ _⟩
    · simp at hcs; exact ⟨_, _, _, _, hcs, Sl.of_cells hl hm (by simpa using hz) hcell⟩
  subst e1
  obtain ⟨rfl, -, -, -⟩ := hsl.cells
  clear hA0 hval0
  refine (law ng a cap zs W hsl).mono fun e W' ⟨he, bel⟩ => ?_
  subst he
  exact ⟨_, rfl, _, _, _, [], _, [], hW', trodAll_mk1 (shut_bool Try.underlying4 _), (trodAll_cons_mk (Below.trod Fc.laidOut (by kernel_rfl) (of_decide_eq_true (by kernel_rfl)) k0 bel lt0) trodAll_mk0), rfl, bel.frame _, fun h => by cases h⟩

theorem inPlace : (Rows.fnExactWideOkRow.inPlace == Try.prog.inPlace 9) = true := by kernel_rfl
theorem unfollowed : (Rows.fnExactWideOkRow.unfollowed == Try.prog.unfollowed 9) = true := by kernel_rfl
theorem recurses : (Rows.fnExactWideOkRow.recurses == Try.prog.recurses 9) = true := by kernel_rfl
theorem named : (Rows.fnExactWideOkRow.named == Try.prog.varsNamed 9) = true := by kernel_rfl
theorem lifts : (Rows.fnExactWideOkRow.lifted == Try.prog.liftsFinal) = true := Fc.lifts_of _ rfl
theorem closed : joinedFacts Try.prog 9 Try.f9 Rows.fnExactWideOkSpec Rows.fnExactWideOkRow = true := by
  simp only [joinedFacts, Fc.laidOut, Fc.mapsRowed, Fc.heard, Fc.enter, inPlace, unfollowed, recurses, named, lifts, Bool.and_true]
  kernel_rfl
theorem holds : Rows.FnExactWideOkSaid :=
  OpenClaim.holds_of_wide 9 Try.f9 rfl rfl rfl rfl rfl rfl rfl ⟨rfl, rfl, rfl, rfl, rfl⟩ rfl rfl rfl rfl rfl (by kernel_rfl) Try.func9 closed
    (of_decide_eq_true (by kernel_rfl)) (by unfold Func.isWrapper; first | (rw [if_pos (by decide +kernel)]; kernel_rfl) | (rw [if_neg (by decide +kernel)]; exact ⟨rfl, rfl⟩))
    (fun os started H enc _ => lifted os started H enc)
end XWideOk

/-- THE STATEMENT. -/
theorem exactWideOk_holds : Rows.FnExactWideOkSaid := XWideOk.holds
#print axioms exactWideOk_holds
end Go.Proofs.Ytdcflmcedoildaa
