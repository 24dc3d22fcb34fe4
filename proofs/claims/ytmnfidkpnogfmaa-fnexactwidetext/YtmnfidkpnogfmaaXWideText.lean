/-
  At every wide, whatever its limbs, impl.WideText answers as the specification's WideText, byte for byte, and writes into no argument: laws.FnExactWideText returns true. No conditions.
-/
import Derived.Test.YtmnfidkpnogfmaaSH
import Derived.Test.YtmnfidkpnogfmaaK10
import Derived.ProofKit
import Derived.OpenShut
import Derived.ShutString
import Derived.ChangeOld
import Derived.Lib.SmallJoins
namespace Go.Proofs.Ytmnfidkpnogfmaa
set_option linter.unusedVariables false
set_option linter.unusedSimpArgs false
namespace XFnExactWideText
open Go.RowKit Go.Deep Go.ChangeShapes Go.WideShapes Go.ChangeAt Go.Joins
theorem cellsW : Try.prog.cellsOf 62 = 2 := by kernel_rfl

set_option maxRecDepth 100000 in
theorem lifted (os : Os) (started : os.Started) (H : Type) (enc : TypeId × Value → H) :
    ReturnsInHanded {} Try.checked os 8 .any (Rows.fnExactWideTextSpec.pre6 enc Try.prog Try.f8 Rows.fnExactWideTextRow.domain false) (Rows.fnExactWideTextSpec.post enc Try.prog Try.f8 false true false false) := by
  refine returnsInHanded_of_change (C := Try.checked) Fc.own started (by kernel_rfl) Try.func8
    (ChangeSpec.witness6 (enc := enc) (C := Try.checked) false ⟨#[], #[.agg #[.bool false, .slice none 0 0]], []⟩ 8 (by kernel_rfl) (by kernel_rfl) (by kernel_rfl) (by kernel_rfl)) ?_
  intro W base args ds gs before hval0 hW hcnd _
  have hval : ∀ (j : Nat) t v, Try.f8.params[j]? = some t → args[j]? = some v → Value.okWide Try.prog W .any base t v := hval0
  have hW' := hW
  obtain ⟨p, q, hA0, hV, rfl, hfz, hnd⟩ := hW
  have hA : DataW.TrodAll enc Try.prog W 0 (fun _ => true) true Try.f8.params.toList args.toList ds p := hA0
  rw [Try.params8] at hA hval
  obtain ⟨v0, vs0, d0, ds0, p0, q0, hargs, rfl, rfl, h0, r0⟩ := trodAll_cons hA
  obtain ⟨rfl, rfl, rfl⟩ := trodAll_nil r0
  obtain rfl : args = #[v0] := by cases args; simp_all
  obtain ⟨rfl, rfl⟩ := trodVars_none hV
  have t0 := h0
  have lt0 : ∀ x ∈ p0, x.block < W.heap.size := by obtain ⟨m, hm⟩ := t0; exact DataW.trod_lt m _ _ _ hm
  obtain ⟨c00, c01, y00, y01, m0, rfl, hd0, hp0, hy00, hy01⟩ := open_agg2 Try.underlying62 (by kernel_rfl) cellsW (hval 0 62 v0 rfl rfl) h0
  obtain ⟨n0, e00, -⟩ := DataW.trod_bool Try.underlying4 hy00
  simp at e00; subst e00
  obtain ⟨o0, l0, k0, z0, e01, s0, g0⟩ : ∃ a len cap zs, c01 = .slice a len cap ∧ Sl .u32 W (.slice a len cap) zs ∧ Nm.Dg zs := by
    rcases open_ints Try.underlying60 Try.underlying121 (by kernel_rfl) hy01 with ⟨hcs, _⟩ | ⟨x, l, c, zs, hcs, _, hl, hm, hz, _, hcell, hwz⟩
    · simp at hcs; exact ⟨_, _, _, [], hcs, Sl.nil _ _, Nm.Dg.nil⟩
    · simp at hcs; exact ⟨_, _, _, _, hcs, Sl.of_cells hl hm (by simpa using hz) hcell, fun z hz => by have := bounds_u32 (hwz z (List.mem_of_mem_take hz)); omega⟩
  subst e01
  obtain ⟨rfl, -, -, -⟩ := s0.cells
  clear hA0 hval0
  refine (WTx.law_WideText n0 o0 k0 z0 W s0 g0).mono fun e W' ⟨he, bel⟩ => ?_
  subst he
  exact ⟨_, rfl, _, _, _, [], _, [], hW', trodAll_mk1 (shut_bool Try.underlying4 _), (trodAll_cons_mk (Below.trod Fc.laidOut (by kernel_rfl) (of_decide_eq_true (by kernel_rfl)) t0 bel lt0) trodAll_mk0), rfl, bel.frame _, fun h => by cases h⟩

theorem inPlace : (Rows.fnExactWideTextRow.inPlace == Try.prog.inPlace 8) = true := by kernel_rfl
theorem unfollowed : (Rows.fnExactWideTextRow.unfollowed == Try.prog.unfollowed 8) = true := by kernel_rfl
theorem recurses : (Rows.fnExactWideTextRow.recurses == Try.prog.recurses 8) = true := by kernel_rfl
theorem named : (Rows.fnExactWideTextRow.named == Try.prog.varsNamed 8) = true := by kernel_rfl
theorem lifts : (Rows.fnExactWideTextRow.lifted == Try.prog.liftsFinal) = true := Fc.lifts_of _ rfl
theorem closed : joinedFacts Try.prog 8 Try.f8 Rows.fnExactWideTextSpec Rows.fnExactWideTextRow = true := by
  simp only [joinedFacts, Fc.laidOut, Fc.mapsRowed, Fc.heard, Fc.enter, inPlace, unfollowed, recurses, named, lifts, Bool.and_true]
  kernel_rfl
end XFnExactWideText

/-- THE STATEMENT. -/
theorem fnExactWideText_holds : Rows.FnExactWideTextSaid :=
  OpenClaim.holds_of_wide 8 Try.f8 rfl rfl rfl rfl rfl rfl rfl ⟨rfl, rfl, rfl, rfl, rfl⟩ rfl rfl rfl rfl rfl (by kernel_rfl) Try.func8 XFnExactWideText.closed
    (of_decide_eq_true (by kernel_rfl)) (by unfold Func.isWrapper; first | (rw [if_pos (by decide +kernel)]; kernel_rfl) | (rw [if_neg (by decide +kernel)]; exact ⟨rfl, rfl⟩))
    (fun os started H enc _ => XFnExactWideText.lifted os started H enc)
#print axioms fnExactWideText_holds
end Go.Proofs.Ytmnfidkpnogfmaa
