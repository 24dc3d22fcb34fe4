/-
  At every format, and at what is none, and at every number of bins, and at what is none, impl.BinNew answers as the specification, every field, its sums in memory of its own, and keeps nothing of them: laws.FnExactBinNew returns true. No condition.
-/
import Derived.Test.YtmnfidkpnogfmaaVQ
import Derived.Test.YtmnfidkpnogfmaaK01
import Derived.Test.YtmnfidkpnogfmaaZMem
import Derived.Test.YtmnfidkpnogfmaaK10
import Derived.ProofKit
import Derived.OpenShut
import Derived.ShutString
import Derived.ChangeOld
import Derived.Lib.SmallJoins
namespace Go.Proofs.Ytmnfidkpnogfmaa
set_option linter.unusedVariables false
set_option linter.unusedSimpArgs false
namespace XFnExactBinNew
open Go.RowKit Go.Deep Go.ChangeShapes Go.WideShapes Go.ChangeAt Go.Joins

set_option maxRecDepth 100000 in
theorem lifted (os : Os) (started : os.Started) (H : Type) (enc : TypeId × Value → H) :
    ReturnsInHanded {} Try.checked os 7 .any (Rows.fnExactBinNewSpec.pre6 enc Try.prog Try.f7 Rows.fnExactBinNewRow.domain false) (Rows.fnExactBinNewSpec.post enc Try.prog Try.f7 false true false false) := by
  refine returnsInHanded_of_change (C := Try.checked) Fc.own started (by kernel_rfl) Try.func7
    (ChangeSpec.witness6 (enc := enc) (C := Try.checked) false ⟨#[], #[.int .i64 0, .int .i64 0], []⟩ 8 (by kernel_rfl) (by kernel_rfl) (by kernel_rfl) (by kernel_rfl)) ?_
  intro W base args ds gs before hval0 hW hcnd _
  have hval : ∀ (j : Nat) t v, Try.f7.params[j]? = some t → args[j]? = some v → Value.okWide Try.prog W .any base t v := hval0
  have hW' := hW
  obtain ⟨p, q, hA0, hV, rfl, hfz, hnd⟩ := hW
  have hA : DataW.TrodAll enc Try.prog W 0 (fun _ => true) true Try.f7.params.toList args.toList ds p := hA0
  rw [Try.params7] at hA hval
  obtain ⟨v0, vs0, d0, ds0, p0, q0, hargs, rfl, rfl, h0, r0⟩ := trodAll_cons hA
  obtain ⟨v1, vs1, d1, ds1, p1, q1, rfl, rfl, rfl, h1, r1⟩ := trodAll_cons r0
  obtain ⟨rfl, rfl, rfl⟩ := trodAll_nil r1
  obtain rfl : args = #[v0, v1] := by cases args; simp_all
  obtain ⟨rfl, rfl⟩ := trodVars_none hV
  obtain ⟨a0, rfl, rfl, rfl, w0⟩ := open_int Try.underlying2 (hval 0 2 v0 rfl rfl) h0
  obtain ⟨a1, rfl, rfl, rfl, w1⟩ := open_int Try.underlying2 (hval 1 2 v1 rfl rfl) h1
  clear hA0 hval0
  refine (law_BinNew a0 a1 W).mono fun e W' ⟨he, bel⟩ => ?_
  subst he
  exact ⟨_, rfl, _, _, _, [], _, [], hW', trodAll_mk1 (shut_bool Try.underlying4 _), (trodAll_cons_mk (shut_int Try.underlying2 w0) (trodAll_cons_mk (shut_int Try.underlying2 w1) trodAll_mk0)), rfl, bel.frame _, fun h => by cases h⟩

theorem inPlace : (Rows.fnExactBinNewRow.inPlace == Try.prog.inPlace 7) = true := by kernel_rfl
theorem unfollowed : (Rows.fnExactBinNewRow.unfollowed == Try.prog.unfollowed 7) = true := by kernel_rfl
theorem recurses : (Rows.fnExactBinNewRow.recurses == Try.prog.recurses 7) = true := by kernel_rfl
theorem named : (Rows.fnExactBinNewRow.named == Try.prog.varsNamed 7) = true := by kernel_rfl
theorem lifts : (Rows.fnExactBinNewRow.lifted == Try.prog.liftsFinal) = true := Fc.lifts_of _ rfl
theorem closed : joinedFacts Try.prog 7 Try.f7 Rows.fnExactBinNewSpec Rows.fnExactBinNewRow = true := by
  simp only [joinedFacts, Fc.laidOut, Fc.mapsRowed, Fc.heard, Fc.enter, inPlace, unfollowed, recurses, named, lifts, Bool.and_true]
  kernel_rfl
end XFnExactBinNew

/-- THE STATEMENT. -/
theorem fnExactBinNew_holds : Rows.FnExactBinNewSaid :=
  OpenClaim.holds_of_wide 7 Try.f7 rfl rfl rfl rfl rfl rfl rfl ⟨rfl, rfl, rfl, rfl, rfl⟩ rfl rfl rfl rfl rfl (by kernel_rfl) Try.func7 XFnExactBinNew.closed
    (of_decide_eq_true (by kernel_rfl)) (by unfold Func.isWrapper; first | (rw [if_pos (by decide +kernel)]; kernel_rfl) | (rw [if_neg (by decide +kernel)]; exact ⟨rfl, rfl⟩))
    (fun os started H enc _ => XFnExactBinNew.lifted os started H enc)
#print axioms fnExactBinNew_holds
end Go.Proofs.Ytmnfidkpnogfmaa
