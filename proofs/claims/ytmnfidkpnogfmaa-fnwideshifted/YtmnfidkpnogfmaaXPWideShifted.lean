/-
  For every code, at the wide and the shift that are drawn of it impl.WideShifted answers as the specification; a right wide of at most 100 limbs that is shifted up comes back down and is so often as much, and shifted down and up again is no farther from 0: laws.FnWideShifted returns true. No conditions.
-/
import Derived.Test.YtmnfidkpnogfmaaWSl
import Derived.Test.YtmnfidkpnogfmaaK01
import Derived.Test.YtmnfidkpnogfmaaZMem
import Derived.Test.YtmnfidkpnogfmaaK15
import Derived.ProofKit
import Derived.OpenShut
import Derived.ShutString
import Derived.ChangeOld
import Derived.Lib.SmallJoins
namespace Go.Proofs.Ytmnfidkpnogfmaa
set_option linter.unusedVariables false
set_option linter.unusedSimpArgs false
namespace XFnWideShifted
open Go.RowKit Go.Deep Go.ChangeShapes Go.WideShapes Go.ChangeAt Go.Joins

set_option maxRecDepth 100000 in
theorem lifted (os : Os) (started : os.Started) (H : Type) (enc : TypeId × Value → H) :
    ReturnsInHanded {} Try.checked os 11 .any (Rows.fnWideShiftedSpec.pre6 enc Try.prog Try.f11 Rows.fnWideShiftedRow.domain false) (Rows.fnWideShiftedSpec.post enc Try.prog Try.f11 false true false false) := by
  refine returnsInHanded_of_change (C := Try.checked) Fc.own started (by kernel_rfl) Try.func11
    (ChangeSpec.witness6 (enc := enc) (C := Try.checked) false ⟨#[], #[.slice none 0 0], []⟩ 8 (by kernel_rfl) (by kernel_rfl) (by kernel_rfl) (by kernel_rfl)) ?_
  intro W base args ds gs before hval0 hW hcnd _
  have hval : ∀ (j : Nat) t v, Try.f11.params[j]? = some t → args[j]? = some v → Value.okWide Try.prog W .any base t v := hval0
  have hW' := hW
  obtain ⟨p, q, hA0, hV, rfl, hfz, hnd⟩ := hW
  have hA : DataW.TrodAll enc Try.prog W 0 (fun _ => true) true Try.f11.params.toList args.toList ds p := hA0
  rw [Try.params11] at hA hval
  obtain ⟨v0, vs0, d0, ds0, p0, q0, hargs, rfl, rfl, h0, r0⟩ := trodAll_cons hA
  obtain ⟨rfl, rfl, rfl⟩ := trodAll_nil r0
  obtain rfl : args = #[v0] := by cases args; simp_all
  obtain ⟨rfl, rfl⟩ := trodVars_none hV
  have t0 := h0
  have lt0 : ∀ x ∈ p0, x.block < W.heap.size := by obtain ⟨m, hm⟩ := t0; exact DataW.trod_lt m _ _ _ hm
  obtain ⟨o0, l0, k0, z0, e01, s0, g0⟩ : ∃ a len cap zs, v0 = .slice a len cap ∧ Sl .u8 W (.slice a len cap) zs ∧ ∀ i, 0 ≤ zs.getD i 0 ∧ zs.getD i 0 ≤ 255 := by
    obtain ⟨a1, len, cap, rfl⟩ := okWide_slice Try.underlying33 (hval 0 33 v0 rfl rfl)
    obtain ⟨fuel, hf⟩ := h0
    rcases open_ints Try.underlying33 Try.underlying5 (by kernel_rfl) hf with ⟨hcs, _⟩ | ⟨x, l, c, zs, hcs, _, hl, hm, hz, _, hcell, hwz⟩
    · simp [Value.cells] at hcs
      obtain ⟨rfl, rfl, rfl⟩ := hcs
      exact ⟨_, _, _, [], rfl, Sl.nil _ _, fun i => by simp⟩
    · simp [Value.cells] at hcs
      obtain ⟨rfl, rfl, rfl⟩ := hcs
      refine ⟨_, _, _, _, rfl, Sl.of_cells hl hm (by simpa using hz) hcell, fun i => ?_⟩
      by_cases hi : i < (zs.take len).length
      · rw [List.getD_eq_getElem?_getD, List.getElem?_eq_getElem hi]
        exact bounds_u8 (hwz _ (List.mem_of_mem_take (List.getElem_mem hi)))
      · rw [List.getD_eq_getElem?_getD, List.getElem?_eq_none (by omega)]; simp
  subst e01
  obtain ⟨rfl, -, -, -⟩ := s0.cells
  clear hA0 hval0
  refine (Fw.wslaw_all o0 k0 z0 W s0 g0).mono fun e W' ⟨he, bel⟩ => ?_
  subst he
  exact ⟨_, rfl, _, _, _, [], _, [], hW', trodAll_mk1 (shut_bool Try.underlying4 _), (trodAll_cons_mk (Below.trod Fc.laidOut (by kernel_rfl) (of_decide_eq_true (by kernel_rfl)) t0 bel lt0) trodAll_mk0), rfl, bel.frame _, fun h => by cases h⟩

theorem inPlace : (Rows.fnWideShiftedRow.inPlace == Try.prog.inPlace 11) = true := by kernel_rfl
theorem unfollowed : (Rows.fnWideShiftedRow.unfollowed == Try.prog.unfollowed 11) = true := by kernel_rfl
theorem recurses : (Rows.fnWideShiftedRow.recurses == Try.prog.recurses 11) = true := by kernel_rfl
theorem named : (Rows.fnWideShiftedRow.named == Try.prog.varsNamed 11) = true := by kernel_rfl
theorem lifts : (Rows.fnWideShiftedRow.lifted == Try.prog.liftsFinal) = true := Fc.lifts_of _ rfl
theorem closed : joinedFacts Try.prog 11 Try.f11 Rows.fnWideShiftedSpec Rows.fnWideShiftedRow = true := by
  simp only [joinedFacts, Fc.laidOut, Fc.mapsRowed, Fc.heard, Fc.enter, inPlace, unfollowed, recurses, named, lifts, Bool.and_true]
  kernel_rfl
end XFnWideShifted

/-- THE STATEMENT. -/
theorem fnWideShifted_holds : Rows.FnWideShiftedSaid :=
  OpenClaim.holds_of_wide 11 Try.f11 rfl rfl rfl rfl rfl rfl rfl ⟨rfl, rfl, rfl, rfl, rfl⟩ rfl rfl rfl rfl rfl (by kernel_rfl) Try.func11 XFnWideShifted.closed
    (of_decide_eq_true (by kernel_rfl)) (by unfold Func.isWrapper; first | (rw [if_pos (by decide +kernel)]; kernel_rfl) | (rw [if_neg (by decide +kernel)]; exact ⟨rfl, rfl⟩))
    (fun os started H enc _ => XFnWideShifted.lifted os started H enc)
#print axioms fnWideShifted_holds
end Go.Proofs.Ytmnfidkpnogfmaa
