/-
  For every pair of codes, at the accumulators that are drawn of them impl.AccMerge answers as the specification; three of one format come to the same in whatever way they are put together, or there is no room for so many terms in either way: laws.FnAccMerges returns true, the table impl.formSizes lying as the text of the program lays it. No other condition.
-/
import Derived.Test.YtkfjmcdniohljaaGreatDoorE56
namespace Go.Proofs.YtkfjmcdniohljaaGreatDoor
set_option linter.unusedVariables false
set_option linter.unusedSimpArgs false
namespace XFnAccMerges
open Go.RowKit Go.Deep Go.ChangeShapes Go.WideShapes Go.ChangeAt Go.Joins
set_option maxRecDepth 100000 in
theorem contract (H : Type) (enc : TypeId × Value → H) (W : World) (base : Nat) (args : Array Value) (ds gs : List (DataW H)) (before : List MemPlace)
    (hval : ∀ (j : Nat) t v, Tryz.f8.params[j]? = some t → args[j]? = some v → Value.okWide Tryz.prog W .any base t v)
    (hW : DataW.Whole enc Tryz.prog Tryz.f8.params.toList Rows.fnAccMergesSpec.vars false W args.toList ds gs before) (hL : laidMetH Tryz.prog Rows.fnAccMergesRow.laid W) :
    Calls Tryz.prog 8 args W fun e W' => ∃ v, e = .returned v ∧ Rows.fnAccMergesSpec.post enc Tryz.prog Tryz.f8 false true false false W args v W' := by
  have hW' := hW
  obtain ⟨p, q, hA0, hV0, rfl, hfz, hnd⟩ := hW
  have hA : DataW.TrodAll enc Tryz.prog W 0 (fun _ => true) true Tryz.f8.params.toList args.toList ds p := hA0
  have hV : DataW.TrodVars enc Tryz.prog W (fun _ => true) [ "loop.example/g00672/impl.formSizes"] gs q := hV0
  rw [Tryz.params8] at hA hval
  obtain ⟨v0, vs0, d0, ds0, p0, q0, hargs, rfl, rfl, h0, r0⟩ := trodAll_cons hA
  obtain ⟨v1, vs1, d1, ds1, p1, q1, rfl, rfl, rfl, h1, r1⟩ := trodAll_cons r0
  obtain ⟨rfl, rfl, rfl⟩ := trodAll_nil r1
  obtain rfl : args = #[v0, v1] := Array.ext' hargs
  have t0 := h0
  have lt0 : ∀ x ∈ p0, x.block < W.heap.size := by obtain ⟨m, hm⟩ := t0; exact DataW.trod_lt m _ _ _ hm
  obtain ⟨o0, l0, k0, z0, e01, s0, g0⟩ : ∃ a len cap zs, v0 = .slice a len cap ∧ Sl .u8 W (.slice a len cap) zs ∧ ∀ i, 0 ≤ zs.getD i 0 ∧ zs.getD i 0 ≤ 255 := by
    obtain ⟨a1, len, cap, rfl⟩ := okWide_slice Tryz.underlying26 (hval 0 26 v0 rfl rfl)
    obtain ⟨fuel, hf⟩ := h0
    rcases open_ints Tryz.underlying26 Tryz.underlying5 (by kernel_rfl) hf with ⟨hcs, _⟩ | ⟨x, l, c, zs, hcs, _, hl, hm, hz, _, hcell, hwz⟩
    · simp [Value.cells] at hcs
      obtain ⟨rfl, rfl, rfl⟩ := hcs
      exact ⟨_, _, _, [], rfl, Sl.nil _ _, fun i => by simp⟩
    · simp [Value.cells] at hcs
      obtain ⟨rfl, rfl, rfl⟩ := hcs
      refine ⟨_, _, _, _, rfl, Sl.of_cells hl hm (by simpa using hz) hcell, fun i => ?_⟩
      by_cases hi : i < (zs.take len).length
      · rw [List.getD_eq_getElem?_getD, List.getElem?_eq_getElem hi]
        exact bounds_u8 (hwz _ (List.mem_of_mem_take (List.getElem_mem hi)))
      · rw [List.getD_eq_getElem?_getD, List.getElem?_eq_none (by omega)]; simp
  subst e01
  obtain ⟨rfl, -, -, -⟩ := s0.cells
  have t1 := h1
  have lt1 : ∀ x ∈ p1, x.block < W.heap.size := by obtain ⟨m, hm⟩ := t1; exact DataW.trod_lt m _ _ _ hm
  obtain ⟨o1, l1, k1, z1, e11, s1, g1⟩ : ∃ a len cap zs, v1 = .slice a len cap ∧ Sl .u8 W (.slice a len cap) zs ∧ ∀ i, 0 ≤ zs.getD i 0 ∧ zs.getD i 0 ≤ 255 := by
    obtain ⟨a1, len, cap, rfl⟩ := okWide_slice Tryz.underlying26 (hval 1 26 v1 rfl rfl)
    obtain ⟨fuel, hf⟩ := h1
    rcases open_ints Tryz.underlying26 Tryz.underlying5 (by kernel_rfl) hf with ⟨hcs, _⟩ | ⟨x, l, c, zs, hcs, _, hl, hm, hz, _, hcell, hwz⟩
    · simp [Value.cells] at hcs
      obtain ⟨rfl, rfl, rfl⟩ := hcs
      exact ⟨_, _, _, [], rfl, Sl.nil _ _, fun i => by simp⟩
    · simp [Value.cells] at hcs
      obtain ⟨rfl, rfl, rfl⟩ := hcs
      refine ⟨_, _, _, _, rfl, Sl.of_cells hl hm (by simpa using hz) hcell, fun i => ?_⟩
      by_cases hi : i < (zs.take len).length
      · rw [List.getD_eq_getElem?_getD, List.getElem?_eq_getElem hi]
        exact bounds_u8 (hwz _ (List.mem_of_mem_take (List.getElem_mem hi)))
      · rw [List.getD_eq_getElem?_getD, List.getElem?_eq_none (by omega)]; simp
  subst e11
  obtain ⟨rfl, -, -, -⟩ := s1.cells
  obtain ⟨g, t, cs, fuel, d, p', rfl, hg, ht, hvar, hd, rfl⟩ := trodVars_one hV
  clear hA0 hV0
  have hgB : g < W.heap.size := Ld.lt_of_var hg hvar
  obtain rfl := Option.some.inj (Ld.gTab.symm.trans hg)
  obtain rfl := Option.some.inj (Ld.gTabType.symm.trans ht)
  have kk1 : DataW.Trod enc Tryz.prog W 0 (fun _ => true) true 187 (.agg cs) d p' := ⟨fuel, hd⟩
  have ltt1 : ∀ x ∈ p', x.block < W.heap.size := DataW.trod_lt fuel _ _ _ hd
  refine (Fd.amlaw_all o0 o1 k0 k1 z0 z1 W (Ld.table hL) s0 g0 s1 g1).mono fun e W' ⟨he, bel⟩ => ?_
  subst he
  obtain ⟨fuel', hd'⟩ := Below.trod Ld.laidOut (by kernel_rfl) (of_decide_eq_true (by kernel_rfl)) kk1 bel ltt1
  exact ⟨_, rfl, _, _, _, [], _, _, hW', trodAll_cons_mk (shut_bool Tryz.underlying4 _) trodAll_mk0, (trodAll_cons_mk (Below.trod Ld.laidOut (by kernel_rfl) (of_decide_eq_true (by kernel_rfl)) t0 bel lt0) (trodAll_cons_mk (Below.trod Ld.laidOut (by kernel_rfl) (of_decide_eq_true (by kernel_rfl)) t1 bel lt1) trodAll_mk0)), trodVars_mk1 hg ht (var?_below bel hg hgB hvar) hd', bel.frame _, fun h => by cases h⟩

theorem laid_met (os : Os) : laidMet Tryz.prog Rows.fnAccMergesRow.laid (({ World.holding Tryz.prog os ⟨#[], #[], []⟩ with heap := ((World.holding Tryz.prog os ⟨#[], #[], []⟩).heap.modify 1 fun | .cells _ t frozen => .cells #[.int .u64 0, .int .u64 0, .int .i64 0, .int .u64 23, .int .u64 255, .int .i64 (-149), .int .u64 52, .int .u64 2047, .int .i64 (-1074)] t frozen | o => o) } : World).forCall (fun _ _ => 0) ⟨#[], #[.slice none 0 0, .slice none 0 0], []⟩).memory :=
  laidMet_of_run' 8 (by kernel_rfl) (by kernel_rfl)
theorem reads (os : Os) {H : Type} (enc : TypeId × Value → H) : ∃ places, DataW.whole enc Tryz.prog (({ World.holding Tryz.prog os ⟨#[], #[], []⟩ with heap := ((World.holding Tryz.prog os ⟨#[], #[], []⟩).heap.modify 1 fun | .cells _ t frozen => .cells #[.int .u64 0, .int .u64 0, .int .i64 0, .int .u64 23, .int .u64 255, .int .i64 (-149), .int .u64 52, .int .u64 2047, .int .i64 (-1074)] t frozen | o => o) } : World).forCall (fun _ _ => 0) ⟨#[], #[.slice none 0 0, .slice none 0 0], []⟩).memory Tryz.f8.params.toList Rows.fnAccMergesSpec.vars false (#[.slice none 0 0, .slice none 0 0] : Array Value).toList 8 = some ([.nil, .nil], [Rows.laid_loop_example_g00672_impl_formSizes], places) :=
  ⟨MemPlace.row ⟨1, 0, none⟩ 9, by kernel_rfl⟩

set_option maxRecDepth 100000 in
theorem lifted (os : Os) (started : os.Started) (H : Type) (enc : TypeId × Value → H) (F : Stop.Interp) :
    ReturnsInHanded {} Tryz.checked os 8 .any ((OpenSpec.ofChange Rows.fnAccMergesSpec).preRow enc Tryz.prog Tryz.f8 Rows.fnAccMergesRow.domain false Rows.fnAccMergesRow.laid) (((OpenSpec.ofChange Rows.fnAccMergesSpec).at F).post enc Tryz.prog Tryz.f8 false true false false) := by
  obtain ⟨places, hx⟩ := reads os enc
  refine returnsInHanded_of_row (C := Tryz.checked) (s := OpenSpec.ofChange Rows.fnAccMergesSpec) Ld.own started (by kernel_rfl) Tryz.func8
    (witness_row_at (enc := enc) (C := Tryz.checked) false ({ World.holding Tryz.prog os ⟨#[], #[], []⟩ with heap := ((World.holding Tryz.prog os ⟨#[], #[], []⟩).heap.modify 1 fun | .cells _ t frozen => .cells #[.int .u64 0, .int .u64 0, .int .i64 0, .int .u64 23, .int .u64 255, .int .i64 (-149), .int .u64 52, .int .u64 2047, .int .i64 (-1074)] t frozen | o => o) } : World) #[.slice none 0 0, .slice none 0 0] rfl (by kernel_rfl) (by kernel_rfl) (by kernel_rfl)
      (OpenSpec.preRow_of_cond 8 hx (by kernel_rfl) (fun k hk => by cases hk) (by kernel_rfl) (laid_met os))) ?_
  intro W base args ds gs before hval hW _ _ _ hL _ _
  exact contract H enc W base args ds gs before hval hW hL

theorem inPlace : (Rows.fnAccMergesRow.inPlace == Tryz.prog.inPlace 8) = true := by kernel_rfl
theorem unfollowed : (Rows.fnAccMergesRow.unfollowed == Tryz.prog.unfollowed 8) = true := by kernel_rfl
theorem recurses : (Rows.fnAccMergesRow.recurses == Tryz.prog.recurses 8) = true := by kernel_rfl
theorem named : (Rows.fnAccMergesRow.named == Tryz.prog.varsNamed 8) = true := by kernel_rfl
theorem lifts : (Rows.fnAccMergesRow.lifted == Tryz.prog.liftsFinal) = true := by kernel_rfl
theorem fLaid : laidOutB Tryz.prog = true := by kernel_rfl
theorem fMaps : Go.mapsRowed Tryz.prog = true := by kernel_rfl
theorem fHeard : Tryz.prog.stopsHeard = true := by kernel_rfl
theorem fEnter : Tryz.prog.mayEnter = true := by kernel_rfl
theorem closed : joinedFacts Tryz.prog 8 Tryz.f8 (OpenSpec.ofChange Rows.fnAccMergesSpec).bare Rows.fnAccMergesRow = true := by
  simp only [joinedFacts, fLaid, fMaps, fHeard, fEnter, inPlace, unfollowed, recurses, named, lifts, Bool.and_true]
  kernel_rfl
theorem said : Rows.FnAccMergesSaid :=
  OpenClaim.holds_of_cond 8 Tryz.f8 rfl rfl rfl rfl rfl rfl rfl ⟨rfl, rfl, rfl, rfl, rfl⟩ rfl rfl rfl rfl rfl (by kernel_rfl) Tryz.func8 closed
    (of_decide_eq_true (by kernel_rfl)) (by unfold Func.isWrapper; first | (rw [if_pos (by decide +kernel)]; kernel_rfl) | (rw [if_neg (by decide +kernel)]; exact ⟨rfl, rfl⟩))
    (fun os started H enc _ F => by rw [OpenClaim.pre_eq_preRow]; exact lifted os started H enc F)

theorem plain (f : FuncId) (fn : Func) (hf : Tryz.pinned.checked.prog.funcNamed Tryz.f8.name = some f) (hfn : Tryz.pinned.checked.prog.funcs[f]? = some fn) :
    true = Tryz.pinned.checked.prog.looks [] ∧ ∀ (j : Nat) t, fn.params[j]? = some t → Tryz.pinned.checked.prog.wantsStandIn t = false := by
  obtain rfl : f = 8 := Option.some.inj ((show Tryz.prog.funcNamed Tryz.f8.name = some 8 by kernel_rfl).symm.trans hf) |>.symm
  obtain rfl : fn = Tryz.f8 := (Option.some.inj (Tryz.func8.symm.trans hfn)).symm
  refine ⟨by kernel_rfl, fun j t ht => ?_⟩
  rw [Tryz.params8] at ht
  have ht' := Array.mem_of_getElem? ht
  simp only [List.mem_toArray, List.mem_cons, List.not_mem_nil, or_false] at ht'
  rcases ht' with rfl | rfl
  · exact (show Tryz.prog.wantsStandIn 26 = false by kernel_rfl)
  · exact (show Tryz.prog.wantsStandIn 26 = false by kernel_rfl)
end XFnAccMerges

/-- THE CARD. -/
theorem fnAccMerges_card : Rows.FnAccMergesCardSaid :=
  Claim7.holds_tied_plain_at .later [] _ _ _ _ XFnAccMerges.said (fun _ h => by cases h) (by kernel_rfl) (fun _ h => by cases h) fnAccMerges_row_tie rfl ⟨rfl, rfl⟩ (by kernel_rfl) rfl XFnAccMerges.plain (by kernel_rfl)
#print axioms fnAccMerges_card
end Go.Proofs.YtkfjmcdniohljaaGreatDoor
