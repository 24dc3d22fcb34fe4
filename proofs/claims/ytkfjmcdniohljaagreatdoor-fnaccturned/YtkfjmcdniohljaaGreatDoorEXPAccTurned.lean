/-
  For every pair of codes, at the accumulator and the floats that are drawn of them impl.AccAdd answers as the specification; what it answers is right, and two terms come to the same in either order, field by field, limb by limb, where there is room for both: laws.FnAccTurned returns true, the table impl.formSizes, the error impl.errQuiet and the handle errors.errorType lying as the text of the program lays them. No other condition.
-/
import Derived.Test.YtkfjmcdniohljaaGreatDoorE63
namespace Go.Proofs.YtkfjmcdniohljaaGreatDoor
set_option linter.unusedVariables false
set_option linter.unusedSimpArgs false
namespace XFnAccTurned
open Go.RowKit Go.Deep Go.ChangeShapes Go.WideShapes Go.ChangeAt Go.Joins
set_option maxRecDepth 100000 in
theorem contract (H : Type) (enc : TypeId × Value → H) (W : World) (base : Nat) (args : Array Value) (ds gs : List (DataW H)) (before : List MemPlace)
    (hval : ∀ (j : Nat) t v, Tryz.f6.params[j]? = some t → args[j]? = some v → Value.okWide Tryz.prog W .any base t v)
    (hW : DataW.Whole enc Tryz.prog Tryz.f6.params.toList Rows.fnAccTurnedSpec.vars false W args.toList ds gs before) (hL : laidMetH Tryz.prog Rows.fnAccTurnedRow.laid W) :
    Calls Tryz.prog 6 args W fun e W' => ∃ v, e = .returned v ∧ Rows.fnAccTurnedSpec.post enc Tryz.prog Tryz.f6 false true false false W args v W' := by
  have hW' := hW
  obtain ⟨p, q, hA0, hV0, rfl, hfz, hnd⟩ := hW
  have hA : DataW.TrodAll enc Tryz.prog W 0 (fun _ => true) true Tryz.f6.params.toList args.toList ds p := hA0
  have hV : DataW.TrodVars enc Tryz.prog W (fun _ => true) ["loop.example/g00672/impl.formSizes", "loop.example/g00672/impl.errQuiet"] gs q := hV0
  rw [Tryz.params6] at hA hval
  obtain ⟨v0, vs0, d0, ds0, p0, q0, hargs, rfl, rfl, h0, r0⟩ := trodAll_cons hA
  obtain ⟨v1, vs1, d1, ds1, p1, q1, rfl, rfl, rfl, h1, r1⟩ := trodAll_cons r0
  obtain ⟨rfl, rfl, rfl⟩ := trodAll_nil r1
  obtain rfl : args = #[v0, v1] := Array.ext' hargs
  have t0 := h0
  have lt0 : ∀ x ∈ p0, x.block < W.heap.size := by obtain ⟨m, hm⟩ := t0; exact DataW.trod_lt m _ _ _ hm
  obtain ⟨o0, l0, k0, z0, e01, s0, g0⟩ : ∃ a len cap zs, v0 = .slice a len cap ∧ Sl .u8 W (.slice a len cap) zs ∧ ∀ i, 0 ≤ zs.getD i 0 ∧ zs.getD i 0 ≤ 255 := by
    obtain ⟨a1, len, cap, rfl⟩ := okWide_slice Tryz.underlying26 (hval 0 26 v0 rfl rfl)
    obtain ⟨fuel, hf⟩ := h0
    rcases open_ints Tryz.underlying26 Tryz.underlying5 (by kernel_rfl) hf with ⟨hcs, _⟩ | ⟨x, l, c, zs, hcs, _, hl, hm, hz, _, hcell, hwz⟩
    · simp [Value.cells] at hcs
      obtain ⟨rfl, rfl, rfl⟩ := hcs
      exact ⟨_, _, _, [], rfl, Sl.nil _ _, fun i => by simp⟩
    · simp [Value.cells] at hcs
      obtain ⟨rfl, rfl, rfl⟩ := hcs
      refine ⟨_, _, _, _, rfl, Sl.of_cells hl hm (by simpa using hz) hcell, fun i => ?_⟩
      by_cases hi : i < (zs.take len).length
      · rw [List.getD_eq_getElem?_getD, List.getElem?_eq_getElem hi]
        exact bounds_u8 (hwz _ (List.mem_of_mem_take (List.getElem_mem hi)))
      · rw [List.getD_eq_getElem?_getD, List.getElem?_eq_none (by omega)]; simp
  subst e01
  obtain ⟨rfl, -, -, -⟩ := s0.cells
  have t1 := h1
  have lt1 : ∀ x ∈ p1, x.block < W.heap.size := by obtain ⟨m, hm⟩ := t1; exact DataW.trod_lt m _ _ _ hm
  obtain ⟨o1, l1, k1, z1, e11, s1, g1⟩ : ∃ a len cap zs, v1 = .slice a len cap ∧ Sl .u8 W (.slice a len cap) zs ∧ ∀ i, 0 ≤ zs.getD i 0 ∧ zs.getD i 0 ≤ 255 := by
    obtain ⟨a1, len, cap, rfl⟩ := okWide_slice Tryz.underlying26 (hval 1 26 v1 rfl rfl)
    obtain ⟨fuel, hf⟩ := h1
    rcases open_ints Tryz.underlying26 Tryz.underlying5 (by kernel_rfl) hf with ⟨hcs, _⟩ | ⟨x, l, c, zs, hcs, _, hl, hm, hz, _, hcell, hwz⟩
    · simp [Value.cells] at hcs
      obtain ⟨rfl, rfl, rfl⟩ := hcs
      exact ⟨_, _, _, [], rfl, Sl.nil _ _, fun i => by simp⟩
    · simp [Value.cells] at hcs
      obtain ⟨rfl, rfl, rfl⟩ := hcs
      refine ⟨_, _, _, _, rfl, Sl.of_cells hl hm (by simpa using hz) hcell, fun i => ?_⟩
      by_cases hi : i < (zs.take len).length
      · rw [List.getD_eq_getElem?_getD, List.getElem?_eq_getElem hi]
        exact bounds_u8 (hwz _ (List.mem_of_mem_take (List.getElem_mem hi)))
      · rw [List.getD_eq_getElem?_getD, List.getElem?_eq_none (by omega)]; simp
  subst e11
  obtain ⟨rfl, -, -, -⟩ := s1.cells
  obtain ⟨g, t, cs, fuel, d, p', gq, tq, csq, fq, dq, pq, rfl, hg, ht, hvar, hd, hgq, htq, hvarq, hdq, rfl⟩ := trodVars_two hV
  clear hA0 hV0
  have hgB : g < W.heap.size := Ld.lt_of_var hg hvar
  have hgqB : gq < W.heap.size := Ld.lt_of_var hgq hvarq
  obtain rfl := Option.some.inj (Ld.gTab.symm.trans hg)
  obtain rfl := Option.some.inj (Ld.gTabType.symm.trans ht)
  obtain rfl := Option.some.inj (Ld.gEq.symm.trans hgq)
  obtain rfl := Option.some.inj (Ld.gEqType.symm.trans htq)
  have kk1 : DataW.Trod enc Tryz.prog W 0 (fun _ => true) true 187 (.agg cs) d p' := ⟨fuel, hd⟩
  have ltt1 : ∀ x ∈ p', x.block < W.heap.size := DataW.trod_lt fuel _ _ _ hd
  obtain ⟨xq, rfl, hxq, rfl, rfl, hcq⟩ := token_of hgq Tryz.underlying100 hvarq hdq
  refine (Fd.atlaw2_all o0 o1 k0 k1 z0 z1 W (Ld.all hL) s0 g0 s1 g1).mono fun e W' ⟨he, bel⟩ => ?_
  subst he
  obtain ⟨fuel', hd'⟩ := Below.trod Ld.laidOut (by kernel_rfl) (of_decide_eq_true (by kernel_rfl)) kk1 bel ltt1
  exact ⟨_, rfl, _, _, _, [], _, _, hW', trodAll_cons_mk (shut_bool Tryz.underlying4 _) trodAll_mk0, (trodAll_cons_mk (Below.trod Ld.laidOut (by kernel_rfl) (of_decide_eq_true (by kernel_rfl)) t0 bel lt0) (trodAll_cons_mk (Below.trod Ld.laidOut (by kernel_rfl) (of_decide_eq_true (by kernel_rfl)) t1 bel lt1) trodAll_mk0)), ⟨_, _, _, _, _, _, hg, ht, var?_below bel hg hgB hvar, hd', trodVars_mk1 hgq htq (var?_below bel hgq hgqB hvarq) (Ld.tok_any hxq W'), rfl⟩, bel.frame _, fun h => by cases h⟩

theorem laid_met (os : Os) : laidMetH Tryz.prog Rows.fnAccTurnedRow.laid (({ World.holding Tryz.prog os ⟨#[.cells #[.string Ld.qS] 266], #[], []⟩ with heap := ((((World.holding Tryz.prog os ⟨#[.cells #[.string Ld.qS] 266], #[], []⟩).heap.modify 1 fun | .cells _ t frozen => .cells #[.int .u64 0, .int .u64 0, .int .i64 0, .int .u64 23, .int .u64 255, .int .i64 (-149), .int .u64 52, .int .u64 2047, .int .i64 (-1074)] t frozen | o => o).modify 0 fun | .cells _ t frozen => .cells #[.iface 246 (.pointer (some ⟨Ld.low, 0, none⟩))] t frozen | o => o).modify 2 fun | .cells _ t frozen => .cells #[.iface 233 (.agg #[.pointer (some ⟨5, 100, none⟩)])] t frozen | o => o) } : World).forCall (fun _ _ => 0) ⟨#[], #[.slice none 0 0, .slice none 0 0], []⟩).memory :=
  laidMetH_of_parts (laidMet_of_run' 8 (by kernel_rfl) (by kernel_rfl)) (by kernel_rfl)
theorem reads (os : Os) {H : Type} (enc : TypeId × Value → H) : ∃ places, DataW.whole enc Tryz.prog (({ World.holding Tryz.prog os ⟨#[.cells #[.string Ld.qS] 266], #[], []⟩ with heap := ((((World.holding Tryz.prog os ⟨#[.cells #[.string Ld.qS] 266], #[], []⟩).heap.modify 1 fun | .cells _ t frozen => .cells #[.int .u64 0, .int .u64 0, .int .i64 0, .int .u64 23, .int .u64 255, .int .i64 (-149), .int .u64 52, .int .u64 2047, .int .i64 (-1074)] t frozen | o => o).modify 0 fun | .cells _ t frozen => .cells #[.iface 246 (.pointer (some ⟨Ld.low, 0, none⟩))] t frozen | o => o).modify 2 fun | .cells _ t frozen => .cells #[.iface 233 (.agg #[.pointer (some ⟨5, 100, none⟩)])] t frozen | o => o) } : World).forCall (fun _ _ => 0) ⟨#[], #[.slice none 0 0, .slice none 0 0], []⟩).memory Tryz.f6.params.toList Rows.fnAccTurnedSpec.vars false (#[.slice none 0 0, .slice none 0 0] : Array Value).toList 8 = some ([.nil, .nil], [Rows.laid_loop_example_g00672_impl_formSizes, .held (enc (246, .pointer (some ⟨Ld.low, 0, none⟩)))], places) :=
  ⟨MemPlace.row ⟨1, 0, none⟩ 9 ++ MemPlace.row ⟨0, 0, none⟩ 1, by kernel_rfl⟩

set_option maxRecDepth 100000 in
theorem lifted (os : Os) (started : os.Started) (H : Type) (enc : TypeId × Value → H) (F : Stop.Interp) :
    ReturnsInHanded {} Tryz.checked os 6 .any ((OpenSpec.ofChange Rows.fnAccTurnedSpec).preRow enc Tryz.prog Tryz.f6 Rows.fnAccTurnedRow.domain false Rows.fnAccTurnedRow.laid) (((OpenSpec.ofChange Rows.fnAccTurnedSpec).at F).post enc Tryz.prog Tryz.f6 false true false false) := by
  obtain ⟨places, hx⟩ := reads os enc
  refine returnsInHanded_of_row (C := Tryz.checked) (s := OpenSpec.ofChange Rows.fnAccTurnedSpec) Ld.own started (by kernel_rfl) Tryz.func6
    (witness_row_at (enc := enc) (C := Tryz.checked) false ({ World.holding Tryz.prog os ⟨#[.cells #[.string Ld.qS] 266], #[], []⟩ with heap := ((((World.holding Tryz.prog os ⟨#[.cells #[.string Ld.qS] 266], #[], []⟩).heap.modify 1 fun | .cells _ t frozen => .cells #[.int .u64 0, .int .u64 0, .int .i64 0, .int .u64 23, .int .u64 255, .int .i64 (-149), .int .u64 52, .int .u64 2047, .int .i64 (-1074)] t frozen | o => o).modify 0 fun | .cells _ t frozen => .cells #[.iface 246 (.pointer (some ⟨Ld.low, 0, none⟩))] t frozen | o => o).modify 2 fun | .cells _ t frozen => .cells #[.iface 233 (.agg #[.pointer (some ⟨5, 100, none⟩)])] t frozen | o => o) } : World) #[.slice none 0 0, .slice none 0 0] rfl (by kernel_rfl) (by kernel_rfl) (by kernel_rfl)
      (OpenSpec.preRow_of_cond 8 hx (by kernel_rfl) (fun k hk => by cases hk) (by kernel_rfl) (laid_met os))) ?_
  intro W base args ds gs before hval hW _ _ _ hL _ _
  exact contract H enc W base args ds gs before hval hW hL

theorem inPlace : (Rows.fnAccTurnedRow.inPlace == Tryz.prog.inPlace 6) = true := by kernel_rfl
theorem unfollowed : (Rows.fnAccTurnedRow.unfollowed == Tryz.prog.unfollowed 6) = true := by kernel_rfl
theorem recurses : (Rows.fnAccTurnedRow.recurses == Tryz.prog.recurses 6) = true := by kernel_rfl
theorem named : (Rows.fnAccTurnedRow.named == Tryz.prog.varsNamed 6) = true := by kernel_rfl
theorem lifts : (Rows.fnAccTurnedRow.lifted == Tryz.prog.liftsFinal) = true := Fc.lifts_of _ rfl
theorem closed : joinedFacts Tryz.prog 6 Tryz.f6 (OpenSpec.ofChange Rows.fnAccTurnedSpec).bare Rows.fnAccTurnedRow = true := by
  simp only [joinedFacts, Fc.laidOut, Fc.mapsRowed, Fc.heard, Fc.enter, inPlace, unfollowed, recurses, named, lifts, Bool.and_true]
  kernel_rfl
theorem said : Rows.FnAccTurnedSaid :=
  OpenClaim.holds_of_cond 6 Tryz.f6 rfl rfl rfl rfl rfl rfl rfl ⟨rfl, rfl, rfl, rfl, rfl⟩ rfl rfl rfl rfl rfl (by kernel_rfl) Tryz.func6 closed
    (of_decide_eq_true (by kernel_rfl)) (by unfold Func.isWrapper; first | (rw [if_pos (by decide +kernel)]; kernel_rfl) | (rw [if_neg (by decide +kernel)]; exact ⟨rfl, rfl⟩))
    (fun os started H enc _ F => by rw [OpenClaim.pre_eq_preRow]; exact lifted os started H enc F)

theorem plain (f : FuncId) (fn : Func) (hf : Tryz.pinned.checked.prog.funcNamed Tryz.f6.name = some f) (hfn : Tryz.pinned.checked.prog.funcs[f]? = some fn) :
    true = Tryz.pinned.checked.prog.looks [] ∧ ∀ (j : Nat) t, fn.params[j]? = some t → Tryz.pinned.checked.prog.wantsStandIn t = false := by
  obtain rfl : f = 6 := Option.some.inj ((show Tryz.prog.funcNamed Tryz.f6.name = some 6 by kernel_rfl).symm.trans hf) |>.symm
  obtain rfl : fn = Tryz.f6 := (Option.some.inj (Tryz.func6.symm.trans hfn)).symm
  refine ⟨by kernel_rfl, fun j t ht => ?_⟩
  rw [Tryz.params6] at ht
  have ht' := Array.mem_of_getElem? ht
  simp only [List.mem_toArray, List.mem_cons, List.not_mem_nil, or_false] at ht'
  rcases ht' with rfl | rfl
  · exact (show Tryz.prog.wantsStandIn 26 = false by kernel_rfl)
  · exact (show Tryz.prog.wantsStandIn 26 = false by kernel_rfl)
end XFnAccTurned

/-- THE CARD. -/
theorem fnAccTurned_card : Rows.FnAccTurnedCardSaid :=
  Claim7.holds_tied_plain_at .later [] _ _ _ _ XFnAccTurned.said (fun _ h => by cases h) (by kernel_rfl) (fun _ h => by cases h) fnAccTurned_row_tie rfl ⟨rfl, rfl⟩ (by kernel_rfl) rfl XFnAccTurned.plain (by kernel_rfl)
#print axioms fnAccTurned_card
end Go.Proofs.YtkfjmcdniohljaaGreatDoor
