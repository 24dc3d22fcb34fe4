/-
  At every accumulator, whatever its format, its limbs, its terms and its flags, and at all pairs of bits impl.AccMul answers as the specification, every field and the code, in memory of its own, and writes into no argument: laws.FnExactAccMul returns true, the table impl.formSizes, the error impl.errQuiet and the handle errors.errorType lying as the text of the program lays them. No other condition.
-/
import Derived.Test.YtnliofakkkjpoaaGreatDoorA51
namespace Go.Proofs.YtnliofakkkjpoaaGreatDoor
set_option linter.unusedVariables false
set_option linter.unusedSimpArgs false
namespace XFnExactAccMul
open Go.RowKit Go.Deep Go.ChangeShapes Go.WideShapes Go.ChangeAt Go.Joins
set_option maxRecDepth 100000 in
theorem contract (H : Type) (enc : TypeId × Value → H) (W : World) (base : Nat) (args : Array Value) (ds gs : List (DataW H)) (before : List MemPlace)
    (hval : ∀ (j : Nat) t v, Tryz.f3.params[j]? = some t → args[j]? = some v → Value.okWide Tryz.prog W .any base t v)
    (hW : DataW.Whole enc Tryz.prog Tryz.f3.params.toList Rows.fnExactAccMulSpec.vars false W args.toList ds gs before) (hL : laidMetH Tryz.prog Rows.fnExactAccMulRow.laid W) :
    Calls Tryz.prog 3 args W fun e W' => ∃ v, e = .returned v ∧ Rows.fnExactAccMulSpec.post enc Tryz.prog Tryz.f3 false true false false W args v W' := by
  have hW' := hW
  obtain ⟨p, q, hA0, hV0, rfl, hfz, hnd⟩ := hW
  have hA : DataW.TrodAll enc Tryz.prog W 0 (fun _ => true) true Tryz.f3.params.toList args.toList ds p := hA0
  have hV : DataW.TrodVars enc Tryz.prog W (fun _ => true) ["loop.example/g00672/impl.formSizes", "loop.example/g00672/impl.errQuiet"] gs q := hV0
  rw [Tryz.params3] at hA hval
  obtain ⟨v0, vs0, d0, ds0, p0, q0, hargs, rfl, rfl, h0, r0⟩ := trodAll_cons hA
  obtain ⟨v1, vs1, d1, ds1, p1, q1, rfl, rfl, rfl, h1, r1⟩ := trodAll_cons r0
  obtain ⟨v2, vs2, d2, ds2, p2, q2, rfl, rfl, rfl, h2, r2⟩ := trodAll_cons r1
  obtain ⟨rfl, rfl, rfl⟩ := trodAll_nil r2
  obtain rfl : args = #[v0, v1, v2] := Array.ext' hargs
  have t0 := h0
  have lt0 : ∀ x ∈ p0, x.block < W.heap.size := by obtain ⟨m, hm⟩ := t0; exact DataW.trod_lt m _ _ _ hm
  obtain ⟨f0, n0, o0, k0, z0, u0, x0a, x0b, x0c, x0d, x0e, rfl, s0, g0, wf0, wt0⟩ := Ld.open_acc (hval 0 26 v0 rfl rfl) h0
  obtain ⟨a1, rfl, rfl, rfl, w1⟩ := open_int Tryz.underlying27 (hval 1 27 v1 rfl rfl) h1
  obtain ⟨a2, rfl, rfl, rfl, w2⟩ := open_int Tryz.underlying27 (hval 2 27 v2 rfl rfl) h2
  obtain ⟨g, t, cs, fuel, d, p', gq, tq, csq, fq, dq, pq, rfl, hg, ht, hvar, hd, hgq, htq, hvarq, hdq, rfl⟩ := trodVars_two hV
  clear hA0 hV0
  have hgB : g < W.heap.size := Ld.lt_of_var hg hvar
  have hgqB : gq < W.heap.size := Ld.lt_of_var hgq hvarq
  obtain rfl := Option.some.inj (Ld.gTab.symm.trans hg)
  obtain rfl := Option.some.inj (Ld.gTabType.symm.trans ht)
  obtain rfl := Option.some.inj (Ld.gEq.symm.trans hgq)
  obtain rfl := Option.some.inj (Ld.gEqType.symm.trans htq)
  have kk1 : DataW.Trod enc Tryz.prog W 0 (fun _ => true) true 189 (.agg cs) d p' := ⟨fuel, hd⟩
  have ltt1 : ∀ x ∈ p', x.block < W.heap.size := DataW.trod_lt fuel _ _ _ hd
  obtain ⟨xq, rfl, hxq, rfl, rfl, hcq⟩ := token_of hgq Tryz.underlying80 hvarq hdq
  refine (law_AccMul f0 n0 u0 x0a x0b x0c x0d x0e o0 k0 z0 a1 a2 W (Ld.all hL) s0 g0 (Ld.bu64 w1).1 (Ld.bu64 w1).2 (Ld.bu64 w2).1 (Ld.bu64 w2).2).mono fun e W' ⟨he, bel⟩ => ?_
  subst he
  obtain ⟨fuel', hd'⟩ := Below.trod Ld.laidOut (by kernel_rfl) (of_decide_eq_true (by kernel_rfl)) kk1 bel ltt1
  exact ⟨_, rfl, _, _, _, [], _, _, hW', trodAll_cons_mk (shut_bool Tryz.underlying4 _) trodAll_mk0, (trodAll_cons_mk (Below.trod Ld.laidOut (by kernel_rfl) (of_decide_eq_true (by kernel_rfl)) t0 bel lt0) (trodAll_cons_mk (shut_int Tryz.underlying27 w1) (trodAll_cons_mk (shut_int Tryz.underlying27 w2) trodAll_mk0))), ⟨_, _, _, _, _, _, hg, ht, var?_below bel hg hgB hvar, hd', trodVars_mk1 hgq htq (var?_below bel hgq hgqB hvarq) (Ld.tok_any hxq W'), rfl⟩, bel.frame _, fun h => by cases h⟩

theorem laid_met (os : Os) : laidMetH Tryz.prog Rows.fnExactAccMulRow.laid (({ World.holding Tryz.prog os ⟨#[.cells #[.string Ld.qS] 265], #[], []⟩ with heap := ((((World.holding Tryz.prog os ⟨#[.cells #[.string Ld.qS] 265], #[], []⟩).heap.modify 1 fun | .cells _ t frozen => .cells #[.int .u64 0, .int .u64 0, .int .i64 0, .int .u64 23, .int .u64 255, .int .i64 (-149), .int .u64 52, .int .u64 2047, .int .i64 (-1074)] t frozen | o => o).modify 0 fun | .cells _ t frozen => .cells #[.iface 244 (.pointer (some ⟨Ld.low, 0, none⟩))] t frozen | o => o).modify 2 fun | .cells _ t frozen => .cells #[.iface 228 (.agg #[.pointer (some ⟨5, 80, none⟩)])] t frozen | o => o) } : World).forCall (fun _ _ => 0) ⟨#[], #[.agg #[.int .i64 0, .bool false, .slice none 0 0, .int .i64 0, .bool false, .bool false, .bool false, .bool false, .bool false], .int .u64 0, .int .u64 0], []⟩).memory :=
  laidMetH_of_parts (laidMet_of_run' 8 (by kernel_rfl) (by kernel_rfl)) (by kernel_rfl)
theorem reads (os : Os) {H : Type} (enc : TypeId × Value → H) : ∃ places, DataW.whole enc Tryz.prog (({ World.holding Tryz.prog os ⟨#[.cells #[.string Ld.qS] 265], #[], []⟩ with heap := ((((World.holding Tryz.prog os ⟨#[.cells #[.string Ld.qS] 265], #[], []⟩).heap.modify 1 fun | .cells _ t frozen => .cells #[.int .u64 0, .int .u64 0, .int .i64 0, .int .u64 23, .int .u64 255, .int .i64 (-149), .int .u64 52, .int .u64 2047, .int .i64 (-1074)] t frozen | o => o).modify 0 fun | .cells _ t frozen => .cells #[.iface 244 (.pointer (some ⟨Ld.low, 0, none⟩))] t frozen | o => o).modify 2 fun | .cells _ t frozen => .cells #[.iface 228 (.agg #[.pointer (some ⟨5, 80, none⟩)])] t frozen | o => o) } : World).forCall (fun _ _ => 0) ⟨#[], #[.agg #[.int .i64 0, .bool false, .slice none 0 0, .int .i64 0, .bool false, .bool false, .bool false, .bool false, .bool false], .int .u64 0, .int .u64 0], []⟩).memory Tryz.f3.params.toList Rows.fnExactAccMulSpec.vars false (#[.agg #[.int .i64 0, .bool false, .slice none 0 0, .int .i64 0, .bool false, .bool false, .bool false, .bool false, .bool false], .int .u64 0, .int .u64 0] : Array Value).toList 8 = some ([.agg [.lit (.int .i64 0), .agg [.lit (.bool false), .nil], .lit (.int .i64 0), .lit (.bool false), .lit (.bool false), .lit (.bool false), .lit (.bool false), .lit (.bool false)], .lit (.int .u64 0), .lit (.int .u64 0)], [Rows.laid_loop_example_g00672_impl_formSizes, .held (enc (244, .pointer (some ⟨Ld.low, 0, none⟩)))], places) :=
  ⟨MemPlace.row ⟨1, 0, none⟩ 9 ++ MemPlace.row ⟨0, 0, none⟩ 1, by kernel_rfl⟩

set_option maxRecDepth 100000 in
theorem lifted (os : Os) (started : os.Started) (H : Type) (enc : TypeId × Value → H) (F : Stop.Interp) :
    ReturnsInHanded {} Tryz.checked os 3 .any ((OpenSpec.ofChange Rows.fnExactAccMulSpec).preRow enc Tryz.prog Tryz.f3 Rows.fnExactAccMulRow.domain false Rows.fnExactAccMulRow.laid) (((OpenSpec.ofChange Rows.fnExactAccMulSpec).at F).post enc Tryz.prog Tryz.f3 false true false false) := by
  obtain ⟨places, hx⟩ := reads os enc
  refine returnsInHanded_of_row (C := Tryz.checked) (s := OpenSpec.ofChange Rows.fnExactAccMulSpec) Ld.own started (by kernel_rfl) Tryz.func3
    (witness_row_at (enc := enc) (C := Tryz.checked) false ({ World.holding Tryz.prog os ⟨#[.cells #[.string Ld.qS] 265], #[], []⟩ with heap := ((((World.holding Tryz.prog os ⟨#[.cells #[.string Ld.qS] 265], #[], []⟩).heap.modify 1 fun | .cells _ t frozen => .cells #[.int .u64 0, .int .u64 0, .int .i64 0, .int .u64 23, .int .u64 255, .int .i64 (-149), .int .u64 52, .int .u64 2047, .int .i64 (-1074)] t frozen | o => o).modify 0 fun | .cells _ t frozen => .cells #[.iface 244 (.pointer (some ⟨Ld.low, 0, none⟩))] t frozen | o => o).modify 2 fun | .cells _ t frozen => .cells #[.iface 228 (.agg #[.pointer (some ⟨5, 80, none⟩)])] t frozen | o => o) } : World) #[.agg #[.int .i64 0, .bool false, .slice none 0 0, .int .i64 0, .bool false, .bool false, .bool false, .bool false, .bool false], .int .u64 0, .int .u64 0] rfl (by kernel_rfl) (by kernel_rfl) (by kernel_rfl)
      (OpenSpec.preRow_of_cond 8 hx (by kernel_rfl) (fun k hk => by cases hk) (by kernel_rfl) (laid_met os))) ?_
  intro W base args ds gs before hval hW _ _ _ hL _ _
  exact contract H enc W base args ds gs before hval hW hL

theorem inPlace : (Rows.fnExactAccMulRow.inPlace == Tryz.prog.inPlace 3) = true := by kernel_rfl
theorem unfollowed : (Rows.fnExactAccMulRow.unfollowed == Tryz.prog.unfollowed 3) = true := by kernel_rfl
theorem recurses : (Rows.fnExactAccMulRow.recurses == Tryz.prog.recurses 3) = true := by kernel_rfl
theorem named : (Rows.fnExactAccMulRow.named == Tryz.prog.varsNamed 3) = true := by kernel_rfl
theorem lifts : (Rows.fnExactAccMulRow.lifted == Tryz.prog.liftsFinal) = true := Fc.lifts_of _ rfl
theorem closed : joinedFacts Tryz.prog 3 Tryz.f3 (OpenSpec.ofChange Rows.fnExactAccMulSpec).bare Rows.fnExactAccMulRow = true := by
  simp only [joinedFacts, Fc.laidOut, Fc.mapsRowed, Fc.heard, Fc.enter, inPlace, unfollowed, recurses, named, lifts, Bool.and_true]
  kernel_rfl
theorem said : Rows.FnExactAccMulSaid :=
  OpenClaim.holds_of_cond 3 Tryz.f3 rfl rfl rfl rfl rfl rfl rfl ⟨rfl, rfl, rfl, rfl, rfl⟩ rfl rfl rfl rfl rfl (by kernel_rfl) Tryz.func3 closed
    (of_decide_eq_true (by kernel_rfl)) (by unfold Func.isWrapper; first | (rw [if_pos (by decide +kernel)]; kernel_rfl) | (rw [if_neg (by decide +kernel)]; exact ⟨rfl, rfl⟩))
    (fun os started H enc _ F => by rw [OpenClaim.pre_eq_preRow]; exact lifted os started H enc F)

theorem plain (f : FuncId) (fn : Func) (hf : Tryz.pinned.checked.prog.funcNamed Tryz.f3.name = some f) (hfn : Tryz.pinned.checked.prog.funcs[f]? = some fn) :
    true = Tryz.pinned.checked.prog.looks [] ∧ ∀ (j : Nat) t, fn.params[j]? = some t → Tryz.pinned.checked.prog.wantsStandIn t = false := by
  obtain rfl : f = 3 := Option.some.inj ((show Tryz.prog.funcNamed Tryz.f3.name = some 3 by kernel_rfl).symm.trans hf) |>.symm
  obtain rfl : fn = Tryz.f3 := (Option.some.inj (Tryz.func3.symm.trans hfn)).symm
  refine ⟨by kernel_rfl, fun j t ht => ?_⟩
  rw [Tryz.params3] at ht
  have ht' := Array.mem_of_getElem? ht
  simp only [List.mem_toArray, List.mem_cons, List.not_mem_nil, or_false] at ht'
  rcases ht' with rfl | rfl | rfl
  · exact (show Tryz.prog.wantsStandIn 26 = false by kernel_rfl)
  · exact (show Tryz.prog.wantsStandIn 27 = false by kernel_rfl)
  · exact (show Tryz.prog.wantsStandIn 27 = false by kernel_rfl)
end XFnExactAccMul

/-- THE CARD. -/
theorem fnExactAccMul_card : Rows.FnExactAccMulCardSaid :=
  Claim7.holds_tied_plain_at .later [] _ _ _ _ XFnExactAccMul.said (fun _ h => by cases h) (by kernel_rfl) (fun _ h => by cases h) fnExactAccMul_row_tie rfl ⟨rfl, rfl⟩ (by kernel_rfl) rfl XFnExactAccMul.plain (by kernel_rfl)
#print axioms fnExactAccMul_card
end Go.Proofs.YtnliofakkkjpoaaGreatDoor
