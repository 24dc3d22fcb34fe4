/-
  What is needed of TP, LaidE, FG, FH, FF, MQ, BW, DQ.
-/
import Derived.LaidHandle
import Derived.Look8
import Derived.Test.YtbhfbaogmkgmiaaGreatDoorC19
set_option maxHeartbeats 16000000
set_option maxRecDepth 1000000
namespace Go.Proofs.YtbhfbaogmkgmiaaGreatDoor
set_option linter.unusedVariables false
set_option linter.unusedSimpArgs false
open Go.RowKit Go.Deep
theorem bl_pos {z : Int} (h : z ≠ 0) : 1 ≤ bitLen z.natAbs := by
  have : ¬ bitLen z.natAbs ≤ 0 := by
    rw [Nm.bl_le_iff]; simp; omega
  omega
end Go.Proofs.YtbhfbaogmkgmiaaGreatDoor
namespace Go.Proofs.YtbhfbaogmkgmiaaGreatDoor
set_option linter.unusedVariables false
set_option linter.unusedSimpArgs false
namespace Ld
open Go.RowKit Go.Deep Go.ChangeShapes Go.WideShapes Go.ChangeAt Go.Joins
theorem gEt : Tryz.prog.globalNamed "errors.errorType" = some 2 := by kernel_rfl
theorem gEq : Tryz.prog.globalNamed "loop.example/g00672/impl.errQuiet" = some 1 := by kernel_rfl
theorem gEqType : (Tryz.prog.globals[1]?).map (·.type) = some 93 := by kernel_rfl
theorem rtT : (Tryz.prog.cutTypes.find? (·.1 == "internal/reflectlite.rtype")).map (·.2) = some 196 := by kernel_rfl
theorem sizeT : Tryz.prog.types.size = 241 := by kernel_rfl
theorem oneRow : ((List.range 241).filter fun t => Tryz.prog.rowNamed t [101, 114, 114, 111, 114]) = [93] := by kernel_rfl
theorem handle {W : World} {l : List (String × DataW Unit)} (h : handlesMet Tryz.prog l W) (hm : ("errors.errorType", Rows.laid_errors_errorType) ∈ l) : EA.ErrT W := by
  obtain ⟨name, u, ty, e1, e2, e3, e4, e5⟩ := h _ hm
  have en : name = [101, 114, 114, 111, 114] := (Option.some.inj e1).symm
  subst en
  obtain rfl := Option.some.inj (rtT.symm.trans e2)
  have hm : ty ∈ (List.range 241).filter fun t => Tryz.prog.rowNamed t [101, 114, 114, 111, 114] := List.mem_filter.2 ⟨List.mem_range.2 (by rw [← sizeT]; exact e3), e4⟩
  rw [oneRow] at hm
  obtain rfl := List.mem_singleton.1 hm
  have hh : typeHandle Tryz.prog 93 = .pointer (some ⟨5, 93, none⟩) := by kernel_rfl
  rw [hh] at e5
  simpa using World.var?_cell gEt e5 0
theorem star : "*" ++ "errors.errorString" = "*errors.errorString" := by decide
theorem rowE (u : TypeId) (h : Tryz.prog.typeName? 3 u = some "*errors.errorString") : u = 209 :=
  typeName_ptr_named (nm := "errors.errorString") (by rw [star]; kernel_rfl) (by kernel_rfl) (by decide) u (by rw [star]; exact h)
theorem quiet {W : World} (h : laidMet Tryz.prog [("loop.example/g00672/impl.errQuiet", Rows.laid_loop_example_g00672_impl_errQuiet)] W) : ∃ u, ErrQ W u := by
  obtain ⟨ps, ⟨g', t', cs, fuel, p, q, hg', ht', hvar, hd, _, _⟩, _⟩ := h
  obtain rfl := Option.some.inj (gEq.symm.trans hg')
  obtain rfl := Option.some.inj (gEqType.symm.trans ht')
  cases fuel with
  | zero => simp [DataW.trod] at hd
  | succ n =>
    have hcell := World.var?_cell gEq hvar 0
    unfold DataW.trod at hd
    rw [Tryz.underlying93] at hd
    obtain ⟨l⟩ := cs
    match l, hd with
    | [.nilIface], hd => simp [Rows.laid_loop_example_g00672_impl_errQuiet] at hd
    | [.iface u v], hd =>
      simp only at hd
      cases hn : Tryz.prog.typeName? 3 u with
      | none => rw [hn] at hd; simp at hd
      | some name =>
        rw [hn] at hd
        simp only [Option.map_eq_some_iff, Prod.mk.injEq, Rows.laid_loop_example_g00672_impl_errQuiet, DataW.iface.injEq] at hd
        obtain ⟨y, _, ⟨e1, _⟩, _⟩ := hd
        subst e1
        obtain rfl := rowE u hn
        exact ⟨v, by simpa using hcell⟩
theorem all {W : World} (h : laidMetH Tryz.prog [("errors.errorType", Rows.laid_errors_errorType), ("loop.example/g00672/impl.formSizes", Rows.laid_loop_example_g00672_impl_formSizes), ("loop.example/g00672/impl.errQuiet", Rows.laid_loop_example_g00672_impl_errQuiet)] W) : EX W := by
  have h' : laidMet Tryz.prog [("loop.example/g00672/impl.formSizes", Rows.laid_loop_example_g00672_impl_formSizes), ("loop.example/g00672/impl.errQuiet", Rows.laid_loop_example_g00672_impl_errQuiet)] W ∧ handlesMet Tryz.prog [("errors.errorType", Rows.laid_errors_errorType)] W := h
  have h1 := h'.1.filter (fun x => x.1 == "loop.example/g00672/impl.formSizes")
  have h2 := h'.1.filter (fun x => x.1 == "loop.example/g00672/impl.errQuiet")
  obtain ⟨u, hu⟩ := quiet h2
  exact ⟨u, ⟨table h1, handle h'.2 (List.mem_singleton.2 rfl), hu⟩⟩
end Ld
open Go.RowKit Go.Deep
namespace Fd
theorem nn_wrap (a : Int) : 0 ≤ IntKind.u64.wrap a := by rw [IntKind.wrap_u64]; omega
theorem fpb_nn (fm : Int) (ng : Bool) (M E : Int) : 0 ≤ FpB fm ng M E := by
  have hs : ∀ (S : Int) (n : Nat) (b : Bool), 0 ≤ S → 0 ≤ sgn S (n : Int) b := fun S n b h => by unfold sgn; cases b <;> simp <;> omega
  unfold FpB fpB
  split
  · split
    · split
      · exact hs _ 0 _ (by decide)
      · exact hs _ _ _ (by decide)
    · decide
  · split
    · split
      · split
        · exact hs _ 0 _ (by decide)
        · exact hs _ _ _ (by decide)
      · decide
    · decide
theorem below_dr {w w' : World} (h : Below w.drew.heap.size w.drew w') : Below w.heap.size w w' := ⟨h.os, h.tape, h.output, h.size, h.block⟩
theorem seven_cell {v0 v1 v2 v3 v4 v5 v6 : Int} (w : World) {w' : World} {rb : Nat} {t : TypeId} (hg : (w.alloc (.cells #[.int .u64 v0, .int .u64 v1, .int .u64 v2, .int .u64 v3, .int .u64 v4, .int .u64 v5, .int .u64 v6] t)).grownBy w' (some rb)) (hne : rb < w.heap.size) (k : Nat) (hk : k < 7) (h : 0 ≤ v0 ∧ 0 ≤ v1 ∧ 0 ≤ v2 ∧ 0 ≤ v3 ∧ 0 ≤ v4 ∧ 0 ≤ v5 ∧ 0 ≤ v6) :
    ∃ d : Int, w'.cell? ⟨w.heap.size, k, none⟩ = some (.int .u64 d) ∧ 0 ≤ d := by
  have e := hg.block w.heap.size (by simp) (by simp; omega)
  have q : ∀ j, w'.cell? ⟨w.heap.size, j, none⟩ = (#[.int .u64 v0, .int .u64 v1, .int .u64 v2, .int .u64 v3, .int .u64 v4, .int .u64 v5, .int .u64 v6] : Array Value)[j]? := fun j => by
    rw [World.cell?_of_block (a := ⟨w.heap.size, j, none⟩) e]
    exact World.cell?_alloc_new w _ _ j
  rw [q k]
  obtain ⟨h0, h1, h2, h3, h4, h5, h6⟩ := h
  rcases (show k = 0 ∨ k = 1 ∨ k = 2 ∨ k = 3 ∨ k = 4 ∨ k = 5 ∨ k = 6 by omega) with rfl | rfl | rfl | rfl | rfl | rfl | rfl
  · exact ⟨v0, rfl, h0⟩
  · exact ⟨v1, rfl, h1⟩
  · exact ⟨v2, rfl, h2⟩
  · exact ⟨v3, rfl, h3⟩
  · exact ⟨v4, rfl, h4⟩
  · exact ⟨v5, rfl, h5⟩
  · exact ⟨v6, rfl, h6⟩
/-- A finite float's bits. -/
def FinP32 (x : Int) : Prop := 0 ≤ x ∧ x < 4294967296 ∧ finB 32 x = true
theorem sgn_fin32 (x : Int) (ng : Bool) (h : 0 ≤ x ∧ x < 2139095040) : FinP32 (sgn 2147483648 x ng) := by
  have hb : 0 ≤ sgn 2147483648 x ng ∧ sgn 2147483648 x ng < 4294967296 := by unfold sgn; cases ng <;> simp <;> omega
  refine ⟨hb.1, hb.2, ?_⟩
  have e : sgn 2147483648 x ng % 2147483648 = x := by unfold sgn; cases ng <;> simp <;> omega
  unfold finB
  rw [cls32 hb.2]
  unfold clsY
  rw [e]
  simp only [decide_eq_true_eq]
  repeat' split
  all_goals omega
theorem tmX32 {a : Int} (h : 0 ≤ a) : 0 ≤ a.tmod 2139095040 ∧ a.tmod 2139095040 < 2139095040 := by
  rw [Int.tmod_eq_emod_of_nonneg h]; omega
theorem tmW32 {a : Int} (h : 0 ≤ a) : 0 ≤ a.tmod 2139095040 ∧ a.tmod 2139095040 < 2147483648 := by
  have := tmX32 h; omega
theorem finiteF32 (rb : Nat) (ca : Option Addr) (cc : Nat) (cs : List Int) (w : World) (hr : RD w rb ca cc cs) :
    Calls Tryz.prog 149 #[.pointer (some ⟨rb, 0, none⟩), .int .i64 32] w fun e w' => ∃ x : Int, e = .returned (.int .u64 x) ∧ FinP32 x ∧ RD w' rb ca cc cs ∧ w.grownBy w' (some rb) := by
  have CI := hid (fun w' => spec_inf32 w')
  have CP := hid (fun w' => spec_P32 w')
  have hg := grown_refl w (some rb)
  have eI : infOf 32 = 2139095040 := rfl
  rw [eI] at CI
  go_enter Tryz.func149, Tryz.ntmps149
  go_wp2_with fail
  refine (CI.out _).mono ?_
  rintro r W ⟨rfl, hb⟩
  replace hr := hr.below hb
  replace hg := grown_trans hg (grown_below hb _)
  clear hb
  go_wp2_with fail
  refine (CP.out _).mono ?_
  rintro r W ⟨rfl, hb⟩
  replace hr := hr.below hb
  replace hg := grown_trans hg (grown_below hb _)
  clear hb
  go_wp2_with fail
  refine (below_any rb ca cc cs 10 _ hr (by decide) (by decide)).mono ?_
  rintro r W ⟨v, rfl, v0, v1, hr, hg'⟩
  replace hg := grown_trans hg hg'
  clear hg'
  rcases (show v = 0 ∨ v = 1 ∨ v = 2 ∨ v = 3 ∨ v = 4 ∨ 4 < v by omega) with rfl | rfl | rfl | rfl | rfl | hv
  · go_wp2_with fail
    refine (CP.out _).mono ?_
    rintro r W ⟨rfl, hb⟩
    replace hr := hr.below hb
    replace hg := grown_trans hg (grown_below hb _)
    clear hb
    go_wp2_with fail
    refine (CP.out _).mono ?_
    rintro r W ⟨rfl, hb⟩
    replace hr := hr.below hb
    replace hg := grown_trans hg (grown_below hb _)
    clear hb
    go_wp2_with fail
    refine (CI.out _).mono ?_
    rintro r W ⟨rfl, hb⟩
    replace hr := hr.below hb
    replace hg := grown_trans hg (grown_below hb _)
    clear hb
    go_wp2_with fail
    refine (CI.out _).mono ?_
    rintro r W ⟨rfl, hb⟩
    replace hr := hr.below hb
    replace hg := grown_trans hg (grown_below hb _)
    clear hb
    obtain ⟨W0, hW0⟩ : ∃ W0, W0 = W := ⟨_, rfl⟩
    have hr0 := hr.alloc (.cells #[.int .u64 0, .int .u64 1, .int .u64 2, .int .u64 8388607, .int .u64 8388608, .int .u64 2139095039, .int .u64 2139095038] 29)
    have lr := hr.lt
    go_wp2_with fail
    refine (below_any rb ca cc cs 7 _ hr0 (by decide) (by decide)).mono ?_
    rintro r W' ⟨kz, rfl, k0, k1, hr, hg'⟩
    obtain ⟨kn, rfl⟩ := Int.eq_ofNat_of_zero_le k0
    obtain ⟨d, hd, d0⟩ := seven_cell W hg' lr kn (by omega) (by decide)
    replace hg := grown_trans (grown_alloc hg _) hg'
    clear hg' hW0
    go_upto_region 9 with fail
    replace hr := hr.drew
    refine wp_region_held_drew (S := fun _ => True) (by kernel_rfl) ?_ (fun hHeld => ?_)
    · trivial
    refine tk 0 ?_ rfl (Or.inl ⟨by rfl, ?_⟩) ?_
    rotate_left
    · (intro w hSw; go_simp; try (with_reducible rfl))
    try simp only [Act.put, Ls]
    refine tk 1 ?_ rfl (Or.inl ⟨by rfl, ?_⟩) ?_
    rotate_left
    · (intro w hSw; go_simp; try (with_reducible rfl))
    try simp only [Act.put, Ls]
    refine tk 2 ?_ rfl (Or.inl ⟨by rfl, ?_⟩) ?_
    rotate_left
    · (intro w hSw; go_simp; try (with_reducible rfl))
    try simp only [Act.put, Ls]
    refine tk 5 ?_ rfl (Or.inl ⟨by rfl, ?_⟩) ?_
    rotate_left
    · (intro w hSw; go_simp; try (with_reducible rfl))
    try simp only [Act.put, Ls]
    refine wpAnyH_ready (rs := [3]) (by kernel_rfl) (by simp) ?_
    refine (AllReadyH.cons (o := _) rfl (fun K hK => ?_) AllReadyH.nil)
    go_simp
    go_at_call 124; refine (CI.out _).mono ?_; rintro r W ⟨rfl, hb⟩
    replace hr := hr.below hb
    replace hg : w.grownBy W (some rb) := grown_trans hg (grown_below (w := _) (w' := W) (below_dr hb) _)
    clear hb
    refine hK.out _ _ ?_ (fun hHeld => ?_)
    · trivial
    clear hK K
    try simp only [Act.put, Ls]
    refine tk 4 ?_ rfl (Or.inl ⟨by rfl, ?_⟩) ?_
    rotate_left
    · (intro w hSw; go_simp; try (with_reducible rfl))
    try simp only [Act.put, Ls]
    refine wpAnyH_ready (rs := [6]) (by kernel_rfl) (by simp) ?_
    refine (AllReadyH.cons (o := _) rfl (fun K hK => ?_) AllReadyH.nil)
    go_simp
    go_at_call 74; refine (once_any rb ca cc cs 2 _ hr (by decide) (by decide)).mono ?_; rintro r W ⟨ng, rfl, hr, hg'⟩
    replace hg := grown_trans hg hg'
    clear hg'
    refine hK.out _ _ ?_ (fun hHeld => ?_)
    · trivial
    clear hK K
    try simp only [Act.put, Ls]
    refine wpAnyH_ready (rs := [7]) (by kernel_rfl) (by simp) ?_
    refine (AllReadyH.cons (o := _) rfl (fun K hK => ?_) AllReadyH.nil)
    go_simp
    go_at_call 138; refine (with_32 (Int.tmod _ 2139095040) ng _ (fun _ => tmW32 ?_)).mono ?_
    · (first | omega | exact Int.tmod_nonneg _ (by omega) | exact nn_wrap _ | exact fpb_nn _ _ _ _)
    rintro r W ⟨rfl, hb⟩
    replace hr := hr.below hb
    replace hg := grown_trans hg (grown_below hb _)
    clear hb
    refine hK.out _ _ ?_ (fun hHeld => ?_)
    · trivial
    clear hK K
    try simp only [Act.put, Ls]
    refine tk 8 ?_ rfl (Or.inl ⟨by rfl, ?_⟩) ?_
    rotate_left
    · (intro w hSw; go_simp; try (with_reducible rfl))
    try simp only [Act.put, Ls]
    refine wpAnyH_done (by kernel_rfl) ?_ _
    go_wp2
    go_ret
    refine ⟨_, rfl, sgn_fin32 _ ng (tmX32 ?_), hr, hg⟩ <;> (first | omega | exact Int.tmod_nonneg _ (by omega) | exact nn_wrap _ | exact fpb_nn _ _ _ _)
  · go_wp2_with fail
    refine (word_any rb ca cc cs _ hr).mono ?_
    rintro r W ⟨x, rfl, x0, x1, hr, hg'⟩
    replace hg := grown_trans hg hg'
    clear hg'
    go_wp2_with fail
    refine (CI.out _).mono ?_
    rintro r W ⟨rfl, hb⟩
    replace hr := hr.below hb
    replace hg := grown_trans hg (grown_below hb _)
    clear hb
    go_upto_region 9 with fail
    replace hr := hr.drew
    refine wp_region_held_drew (S := fun _ => True) (by kernel_rfl) ?_ (fun hHeld => ?_)
    · trivial
    refine tk 0 ?_ rfl (Or.inl ⟨by rfl, ?_⟩) ?_
    rotate_left
    · (intro w hSw; go_simp; try (with_reducible rfl))
    try simp only [Act.put, Ls]
    refine tk 1 ?_ rfl (Or.inl ⟨by rfl, ?_⟩) ?_
    rotate_left
    · (intro w hSw; go_simp; try (with_reducible rfl))
    try simp only [Act.put, Ls]
    refine tk 2 ?_ rfl (Or.inl ⟨by rfl, ?_⟩) ?_
    rotate_left
    · (intro w hSw; go_simp; try (with_reducible rfl))
    try simp only [Act.put, Ls]
    refine tk 5 ?_ rfl (Or.inl ⟨by rfl, ?_⟩) ?_
    rotate_left
    · (intro w hSw; go_simp; try (with_reducible rfl))
    try simp only [Act.put, Ls]
    refine wpAnyH_ready (rs := [3]) (by kernel_rfl) (by simp) ?_
    refine (AllReadyH.cons (o := _) rfl (fun K hK => ?_) AllReadyH.nil)
    go_simp
    go_at_call 124; refine (CI.out _).mono ?_; rintro r W ⟨rfl, hb⟩
    replace hr := hr.below hb
    replace hg : w.grownBy W (some rb) := grown_trans hg (grown_below (w := _) (w' := W) (below_dr hb) _)
    clear hb
    refine hK.out _ _ ?_ (fun hHeld => ?_)
    · trivial
    clear hK K
    try simp only [Act.put, Ls]
    refine tk 4 ?_ rfl (Or.inl ⟨by rfl, ?_⟩) ?_
    rotate_left
    · (intro w hSw; go_simp; try (with_reducible rfl))
    try simp only [Act.put, Ls]
    refine wpAnyH_ready (rs := [6]) (by kernel_rfl) (by simp) ?_
    refine (AllReadyH.cons (o := _) rfl (fun K hK => ?_) AllReadyH.nil)
    go_simp
    go_at_call 74; refine (once_any rb ca cc cs 2 _ hr (by decide) (by decide)).mono ?_; rintro r W ⟨ng, rfl, hr, hg'⟩
    replace hg := grown_trans hg hg'
    clear hg'
    refine hK.out _ _ ?_ (fun hHeld => ?_)
    · trivial
    clear hK K
    try simp only [Act.put, Ls]
    refine wpAnyH_ready (rs := [7]) (by kernel_rfl) (by simp) ?_
    refine (AllReadyH.cons (o := _) rfl (fun K hK => ?_) AllReadyH.nil)
    go_simp
    go_at_call 138; refine (with_32 (Int.tmod _ 2139095040) ng _ (fun _ => tmW32 ?_)).mono ?_
    · (first | omega | exact Int.tmod_nonneg _ (by omega) | exact nn_wrap _ | exact fpb_nn _ _ _ _)
    rintro r W ⟨rfl, hb⟩
    replace hr := hr.below hb
    replace hg := grown_trans hg (grown_below hb _)
    clear hb
    refine hK.out _ _ ?_ (fun hHeld => ?_)
    · trivial
    clear hK K
    try simp only [Act.put, Ls]
    refine tk 8 ?_ rfl (Or.inl ⟨by rfl, ?_⟩) ?_
    rotate_left
    · (intro w hSw; go_simp; try (with_reducible rfl))
    try simp only [Act.put, Ls]
    refine wpAnyH_done (by kernel_rfl) ?_ _
    go_wp2
    go_ret
    refine ⟨_, rfl, sgn_fin32 _ ng (tmX32 ?_), hr, hg⟩ <;> (first | omega | exact Int.tmod_nonneg _ (by omega) | exact nn_wrap _ | exact fpb_nn _ _ _ _)
  · go_wp2_with fail
    refine (word_any rb ca cc cs _ hr).mono ?_
    rintro r W ⟨x, rfl, x0, x1, hr, hg'⟩
    replace hg := grown_trans hg hg'
    clear hg'
    go_wp2_with fail
    refine (CP.out _).mono ?_
    rintro r W ⟨rfl, hb⟩
    replace hr := hr.below hb
    replace hg := grown_trans hg (grown_below hb _)
    clear hb
    go_upto_region 9 with fail
    replace hr := hr.drew
    refine wp_region_held_drew (S := fun _ => True) (by kernel_rfl) ?_ (fun hHeld => ?_)
    · trivial
    refine tk 0 ?_ rfl (Or.inl ⟨by rfl, ?_⟩) ?_
    rotate_left
    · (intro w hSw; go_simp; try (with_reducible rfl))
    try simp only [Act.put, Ls]
    refine tk 1 ?_ rfl (Or.inl ⟨by rfl, ?_⟩) ?_
    rotate_left
    · (intro w hSw; go_simp; try (with_reducible rfl))
    try simp only [Act.put, Ls]
    refine tk 2 ?_ rfl (Or.inl ⟨by rfl, ?_⟩) ?_
    rotate_left
    · (intro w hSw; go_simp; try (with_reducible rfl))
    try simp only [Act.put, Ls]
    refine tk 5 ?_ rfl (Or.inl ⟨by rfl, ?_⟩) ?_
    rotate_left
    · (intro w hSw; go_simp; try (with_reducible rfl))
    try simp only [Act.put, Ls]
    refine wpAnyH_ready (rs := [3]) (by kernel_rfl) (by simp) ?_
    refine (AllReadyH.cons (o := _) rfl (fun K hK => ?_) AllReadyH.nil)
    go_simp
    go_at_call 124; refine (CI.out _).mono ?_; rintro r W ⟨rfl, hb⟩
    replace hr := hr.below hb
    replace hg : w.grownBy W (some rb) := grown_trans hg (grown_below (w := _) (w' := W) (below_dr hb) _)
    clear hb
    refine hK.out _ _ ?_ (fun hHeld => ?_)
    · trivial
    clear hK K
    try simp only [Act.put, Ls]
    refine tk 4 ?_ rfl (Or.inl ⟨by rfl, ?_⟩) ?_
    rotate_left
    · (intro w hSw; go_simp; try (with_reducible rfl))
    try simp only [Act.put, Ls]
    refine wpAnyH_ready (rs := [6]) (by kernel_rfl) (by simp) ?_
    refine (AllReadyH.cons (o := _) rfl (fun K hK => ?_) AllReadyH.nil)
    go_simp
    go_at_call 74; refine (once_any rb ca cc cs 2 _ hr (by decide) (by decide)).mono ?_; rintro r W ⟨ng, rfl, hr, hg'⟩
    replace hg := grown_trans hg hg'
    clear hg'
    refine hK.out _ _ ?_ (fun hHeld => ?_)
    · trivial
    clear hK K
    try simp only [Act.put, Ls]
    refine wpAnyH_ready (rs := [7]) (by kernel_rfl) (by simp) ?_
    refine (AllReadyH.cons (o := _) rfl (fun K hK => ?_) AllReadyH.nil)
    go_simp
    go_at_call 138; refine (with_32 (Int.tmod _ 2139095040) ng _ (fun _ => tmW32 ?_)).mono ?_
    · (first | omega | exact Int.tmod_nonneg _ (by omega) | exact nn_wrap _ | exact fpb_nn _ _ _ _)
    rintro r W ⟨rfl, hb⟩
    replace hr := hr.below hb
    replace hg := grown_trans hg (grown_below hb _)
    clear hb
    refine hK.out _ _ ?_ (fun hHeld => ?_)
    · trivial
    clear hK K
    try simp only [Act.put, Ls]
    refine tk 8 ?_ rfl (Or.inl ⟨by rfl, ?_⟩) ?_
    rotate_left
    · (intro w hSw; go_simp; try (with_reducible rfl))
    try simp only [Act.put, Ls]
    refine wpAnyH_done (by kernel_rfl) ?_ _
    go_wp2
    go_ret
    refine ⟨_, rfl, sgn_fin32 _ ng (tmX32 ?_), hr, hg⟩ <;> (first | omega | exact Int.tmod_nonneg _ (by omega) | exact nn_wrap _ | exact fpb_nn _ _ _ _)
  · go_wp2_with fail
    refine (below_any rb ca cc cs 5000 _ hr (by decide) (by decide)).mono ?_
    rintro r W ⟨x, rfl, x0, x1, hr, hg'⟩
    replace hg := grown_trans hg hg'
    clear hg'
    go_upto_region 9 with fail
    replace hr := hr.drew
    refine wp_region_held_drew (S := fun _ => True) (by kernel_rfl) ?_ (fun hHeld => ?_)
    · trivial
    refine tk 0 ?_ rfl (Or.inl ⟨by rfl, ?_⟩) ?_
    rotate_left
    · (intro w hSw; go_simp; try (with_reducible rfl))
    try simp only [Act.put, Ls]
    refine tk 1 ?_ rfl (Or.inl ⟨by rfl, ?_⟩) ?_
    rotate_left
    · (intro w hSw; go_simp; try (with_reducible rfl))
    try simp only [Act.put, Ls]
    refine tk 2 ?_ rfl (Or.inl ⟨by rfl, ?_⟩) ?_
    rotate_left
    · (intro w hSw; go_simp; try (with_reducible rfl))
    try simp only [Act.put, Ls]
    refine tk 5 ?_ rfl (Or.inl ⟨by rfl, ?_⟩) ?_
    rotate_left
    · (intro w hSw; go_simp; try (with_reducible rfl))
    try simp only [Act.put, Ls]
    refine wpAnyH_ready (rs := [3]) (by kernel_rfl) (by simp) ?_
    refine (AllReadyH.cons (o := _) rfl (fun K hK => ?_) AllReadyH.nil)
    go_simp
    go_at_call 124; refine (CI.out _).mono ?_; rintro r W ⟨rfl, hb⟩
    replace hr := hr.below hb
    replace hg : w.grownBy W (some rb) := grown_trans hg (grown_below (w := _) (w' := W) (below_dr hb) _)
    clear hb
    refine hK.out _ _ ?_ (fun hHeld => ?_)
    · trivial
    clear hK K
    try simp only [Act.put, Ls]
    refine tk 4 ?_ rfl (Or.inl ⟨by rfl, ?_⟩) ?_
    rotate_left
    · (intro w hSw; go_simp; try (with_reducible rfl))
    try simp only [Act.put, Ls]
    refine wpAnyH_ready (rs := [6]) (by kernel_rfl) (by simp) ?_
    refine (AllReadyH.cons (o := _) rfl (fun K hK => ?_) AllReadyH.nil)
    go_simp
    go_at_call 74; refine (once_any rb ca cc cs 2 _ hr (by decide) (by decide)).mono ?_; rintro r W ⟨ng, rfl, hr, hg'⟩
    replace hg := grown_trans hg hg'
    clear hg'
    refine hK.out _ _ ?_ (fun hHeld => ?_)
    · trivial
    clear hK K
    try simp only [Act.put, Ls]
    refine wpAnyH_ready (rs := [7]) (by kernel_rfl) (by simp) ?_
    refine (AllReadyH.cons (o := _) rfl (fun K hK => ?_) AllReadyH.nil)
    go_simp
    go_at_call 138; refine (with_32 (Int.tmod _ 2139095040) ng _ (fun _ => tmW32 ?_)).mono ?_
    · (first | omega | exact Int.tmod_nonneg _ (by omega) | exact nn_wrap _ | exact fpb_nn _ _ _ _)
    rintro r W ⟨rfl, hb⟩
    replace hr := hr.below hb
    replace hg := grown_trans hg (grown_below hb _)
    clear hb
    refine hK.out _ _ ?_ (fun hHeld => ?_)
    · trivial
    clear hK K
    try simp only [Act.put, Ls]
    refine tk 8 ?_ rfl (Or.inl ⟨by rfl, ?_⟩) ?_
    rotate_left
    · (intro w hSw; go_simp; try (with_reducible rfl))
    try simp only [Act.put, Ls]
    refine wpAnyH_done (by kernel_rfl) ?_ _
    go_wp2
    go_ret
    refine ⟨_, rfl, sgn_fin32 _ ng (tmX32 ?_), hr, hg⟩ <;> (first | omega | exact Int.tmod_nonneg _ (by omega) | exact nn_wrap _ | exact fpb_nn _ _ _ _)
  · go_wp2_with fail
    refine (CI.out _).mono ?_
    rintro r W ⟨rfl, hb⟩
    replace hr := hr.below hb
    replace hg := grown_trans hg (grown_below hb _)
    clear hb
    go_wp2_with fail
    refine (below_any rb ca cc cs 5000 _ hr (by decide) (by decide)).mono ?_
    rintro r W ⟨x, rfl, x0, x1, hr, hg'⟩
    replace hg := grown_trans hg hg'
    clear hg'
    go_upto_region 9 with fail
    replace hr := hr.drew
    refine wp_region_held_drew (S := fun _ => True) (by kernel_rfl) ?_ (fun hHeld => ?_)
    · trivial
    refine tk 0 ?_ rfl (Or.inl ⟨by rfl, ?_⟩) ?_
    rotate_left
    · (intro w hSw; go_simp; try (with_reducible rfl))
    try simp only [Act.put, Ls]
    refine tk 1 ?_ rfl (Or.inl ⟨by rfl, ?_⟩) ?_
    rotate_left
    · (intro w hSw; go_simp; try (with_reducible rfl))
    try simp only [Act.put, Ls]
    refine tk 2 ?_ rfl (Or.inl ⟨by rfl, ?_⟩) ?_
    rotate_left
    · (intro w hSw; go_simp; try (with_reducible rfl))
    try simp only [Act.put, Ls]
    refine tk 5 ?_ rfl (Or.inl ⟨by rfl, ?_⟩) ?_
    rotate_left
    · (intro w hSw; go_simp; try (with_reducible rfl))
    try simp only [Act.put, Ls]
    refine wpAnyH_ready (rs := [3]) (by kernel_rfl) (by simp) ?_
    refine (AllReadyH.cons (o := _) rfl (fun K hK => ?_) AllReadyH.nil)
    go_simp
    go_at_call 124; refine (CI.out _).mono ?_; rintro r W ⟨rfl, hb⟩
    replace hr := hr.below hb
    replace hg : w.grownBy W (some rb) := grown_trans hg (grown_below (w := _) (w' := W) (below_dr hb) _)
    clear hb
    refine hK.out _ _ ?_ (fun hHeld => ?_)
    · trivial
    clear hK K
    try simp only [Act.put, Ls]
    refine tk 4 ?_ rfl (Or.inl ⟨by rfl, ?_⟩) ?_
    rotate_left
    · (intro w hSw; go_simp; try (with_reducible rfl))
    try simp only [Act.put, Ls]
    refine wpAnyH_ready (rs := [6]) (by kernel_rfl) (by simp) ?_
    refine (AllReadyH.cons (o := _) rfl (fun K hK => ?_) AllReadyH.nil)
    go_simp
    go_at_call 74; refine (once_any rb ca cc cs 2 _ hr (by decide) (by decide)).mono ?_; rintro r W ⟨ng, rfl, hr, hg'⟩
    replace hg := grown_trans hg hg'
    clear hg'
    refine hK.out _ _ ?_ (fun hHeld => ?_)
    · trivial
    clear hK K
    try simp only [Act.put, Ls]
    refine wpAnyH_ready (rs := [7]) (by kernel_rfl) (by simp) ?_
    refine (AllReadyH.cons (o := _) rfl (fun K hK => ?_) AllReadyH.nil)
    go_simp
    go_at_call 138; refine (with_32 (Int.tmod _ 2139095040) ng _ (fun _ => tmW32 ?_)).mono ?_
    · (first | omega | exact Int.tmod_nonneg _ (by omega) | exact nn_wrap _ | exact fpb_nn _ _ _ _)
    rintro r W ⟨rfl, hb⟩
    replace hr := hr.below hb
    replace hg := grown_trans hg (grown_below hb _)
    clear hb
    refine hK.out _ _ ?_ (fun hHeld => ?_)
    · trivial
    clear hK K
    try simp only [Act.put, Ls]
    refine tk 8 ?_ rfl (Or.inl ⟨by rfl, ?_⟩) ?_
    rotate_left
    · (intro w hSw; go_simp; try (with_reducible rfl))
    try simp only [Act.put, Ls]
    refine wpAnyH_done (by kernel_rfl) ?_ _
    go_wp2
    go_ret
    refine ⟨_, rfl, sgn_fin32 _ ng (tmX32 ?_), hr, hg⟩ <;> (first | omega | exact Int.tmod_nonneg _ (by omega) | exact nn_wrap _ | exact fpb_nn _ _ _ _)
  · have e0 : (v == 0) = false := by simp; omega
    have e1 : (v == 1) = false := by simp; omega
    have e2 : (v == 2) = false := by simp; omega
    have e3 : (v == 3) = false := by simp; omega
    have e4 : (v == 4) = false := by simp; omega
    go_wp2_with fail
    refine (below_any rb ca cc cs 4096 _ hr (by decide) (by decide)).mono ?_
    rintro r W ⟨m, rfl, m0, m1, hr, hg'⟩
    replace hg := grown_trans hg hg'
    clear hg'
    go_wp2_with fail
    refine (below_any rb ca cc cs 40 _ hr (by decide) (by decide)).mono ?_
    rintro r W ⟨q, rfl, q0, q1, hr, hg'⟩
    replace hg := grown_trans hg hg'
    clear hg'
    have hr0 := hr.alloc (.cells #[.bool false, .int .i64 m, .int .i64 (q - 20)] 112)
    have P0 := R3.new W (.bool false) (.int .i64 m) (.int .i64 (q - 20)) 112
    obtain ⟨p0, p1, p2, -, -, -⟩ := P0
    have hwq : wrap64 (q - 20) = q - 20 := by unfold wrap64; omega
    replace hg := grown_alloc hg (.cells #[.bool false, .int .i64 m, .int .i64 (q - 20)] 112)
    replace hr := hr0
    clear hr0
    go_wp2_with fail
    refine (parts_spec 32 false m (q - 20) _ (by omega)).mono ?_
    rintro r W' ⟨rfl, hb⟩
    replace hr := hr.below hb
    replace hg := grown_trans hg (grown_below hb _)
    clear hb
    clear p0 p1 p2
    go_upto_region 9 with fail
    replace hr := hr.drew
    refine wp_region_held_drew (S := fun _ => True) (by kernel_rfl) ?_ (fun hHeld => ?_)
    · trivial
    refine tk 0 ?_ rfl (Or.inl ⟨by rfl, ?_⟩) ?_
    rotate_left
    · (intro w hSw; go_simp; try (with_reducible rfl))
    try simp only [Act.put, Ls]
    refine tk 1 ?_ rfl (Or.inl ⟨by rfl, ?_⟩) ?_
    rotate_left
    · (intro w hSw; go_simp; try (with_reducible rfl))
    try simp only [Act.put, Ls]
    refine tk 2 ?_ rfl (Or.inl ⟨by rfl, ?_⟩) ?_
    rotate_left
    · (intro w hSw; go_simp; try (with_reducible rfl))
    try simp only [Act.put, Ls]
    refine tk 5 ?_ rfl (Or.inl ⟨by rfl, ?_⟩) ?_
    rotate_left
    · (intro w hSw; go_simp; try (with_reducible rfl))
    try simp only [Act.put, Ls]
    refine wpAnyH_ready (rs := [3]) (by kernel_rfl) (by simp) ?_
    refine (AllReadyH.cons (o := _) rfl (fun K hK => ?_) AllReadyH.nil)
    go_simp
    go_at_call 124; refine (CI.out _).mono ?_; rintro r W ⟨rfl, hb⟩
    replace hr := hr.below hb
    replace hg : w.grownBy W (some rb) := grown_trans hg (grown_below (w := _) (w' := W) (below_dr hb) _)
    clear hb
    refine hK.out _ _ ?_ (fun hHeld => ?_)
    · trivial
    clear hK K
    try simp only [Act.put, Ls]
    refine tk 4 ?_ rfl (Or.inl ⟨by rfl, ?_⟩) ?_
    rotate_left
    · (intro w hSw; go_simp; try (with_reducible rfl))
    try simp only [Act.put, Ls]
    refine wpAnyH_ready (rs := [6]) (by kernel_rfl) (by simp) ?_
    refine (AllReadyH.cons (o := _) rfl (fun K hK => ?_) AllReadyH.nil)
    go_simp
    go_at_call 74; refine (once_any rb ca cc cs 2 _ hr (by decide) (by decide)).mono ?_; rintro r W ⟨ng, rfl, hr, hg'⟩
    replace hg := grown_trans hg hg'
    clear hg'
    refine hK.out _ _ ?_ (fun hHeld => ?_)
    · trivial
    clear hK K
    try simp only [Act.put, Ls]
    refine wpAnyH_ready (rs := [7]) (by kernel_rfl) (by simp) ?_
    refine (AllReadyH.cons (o := _) rfl (fun K hK => ?_) AllReadyH.nil)
    go_simp
    go_at_call 138; refine (with_32 (Int.tmod _ 2139095040) ng _ (fun _ => tmW32 ?_)).mono ?_
    · (first | omega | exact Int.tmod_nonneg _ (by omega) | exact nn_wrap _ | exact fpb_nn _ _ _ _)
    rintro r W ⟨rfl, hb⟩
    replace hr := hr.below hb
    replace hg := grown_trans hg (grown_below hb _)
    clear hb
    refine hK.out _ _ ?_ (fun hHeld => ?_)
    · trivial
    clear hK K
    try simp only [Act.put, Ls]
    refine tk 8 ?_ rfl (Or.inl ⟨by rfl, ?_⟩) ?_
    rotate_left
    · (intro w hSw; go_simp; try (with_reducible rfl))
    try simp only [Act.put, Ls]
    refine wpAnyH_done (by kernel_rfl) ?_ _
    go_wp2
    go_ret
    refine ⟨_, rfl, sgn_fin32 _ ng (tmX32 ?_), hr, hg⟩ <;> (first | omega | exact Int.tmod_nonneg _ (by omega) | exact nn_wrap _ | exact fpb_nn _ _ _ _)
/-- A finite float's bits. -/
def FinP64 (x : Int) : Prop := 0 ≤ x ∧ x < 18446744073709551616 ∧ finB 64 x = true
theorem sgn_fin64 (x : Int) (ng : Bool) (h : 0 ≤ x ∧ x < 9218868437227405312) : FinP64 (sgn 9223372036854775808 x ng) := by
  have hb : 0 ≤ sgn 9223372036854775808 x ng ∧ sgn 9223372036854775808 x ng < 18446744073709551616 := by unfold sgn; cases ng <;> simp <;> omega
  refine ⟨hb.1, hb.2, ?_⟩
  have e : sgn 9223372036854775808 x ng % 9223372036854775808 = x := by unfold sgn; cases ng <;> simp <;> omega
  unfold finB
  rw [cls64]
  unfold clsY
  rw [e]
  simp only [decide_eq_true_eq]
  repeat' split
  all_goals omega
theorem tmX64 {a : Int} (h : 0 ≤ a) : 0 ≤ a.tmod 9218868437227405312 ∧ a.tmod 9218868437227405312 < 9218868437227405312 := by
  rw [Int.tmod_eq_emod_of_nonneg h]; omega
theorem tmW64 {a : Int} (h : 0 ≤ a) : 0 ≤ a.tmod 9218868437227405312 ∧ a.tmod 9218868437227405312 < 9223372036854775808 := by
  have := tmX64 h; omega
theorem finiteF64 (rb : Nat) (ca : Option Addr) (cc : Nat) (cs : List Int) (w : World) (hr : RD w rb ca cc cs) :
    Calls Tryz.prog 149 #[.pointer (some ⟨rb, 0, none⟩), .int .i64 64] w fun e w' => ∃ x : Int, e = .returned (.int .u64 x) ∧ FinP64 x ∧ RD w' rb ca cc cs ∧ w.grownBy w' (some rb) := by
  have CI := hid (fun w' => spec_inf64 w')
  have CP := hid (fun w' => spec_P64 w')
  have hg := grown_refl w (some rb)
  have eI : infOf 64 = 9218868437227405312 := rfl
  rw [eI] at CI
  go_enter Tryz.func149, Tryz.ntmps149
  go_wp2_with fail
  refine (CI.out _).mono ?_
  rintro r W ⟨rfl, hb⟩
  replace hr := hr.below hb
  replace hg := grown_trans hg (grown_below hb _)
  clear hb
  go_wp2_with fail
  refine (CP.out _).mono ?_
  rintro r W ⟨rfl, hb⟩
  replace hr := hr.below hb
  replace hg := grown_trans hg (grown_below hb _)
  clear hb
  go_wp2_with fail
  refine (below_any rb ca cc cs 10 _ hr (by decide) (by decide)).mono ?_
  rintro r W ⟨v, rfl, v0, v1, hr, hg'⟩
  replace hg := grown_trans hg hg'
  clear hg'
  rcases (show v = 0 ∨ v = 1 ∨ v = 2 ∨ v = 3 ∨ v = 4 ∨ 4 < v by omega) with rfl | rfl | rfl | rfl | rfl | hv
  · go_wp2_with fail
    refine (CP.out _).mono ?_
    rintro r W ⟨rfl, hb⟩
    replace hr := hr.below hb
    replace hg := grown_trans hg (grown_below hb _)
    clear hb
    go_wp2_with fail
    refine (CP.out _).mono ?_
    rintro r W ⟨rfl, hb⟩
    replace hr := hr.below hb
    replace hg := grown_trans hg (grown_below hb _)
    clear hb
    go_wp2_with fail
    refine (CI.out _).mono ?_
    rintro r W ⟨rfl, hb⟩
    replace hr := hr.below hb
    replace hg := grown_trans hg (grown_below hb _)
    clear hb
    go_wp2_with fail
    refine (CI.out _).mono ?_
    rintro r W ⟨rfl, hb⟩
    replace hr := hr.below hb
    replace hg := grown_trans hg (grown_below hb _)
    clear hb
    obtain ⟨W0, hW0⟩ : ∃ W0, W0 = W := ⟨_, rfl⟩
    have hr0 := hr.alloc (.cells #[.int .u64 0, .int .u64 1, .int .u64 2, .int .u64 4503599627370495, .int .u64 4503599627370496, .int .u64 9218868437227405311, .int .u64 9218868437227405310] 29)
    have lr := hr.lt
    go_wp2_with fail
    refine (below_any rb ca cc cs 7 _ hr0 (by decide) (by decide)).mono ?_
    rintro r W' ⟨kz, rfl, k0, k1, hr, hg'⟩
    obtain ⟨kn, rfl⟩ := Int.eq_ofNat_of_zero_le k0
    obtain ⟨d, hd, d0⟩ := seven_cell W hg' lr kn (by omega) (by decide)
    replace hg := grown_trans (grown_alloc hg _) hg'
    clear hg' hW0
    go_upto_region 9 with fail
    replace hr := hr.drew
    refine wp_region_held_drew (S := fun _ => True) (by kernel_rfl) ?_ (fun hHeld => ?_)
    · trivial
    refine tk 0 ?_ rfl (Or.inl ⟨by rfl, ?_⟩) ?_
    rotate_left
    · (intro w hSw; go_simp; try (with_reducible rfl))
    try simp only [Act.put, Ls]
    refine tk 1 ?_ rfl (Or.inl ⟨by rfl, ?_⟩) ?_
    rotate_left
    · (intro w hSw; go_simp; try (with_reducible rfl))
    try simp only [Act.put, Ls]
    refine tk 2 ?_ rfl (Or.inl ⟨by rfl, ?_⟩) ?_
    rotate_left
    · (intro w hSw; go_simp; try (with_reducible rfl))
    try simp only [Act.put, Ls]
    refine tk 5 ?_ rfl (Or.inl ⟨by rfl, ?_⟩) ?_
    rotate_left
    · (intro w hSw; go_simp; try (with_reducible rfl))
    try simp only [Act.put, Ls]
    refine wpAnyH_ready (rs := [3]) (by kernel_rfl) (by simp) ?_
    refine (AllReadyH.cons (o := _) rfl (fun K hK => ?_) AllReadyH.nil)
    go_simp
    go_at_call 124; refine (CI.out _).mono ?_; rintro r W ⟨rfl, hb⟩
    replace hr := hr.below hb
    replace hg : w.grownBy W (some rb) := grown_trans hg (grown_below (w := _) (w' := W) (below_dr hb) _)
    clear hb
    refine hK.out _ _ ?_ (fun hHeld => ?_)
    · trivial
    clear hK K
    try simp only [Act.put, Ls]
    refine tk 4 ?_ rfl (Or.inl ⟨by rfl, ?_⟩) ?_
    rotate_left
    · (intro w hSw; go_simp; try (with_reducible rfl))
    try simp only [Act.put, Ls]
    refine wpAnyH_ready (rs := [6]) (by kernel_rfl) (by simp) ?_
    refine (AllReadyH.cons (o := _) rfl (fun K hK => ?_) AllReadyH.nil)
    go_simp
    go_at_call 74; refine (once_any rb ca cc cs 2 _ hr (by decide) (by decide)).mono ?_; rintro r W ⟨ng, rfl, hr, hg'⟩
    replace hg := grown_trans hg hg'
    clear hg'
    refine hK.out _ _ ?_ (fun hHeld => ?_)
    · trivial
    clear hK K
    try simp only [Act.put, Ls]
    refine wpAnyH_ready (rs := [7]) (by kernel_rfl) (by simp) ?_
    refine (AllReadyH.cons (o := _) rfl (fun K hK => ?_) AllReadyH.nil)
    go_simp
    go_at_call 138; refine (with_64 (Int.tmod _ 9218868437227405312) ng _ (fun _ => tmW64 ?_)).mono ?_
    · (first | omega | exact Int.tmod_nonneg _ (by omega) | exact nn_wrap _ | exact fpb_nn _ _ _ _)
    rintro r W ⟨rfl, hb⟩
    replace hr := hr.below hb
    replace hg := grown_trans hg (grown_below hb _)
    clear hb
    refine hK.out _ _ ?_ (fun hHeld => ?_)
    · trivial
    clear hK K
    try simp only [Act.put, Ls]
    refine tk 8 ?_ rfl (Or.inl ⟨by rfl, ?_⟩) ?_
    rotate_left
    · (intro w hSw; go_simp; try (with_reducible rfl))
    try simp only [Act.put, Ls]
    refine wpAnyH_done (by kernel_rfl) ?_ _
    go_wp2
    go_ret
    refine ⟨_, rfl, sgn_fin64 _ ng (tmX64 ?_), hr, hg⟩ <;> (first | omega | exact Int.tmod_nonneg _ (by omega) | exact nn_wrap _ | exact fpb_nn _ _ _ _)
  · go_wp2_with fail
    refine (word_any rb ca cc cs _ hr).mono ?_
    rintro r W ⟨x, rfl, x0, x1, hr, hg'⟩
    replace hg := grown_trans hg hg'
    clear hg'
    go_wp2_with fail
    refine (CI.out _).mono ?_
    rintro r W ⟨rfl, hb⟩
    replace hr := hr.below hb
    replace hg := grown_trans hg (grown_below hb _)
    clear hb
    go_upto_region 9 with fail
    replace hr := hr.drew
    refine wp_region_held_drew (S := fun _ => True) (by kernel_rfl) ?_ (fun hHeld => ?_)
    · trivial
    refine tk 0 ?_ rfl (Or.inl ⟨by rfl, ?_⟩) ?_
    rotate_left
    · (intro w hSw; go_simp; try (with_reducible rfl))
    try simp only [Act.put, Ls]
    refine tk 1 ?_ rfl (Or.inl ⟨by rfl, ?_⟩) ?_
    rotate_left
    · (intro w hSw; go_simp; try (with_reducible rfl))
    try simp only [Act.put, Ls]
    refine tk 2 ?_ rfl (Or.inl ⟨by rfl, ?_⟩) ?_
    rotate_left
    · (intro w hSw; go_simp; try (with_reducible rfl))
    try simp only [Act.put, Ls]
    refine tk 5 ?_ rfl (Or.inl ⟨by rfl, ?_⟩) ?_
    rotate_left
    · (intro w hSw; go_simp; try (with_reducible rfl))
    try simp only [Act.put, Ls]
    refine wpAnyH_ready (rs := [3]) (by kernel_rfl) (by simp) ?_
    refine (AllReadyH.cons (o := _) rfl (fun K hK => ?_) AllReadyH.nil)
    go_simp
    go_at_call 124; refine (CI.out _).mono ?_; rintro r W ⟨rfl, hb⟩
    replace hr := hr.below hb
    replace hg : w.grownBy W (some rb) := grown_trans hg (grown_below (w := _) (w' := W) (below_dr hb) _)
    clear hb
    refine hK.out _ _ ?_ (fun hHeld => ?_)
    · trivial
    clear hK K
    try simp only [Act.put, Ls]
    refine tk 4 ?_ rfl (Or.inl ⟨by rfl, ?_⟩) ?_
    rotate_left
    · (intro w hSw; go_simp; try (with_reducible rfl))
    try simp only [Act.put, Ls]
    refine wpAnyH_ready (rs := [6]) (by kernel_rfl) (by simp) ?_
    refine (AllReadyH.cons (o := _) rfl (fun K hK => ?_) AllReadyH.nil)
    go_simp
    go_at_call 74; refine (once_any rb ca cc cs 2 _ hr (by decide) (by decide)).mono ?_; rintro r W ⟨ng, rfl, hr, hg'⟩
    replace hg := grown_trans hg hg'
    clear hg'
    refine hK.out _ _ ?_ (fun hHeld => ?_)
    · trivial
    clear hK K
    try simp only [Act.put, Ls]
    refine wpAnyH_ready (rs := [7]) (by kernel_rfl) (by simp) ?_
    refine (AllReadyH.cons (o := _) rfl (fun K hK => ?_) AllReadyH.nil)
    go_simp
    go_at_call 138; refine (with_64 (Int.tmod _ 9218868437227405312) ng _ (fun _ => tmW64 ?_)).mono ?_
    · (first | omega | exact Int.tmod_nonneg _ (by omega) | exact nn_wrap _ | exact fpb_nn _ _ _ _)
    rintro r W ⟨rfl, hb⟩
    replace hr := hr.below hb
    replace hg := grown_trans hg (grown_below hb _)
    clear hb
    refine hK.out _ _ ?_ (fun hHeld => ?_)
    · trivial
    clear hK K
    try simp only [Act.put, Ls]
    refine tk 8 ?_ rfl (Or.inl ⟨by rfl, ?_⟩) ?_
    rotate_left
    · (intro w hSw; go_simp; try (with_reducible rfl))
    try simp only [Act.put, Ls]
    refine wpAnyH_done (by kernel_rfl) ?_ _
    go_wp2
    go_ret
    refine ⟨_, rfl, sgn_fin64 _ ng (tmX64 ?_), hr, hg⟩ <;> (first | omega | exact Int.tmod_nonneg _ (by omega) | exact nn_wrap _ | exact fpb_nn _ _ _ _)
  · go_wp2_with fail
    refine (word_any rb ca cc cs _ hr).mono ?_
    rintro r W ⟨x, rfl, x0, x1, hr, hg'⟩
    replace hg := grown_trans hg hg'
    clear hg'
    go_wp2_with fail
    refine (CP.out _).mono ?_
    rintro r W ⟨rfl, hb⟩
    replace hr := hr.below hb
    replace hg := grown_trans hg (grown_below hb _)
    clear hb
    go_upto_region 9 with fail
    replace hr := hr.drew
    refine wp_region_held_drew (S := fun _ => True) (by kernel_rfl) ?_ (fun hHeld => ?_)
    · trivial
    refine tk 0 ?_ rfl (Or.inl ⟨by rfl, ?_⟩) ?_
    rotate_left
    · (intro w hSw; go_simp; try (with_reducible rfl))
    try simp only [Act.put, Ls]
    refine tk 1 ?_ rfl (Or.inl ⟨by rfl, ?_⟩) ?_
    rotate_left
    · (intro w hSw; go_simp; try (with_reducible rfl))
    try simp only [Act.put, Ls]
    refine tk 2 ?_ rfl (Or.inl ⟨by rfl, ?_⟩) ?_
    rotate_left
    · (intro w hSw; go_simp; try (with_reducible rfl))
    try simp only [Act.put, Ls]
    refine tk 5 ?_ rfl (Or.inl ⟨by rfl, ?_⟩) ?_
    rotate_left
    · (intro w hSw; go_simp; try (with_reducible rfl))
    try simp only [Act.put, Ls]
    refine wpAnyH_ready (rs := [3]) (by kernel_rfl) (by simp) ?_
    refine (AllReadyH.cons (o := _) rfl (fun K hK => ?_) AllReadyH.nil)
    go_simp
    go_at_call 124; refine (CI.out _).mono ?_; rintro r W ⟨rfl, hb⟩
    replace hr := hr.below hb
    replace hg : w.grownBy W (some rb) := grown_trans hg (grown_below (w := _) (w' := W) (below_dr hb) _)
    clear hb
    refine hK.out _ _ ?_ (fun hHeld => ?_)
    · trivial
    clear hK K
    try simp only [Act.put, Ls]
    refine tk 4 ?_ rfl (Or.inl ⟨by rfl, ?_⟩) ?_
    rotate_left
    · (intro w hSw; go_simp; try (with_reducible rfl))
    try simp only [Act.put, Ls]
    refine wpAnyH_ready (rs := [6]) (by kernel_rfl) (by simp) ?_
    refine (AllReadyH.cons (o := _) rfl (fun K hK => ?_) AllReadyH.nil)
    go_simp
    go_at_call 74; refine (once_any rb ca cc cs 2 _ hr (by decide) (by decide)).mono ?_; rintro r W ⟨ng, rfl, hr, hg'⟩
    replace hg := grown_trans hg hg'
    clear hg'
    refine hK.out _ _ ?_ (fun hHeld => ?_)
    · trivial
    clear hK K
    try simp only [Act.put, Ls]
    refine wpAnyH_ready (rs := [7]) (by kernel_rfl) (by simp) ?_
    refine (AllReadyH.cons (o := _) rfl (fun K hK => ?_) AllReadyH.nil)
    go_simp
    go_at_call 138; refine (with_64 (Int.tmod _ 9218868437227405312) ng _ (fun _ => tmW64 ?_)).mono ?_
    · (first | omega | exact Int.tmod_nonneg _ (by omega) | exact nn_wrap _ | exact fpb_nn _ _ _ _)
    rintro r W ⟨rfl, hb⟩
    replace hr := hr.below hb
    replace hg := grown_trans hg (grown_below hb _)
    clear hb
    refine hK.out _ _ ?_ (fun hHeld => ?_)
    · trivial
    clear hK K
    try simp only [Act.put, Ls]
    refine tk 8 ?_ rfl (Or.inl ⟨by rfl, ?_⟩) ?_
    rotate_left
    · (intro w hSw; go_simp; try (with_reducible rfl))
    try simp only [Act.put, Ls]
    refine wpAnyH_done (by kernel_rfl) ?_ _
    go_wp2
    go_ret
    refine ⟨_, rfl, sgn_fin64 _ ng (tmX64 ?_), hr, hg⟩ <;> (first | omega | exact Int.tmod_nonneg _ (by omega) | exact nn_wrap _ | exact fpb_nn _ _ _ _)
  · go_wp2_with fail
    refine (below_any rb ca cc cs 5000 _ hr (by decide) (by decide)).mono ?_
    rintro r W ⟨x, rfl, x0, x1, hr, hg'⟩
    replace hg := grown_trans hg hg'
    clear hg'
    go_upto_region 9 with fail
    replace hr := hr.drew
    refine wp_region_held_drew (S := fun _ => True) (by kernel_rfl) ?_ (fun hHeld => ?_)
    · trivial
    refine tk 0 ?_ rfl (Or.inl ⟨by rfl, ?_⟩) ?_
    rotate_left
    · (intro w hSw; go_simp; try (with_reducible rfl))
    try simp only [Act.put, Ls]
    refine tk 1 ?_ rfl (Or.inl ⟨by rfl, ?_⟩) ?_
    rotate_left
    · (intro w hSw; go_simp; try (with_reducible rfl))
    try simp only [Act.put, Ls]
    refine tk 2 ?_ rfl (Or.inl ⟨by rfl, ?_⟩) ?_
    rotate_left
    · (intro w hSw; go_simp; try (with_reducible rfl))
    try simp only [Act.put, Ls]
    refine tk 5 ?_ rfl (Or.inl ⟨by rfl, ?_⟩) ?_
    rotate_left
    · (intro w hSw; go_simp; try (with_reducible rfl))
    try simp only [Act.put, Ls]
    refine wpAnyH_ready (rs := [3]) (by kernel_rfl) (by simp) ?_
    refine (AllReadyH.cons (o := _) rfl (fun K hK => ?_) AllReadyH.nil)
    go_simp
    go_at_call 124; refine (CI.out _).mono ?_; rintro r W ⟨rfl, hb⟩
    replace hr := hr.below hb
    replace hg : w.grownBy W (some rb) := grown_trans hg (grown_below (w := _) (w' := W) (below_dr hb) _)
    clear hb
    refine hK.out _ _ ?_ (fun hHeld => ?_)
    · trivial
    clear hK K
    try simp only [Act.put, Ls]
    refine tk 4 ?_ rfl (Or.inl ⟨by rfl, ?_⟩) ?_
    rotate_left
    · (intro w hSw; go_simp; try (with_reducible rfl))
    try simp only [Act.put, Ls]
    refine wpAnyH_ready (rs := [6]) (by kernel_rfl) (by simp) ?_
    refine (AllReadyH.cons (o := _) rfl (fun K hK => ?_) AllReadyH.nil)
    go_simp
    go_at_call 74; refine (once_any rb ca cc cs 2 _ hr (by decide) (by decide)).mono ?_; rintro r W ⟨ng, rfl, hr, hg'⟩
    replace hg := grown_trans hg hg'
    clear hg'
    refine hK.out _ _ ?_ (fun hHeld => ?_)
    · trivial
    clear hK K
    try simp only [Act.put, Ls]
    refine wpAnyH_ready (rs := [7]) (by kernel_rfl) (by simp) ?_
    refine (AllReadyH.cons (o := _) rfl (fun K hK => ?_) AllReadyH.nil)
    go_simp
    go_at_call 138; refine (with_64 (Int.tmod _ 9218868437227405312) ng _ (fun _ => tmW64 ?_)).mono ?_
    · (first | omega | exact Int.tmod_nonneg _ (by omega) | exact nn_wrap _ | exact fpb_nn _ _ _ _)
    rintro r W ⟨rfl, hb⟩
    replace hr := hr.below hb
    replace hg := grown_trans hg (grown_below hb _)
    clear hb
    refine hK.out _ _ ?_ (fun hHeld => ?_)
    · trivial
    clear hK K
    try simp only [Act.put, Ls]
    refine tk 8 ?_ rfl (Or.inl ⟨by rfl, ?_⟩) ?_
    rotate_left
    · (intro w hSw; go_simp; try (with_reducible rfl))
    try simp only [Act.put, Ls]
    refine wpAnyH_done (by kernel_rfl) ?_ _
    go_wp2
    go_ret
    refine ⟨_, rfl, sgn_fin64 _ ng (tmX64 ?_), hr, hg⟩ <;> (first | omega | exact Int.tmod_nonneg _ (by omega) | exact nn_wrap _ | exact fpb_nn _ _ _ _)
  · go_wp2_with fail
    refine (CI.out _).mono ?_
    rintro r W ⟨rfl, hb⟩
    replace hr := hr.below hb
    replace hg := grown_trans hg (grown_below hb _)
    clear hb
    go_wp2_with fail
    refine (below_any rb ca cc cs 5000 _ hr (by decide) (by decide)).mono ?_
    rintro r W ⟨x, rfl, x0, x1, hr, hg'⟩
    replace hg := grown_trans hg hg'
    clear hg'
    go_upto_region 9 with fail
    replace hr := hr.drew
    refine wp_region_held_drew (S := fun _ => True) (by kernel_rfl) ?_ (fun hHeld => ?_)
    · trivial
    refine tk 0 ?_ rfl (Or.inl ⟨by rfl, ?_⟩) ?_
    rotate_left
    · (intro w hSw; go_simp; try (with_reducible rfl))
    try simp only [Act.put, Ls]
    refine tk 1 ?_ rfl (Or.inl ⟨by rfl, ?_⟩) ?_
    rotate_left
    · (intro w hSw; go_simp; try (with_reducible rfl))
    try simp only [Act.put, Ls]
    refine tk 2 ?_ rfl (Or.inl ⟨by rfl, ?_⟩) ?_
    rotate_left
    · (intro w hSw; go_simp; try (with_reducible rfl))
    try simp only [Act.put, Ls]
    refine tk 5 ?_ rfl (Or.inl ⟨by rfl, ?_⟩) ?_
    rotate_left
    · (intro w hSw; go_simp; try (with_reducible rfl))
    try simp only [Act.put, Ls]
    refine wpAnyH_ready (rs := [3]) (by kernel_rfl) (by simp) ?_
    refine (AllReadyH.cons (o := _) rfl (fun K hK => ?_) AllReadyH.nil)
    go_simp
    go_at_call 124; refine (CI.out _).mono ?_; rintro r W ⟨rfl, hb⟩
    replace hr := hr.below hb
    replace hg : w.grownBy W (some rb) := grown_trans hg (grown_below (w := _) (w' := W) (below_dr hb) _)
    clear hb
    refine hK.out _ _ ?_ (fun hHeld => ?_)
    · trivial
    clear hK K
    try simp only [Act.put, Ls]
    refine tk 4 ?_ rfl (Or.inl ⟨by rfl, ?_⟩) ?_
    rotate_left
    · (intro w hSw; go_simp; try (with_reducible rfl))
    try simp only [Act.put, Ls]
    refine wpAnyH_ready (rs := [6]) (by kernel_rfl) (by simp) ?_
    refine (AllReadyH.cons (o := _) rfl (fun K hK => ?_) AllReadyH.nil)
    go_simp
    go_at_call 74; refine (once_any rb ca cc cs 2 _ hr (by decide) (by decide)).mono ?_; rintro r W ⟨ng, rfl, hr, hg'⟩
    replace hg := grown_trans hg hg'
    clear hg'
    refine hK.out _ _ ?_ (fun hHeld => ?_)
    · trivial
    clear hK K
    try simp only [Act.put, Ls]
    refine wpAnyH_ready (rs := [7]) (by kernel_rfl) (by simp) ?_
    refine (AllReadyH.cons (o := _) rfl (fun K hK => ?_) AllReadyH.nil)
    go_simp
    go_at_call 138; refine (with_64 (Int.tmod _ 9218868437227405312) ng _ (fun _ => tmW64 ?_)).mono ?_
    · (first | omega | exact Int.tmod_nonneg _ (by omega) | exact nn_wrap _ | exact fpb_nn _ _ _ _)
    rintro r W ⟨rfl, hb⟩
    replace hr := hr.below hb
    replace hg := grown_trans hg (grown_below hb _)
    clear hb
    refine hK.out _ _ ?_ (fun hHeld => ?_)
    · trivial
    clear hK K
    try simp only [Act.put, Ls]
    refine tk 8 ?_ rfl (Or.inl ⟨by rfl, ?_⟩) ?_
    rotate_left
    · (intro w hSw; go_simp; try (with_reducible rfl))
    try simp only [Act.put, Ls]
    refine wpAnyH_done (by kernel_rfl) ?_ _
    go_wp2
    go_ret
    refine ⟨_, rfl, sgn_fin64 _ ng (tmX64 ?_), hr, hg⟩ <;> (first | omega | exact Int.tmod_nonneg _ (by omega) | exact nn_wrap _ | exact fpb_nn _ _ _ _)
  · have e0 : (v == 0) = false := by simp; omega
    have e1 : (v == 1) = false := by simp; omega
    have e2 : (v == 2) = false := by simp; omega
    have e3 : (v == 3) = false := by simp; omega
    have e4 : (v == 4) = false := by simp; omega
    go_wp2_with fail
    refine (below_any rb ca cc cs 4096 _ hr (by decide) (by decide)).mono ?_
    rintro r W ⟨m, rfl, m0, m1, hr, hg'⟩
    replace hg := grown_trans hg hg'
    clear hg'
    go_wp2_with fail
    refine (below_any rb ca cc cs 40 _ hr (by decide) (by decide)).mono ?_
    rintro r W ⟨q, rfl, q0, q1, hr, hg'⟩
    replace hg := grown_trans hg hg'
    clear hg'
    have hr0 := hr.alloc (.cells #[.bool false, .int .i64 m, .int .i64 (q - 20)] 112)
    have P0 := R3.new W (.bool false) (.int .i64 m) (.int .i64 (q - 20)) 112
    obtain ⟨p0, p1, p2, -, -, -⟩ := P0
    have hwq : wrap64 (q - 20) = q - 20 := by unfold wrap64; omega
    replace hg := grown_alloc hg (.cells #[.bool false, .int .i64 m, .int .i64 (q - 20)] 112)
    replace hr := hr0
    clear hr0
    go_wp2_with fail
    refine (parts_spec 64 false m (q - 20) _ (by omega)).mono ?_
    rintro r W' ⟨rfl, hb⟩
    replace hr := hr.below hb
    replace hg := grown_trans hg (grown_below hb _)
    clear hb
    clear p0 p1 p2
    go_upto_region 9 with fail
    replace hr := hr.drew
    refine wp_region_held_drew (S := fun _ => True) (by kernel_rfl) ?_ (fun hHeld => ?_)
    · trivial
    refine tk 0 ?_ rfl (Or.inl ⟨by rfl, ?_⟩) ?_
    rotate_left
    · (intro w hSw; go_simp; try (with_reducible rfl))
    try simp only [Act.put, Ls]
    refine tk 1 ?_ rfl (Or.inl ⟨by rfl, ?_⟩) ?_
    rotate_left
    · (intro w hSw; go_simp; try (with_reducible rfl))
    try simp only [Act.put, Ls]
    refine tk 2 ?_ rfl (Or.inl ⟨by rfl, ?_⟩) ?_
    rotate_left
    · (intro w hSw; go_simp; try (with_reducible rfl))
    try simp only [Act.put, Ls]
    refine tk 5 ?_ rfl (Or.inl ⟨by rfl, ?_⟩) ?_
    rotate_left
    · (intro w hSw; go_simp; try (with_reducible rfl))
    try simp only [Act.put, Ls]
    refine wpAnyH_ready (rs := [3]) (by kernel_rfl) (by simp) ?_
    refine (AllReadyH.cons (o := _) rfl (fun K hK => ?_) AllReadyH.nil)
    go_simp
    go_at_call 124; refine (CI.out _).mono ?_; rintro r W ⟨rfl, hb⟩
    replace hr := hr.below hb
    replace hg : w.grownBy W (some rb) := grown_trans hg (grown_below (w := _) (w' := W) (below_dr hb) _)
    clear hb
    refine hK.out _ _ ?_ (fun hHeld => ?_)
    · trivial
    clear hK K
    try simp only [Act.put, Ls]
    refine tk 4 ?_ rfl (Or.inl ⟨by rfl, ?_⟩) ?_
    rotate_left
    · (intro w hSw; go_simp; try (with_reducible rfl))
    try simp only [Act.put, Ls]
    refine wpAnyH_ready (rs := [6]) (by kernel_rfl) (by simp) ?_
    refine (AllReadyH.cons (o := _) rfl (fun K hK => ?_) AllReadyH.nil)
    go_simp
    go_at_call 74; refine (once_any rb ca cc cs 2 _ hr (by decide) (by decide)).mono ?_; rintro r W ⟨ng, rfl, hr, hg'⟩
    replace hg := grown_trans hg hg'
    clear hg'
    refine hK.out _ _ ?_ (fun hHeld => ?_)
    · trivial
    clear hK K
    try simp only [Act.put, Ls]
    refine wpAnyH_ready (rs := [7]) (by kernel_rfl) (by simp) ?_
    refine (AllReadyH.cons (o := _) rfl (fun K hK => ?_) AllReadyH.nil)
    go_simp
    go_at_call 138; refine (with_64 (Int.tmod _ 9218868437227405312) ng _ (fun _ => tmW64 ?_)).mono ?_
    · (first | omega | exact Int.tmod_nonneg _ (by omega) | exact nn_wrap _ | exact fpb_nn _ _ _ _)
    rintro r W ⟨rfl, hb⟩
    replace hr := hr.below hb
    replace hg := grown_trans hg (grown_below hb _)
    clear hb
    refine hK.out _ _ ?_ (fun hHeld => ?_)
    · trivial
    clear hK K
    try simp only [Act.put, Ls]
    refine tk 8 ?_ rfl (Or.inl ⟨by rfl, ?_⟩) ?_
    rotate_left
    · (intro w hSw; go_simp; try (with_reducible rfl))
    try simp only [Act.put, Ls]
    refine wpAnyH_done (by kernel_rfl) ?_ _
    go_wp2
    go_ret
    refine ⟨_, rfl, sgn_fin64 _ ng (tmX64 ?_), hr, hg⟩ <;> (first | omega | exact Int.tmod_nonneg _ (by omega) | exact nn_wrap _ | exact fpb_nn _ _ _ _)
/-- Six numbers in a row. -/
def Row6 (S : Int) (w : World) (B : Nat) : Prop := ∀ j, j < 6 → ∃ d : Int, w.cell? ⟨B, j, none⟩ = some (.int .u64 d) ∧ 0 ≤ d ∧ d < S
theorem Row6.rd {S : Int} {w w' : World} {B rb : Nat} (h : Row6 S w B) (hg : w.grownBy w' (some rb)) (hlt : rb < B) (hB : B < w.heap.size) : Row6 S w' B := fun j hj => by
  obtain ⟨d, h1, h2⟩ := h j hj
  have e := hg.block B hB (by simp; omega)
  exact ⟨d, (World.cell?_of_block (a := ⟨B, j, none⟩) e).trans h1, h2⟩
theorem Row6.new {S v0 v1 v2 v3 v4 v5 : Int} {t : TypeId} (w : World) (h : (0 ≤ v0 ∧ v0 < S) ∧ (0 ≤ v1 ∧ v1 < S) ∧ (0 ≤ v2 ∧ v2 < S) ∧ (0 ≤ v3 ∧ v3 < S) ∧ (0 ≤ v4 ∧ v4 < S) ∧ (0 ≤ v5 ∧ v5 < S)) : Row6 S (w.alloc (.cells #[.int .u64 v0, .int .u64 v1, .int .u64 v2, .int .u64 v3, .int .u64 v4, .int .u64 v5] t)) w.heap.size := fun k hk => by
  have q := World.cell?_alloc_new w #[.int .u64 v0, .int .u64 v1, .int .u64 v2, .int .u64 v3, .int .u64 v4, .int .u64 v5] t k
  rw [q]
  obtain ⟨h0, h1, h2, h3, h4, h5⟩ := h
  rcases (show k = 0 ∨ k = 1 ∨ k = 2 ∨ k = 3 ∨ k = 4 ∨ k = 5 by omega) with rfl | rfl | rfl | rfl | rfl | rfl
  · exact ⟨v0, rfl, h0⟩
  · exact ⟨v1, rfl, h1⟩
  · exact ⟨v2, rfl, h2⟩
  · exact ⟨v3, rfl, h3⟩
  · exact ⟨v4, rfl, h4⟩
  · exact ⟨v5, rfl, h5⟩
theorem Rd_any32 (mode : Int) (ng : Bool) (zs : List Int) (e : Int) (ho : RdO 32 mode ng zs e = true) (hz : ¬ zs.length = 0) :
    RdB 32 mode ng zs e = rdB 24 (-149) 2139095040 2147483648 mode ng (Nm.val zs).toNat e ∧ RdF 32 mode ng zs e = rdF 24 (-149) 2139095040 mode ng (Nm.val zs).toNat e := by
  unfold RdB RdF
  rw [ho, if_pos rfl, if_pos rfl, if_neg hz, if_neg hz, if_pos rfl, if_pos rfl]
  exact ⟨rfl, rfl⟩
theorem sgn_abs32 {v : Int} (h0 : 0 ≤ v) (h1 : v < 2147483648) (ng : Bool) : 0 ≤ sgn 2147483648 v ng ∧ sgn 2147483648 v ng < 4294967296 ∧ absF 32 (sgn 2147483648 v ng) = v := by
  have hb : 0 ≤ sgn 2147483648 v ng ∧ sgn 2147483648 v ng < 4294967296 := by unfold sgn; split <;> omega
  refine ⟨hb.1, hb.2, ?_⟩
  rw [ab32 hb.1 hb.2]
  unfold sgn
  cases ng
  · simp only [Bool.false_eq_true, if_false]; rw [if_pos h1]
  · simp only [if_true]; rw [if_neg (by omega)]; omega
theorem Rd_any64 (mode : Int) (ng : Bool) (zs : List Int) (e : Int) (ho : RdO 64 mode ng zs e = true) (hz : ¬ zs.length = 0) :
    RdB 64 mode ng zs e = rdB 53 (-1074) 9218868437227405312 9223372036854775808 mode ng (Nm.val zs).toNat e ∧ RdF 64 mode ng zs e = rdF 53 (-1074) 9218868437227405312 mode ng (Nm.val zs).toNat e := by
  unfold RdB RdF
  rw [ho, if_pos rfl, if_pos rfl, if_neg hz, if_neg hz, if_neg (show ¬ ((64 : Int) = 32) from by decide), if_neg (show ¬ ((64 : Int) = 32) from by decide)]
  exact ⟨rfl, rfl⟩
theorem sgn_abs64 {v : Int} (h0 : 0 ≤ v) (h1 : v < 9223372036854775808) (ng : Bool) : 0 ≤ sgn 9223372036854775808 v ng ∧ sgn 9223372036854775808 v ng < 18446744073709551616 ∧ absF 64 (sgn 9223372036854775808 v ng) = v := by
  have hb : 0 ≤ sgn 9223372036854775808 v ng ∧ sgn 9223372036854775808 v ng < 18446744073709551616 := by unfold sgn; split <;> omega
  refine ⟨hb.1, hb.2, ?_⟩
  rw [ab64 hb.1 hb.2]
  unfold sgn
  cases ng
  · simp only [Bool.false_eq_true, if_false]; rw [if_pos h1]
  · simp only [if_true]; rw [if_neg (by omega)]; omega
theorem wl_zero' (x : Int) : (Nm.wl x).length = 0 ↔ x = 0 := by
  unfold Nm.wl
  rw [Nm.lim_length_zero]
  omega
/-- A wide in memory of its own, from block m on, behind the reader's. -/
structure WO (W : World) (rb m : Nat) (x : Int) (a : Option Addr) (c : Nat) : Prop where
  o : Own W m a c (Nm.wl x)
  hm : rb < m
theorem WO.rd {W W' : World} {rb m : Nat} {x : Int} {a : Option Addr} {c : Nat} (h : WO W rb m x a c) (hg : W.grownBy W' (some rb)) : WO W' rb m x a c := ⟨h.o.rd hg h.hm, h.hm⟩
theorem WO.below {W W' : World} {rb m : Nat} {x : Int} {a : Option Addr} {c : Nat} (h : WO W rb m x a c) (hb : Below W.heap.size W W') : WO W' rb m x a c := ⟨h.o.below hb, h.hm⟩
theorem WO.alloc {W : World} {rb m : Nat} {x : Int} {a : Option Addr} {c : Nat} (h : WO W rb m x a c) (o : Obj) : WO (W.alloc o) rb m x a c := ⟨h.o.alloc o, h.hm⟩
theorem WO.drew {W : World} {rb m : Nat} {x : Int} {a : Option Addr} {c : Nat} (h : WO W rb m x a c) : WO W.drew rb m x a c := ⟨h.o.drew, h.hm⟩
theorem WO.sl {W : World} {rb m : Nat} {x : Int} {a : Option Addr} {c : Nat} (h : WO W rb m x a c) : Sl .u32 W (.slice a (Nm.wl x).length c) (Nm.wl x) := h.o.sl
theorem WO.of {W : World} {rb m B : Nat} {x : Int} {a : Option Addr} {c : Nat} (h : Own W B a c (Nm.wl x)) (hm : rb < m) (hB : m ≤ B) : WO W rb m x a c := ⟨h.base hB, hm⟩
/-- The box of a wide, which lies behind the reader's. -/
structure WX (W : World) (rb m b : Nat) (x : Int) (a : Option Addr) (c : Nat) : Prop where
  r : R2 W b (.bool (Nm.wn x)) (.slice a (Nm.wl x).length c)
  o : WO W rb m x a c
  lt : rb < b
theorem WX.rd {W W' : World} {rb m b : Nat} {x : Int} {a : Option Addr} {c : Nat} (h : WX W rb m b x a c) (hg : W.grownBy W' (some rb)) : WX W' rb m b x a c := ⟨h.r.rd hg (by have := h.lt; omega), h.o.rd hg, h.lt⟩
theorem WX.below {W W' : World} {rb m b : Nat} {x : Int} {a : Option Addr} {c : Nat} (h : WX W rb m b x a c) (hb : Below W.heap.size W W') : WX W' rb m b x a c := ⟨h.r.below hb, h.o.below hb, h.lt⟩
theorem WX.alloc {W : World} {rb m b : Nat} {x : Int} {a : Option Addr} {c : Nat} (h : WX W rb m b x a c) (o : Obj) : WX (W.alloc o) rb m b x a c := ⟨h.r.alloc o, h.o.alloc o, h.lt⟩
theorem WX.drew {W : World} {rb m b : Nat} {x : Int} {a : Option Addr} {c : Nat} (h : WX W rb m b x a c) : WX W.drew rb m b x a c := ⟨h.r.drew, h.o.drew, h.lt⟩
theorem WX.sl {W : World} {rb m b : Nat} {x : Int} {a : Option Addr} {c : Nat} (h : WX W rb m b x a c) : Sl .u32 W (.slice a (Nm.wl x).length c) (Nm.wl x) := h.o.sl
theorem WX.new {W : World} {rb m : Nat} {x : Int} {a : Option Addr} {c : Nat} (h : WO W rb m x a c) (hlt : rb < W.heap.size) (t : TypeId) : WX (W.alloc (.cells #[.bool (Nm.wn x), .slice a (Nm.wl x).length c] t)) rb m W.heap.size x a c := ⟨R2.new _ _ _ _, h.alloc _, hlt⟩
/-- A wide goes into a box that is there. -/
theorem WX.put {W : World} {rb m b : Nat} {u0 u1 : Value} {x : Int} {a : Option Addr} {c : Nat} (r : R2 W b u0 u1) (h : WO W rb m x a c) (hlt : rb < b) (hn : ∀ g, a = some ⟨g, 0, none⟩ → g ≠ b) : WX ((W.setCell ⟨b, 0, none⟩ (.bool (Nm.wn x))).setCell ⟨b, 1, none⟩ (.slice a (Nm.wl x).length c)) rb m b x a c :=
  ⟨R2.set r _ _, ⟨(h.o.setOther hn _).setOther hn _, h.hm⟩, hlt⟩
/-- The box of an answer, not yet set. -/
structure WZ (W : World) (rb b : Nat) : Prop where
  r : R2 W b (.bool false) (.slice none 0 0)
  lt : rb < b
theorem WZ.rd {W W' : World} {rb b : Nat} (h : WZ W rb b) (hg : W.grownBy W' (some rb)) : WZ W' rb b := ⟨h.r.rd hg (by have := h.lt; omega), h.lt⟩
theorem WZ.below {W W' : World} {rb b : Nat} (h : WZ W rb b) (hb : Below W.heap.size W W') : WZ W' rb b := ⟨h.r.below hb, h.lt⟩
theorem WZ.alloc {W : World} {rb b : Nat} (h : WZ W rb b) (o : Obj) : WZ (W.alloc o) rb b := ⟨h.r.alloc o, h.lt⟩
theorem WZ.drew {W : World} {rb b : Nat} (h : WZ W rb b) : WZ W.drew rb b := ⟨h.r.drew, h.lt⟩
/-- Six numbers in a row, each from 0 to 7. -/
def Row7 (w : World) (B : Nat) : Prop := ∀ j, j < 6 → ∃ d : Int, w.cell? ⟨B, j, none⟩ = some (.int .i64 d) ∧ 0 ≤ d ∧ d < 8
theorem Row7.rd {w w' : World} {B rb : Nat} (h : Row7 w B) (hg : w.grownBy w' (some rb)) (hlt : rb < B) (hB : B < w.heap.size) : Row7 w' B := fun j hj => by
  obtain ⟨d, h1, h2⟩ := h j hj
  have e := hg.block B hB (by simp; omega)
  exact ⟨d, (World.cell?_of_block (a := ⟨B, j, none⟩) e).trans h1, h2⟩
theorem Row7.below {w w' : World} {B : Nat} (h : Row7 w B) (hb : Below w.heap.size w w') (hB : B < w.heap.size) : Row7 w' B := fun j hj => by
  obtain ⟨d, h1, h2⟩ := h j hj
  exact ⟨d, (hb.cell (p := ⟨B, j, none⟩) hB).trans h1, h2⟩
theorem Row7.new (w : World) (t : TypeId) : Row7 (w.alloc (.cells #[.int .i64 0, .int .i64 1, .int .i64 3, .int .i64 4, .int .i64 5, .int .i64 7] t)) w.heap.size := fun k hk => by
  have q := World.cell?_alloc_new w #[.int .i64 0, .int .i64 1, .int .i64 3, .int .i64 4, .int .i64 5, .int .i64 7] t k
  rw [q]
  rcases (show k = 0 ∨ k = 1 ∨ k = 2 ∨ k = 3 ∨ k = 4 ∨ k = 5 by omega) with rfl | rfl | rfl | rfl | rfl | rfl
  · exact ⟨0, rfl, by decide⟩
  · exact ⟨1, rfl, by decide⟩
  · exact ⟨3, rfl, by decide⟩
  · exact ⟨4, rfl, by decide⟩
  · exact ⟨5, rfl, by decide⟩
  · exact ⟨7, rfl, by decide⟩
/-- The box of an answer that lies elsewhere. -/
structure WB0 (W : World) (rb b : Nat) : Prop where
  r : R2 W b (.bool false) (.slice none 0 0)
  ne : b ≠ rb
theorem WB0.rd {W W' : World} {rb b : Nat} (h : WB0 W rb b) (hg : W.grownBy W' (some rb)) : WB0 W' rb b := ⟨h.r.rd hg h.ne, h.ne⟩
theorem WB0.below {W W' : World} {rb b : Nat} (h : WB0 W rb b) (hb : Below W.heap.size W W') : WB0 W' rb b := ⟨h.r.below hb, h.ne⟩
theorem WB0.alloc {W : World} {rb b : Nat} (h : WB0 W rb b) (o : Obj) : WB0 (W.alloc o) rb b := ⟨h.r.alloc o, h.ne⟩
theorem WB0.drew {W : World} {rb b : Nat} (h : WB0 W rb b) : WB0 W.drew rb b := ⟨h.r.drew, h.ne⟩
end Fd
end Go.Proofs.YtbhfbaogmkgmiaaGreatDoor
