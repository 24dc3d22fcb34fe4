/-
  What is needed of AE, TP, LaidE, LaidF, FA, WI.
-/
import Derived.LaidHandle
import Derived.Look8
import Derived.Test.YtmcflggionkhlaaGreatDoorC40
import Derived.Test.YtmcflggionkhlaaGreatDoorC41
set_option maxHeartbeats 16000000
set_option maxRecDepth 1000000
namespace Go.Proofs.YtmcflggionkhlaaGreatDoor
set_option linter.unusedVariables false
set_option linter.unusedSimpArgs false
open Go.RowKit Go.Deep
theorem Q9.set1 {w : World} {b : Nat} {v0 v1 v2 v3 v4 v5 v6 v7 v8 : Value} (h : Q9 w b v0 v1 v2 v3 v4 v5 v6 v7 v8) (u : Value) : Q9 (w.setCell ⟨b, 1, none⟩ u) b v0 u v2 v3 v4 v5 v6 v7 v8 := by
  obtain ⟨c0, c1, c2, c3, c4, c5, c6, c7, c8, f0, f1, f2, f3, f4, f5, f6, f7, f8⟩ := h
  exact ⟨by simp [go_sem, c0, c1], by simp [go_sem, c1, c1], by simp [go_sem, c2, c1], by simp [go_sem, c3, c1], by simp [go_sem, c4, c1], by simp [go_sem, c5, c1], by simp [go_sem, c6, c1], by simp [go_sem, c7, c1], by simp [go_sem, c8, c1], by simp [go_sem, f0], by simp [go_sem, f1], by simp [go_sem, f2], by simp [go_sem, f3], by simp [go_sem, f4], by simp [go_sem, f5], by simp [go_sem, f6], by simp [go_sem, f7], by simp [go_sem, f8]⟩
theorem sQb (fm : Int) (w : World) (h : fmtB fm = true) : Calls Tryz.prog 98 #[.int .i64 fm] w fun e w' => e = .returned (.int .i64 (unQ fm)) ∧ Below w.heap.size w w' :=
  (sQ_any fm w h).mono fun e w' ⟨a, b⟩ => ⟨a, b ▸ Below.refl _ _⟩
theorem bl_pos {z : Int} (h : z ≠ 0) : 1 ≤ bitLen z.natAbs := by
  have : ¬ bitLen z.natAbs ≤ 0 := by
    rw [Nm.bl_le_iff]; simp; omega
  omega
end Go.Proofs.YtmcflggionkhlaaGreatDoor
namespace Go.Proofs.YtmcflggionkhlaaGreatDoor
set_option linter.unusedVariables false
set_option linter.unusedSimpArgs false
namespace Ld
open Go.RowKit Go.Deep Go.ChangeShapes Go.WideShapes Go.ChangeAt Go.Joins
theorem gEt : Tryz.prog.globalNamed "errors.errorType" = some 2 := by kernel_rfl
theorem gEq : Tryz.prog.globalNamed "loop.example/g00672/impl.errQuiet" = some 1 := by kernel_rfl
theorem gEqType : (Tryz.prog.globals[1]?).map (·.type) = some 101 := by kernel_rfl
theorem rtT : (Tryz.prog.cutTypes.find? (·.1 == "internal/reflectlite.rtype")).map (·.2) = some 232 := by kernel_rfl
theorem sizeT : Tryz.prog.types.size = 279 := by kernel_rfl
theorem oneRow : ((List.range 279).filter fun t => Tryz.prog.rowNamed t [101, 114, 114, 111, 114]) = [101] := by kernel_rfl
theorem handle {W : World} {l : List (String × DataW Unit)} (h : handlesMet Tryz.prog l W) (hm : ("errors.errorType", Rows.laid_errors_errorType) ∈ l) : EA.ErrT W := by
  obtain ⟨name, u, ty, e1, e2, e3, e4, e5⟩ := h _ hm
  have en : name = [101, 114, 114, 111, 114] := (Option.some.inj e1).symm
  subst en
  obtain rfl := Option.some.inj (rtT.symm.trans e2)
  have hm : ty ∈ (List.range 279).filter fun t => Tryz.prog.rowNamed t [101, 114, 114, 111, 114] := List.mem_filter.2 ⟨List.mem_range.2 (by rw [← sizeT]; exact e3), e4⟩
  rw [oneRow] at hm
  obtain rfl := List.mem_singleton.1 hm
  have hh : typeHandle Tryz.prog 101 = .pointer (some ⟨5, 101, none⟩) := by kernel_rfl
  rw [hh] at e5
  simpa using World.var?_cell gEt e5 0
/-- The text of the error for a quiet NaN. -/
def qS : ByteArray := ⟨#[111, 110, 101, 32, 105, 115, 32, 97, 32, 113, 117, 105, 101, 116, 32, 78, 97, 78]⟩
noncomputable def low : Nat := (World.holding Tryz.prog default ⟨#[], #[], []⟩).heap.size
theorem tok_any {H : Type} {enc : TypeId × Value → H} {sp : Nat → Bool} {x : Value} (hx : IsIface x) (w : World) : DataW.trod enc Tryz.prog w 0 sp true 1 101 (#[x] : Array Value).toList = some (tok enc x, []) := by
  cases x <;> simp only [IsIface] at hx <;> (unfold DataW.trod; rw [Tryz.underlying101]; rfl)
theorem star : "*" ++ "errors.errorString" = "*errors.errorString" := by decide
theorem rowE (u : TypeId) (h : Tryz.prog.typeName? 3 u = some "*errors.errorString") : u = 247 :=
  typeName_ptr_named (nm := "errors.errorString") (by rw [star]; kernel_rfl) (by kernel_rfl) (by decide) u (by rw [star]; exact h)
theorem quiet {W : World} (h : laidMet Tryz.prog [("loop.example/g00672/impl.errQuiet", Rows.laid_loop_example_g00672_impl_errQuiet)] W) : ∃ u, ErrQ W u := by
  obtain ⟨ps, ⟨g', t', cs, fuel, p, q, hg', ht', hvar, hd, _, _⟩, _⟩ := h
  obtain rfl := Option.some.inj (gEq.symm.trans hg')
  obtain rfl := Option.some.inj (gEqType.symm.trans ht')
  cases fuel with
  | zero => simp [DataW.trod] at hd
  | succ n =>
    have hcell := World.var?_cell gEq hvar 0
    unfold DataW.trod at hd
    rw [Tryz.underlying101] at hd
    obtain ⟨l⟩ := cs
    match l, hd with
    | [.nilIface], hd => simp [Rows.laid_loop_example_g00672_impl_errQuiet] at hd
    | [.iface u v], hd =>
      simp only at hd
      cases hn : Tryz.prog.typeName? 3 u with
      | none => rw [hn] at hd; simp at hd
      | some name =>
        rw [hn] at hd
        simp only [Option.map_eq_some_iff, Prod.mk.injEq, Rows.laid_loop_example_g00672_impl_errQuiet, DataW.iface.injEq] at hd
        obtain ⟨y, _, ⟨e1, _⟩, _⟩ := hd
        subst e1
        obtain rfl := rowE u hn
        exact ⟨v, by simpa using hcell⟩
theorem all {W : World} (h : laidMetH Tryz.prog [("errors.errorType", Rows.laid_errors_errorType), ("loop.example/g00672/impl.formSizes", Rows.laid_loop_example_g00672_impl_formSizes), ("loop.example/g00672/impl.errQuiet", Rows.laid_loop_example_g00672_impl_errQuiet)] W) : EX W := by
  have h' : laidMet Tryz.prog [("loop.example/g00672/impl.formSizes", Rows.laid_loop_example_g00672_impl_formSizes), ("loop.example/g00672/impl.errQuiet", Rows.laid_loop_example_g00672_impl_errQuiet)] W ∧ handlesMet Tryz.prog [("errors.errorType", Rows.laid_errors_errorType)] W := h
  have h1 := h'.1.filter (fun x => x.1 == "loop.example/g00672/impl.formSizes")
  have h2 := h'.1.filter (fun x => x.1 == "loop.example/g00672/impl.errQuiet")
  obtain ⟨u, hu⟩ := quiet h2
  exact ⟨u, ⟨table h1, handle h'.2 (List.mem_singleton.2 rfl), hu⟩⟩
theorem all3 {W : World} (h : laidMetH Tryz.prog [("math/bits.deBruijn32tab", Rows.laid_math_bits_deBruijn32tab), ("math/bits.deBruijn64tab", Rows.laid_math_bits_deBruijn64tab), ("errors.errorType", Rows.laid_errors_errorType), ("loop.example/g00672/impl.formSizes", Rows.laid_loop_example_g00672_impl_formSizes), ("loop.example/g00672/impl.errQuiet", Rows.laid_loop_example_g00672_impl_errQuiet)] W) : EX3 W := by
  have h' : laidMet Tryz.prog [("math/bits.deBruijn32tab", Rows.laid_math_bits_deBruijn32tab), ("math/bits.deBruijn64tab", Rows.laid_math_bits_deBruijn64tab), ("loop.example/g00672/impl.formSizes", Rows.laid_loop_example_g00672_impl_formSizes), ("loop.example/g00672/impl.errQuiet", Rows.laid_loop_example_g00672_impl_errQuiet)] W ∧ handlesMet Tryz.prog [("errors.errorType", Rows.laid_errors_errorType)] W := h
  have h1 := h'.1.filter (fun x => x.1 == "loop.example/g00672/impl.formSizes")
  have h2 := h'.1.filter (fun x => x.1 == "loop.example/g00672/impl.errQuiet")
  have h3 := h'.1.filter (fun x => x.1 == "math/bits.deBruijn64tab")
  have h4 := h'.1.filter (fun x => x.1 == "math/bits.deBruijn32tab")
  obtain ⟨u, hu⟩ := quiet h2
  exact ⟨u, ⟨⟨⟨table h1, tb64 h3⟩, tb32 h4⟩, handle h'.2 (List.mem_singleton.2 rfl), hu⟩⟩
end Ld
open Go.RowKit Go.Deep
theorem none4 (fm mode : Int) (s1 s2 : Bool) (w : World) (h : fmtB fm = true) :
    Calls Tryz.prog 102 #[.int .i64 fm, .int .i64 mode, .bool s1, .bool s2] w fun e w' => e = .returned (.int .u64 (sgn (sgOf fm) 0 (s1 && s2 || ((s1 != s2) && decide (mode = 3))))) ∧ Below w.heap.size w w' := by
  have C := hid (fun ng w' => with_s fm 0 ng w' h (by decide) (.inl (by decide)))
  obtain ⟨m3, hm3⟩ : ∃ m, m = decide (mode = 3) := ⟨_, rfl⟩
  have hmd : (mode == 3) = m3 := by rw [hm3, Bool.eq_iff_iff, beq_iff_eq, decide_eq_true_eq]
  rw [← hm3]
  obtain ⟨S, hS⟩ : ∃ S, S = sgOf fm := ⟨_, rfl⟩
  rw [← hS] at C ⊢
  clear hm3 hS
  cases s1 <;> cases s2
  all_goals
    go_enter Tryz.func102, Tryz.ntmps102
    go_wp2_with fail
    refine (C.out _ _).mono ?_
    rintro r w1 ⟨rfl, hb1⟩
    go_wp2
    go_ret
    exact ⟨by simp, (by repeat (first | exact bz0 _ _ | refine bz1 ?_ | refine bz2 ?_ _ | refine bz3 ?_ _ | refine bz4 ?_ hb1 | refine bz5 ?_ _ | refine bz6 ?_ _ | refine bz7 ?_ hb1))⟩
/-- A sum, of what are no NaNs. -/
def aB (fm mode x y : Int) : Int := if nI fm x && nI fm y && (x != y) then nanOf fm else if nI fm x then x else if nI fm y then y else if (unI fm x + unI fm y) = 0 then sgn (sgOf fm) 0 (sigB fm x && sigB fm y || ((sigB fm x != sigB fm y) && decide (mode = 3))) else RdB fm mode (Nm.wn (unI fm x + unI fm y)) (Nm.wl (unI fm x + unI fm y)) (unQ fm)
def aF (fm mode x y : Int) : Int := if nI fm x && nI fm y && (x != y) then 8 else if nI fm x || nI fm y then 0 else if (unI fm x + unI fm y) = 0 then 0 else RdF fm mode (Nm.wn (unI fm x + unI fm y)) (Nm.wl (unI fm x + unI fm y)) (unQ fm)
theorem unq_bd (fm : Int) : -1074 ≤ unQ fm ∧ unQ fm ≤ -149 := by unfold unQ; split <;> omega
theorem un_nZ {fm x : Int} (hx : okF fm x = true) (hf : finB fm x = true) : unI fm x = nZ fm x * 2 ^ (nE fm x - unQ fm).toNat := by
  obtain ⟨f1, f2, f3, f4, f5, f6⟩ := fin_facts hx hf
  have hq := pE_q hf
  have hM := pM_bd fm x
  rw [f3, f4]
  unfold unI
  rw [hf, if_pos rfl]
  have e : ((Nm.sh (pM fm x).toNat (pE fm x - unQ fm) : Nat) : Int) = pM fm x * 2 ^ (pE fm x - unQ fm).toNat := by
    unfold Nm.sh; rw [if_neg (by omega), Int.natCast_mul, Int.natCast_pow, Int.toNat_of_nonneg hM.1]; rfl
  rw [e]
  cases pS fm x
  · rfl
  · simp only [if_true, Int.neg_mul]
theorem un_blA (fm x : Int) : bitLen (unI fm x).natAbs ≤ 2200 := by
  cases hf : finB fm x
  · rw [un_no hf]; decide
  · have h : (unI fm x).natAbs = Nm.sh (pM fm x).toNat (pE fm x - unQ fm) := by unfold unI; rw [hf, if_pos rfl]; cases pS fm x <;> simp
    rw [h]; exact un_bits hf
theorem uu_len (fm x y : Int) : (Nm.wl (unI fm x + unI fm y)).length ≤ 200 := by
  obtain ⟨K, hK⟩ : ∃ K : Nat, K = 2200 := ⟨_, rfl⟩
  have h1 := (Nm.bl_le_iff (unI fm x).natAbs K).1 (by rw [hK]; exact un_blA fm x)
  have h2 := (Nm.bl_le_iff (unI fm y).natAbs K).1 (by rw [hK]; exact un_blA fm y)
  refine wl_of (k := K + 1) ?_ (by omega)
  have h3 : (unI fm x + unI fm y).natAbs ≤ (unI fm x).natAbs + (unI fm y).natAbs := Int.natAbs_add_le _ _
  have h4 : ∀ P : Nat, (unI fm x).natAbs < P → (unI fm y).natAbs < P → (unI fm x + unI fm y).natAbs < P * 2 := fun P a b => by omega
  rw [Nat.pow_succ]
  exact h4 _ h1 h2
theorem un_lenA (fm x : Int) : (Nm.wl (unI fm x)).length ≤ 200 := by unfold Nm.wl; exact lim_len (k := 200) (by have := un_blA fm x; omega)
theorem l4add (fm mode x y : Int) (w : World) (hx : okF fm x = true) (hy : okF fm y = true) (x0 : 0 ≤ x) (x1 : x < 18446744073709551616) (y0 : 0 ≤ y) (y1 : y < 18446744073709551616) (hm : modeB mode = true) (nx : nanB fm x = false) (ny : nanB fm y = false) (B F : Int) (hB : B = aB fm mode x y) (hF : F = aF fm mode x y) :
    Calls Tryz.prog 94 #[.int .i64 fm, .int .i64 mode, .int .u64 x, .int .u64 y] w fun r w' => r = .returned (.tuple #[.int .u64 B, .int .i64 F]) ∧ Below w.heap.size w w' := by
  have hfm := ok_fmt hx
  have CI1 := hid (fun w' => inf4 fm x w' hx x0 x1 _ rfl)
  have CI2 := hid (fun w' => inf4 fm y w' hy y0 y1 _ rfl)
  have CN := hid (fun w' => nan_s fm w' hfm)
  unfold aB at hB
  unfold aF at hF
  cases hi : nI fm x with
  | true =>
    rw [hi] at CI1 hB hF
    cases hj : nI fm y with
    | true =>
      rw [hj] at CI2 hB hF
      cases hxy : (x != y) with
      | true =>
        rw [hxy] at hB hF
        have hB' : B = nanOf fm := hB
        have hF' : F = 8 := hF
        rw [← hB'] at CN
        subst hF'
        clear hB hF hB' hi hj nx ny hm hfm hx hy
        go_enter Tryz.func94, Tryz.ntmps94
        go_wp2_with fail
        refine (CI1.out _).mono ?_
        rintro r w1 ⟨rfl, hb1⟩
        go_wp2_with fail
        refine (CI2.out _).mono ?_
        rintro r w2 ⟨rfl, hb2⟩
        go_wp2_with fail
        refine (CN.out _).mono ?_
        rintro r w3 ⟨rfl, hb3⟩
        go_wp2
        go_ret2
        exact ⟨rfl, (by repeat (first | exact bz0 _ _ | refine bz1 ?_ | refine bz2 ?_ _ | refine bz3 ?_ _ | refine bz4 ?_ hb3 | refine bz4 ?_ hb2 | refine bz4 ?_ hb1 | refine bz5 ?_ _ | refine bz6 ?_ _ | refine bz7 ?_ hb3 | refine bz7 ?_ hb2 | refine bz7 ?_ hb1))⟩
      | false =>
        rw [hxy] at hB hF
        have hB' : B = x := hB
        have hF' : F = 0 := hF
        subst hB' hF'
        clear hB hF hi hj nx ny hm hfm hx hy
        go_enter Tryz.func94, Tryz.ntmps94
        go_wp2_with fail
        refine (CI1.out _).mono ?_
        rintro r w1 ⟨rfl, hb1⟩
        go_wp2_with fail
        refine (CI2.out _).mono ?_
        rintro r w2 ⟨rfl, hb2⟩
        go_wp2_with fail
        refine (CI1.out _).mono ?_
        rintro r w3 ⟨rfl, hb3⟩
        go_wp2
        go_ret2
        exact ⟨rfl, (by repeat (first | exact bz0 _ _ | refine bz1 ?_ | refine bz2 ?_ _ | refine bz3 ?_ _ | refine bz4 ?_ hb3 | refine bz4 ?_ hb2 | refine bz4 ?_ hb1 | refine bz5 ?_ _ | refine bz6 ?_ _ | refine bz7 ?_ hb3 | refine bz7 ?_ hb2 | refine bz7 ?_ hb1))⟩
    | false =>
      rw [hj] at CI2 hB hF
      have hB' : B = x := hB
      have hF' : F = 0 := hF
      subst hB' hF'
      clear hB hF hi hj nx ny hm hfm hx hy
      go_enter Tryz.func94, Tryz.ntmps94
      go_wp2_with fail
      refine (CI1.out _).mono ?_
      rintro r w1 ⟨rfl, hb1⟩
      go_wp2_with fail
      refine (CI2.out _).mono ?_
      rintro r w2 ⟨rfl, hb2⟩
      go_wp2_with fail
      refine (CI1.out _).mono ?_
      rintro r w3 ⟨rfl, hb3⟩
      go_wp2
      go_ret2
      exact ⟨rfl, (by repeat (first | exact bz0 _ _ | refine bz1 ?_ | refine bz2 ?_ _ | refine bz3 ?_ _ | refine bz4 ?_ hb3 | refine bz4 ?_ hb2 | refine bz4 ?_ hb1 | refine bz5 ?_ _ | refine bz6 ?_ _ | refine bz7 ?_ hb3 | refine bz7 ?_ hb2 | refine bz7 ?_ hb1))⟩
  | false =>
  rw [hi] at CI1 hB hF
  cases hj : nI fm y with
  | true =>
    rw [hj] at CI2 hB hF
    have hB' : B = y := hB
    have hF' : F = 0 := hF
    subst hB' hF'
    clear hB hF hi hj nx ny hm hfm hx hy
    go_enter Tryz.func94, Tryz.ntmps94
    go_wp2_with fail
    refine (CI1.out _).mono ?_
    rintro r w1 ⟨rfl, hb1⟩
    go_wp2_with fail
    refine (CI1.out _).mono ?_
    rintro r w2 ⟨rfl, hb2⟩
    go_wp2_with fail
    refine (CI2.out _).mono ?_
    rintro r w3 ⟨rfl, hb3⟩
    go_wp2
    go_ret2
    exact ⟨rfl, (by repeat (first | exact bz0 _ _ | refine bz1 ?_ | refine bz2 ?_ _ | refine bz3 ?_ _ | refine bz4 ?_ hb3 | refine bz4 ?_ hb2 | refine bz4 ?_ hb1 | refine bz5 ?_ _ | refine bz6 ?_ _ | refine bz7 ?_ hb3 | refine bz7 ?_ hb2 | refine bz7 ?_ hb1))⟩
  | false =>
    rw [hj] at CI2 hB hF
    have hfx := (nan_cases hx nx).resolve_right (by rw [hi]; decide)
    have hfy := (nan_cases hy ny).resolve_right (by rw [hj]; decide)
    have CU1 := hid (fun w' => l2units_any fm x w' hfx x0 x1)
    have CU2 := hid (fun w' => l2units_any fm y w' hfy y0 y1)
    have CA := hid (fun a c b d w' h h' => l1add_any (Nm.wn (unI fm x)) (Nm.wn (unI fm y)) a b c d (Nm.wl (unI fm x)) (Nm.wl (unI fm y)) w' h h' (Nm.wl_dg _) (Nm.wl_dg _) (Nm.wl_nz _) (Nm.wl_nz _) (by have := un_lenA fm x; omega) (by have := un_lenA fm y; omega) (unI fm x + unI fm y) (by rw [Nm.wv_out, Nm.wv_out]))
    have hul := uu_len fm x y
    by_cases hz : (unI fm x + unI fm y) = 0
    · have CS1 := hid (fun w' => spec_l2neg fm x w' hx x0 x1)
      have CS2 := hid (fun w' => spec_l2neg fm y w' hy y0 y1)
      have CZ := hid (fun w' => none4 fm mode (sigB fm x) (sigB fm y) w' hfm)
      have hB' : B = sgn (sgOf fm) 0 (sigB fm x && sigB fm y || ((sigB fm x != sigB fm y) && decide (mode = 3))) := by rw [hB]; simp [hz]
      have hF' : F = 0 := by rw [hF]; simp [hz]
      rw [← hB'] at CZ
      subst hF'
      have hw0 : Nm.wl 0 = [] := Nm.lim_zero
      have hn0 : Nm.wn 0 = false := by decide
      rw [hz, hw0, hn0] at CA
      obtain ⟨s1, hs1⟩ : ∃ s, s = sigB fm x := ⟨_, rfl⟩
      obtain ⟨s2, hs2⟩ : ∃ s, s = sigB fm y := ⟨_, rfl⟩
      obtain ⟨G1, hG1⟩ : ∃ s, s = Nm.wn (unI fm x) := ⟨_, rfl⟩
      obtain ⟨G2, hG2⟩ : ∃ s, s = Nm.wn (unI fm y) := ⟨_, rfl⟩
      obtain ⟨L1, hL1⟩ : ∃ s, s = Nm.wl (unI fm x) := ⟨_, rfl⟩
      obtain ⟨L2, hL2⟩ : ∃ s, s = Nm.wl (unI fm y) := ⟨_, rfl⟩
      rw [← hs1] at CS1 CZ
      rw [← hs2] at CS2 CZ
      simp only [← hG1, ← hL1] at CU1
      simp only [← hG2, ← hL2] at CU2
      simp only [← hG1, ← hL1, ← hG2, ← hL2] at CA
      clear hB hF hB' hi hj nx ny hm hfm hx hy hfx hfy hz hul hs1 hs2 hG1 hG2 hL1 hL2 hw0 hn0
      go_enter Tryz.func94, Tryz.ntmps94
      go_wp2_with fail
      refine (CI1.out _).mono ?_
      rintro r w1 ⟨rfl, hb1⟩
      go_wp2_with fail
      refine (CI1.out _).mono ?_
      rintro r w2 ⟨rfl, hb2⟩
      go_wp2_with fail
      refine (CI2.out _).mono ?_
      rintro r w3 ⟨rfl, hb3⟩
      go_wp2_with fail
      refine (CU1.out _).mono ?_
      rintro r w4 ⟨a4, c4, rfl, o4, hb4⟩
      go_wp2_with fail
      refine (CU2.out _).mono ?_
      rintro r w5 ⟨a5, c5, rfl, o5, hb5⟩
      go_wp2_with fail
      refine (CA.out a4 c4 a5 c5 _ (o4.below hb5).sl o5.sl).mono ?_
      rintro r w6 ⟨a6, c6, rfl, o6, hb6⟩
      obtain ⟨d0, d1⟩ := Box.new w6 (.bool false) (.slice a6 0 c6) 31
      go_wp2_with fail
      refine (CS1.out _).mono ?_
      rintro r w7 ⟨rfl, hb7⟩
      go_wp2_with fail
      refine (CS2.out _).mono ?_
      rintro r w8 ⟨rfl, hb8⟩
      go_wp2_with fail
      refine (CZ.out _).mono ?_
      rintro r w9 ⟨rfl, hb9⟩
      go_wp2
      go_ret2
      exact ⟨rfl, (by repeat (first | exact bz0 _ _ | refine bz1 ?_ | refine bz2 ?_ _ | refine bz3 ?_ _ | refine bz4 ?_ hb9 | refine bz4 ?_ hb8 | refine bz4 ?_ hb7 | refine bz4 ?_ hb6 | refine bz4 ?_ hb5 | refine bz4 ?_ hb4 | refine bz4 ?_ hb3 | refine bz4 ?_ hb2 | refine bz4 ?_ hb1 | refine bz5 ?_ _ | refine bz6 ?_ _ | refine bz7 ?_ hb9 | refine bz7 ?_ hb8 | refine bz7 ?_ hb7 | refine bz7 ?_ hb6 | refine bz7 ?_ hb5 | refine bz7 ?_ hb4 | refine bz7 ?_ hb3 | refine bz7 ?_ hb2 | refine bz7 ?_ hb1))⟩
    · have hB' : B = RdB fm mode (Nm.wn (unI fm x + unI fm y)) (Nm.wl (unI fm x + unI fm y)) (unQ fm) := by rw [hB]; simp [hz]
      have hF' : F = RdF fm mode (Nm.wn (unI fm x + unI fm y)) (Nm.wl (unI fm x + unI fm y)) (unQ fm) := by rw [hF]; simp [hz]
      have hq := unq_bd fm
      have CR := hid (fun p c w' h => l3r_any fm mode (unI fm x + unI fm y) (unQ fm) p c w' h hz (rdo_any hfm hm hul (by omega) (by omega)))
      simp only [← hB', ← hF'] at CR
      have CQ := hid (fun w' => sQb fm w' hfm)
      have hln : (Nm.wl (unI fm x + unI fm y)).length ≠ 0 := by unfold Nm.wl; rw [Ne, Nm.lim_length_zero]; omega
      obtain ⟨G1, hG1⟩ : ∃ s, s = Nm.wn (unI fm x) := ⟨_, rfl⟩
      obtain ⟨G2, hG2⟩ : ∃ s, s = Nm.wn (unI fm y) := ⟨_, rfl⟩
      obtain ⟨L1, hL1⟩ : ∃ s, s = Nm.wl (unI fm x) := ⟨_, rfl⟩
      obtain ⟨L2, hL2⟩ : ∃ s, s = Nm.wl (unI fm y) := ⟨_, rfl⟩
      obtain ⟨G, hG⟩ : ∃ s, s = Nm.wn (unI fm x + unI fm y) := ⟨_, rfl⟩
      obtain ⟨L, hL⟩ : ∃ s, s = Nm.wl (unI fm x + unI fm y) := ⟨_, rfl⟩
      obtain ⟨q, hq'⟩ : ∃ s, s = unQ fm := ⟨_, rfl⟩
      simp only [← hG1, ← hL1] at CU1
      simp only [← hG2, ← hL2] at CU2
      simp only [← hG, ← hL] at CA
      simp only [← hG1, ← hL1, ← hG2, ← hL2] at CA
      simp only [← hG, ← hL, ← hq'] at CR
      rw [← hq'] at CQ
      rw [← hL] at hln hul
      have hb0 : ((L.length : Int) == 0) = false := by rw [beq_eq_false_iff_ne]; omega
      clear hB hF hB' hF' hi hj nx ny hm hfm hx hy hfx hfy hz hG1 hG2 hL1 hL2 hG hL hq' hq hln
      go_enter Tryz.func94, Tryz.ntmps94
      go_wp2_with fail
      refine (CI1.out _).mono ?_
      rintro r w1 ⟨rfl, hb1⟩
      go_wp2_with fail
      refine (CI1.out _).mono ?_
      rintro r w2 ⟨rfl, hb2⟩
      go_wp2_with fail
      refine (CI2.out _).mono ?_
      rintro r w3 ⟨rfl, hb3⟩
      go_wp2_with fail
      refine (CU1.out _).mono ?_
      rintro r w4 ⟨a4, c4, rfl, o4, hb4⟩
      go_wp2_with fail
      refine (CU2.out _).mono ?_
      rintro r w5 ⟨a5, c5, rfl, o5, hb5⟩
      go_wp2_with fail
      refine (CA.out a4 c4 a5 c5 _ (o4.below hb5).sl o5.sl).mono ?_
      rintro r w6 ⟨a6, c6, rfl, o6, hb6⟩
      have D := Box.new w6 (.bool G) (.slice a6 L.length c6) 31
      have D' := D
      obtain ⟨d0, d1⟩ := D'
      have o7 := o6.alloc (.cells #[.bool G, .slice a6 L.length c6] 31)
      have bel6 : Below w.heap.size w w6 := (by repeat (first | exact bz0 _ _ | refine bz1 ?_ | refine bz2 ?_ _ | refine bz3 ?_ _ | refine bz4 ?_ hb6 | refine bz4 ?_ hb5 | refine bz4 ?_ hb4 | refine bz4 ?_ hb3 | refine bz4 ?_ hb2 | refine bz4 ?_ hb1 | refine bz5 ?_ _ | refine bz6 ?_ _ | refine bz7 ?_ hb6 | refine bz7 ?_ hb5 | refine bz7 ?_ hb4 | refine bz7 ?_ hb3 | refine bz7 ?_ hb2 | refine bz7 ?_ hb1))
      have Dd : Box (w6.alloc (.cells #[.bool G, .slice a6 L.length c6] 31)).drew w6.heap.size (.bool G) (.slice a6 L.length c6) := D
      have dd : (w6.alloc (.cells #[.bool G, .slice a6 L.length c6] 31)).drew.cell? ⟨w6.heap.size, 0, none⟩ = some (.bool G) ∧ (w6.alloc (.cells #[.bool G, .slice a6 L.length c6] 31)).drew.cell? ⟨w6.heap.size, 1, none⟩ = some (.slice a6 L.length c6) := Dd
      clear hb1 hb2 hb3 hb4 hb5 hb6 o4 o5 o6
      go_wp2_with fail
      go_region_held3 (fun w' => w'.cell? ⟨w6.heap.size, 0, none⟩ = some (.bool G) ∧ w'.cell? ⟨w6.heap.size, 1, none⟩ = some (.slice a6 L.length c6))
        (first | with_reducible assumption | with_reducible exact dd | fail)
        (first
          | (go_at_call 98; refine (CQ.out _).mono ?_; rintro r q1 ⟨rfl, hq1⟩; have D1 := Box.below Dd hq1; have u1 := And.intro D1.1 D1.2; have o8 := o7.drew.below hq1)
          | (go_at_call 103; refine (CR.out a6 c6 _ o8.sl).mono ?_; rintro r q2 ⟨rfl, hq2⟩; have D2 := D1.below hq2; have u2 := And.intro D2.1 D2.2))
      go_wp2
      go_ret2
      exact ⟨rfl, (by repeat (first | exact bz0 _ _ | refine bz1 ?_ | refine bz2 ?_ _ | refine bz3 ?_ _ | refine bz4 ?_ hq2 | refine bz4 ?_ hq1 | refine bz4 ?_ bel6 | refine bz5 ?_ _ | refine bz6 ?_ _ | refine bz7 ?_ hq2 | refine bz7 ?_ hq1 | refine bz7 ?_ bel6))⟩
theorem shz (z n : Int) (h : 0 ≤ n) : Nm.shV (Nm.wn z) (Nm.val (Nm.wl z)) n = z * 2 ^ n.toNat := by
  rw [Nm.val_wl, shV_sg]
  have e : ((Nm.sh z.natAbs n : Nat) : Int) = (z.natAbs : Int) * 2 ^ n.toNat := by unfold Nm.sh; rw [if_neg (by omega), Int.natCast_mul, Int.natCast_pow]; rfl
  rw [e]
  unfold Nm.wn
  by_cases hz : z < 0
  · rw [decide_eq_true hz, if_pos rfl, ← Int.neg_mul]; congr 1; omega
  · rw [decide_eq_false hz, if_neg (by decide)]; congr 1; omega
theorem sum_abs {z : Int} {d : Nat} {u : Int} (h : u = z * 2 ^ d) : z.natAbs ≤ u.natAbs := by
  rw [h, Int.natAbs_mul, Int.natAbs_pow]
  exact Nat.le_mul_of_pos_right _ (Nat.pow_pos (by decide))
theorem inf_eq {fm x y : Int} (hx : okF fm x = true) (hy : okF fm y = true) (x0 : 0 ≤ x) (x1 : x < 18446744073709551616) (y0 : 0 ≤ y) (y1 : y < 18446744073709551616) (ix : nI fm x = true) (iy : nI fm y = true) : (x != y) = (sigB fm x != sigB fm y) ∧ x = sgn (sgOf fm) (infOf fm) (sigB fm x) := by
  have ax : absF fm x = infOf fm := by
    have h3 := cls_inf hx x0
    have h4 : (cls fm x == 3) = true := ix
    rw [h4] at h3; simpa using h3
  have ay : absF fm y = infOf fm := by
    have h3 := cls_inf hy y0
    have h4 : (cls fm y == 3) = true := iy
    rw [h4] at h3; simpa using h3
  have ex := abs_sig hx x0 x1
  have ey := abs_sig hy y0 y1
  rw [ax] at ex
  rw [ay] at ey
  refine ⟨?_, ex⟩
  have hs : 0 < sgOf fm := by unfold sgOf; split <;> decide
  cases h1 : sigB fm x <;> cases h2 : sigB fm y <;> rw [h1] at ex <;> rw [h2] at ey <;> unfold sgn at ex ey <;> simp at ex ey ⊢ <;> omega
/-- A right wide shifted, where all fits. -/
theorem wsh_at2 (G : Bool) (p : Option Addr) (c : Nat) (L : List Int) (n : Int) (w : World) (hs : Sl .u32 w (.slice p L.length c) L) (d : Nm.Dg L) (ho : okB G L = true) (h0 : -10000 ≤ n) (h1 : n ≤ 10000) (V : Int) (hV : V = Nm.shV G (Nm.val L) n) (hf : (Nm.wl V).length ≤ 200) :
    Calls Tryz.prog 20 #[.agg #[.bool G, .slice p L.length c], .int .i64 n] w fun r w' => ∃ a' c', r = .returned (.tuple #[.agg #[.bool (Nm.wn V), .slice a' (Nm.wl V).length c'], .bool true]) ∧ Own w' w.heap.size a' c' (Nm.wl V) ∧ Below w.heap.size w w' := by
  have h := wsh_impl G p c L n w hs d (by have := (okB_nz ho).2; omega)
  have e1 : (okB G L && inZ n (-10000) 10000) = true := by rw [ho]; unfold inZ; rw [decide_eq_true h0, decide_eq_true h1]; rfl
  have e3 : Nm.fits V = true := by unfold Nm.fits; exact decide_eq_true hf
  have e4 := out_fits e3
  rw [e1, ← hV, (op_yes _).1, (op_yes _).2.1, (op_yes _).2.2, e3, e4.1, e4.2] at h
  exact h
theorem al_b (w : World) (o : Obj) : Below w.heap.size w (w.alloc o) := (Below.refl _ _).alloc (Nat.le_refl _) _
end Go.Proofs.YtmcflggionkhlaaGreatDoor
