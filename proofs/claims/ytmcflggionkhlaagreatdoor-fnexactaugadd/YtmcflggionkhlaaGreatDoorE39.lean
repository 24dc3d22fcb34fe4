/-
  What is needed of FF, MO, MQ, RX, LaidE.
-/
import Derived.LaidHandle
import Derived.Look8
import Derived.Test.YtmcflggionkhlaaGreatDoorE38
set_option maxHeartbeats 16000000
set_option maxRecDepth 1000000
namespace Go.Proofs.YtmcflggionkhlaaGreatDoor
set_option linter.unusedVariables false
set_option linter.unusedSimpArgs false
open Go.RowKit Go.Deep
namespace Fd
theorem Rd_any32 (mode : Int) (ng : Bool) (zs : List Int) (e : Int) (ho : RdO 32 mode ng zs e = true) (hz : ¬ zs.length = 0) :
    RdB 32 mode ng zs e = rdB 24 (-149) 2139095040 2147483648 mode ng (Nm.val zs).toNat e ∧ RdF 32 mode ng zs e = rdF 24 (-149) 2139095040 mode ng (Nm.val zs).toNat e := by
  unfold RdB RdF
  rw [ho, if_pos rfl, if_pos rfl, if_neg hz, if_neg hz, if_pos rfl, if_pos rfl]
  exact ⟨rfl, rfl⟩
theorem sgn_abs32 {v : Int} (h0 : 0 ≤ v) (h1 : v < 2147483648) (ng : Bool) : 0 ≤ sgn 2147483648 v ng ∧ sgn 2147483648 v ng < 4294967296 ∧ absF 32 (sgn 2147483648 v ng) = v := by
  have hb : 0 ≤ sgn 2147483648 v ng ∧ sgn 2147483648 v ng < 4294967296 := by unfold sgn; split <;> omega
  refine ⟨hb.1, hb.2, ?_⟩
  rw [ab32 hb.1 hb.2]
  unfold sgn
  cases ng
  · simp only [Bool.false_eq_true, if_false]; rw [if_pos h1]
  · simp only [if_true]; rw [if_neg (by omega)]; omega
theorem Rd_any64 (mode : Int) (ng : Bool) (zs : List Int) (e : Int) (ho : RdO 64 mode ng zs e = true) (hz : ¬ zs.length = 0) :
    RdB 64 mode ng zs e = rdB 53 (-1074) 9218868437227405312 9223372036854775808 mode ng (Nm.val zs).toNat e ∧ RdF 64 mode ng zs e = rdF 53 (-1074) 9218868437227405312 mode ng (Nm.val zs).toNat e := by
  unfold RdB RdF
  rw [ho, if_pos rfl, if_pos rfl, if_neg hz, if_neg hz, if_neg (show ¬ ((64 : Int) = 32) from by decide), if_neg (show ¬ ((64 : Int) = 32) from by decide)]
  exact ⟨rfl, rfl⟩
theorem sgn_abs64 {v : Int} (h0 : 0 ≤ v) (h1 : v < 9223372036854775808) (ng : Bool) : 0 ≤ sgn 9223372036854775808 v ng ∧ sgn 9223372036854775808 v ng < 18446744073709551616 ∧ absF 64 (sgn 9223372036854775808 v ng) = v := by
  have hb : 0 ≤ sgn 9223372036854775808 v ng ∧ sgn 9223372036854775808 v ng < 18446744073709551616 := by unfold sgn; split <;> omega
  refine ⟨hb.1, hb.2, ?_⟩
  rw [ab64 hb.1 hb.2]
  unfold sgn
  cases ng
  · simp only [Bool.false_eq_true, if_false]; rw [if_pos h1]
  · simp only [if_true]; rw [if_neg (by omega)]; omega
/-- The bits of what is rounded, without the sign. -/
def mgB (P : Nat) (q : Int) (I : Nat) (mode : Int) (ng : Bool) (a : Nat) (e : Int) : Int := if Nm.flo P I (rdU P q mode ng a e) then (Nm.flb P (rdU P q mode ng a e) : Nat) else if ovB mode ng then (I : Int) - 1 else I
theorem mgB_eq (P : Nat) (q : Int) (I : Nat) (S mode : Int) (ng : Bool) (a : Nat) (e : Int) : rdB P q I S mode ng a e = sgn S (mgB P q I mode ng a e) ng := by
  unfold rdB mgB
  split
  · rfl
  · split <;> rfl
theorem mgB_bd {P I : Nat} {q mode : Int} {ng : Bool} {a : Nat} {e : Int} (hI : 0 < I) : 0 ≤ mgB P q I mode ng a e ∧ mgB P q I mode ng a e ≤ I := by
  unfold mgB
  by_cases hf : Nm.flo P I (rdU P q mode ng a e) = true
  · rw [if_pos hf]
    have : Nm.flb P (rdU P q mode ng a e) < I := by
      unfold Nm.flo at hf
      simp only [Bool.and_eq_true, decide_eq_true_eq] at hf
      exact hf.2
    omega
  · rw [if_neg hf]; split <;> omega
theorem wl_zero' (x : Int) : (Nm.wl x).length = 0 ↔ x = 0 := by
  unfold Nm.wl
  rw [Nm.lim_length_zero]
  omega
theorem ord_R32 (mode : Int) (z : Int) (e : Int) (hO : RdO 32 mode (Nm.wn z) (Nm.wl z) e = true) :
    0 ≤ RdB 32 mode (Nm.wn z) (Nm.wl z) e ∧ RdB 32 mode (Nm.wn z) (Nm.wl z) e < 4294967296 ∧ numB 32 (RdB 32 mode (Nm.wn z) (Nm.wl z) e) = true ∧
    ordI 32 (RdB 32 mode (Nm.wn z) (Nm.wl z) e) = if z < 0 then -1 - mgB 24 (-149) 2139095040 mode true z.natAbs e else if z = 0 then 0 else mgB 24 (-149) 2139095040 mode false z.natAbs e := by
  by_cases hz : z = 0
  · have h := (Rd_zero (fm := 32) (mode := mode) (ng := Nm.wn z) (e := e) ((wl_zero' z).2 hz)).1
    rw [h, if_neg (by omega), if_pos hz]
    exact ⟨by decide, by decide, by decide +kernel, by decide +kernel⟩
  · obtain ⟨b1, -⟩ := Rd_any32 mode (Nm.wn z) (Nm.wl z) e hO (fun h => hz ((wl_zero' z).1 h))
    rw [b1, Nm.val_wl, Int.toNat_natCast, mgB_eq]
    obtain ⟨m0, m1⟩ := mgB_bd (P := 24) (I := 2139095040) (q := (-149)) (mode := mode) (ng := Nm.wn z) (a := z.natAbs) (e := e) (by decide)
    have hb := sgn_abs32 m0 (by omega) (Nm.wn z)
    refine ⟨hb.1, hb.2.1, ?_, ?_⟩
    · unfold numB
      rw [cls32 hb.2.1]
      have e1 : sgn 2147483648 (mgB 24 (-149) 2139095040 mode (Nm.wn z) z.natAbs e) (Nm.wn z) % 2147483648 = mgB 24 (-149) 2139095040 mode (Nm.wn z) z.natAbs e := by
        unfold sgn; split <;> omega
      rw [e1]
      unfold clsY
      simp only [decide_eq_true_eq]
      repeat' split
      all_goals omega
    · rw [od32 hb.1 hb.2.1]
      unfold Nm.wn sgn
      by_cases hn : z < 0
      · have ht : decide (z < 0) = true := decide_eq_true hn
        unfold Nm.wn at m0 m1
        rw [ht] at m0 m1 ⊢
        simp only [if_true]
        rw [if_neg (by omega), if_pos hn]
        omega
      · have ht : decide (z < 0) = false := decide_eq_false hn
        unfold Nm.wn at m0 m1
        rw [ht] at m0 m1 ⊢
        simp only [Bool.false_eq_true, if_false]
        rw [if_pos (by omega), if_neg hn, if_neg hz]
theorem ord_R64 (mode : Int) (z : Int) (e : Int) (hO : RdO 64 mode (Nm.wn z) (Nm.wl z) e = true) :
    0 ≤ RdB 64 mode (Nm.wn z) (Nm.wl z) e ∧ RdB 64 mode (Nm.wn z) (Nm.wl z) e < 18446744073709551616 ∧ numB 64 (RdB 64 mode (Nm.wn z) (Nm.wl z) e) = true ∧
    ordI 64 (RdB 64 mode (Nm.wn z) (Nm.wl z) e) = if z < 0 then -1 - mgB 53 (-1074) 9218868437227405312 mode true z.natAbs e else if z = 0 then 0 else mgB 53 (-1074) 9218868437227405312 mode false z.natAbs e := by
  by_cases hz : z = 0
  · have h := (Rd_zero (fm := 64) (mode := mode) (ng := Nm.wn z) (e := e) ((wl_zero' z).2 hz)).1
    rw [h, if_neg (by omega), if_pos hz]
    exact ⟨by decide, by decide, by decide +kernel, by decide +kernel⟩
  · obtain ⟨b1, -⟩ := Rd_any64 mode (Nm.wn z) (Nm.wl z) e hO (fun h => hz ((wl_zero' z).1 h))
    rw [b1, Nm.val_wl, Int.toNat_natCast, mgB_eq]
    obtain ⟨m0, m1⟩ := mgB_bd (P := 53) (I := 9218868437227405312) (q := (-1074)) (mode := mode) (ng := Nm.wn z) (a := z.natAbs) (e := e) (by decide)
    have hb := sgn_abs64 m0 (by omega) (Nm.wn z)
    refine ⟨hb.1, hb.2.1, ?_, ?_⟩
    · unfold numB
      rw [cls64 ]
      have e1 : sgn 9223372036854775808 (mgB 53 (-1074) 9218868437227405312 mode (Nm.wn z) z.natAbs e) (Nm.wn z) % 9223372036854775808 = mgB 53 (-1074) 9218868437227405312 mode (Nm.wn z) z.natAbs e := by
        unfold sgn; split <;> omega
      rw [e1]
      unfold clsY
      simp only [decide_eq_true_eq]
      repeat' split
      all_goals omega
    · rw [od64 hb.1 hb.2.1]
      unfold Nm.wn sgn
      by_cases hn : z < 0
      · have ht : decide (z < 0) = true := decide_eq_true hn
        unfold Nm.wn at m0 m1
        rw [ht] at m0 m1 ⊢
        simp only [if_true]
        rw [if_neg (by omega), if_pos hn]
        omega
      · have ht : decide (z < 0) = false := decide_eq_false hn
        unfold Nm.wn at m0 m1
        rw [ht] at m0 m1 ⊢
        simp only [Bool.false_eq_true, if_false]
        rw [if_pos (by omega), if_neg hn, if_neg hz]
theorem natAbs_pow (z : Int) (n : Nat) : (z * 2 ^ n).natAbs = z.natAbs * 2 ^ n := by
  rw [Int.natAbs_mul, Int.natAbs_pow]; rfl
end Fd
end Go.Proofs.YtmcflggionkhlaaGreatDoor
namespace Go.Proofs.YtmcflggionkhlaaGreatDoor
set_option linter.unusedVariables false
set_option linter.unusedSimpArgs false
namespace Ld
open Go.RowKit Go.Deep Go.ChangeShapes Go.WideShapes Go.ChangeAt Go.Joins
theorem gEt : Tryz.prog.globalNamed "errors.errorType" = some 2 := by kernel_rfl
theorem gEq : Tryz.prog.globalNamed "loop.example/g00672/impl.errQuiet" = some 1 := by kernel_rfl
theorem gEqType : (Tryz.prog.globals[1]?).map (·.type) = some 101 := by kernel_rfl
theorem rtT : (Tryz.prog.cutTypes.find? (·.1 == "internal/reflectlite.rtype")).map (·.2) = some 232 := by kernel_rfl
theorem sizeT : Tryz.prog.types.size = 279 := by kernel_rfl
theorem oneRow : ((List.range 279).filter fun t => Tryz.prog.rowNamed t [101, 114, 114, 111, 114]) = [101] := by kernel_rfl
theorem handle {W : World} {l : List (String × DataW Unit)} (h : handlesMet Tryz.prog l W) (hm : ("errors.errorType", Rows.laid_errors_errorType) ∈ l) : EA.ErrT W := by
  obtain ⟨name, u, ty, e1, e2, e3, e4, e5⟩ := h _ hm
  have en : name = [101, 114, 114, 111, 114] := (Option.some.inj e1).symm
  subst en
  obtain rfl := Option.some.inj (rtT.symm.trans e2)
  have hm : ty ∈ (List.range 279).filter fun t => Tryz.prog.rowNamed t [101, 114, 114, 111, 114] := List.mem_filter.2 ⟨List.mem_range.2 (by rw [← sizeT]; exact e3), e4⟩
  rw [oneRow] at hm
  obtain rfl := List.mem_singleton.1 hm
  have hh : typeHandle Tryz.prog 101 = .pointer (some ⟨5, 101, none⟩) := by kernel_rfl
  rw [hh] at e5
  simpa using World.var?_cell gEt e5 0
/-- The text of the error for a quiet NaN. -/
def qS : ByteArray := ⟨#[111, 110, 101, 32, 105, 115, 32, 97, 32, 113, 117, 105, 101, 116, 32, 78, 97, 78]⟩
noncomputable def low : Nat := (World.holding Tryz.prog default ⟨#[], #[], []⟩).heap.size
theorem tok_any {H : Type} {enc : TypeId × Value → H} {sp : Nat → Bool} {x : Value} (hx : IsIface x) (w : World) : DataW.trod enc Tryz.prog w 0 sp true 1 101 (#[x] : Array Value).toList = some (tok enc x, []) := by
  cases x <;> simp only [IsIface] at hx <;> (unfold DataW.trod; rw [Tryz.underlying101]; rfl)
theorem star : "*" ++ "errors.errorString" = "*errors.errorString" := by decide
theorem rowE (u : TypeId) (h : Tryz.prog.typeName? 3 u = some "*errors.errorString") : u = 247 :=
  typeName_ptr_named (nm := "errors.errorString") (by rw [star]; kernel_rfl) (by kernel_rfl) (by decide) u (by rw [star]; exact h)
theorem quiet {W : World} (h : laidMet Tryz.prog [("loop.example/g00672/impl.errQuiet", Rows.laid_loop_example_g00672_impl_errQuiet)] W) : ∃ u, ErrQ W u := by
  obtain ⟨ps, ⟨g', t', cs, fuel, p, q, hg', ht', hvar, hd, _, _⟩, _⟩ := h
  obtain rfl := Option.some.inj (gEq.symm.trans hg')
  obtain rfl := Option.some.inj (gEqType.symm.trans ht')
  cases fuel with
  | zero => simp [DataW.trod] at hd
  | succ n =>
    have hcell := World.var?_cell gEq hvar 0
    unfold DataW.trod at hd
    rw [Tryz.underlying101] at hd
    obtain ⟨l⟩ := cs
    match l, hd with
    | [.nilIface], hd => simp [Rows.laid_loop_example_g00672_impl_errQuiet] at hd
    | [.iface u v], hd =>
      simp only at hd
      cases hn : Tryz.prog.typeName? 3 u with
      | none => rw [hn] at hd; simp at hd
      | some name =>
        rw [hn] at hd
        simp only [Option.map_eq_some_iff, Prod.mk.injEq, Rows.laid_loop_example_g00672_impl_errQuiet, DataW.iface.injEq] at hd
        obtain ⟨y, _, ⟨e1, _⟩, _⟩ := hd
        subst e1
        obtain rfl := rowE u hn
        exact ⟨v, by simpa using hcell⟩
theorem all {W : World} (h : laidMetH Tryz.prog [("errors.errorType", Rows.laid_errors_errorType), ("loop.example/g00672/impl.formSizes", Rows.laid_loop_example_g00672_impl_formSizes), ("loop.example/g00672/impl.errQuiet", Rows.laid_loop_example_g00672_impl_errQuiet)] W) : EX W := by
  have h' : laidMet Tryz.prog [("loop.example/g00672/impl.formSizes", Rows.laid_loop_example_g00672_impl_formSizes), ("loop.example/g00672/impl.errQuiet", Rows.laid_loop_example_g00672_impl_errQuiet)] W ∧ handlesMet Tryz.prog [("errors.errorType", Rows.laid_errors_errorType)] W := h
  have h1 := h'.1.filter (fun x => x.1 == "loop.example/g00672/impl.formSizes")
  have h2 := h'.1.filter (fun x => x.1 == "loop.example/g00672/impl.errQuiet")
  obtain ⟨u, hu⟩ := quiet h2
  exact ⟨u, ⟨table h1, handle h'.2 (List.mem_singleton.2 rfl), hu⟩⟩
end Ld
end Go.Proofs.YtmcflggionkhlaaGreatDoor
