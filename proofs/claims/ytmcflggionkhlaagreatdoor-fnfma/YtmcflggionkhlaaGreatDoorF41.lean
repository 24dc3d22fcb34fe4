/-
  What is needed of AccF, AccM, TP, AE, LaidE, LaidF, FL, FF, MO, MQ, RX, DP, WI, AW, FU, AX, AZ.
-/
import Derived.LaidHandle
import Derived.Look8
import Derived.Test.YtmcflggionkhlaaGreatDoorF34
import Derived.Test.YtmcflggionkhlaaGreatDoorF38
set_option maxHeartbeats 16000000
set_option maxRecDepth 1000000
namespace Go.Proofs.YtmcflggionkhlaaGreatDoor
set_option linter.unusedVariables false
set_option linter.unusedSimpArgs false
open Go.RowKit Go.Deep
theorem Q9.new2 (w : World) (o : Obj) (v0 v1 v2 v3 v4 v5 v6 v7 v8 : Value) (t : TypeId) : Q9 ((w.alloc o).alloc (.cells #[v0, v1, v2, v3, v4, v5, v6, v7, v8] t)) (w.heap.size + 1) v0 v1 v2 v3 v4 v5 v6 v7 v8 := by simpa using Q9.new (w.alloc o) v0 v1 v2 v3 v4 v5 v6 v7 v8 t
theorem add_ok {na nb : Bool} {xs ys : List Int} (a b : Option Addr) (cap cap' : Nat) (w : World) (hx : Sl .u32 w (.slice a xs.length cap) xs) (hy : Sl .u32 w (.slice b ys.length cap') ys) (dx : Nm.Dg xs) (dy : Nm.Dg ys) (ho : okB na xs = true) (ho' : okB nb ys = true) (x : Int) (hxv : x = Nm.wv na xs + Nm.wv nb ys) (hf : Nm.fits x = true) :
    Calls Tryz.prog 72 #[.agg #[.bool na, .slice a xs.length cap], .agg #[.bool nb, .slice b ys.length cap']] w fun e w' => ∃ a' c', e = .returned (.tuple #[.agg #[.bool (Nm.wn x), .slice a' (Nm.wl x).length c'], .bool true]) ∧ Own w' w.heap.size a' c' (Nm.wl x) ∧ Below w.heap.size w w' := by
  have h1 := (okB_nz ho).2
  have h2 := (okB_nz ho').2
  have h := wadd_impl na nb a b cap cap' xs ys w hx hy dx dy (by omega) (by omega) x hxv
  have e4 := out_fits hf
  rw [ho, ho', Bool.and_self, (op_yes _).1, (op_yes _).2.1, (op_yes _).2.2, hf, e4.1, e4.2] at h
  exact h
theorem Q9.nw2 (w : World) (o : Obj) (v0 v1 v2 v3 v4 v5 v6 v7 v8 : Value) (t : TypeId) : Q9 ((w.alloc o).alloc (.cells #[v0, v1, v2, v3, v4, v5, v6, v7, v8] t)) (w.heap.size + 1) v0 v1 v2 v3 v4 v5 v6 v7 v8 := by simpa using Q9.new (w.alloc o) v0 v1 v2 v3 v4 v5 v6 v7 v8 t
theorem Box.of_block {w w' : World} {b : Nat} {v0 v1 : Value} (h : Box w b v0 v1) (e : w'.heap[b]? = w.heap[b]?) : Box w' b v0 v1 :=
  ⟨(World.cell?_of_block (a := ⟨b, 0, none⟩) e).trans h.1, (World.cell?_of_block (a := ⟨b, 1, none⟩) e).trans h.2⟩
theorem bl_pos {z : Int} (h : z ≠ 0) : 1 ≤ bitLen z.natAbs := by
  have : ¬ bitLen z.natAbs ≤ 0 := by
    rw [Nm.bl_le_iff]; simp; omega
  omega
theorem Q9.set1 {w : World} {b : Nat} {v0 v1 v2 v3 v4 v5 v6 v7 v8 : Value} (h : Q9 w b v0 v1 v2 v3 v4 v5 v6 v7 v8) (u : Value) : Q9 (w.setCell ⟨b, 1, none⟩ u) b v0 u v2 v3 v4 v5 v6 v7 v8 := by
  obtain ⟨c0, c1, c2, c3, c4, c5, c6, c7, c8, f0, f1, f2, f3, f4, f5, f6, f7, f8⟩ := h
  exact ⟨by simp [go_sem, c0, c1], by simp [go_sem, c1, c1], by simp [go_sem, c2, c1], by simp [go_sem, c3, c1], by simp [go_sem, c4, c1], by simp [go_sem, c5, c1], by simp [go_sem, c6, c1], by simp [go_sem, c7, c1], by simp [go_sem, c8, c1], by simp [go_sem, f0], by simp [go_sem, f1], by simp [go_sem, f2], by simp [go_sem, f3], by simp [go_sem, f4], by simp [go_sem, f5], by simp [go_sem, f6], by simp [go_sem, f7], by simp [go_sem, f8]⟩
theorem sQb (fm : Int) (w : World) (h : fmtB fm = true) : Calls Tryz.prog 98 #[.int .i64 fm] w fun e w' => e = .returned (.int .i64 (unQ fm)) ∧ Below w.heap.size w w' :=
  (sQ_any fm w h).mono fun e w' ⟨a, b⟩ => ⟨a, b ▸ Below.refl _ _⟩
end Go.Proofs.YtmcflggionkhlaaGreatDoor
namespace Go.Proofs.YtmcflggionkhlaaGreatDoor
set_option linter.unusedVariables false
set_option linter.unusedSimpArgs false
namespace Ld
open Go.RowKit Go.Deep Go.ChangeShapes Go.WideShapes Go.ChangeAt Go.Joins
theorem gEt : Tryz.prog.globalNamed "errors.errorType" = some 2 := by kernel_rfl
theorem gEq : Tryz.prog.globalNamed "loop.example/g00672/impl.errQuiet" = some 1 := by kernel_rfl
theorem gEqType : (Tryz.prog.globals[1]?).map (·.type) = some 101 := by kernel_rfl
theorem rtT : (Tryz.prog.cutTypes.find? (·.1 == "internal/reflectlite.rtype")).map (·.2) = some 232 := by kernel_rfl
theorem sizeT : Tryz.prog.types.size = 279 := by kernel_rfl
theorem oneRow : ((List.range 279).filter fun t => Tryz.prog.rowNamed t [101, 114, 114, 111, 114]) = [101] := by kernel_rfl
theorem handle {W : World} {l : List (String × DataW Unit)} (h : handlesMet Tryz.prog l W) (hm : ("errors.errorType", Rows.laid_errors_errorType) ∈ l) : EA.ErrT W := by
  obtain ⟨name, u, ty, e1, e2, e3, e4, e5⟩ := h _ hm
  have en : name = [101, 114, 114, 111, 114] := (Option.some.inj e1).symm
  subst en
  obtain rfl := Option.some.inj (rtT.symm.trans e2)
  have hm : ty ∈ (List.range 279).filter fun t => Tryz.prog.rowNamed t [101, 114, 114, 111, 114] := List.mem_filter.2 ⟨List.mem_range.2 (by rw [← sizeT]; exact e3), e4⟩
  rw [oneRow] at hm
  obtain rfl := List.mem_singleton.1 hm
  have hh : typeHandle Tryz.prog 101 = .pointer (some ⟨5, 101, none⟩) := by kernel_rfl
  rw [hh] at e5
  simpa using World.var?_cell gEt e5 0
/-- The text of the error for a quiet NaN. -/
def qS : ByteArray := ⟨#[111, 110, 101, 32, 105, 115, 32, 97, 32, 113, 117, 105, 101, 116, 32, 78, 97, 78]⟩
noncomputable def low : Nat := (World.holding Tryz.prog default ⟨#[], #[], []⟩).heap.size
theorem tok_any {H : Type} {enc : TypeId × Value → H} {sp : Nat → Bool} {x : Value} (hx : IsIface x) (w : World) : DataW.trod enc Tryz.prog w 0 sp true 1 101 (#[x] : Array Value).toList = some (tok enc x, []) := by
  cases x <;> simp only [IsIface] at hx <;> (unfold DataW.trod; rw [Tryz.underlying101]; rfl)
theorem star : "*" ++ "errors.errorString" = "*errors.errorString" := by decide
theorem rowE (u : TypeId) (h : Tryz.prog.typeName? 3 u = some "*errors.errorString") : u = 247 :=
  typeName_ptr_named (nm := "errors.errorString") (by rw [star]; kernel_rfl) (by kernel_rfl) (by decide) u (by rw [star]; exact h)
theorem quiet {W : World} (h : laidMet Tryz.prog [("loop.example/g00672/impl.errQuiet", Rows.laid_loop_example_g00672_impl_errQuiet)] W) : ∃ u, ErrQ W u := by
  obtain ⟨ps, ⟨g', t', cs, fuel, p, q, hg', ht', hvar, hd, _, _⟩, _⟩ := h
  obtain rfl := Option.some.inj (gEq.symm.trans hg')
  obtain rfl := Option.some.inj (gEqType.symm.trans ht')
  cases fuel with
  | zero => simp [DataW.trod] at hd
  | succ n =>
    have hcell := World.var?_cell gEq hvar 0
    unfold DataW.trod at hd
    rw [Tryz.underlying101] at hd
    obtain ⟨l⟩ := cs
    match l, hd with
    | [.nilIface], hd => simp [Rows.laid_loop_example_g00672_impl_errQuiet] at hd
    | [.iface u v], hd =>
      simp only at hd
      cases hn : Tryz.prog.typeName? 3 u with
      | none => rw [hn] at hd; simp at hd
      | some name =>
        rw [hn] at hd
        simp only [Option.map_eq_some_iff, Prod.mk.injEq, Rows.laid_loop_example_g00672_impl_errQuiet, DataW.iface.injEq] at hd
        obtain ⟨y, _, ⟨e1, _⟩, _⟩ := hd
        subst e1
        obtain rfl := rowE u hn
        exact ⟨v, by simpa using hcell⟩
theorem all {W : World} (h : laidMetH Tryz.prog [("errors.errorType", Rows.laid_errors_errorType), ("loop.example/g00672/impl.formSizes", Rows.laid_loop_example_g00672_impl_formSizes), ("loop.example/g00672/impl.errQuiet", Rows.laid_loop_example_g00672_impl_errQuiet)] W) : EX W := by
  have h' : laidMet Tryz.prog [("loop.example/g00672/impl.formSizes", Rows.laid_loop_example_g00672_impl_formSizes), ("loop.example/g00672/impl.errQuiet", Rows.laid_loop_example_g00672_impl_errQuiet)] W ∧ handlesMet Tryz.prog [("errors.errorType", Rows.laid_errors_errorType)] W := h
  have h1 := h'.1.filter (fun x => x.1 == "loop.example/g00672/impl.formSizes")
  have h2 := h'.1.filter (fun x => x.1 == "loop.example/g00672/impl.errQuiet")
  obtain ⟨u, hu⟩ := quiet h2
  exact ⟨u, ⟨table h1, handle h'.2 (List.mem_singleton.2 rfl), hu⟩⟩
theorem all3 {W : World} (h : laidMetH Tryz.prog [("math/bits.deBruijn32tab", Rows.laid_math_bits_deBruijn32tab), ("math/bits.deBruijn64tab", Rows.laid_math_bits_deBruijn64tab), ("errors.errorType", Rows.laid_errors_errorType), ("loop.example/g00672/impl.formSizes", Rows.laid_loop_example_g00672_impl_formSizes), ("loop.example/g00672/impl.errQuiet", Rows.laid_loop_example_g00672_impl_errQuiet)] W) : EX3 W := by
  have h' : laidMet Tryz.prog [("math/bits.deBruijn32tab", Rows.laid_math_bits_deBruijn32tab), ("math/bits.deBruijn64tab", Rows.laid_math_bits_deBruijn64tab), ("loop.example/g00672/impl.formSizes", Rows.laid_loop_example_g00672_impl_formSizes), ("loop.example/g00672/impl.errQuiet", Rows.laid_loop_example_g00672_impl_errQuiet)] W ∧ handlesMet Tryz.prog [("errors.errorType", Rows.laid_errors_errorType)] W := h
  have h1 := h'.1.filter (fun x => x.1 == "loop.example/g00672/impl.formSizes")
  have h2 := h'.1.filter (fun x => x.1 == "loop.example/g00672/impl.errQuiet")
  have h3 := h'.1.filter (fun x => x.1 == "math/bits.deBruijn64tab")
  have h4 := h'.1.filter (fun x => x.1 == "math/bits.deBruijn32tab")
  obtain ⟨u, hu⟩ := quiet h2
  exact ⟨u, ⟨⟨⟨table h1, tb64 h3⟩, tb32 h4⟩, handle h'.2 (List.mem_singleton.2 rfl), hu⟩⟩
end Ld
open Go.RowKit Go.Deep
namespace Fd
theorem float_any (fm : Int) (hf : fmtB fm = true) (rb : Nat) (ca : Option Addr) (cc : Nat) (cs : List Int) (w : World) (hr : RD w rb ca cc cs) :
    Calls Tryz.prog 78 #[.pointer (some ⟨rb, 0, none⟩), .int .i64 fm] w fun e w' => ∃ x : Int, e = .returned (.int .u64 x) ∧ 0 ≤ x ∧ x < 18446744073709551616 ∧ RD w' rb ca cc cs ∧ w.grownBy w' (some rb) := by
  rcases fmt_cases hf with rfl | rfl
  · exact float32 rb ca cc cs w hr
  · exact float64 rb ca cc cs w hr
theorem some_any (rb : Nat) (ca : Option Addr) (cc : Nat) (cs : List Int) (w : World) (hr : RD w rb ca cc cs) :
    Calls Tryz.prog 75 #[.pointer (some ⟨rb, 0, none⟩)] w fun e w' => ∃ fm x : Int, e = .returned (.tuple #[.int .i64 fm, .int .u64 x]) ∧ 0 ≤ x ∧ x < 18446744073709551616 ∧ RD w' rb ca cc cs ∧ w.grownBy w' (some rb) := by
  go_enter Tryz.func75, Tryz.ntmps75
  go_wp2_with fail
  refine (format_any rb ca cc cs _ hr).mono ?_
  rintro e w1 ⟨fm, rfl, hf, hr1, hg1⟩
  have CF := hid (fun w' h => float_any fm hf rb ca cc cs w' h)
  clear hf
  go_wp2_with fail
  refine (CF.out _ hr1).mono ?_
  rintro e w2 ⟨x, rfl, x0, x1, hr2, hg2⟩
  go_wp2_with fail
  refine (below_any rb ca cc cs 40 _ hr2 (by decide) (by decide)).mono ?_
  rintro e w3 ⟨v, rfl, v0, v1, hr3, hg3⟩
  have hg := grown_trans (grown_trans hg1 hg2) hg3
  rcases (show v = 0 ∨ v = 1 ∨ 1 < v by omega) with rfl | rfl | hv
  · go_wp2_with fail
    refine (below_any rb ca cc cs 100 _ hr3 (by decide) (by decide)).mono ?_
    rintro e w4 ⟨u, rfl, u0, u1, hr4, hg4⟩
    go_wp2
    go_ret2
    exact ⟨_, _, rfl, x0, x1, hr4, grown_trans hg hg4⟩
  · have lo := bits_lo_u64 .or x 4294967296
    have hi := bits_hi_u64 .or x 4294967296
    go_wp2
    go_ret2
    exact ⟨_, _, rfl, by omega, by omega, hr3, hg⟩
  · have e0 : (v == 0) = false := by simp; omega
    have e1 : (v == 1) = false := by simp; omega
    go_wp2
    go_ret2
    exact ⟨_, _, rfl, x0, x1, hr3, hg⟩
theorem Rd_any32 (mode : Int) (ng : Bool) (zs : List Int) (e : Int) (ho : RdO 32 mode ng zs e = true) (hz : ¬ zs.length = 0) :
    RdB 32 mode ng zs e = rdB 24 (-149) 2139095040 2147483648 mode ng (Nm.val zs).toNat e ∧ RdF 32 mode ng zs e = rdF 24 (-149) 2139095040 mode ng (Nm.val zs).toNat e := by
  unfold RdB RdF
  rw [ho, if_pos rfl, if_pos rfl, if_neg hz, if_neg hz, if_pos rfl, if_pos rfl]
  exact ⟨rfl, rfl⟩
theorem sgn_abs32 {v : Int} (h0 : 0 ≤ v) (h1 : v < 2147483648) (ng : Bool) : 0 ≤ sgn 2147483648 v ng ∧ sgn 2147483648 v ng < 4294967296 ∧ absF 32 (sgn 2147483648 v ng) = v := by
  have hb : 0 ≤ sgn 2147483648 v ng ∧ sgn 2147483648 v ng < 4294967296 := by unfold sgn; split <;> omega
  refine ⟨hb.1, hb.2, ?_⟩
  rw [ab32 hb.1 hb.2]
  unfold sgn
  cases ng
  · simp only [Bool.false_eq_true, if_false]; rw [if_pos h1]
  · simp only [if_true]; rw [if_neg (by omega)]; omega
theorem Rd_any64 (mode : Int) (ng : Bool) (zs : List Int) (e : Int) (ho : RdO 64 mode ng zs e = true) (hz : ¬ zs.length = 0) :
    RdB 64 mode ng zs e = rdB 53 (-1074) 9218868437227405312 9223372036854775808 mode ng (Nm.val zs).toNat e ∧ RdF 64 mode ng zs e = rdF 53 (-1074) 9218868437227405312 mode ng (Nm.val zs).toNat e := by
  unfold RdB RdF
  rw [ho, if_pos rfl, if_pos rfl, if_neg hz, if_neg hz, if_neg (show ¬ ((64 : Int) = 32) from by decide), if_neg (show ¬ ((64 : Int) = 32) from by decide)]
  exact ⟨rfl, rfl⟩
theorem sgn_abs64 {v : Int} (h0 : 0 ≤ v) (h1 : v < 9223372036854775808) (ng : Bool) : 0 ≤ sgn 9223372036854775808 v ng ∧ sgn 9223372036854775808 v ng < 18446744073709551616 ∧ absF 64 (sgn 9223372036854775808 v ng) = v := by
  have hb : 0 ≤ sgn 9223372036854775808 v ng ∧ sgn 9223372036854775808 v ng < 18446744073709551616 := by unfold sgn; split <;> omega
  refine ⟨hb.1, hb.2, ?_⟩
  rw [ab64 hb.1 hb.2]
  unfold sgn
  cases ng
  · simp only [Bool.false_eq_true, if_false]; rw [if_pos h1]
  · simp only [if_true]; rw [if_neg (by omega)]; omega
/-- The bits of what is rounded, without the sign. -/
def mgB (P : Nat) (q : Int) (I : Nat) (mode : Int) (ng : Bool) (a : Nat) (e : Int) : Int := if Nm.flo P I (rdU P q mode ng a e) then (Nm.flb P (rdU P q mode ng a e) : Nat) else if ovB mode ng then (I : Int) - 1 else I
theorem mgB_eq (P : Nat) (q : Int) (I : Nat) (S mode : Int) (ng : Bool) (a : Nat) (e : Int) : rdB P q I S mode ng a e = sgn S (mgB P q I mode ng a e) ng := by
  unfold rdB mgB
  split
  · rfl
  · split <;> rfl
theorem mgB_bd {P I : Nat} {q mode : Int} {ng : Bool} {a : Nat} {e : Int} (hI : 0 < I) : 0 ≤ mgB P q I mode ng a e ∧ mgB P q I mode ng a e ≤ I := by
  unfold mgB
  by_cases hf : Nm.flo P I (rdU P q mode ng a e) = true
  · rw [if_pos hf]
    have : Nm.flb P (rdU P q mode ng a e) < I := by
      unfold Nm.flo at hf
      simp only [Bool.and_eq_true, decide_eq_true_eq] at hf
      exact hf.2
    omega
  · rw [if_neg hf]; split <;> omega
theorem wl_zero' (x : Int) : (Nm.wl x).length = 0 ↔ x = 0 := by
  unfold Nm.wl
  rw [Nm.lim_length_zero]
  omega
theorem ord_R32 (mode : Int) (z : Int) (e : Int) (hO : RdO 32 mode (Nm.wn z) (Nm.wl z) e = true) :
    0 ≤ RdB 32 mode (Nm.wn z) (Nm.wl z) e ∧ RdB 32 mode (Nm.wn z) (Nm.wl z) e < 4294967296 ∧ numB 32 (RdB 32 mode (Nm.wn z) (Nm.wl z) e) = true ∧
    ordI 32 (RdB 32 mode (Nm.wn z) (Nm.wl z) e) = if z < 0 then -1 - mgB 24 (-149) 2139095040 mode true z.natAbs e else if z = 0 then 0 else mgB 24 (-149) 2139095040 mode false z.natAbs e := by
  by_cases hz : z = 0
  · have h := (Rd_zero (fm := 32) (mode := mode) (ng := Nm.wn z) (e := e) ((wl_zero' z).2 hz)).1
    rw [h, if_neg (by omega), if_pos hz]
    exact ⟨by decide, by decide, by decide +kernel, by decide +kernel⟩
  · obtain ⟨b1, -⟩ := Rd_any32 mode (Nm.wn z) (Nm.wl z) e hO (fun h => hz ((wl_zero' z).1 h))
    rw [b1, Nm.val_wl, Int.toNat_natCast, mgB_eq]
    obtain ⟨m0, m1⟩ := mgB_bd (P := 24) (I := 2139095040) (q := (-149)) (mode := mode) (ng := Nm.wn z) (a := z.natAbs) (e := e) (by decide)
    have hb := sgn_abs32 m0 (by omega) (Nm.wn z)
    refine ⟨hb.1, hb.2.1, ?_, ?_⟩
    · unfold numB
      rw [cls32 hb.2.1]
      have e1 : sgn 2147483648 (mgB 24 (-149) 2139095040 mode (Nm.wn z) z.natAbs e) (Nm.wn z) % 2147483648 = mgB 24 (-149) 2139095040 mode (Nm.wn z) z.natAbs e := by
        unfold sgn; split <;> omega
      rw [e1]
      unfold clsY
      simp only [decide_eq_true_eq]
      repeat' split
      all_goals omega
    · rw [od32 hb.1 hb.2.1]
      unfold Nm.wn sgn
      by_cases hn : z < 0
      · have ht : decide (z < 0) = true := decide_eq_true hn
        unfold Nm.wn at m0 m1
        rw [ht] at m0 m1 ⊢
        simp only [if_true]
        rw [if_neg (by omega), if_pos hn]
        omega
      · have ht : decide (z < 0) = false := decide_eq_false hn
        unfold Nm.wn at m0 m1
        rw [ht] at m0 m1 ⊢
        simp only [Bool.false_eq_true, if_false]
        rw [if_pos (by omega), if_neg hn, if_neg hz]
theorem ord_R64 (mode : Int) (z : Int) (e : Int) (hO : RdO 64 mode (Nm.wn z) (Nm.wl z) e = true) :
    0 ≤ RdB 64 mode (Nm.wn z) (Nm.wl z) e ∧ RdB 64 mode (Nm.wn z) (Nm.wl z) e < 18446744073709551616 ∧ numB 64 (RdB 64 mode (Nm.wn z) (Nm.wl z) e) = true ∧
    ordI 64 (RdB 64 mode (Nm.wn z) (Nm.wl z) e) = if z < 0 then -1 - mgB 53 (-1074) 9218868437227405312 mode true z.natAbs e else if z = 0 then 0 else mgB 53 (-1074) 9218868437227405312 mode false z.natAbs e := by
  by_cases hz : z = 0
  · have h := (Rd_zero (fm := 64) (mode := mode) (ng := Nm.wn z) (e := e) ((wl_zero' z).2 hz)).1
    rw [h, if_neg (by omega), if_pos hz]
    exact ⟨by decide, by decide, by decide +kernel, by decide +kernel⟩
  · obtain ⟨b1, -⟩ := Rd_any64 mode (Nm.wn z) (Nm.wl z) e hO (fun h => hz ((wl_zero' z).1 h))
    rw [b1, Nm.val_wl, Int.toNat_natCast, mgB_eq]
    obtain ⟨m0, m1⟩ := mgB_bd (P := 53) (I := 9218868437227405312) (q := (-1074)) (mode := mode) (ng := Nm.wn z) (a := z.natAbs) (e := e) (by decide)
    have hb := sgn_abs64 m0 (by omega) (Nm.wn z)
    refine ⟨hb.1, hb.2.1, ?_, ?_⟩
    · unfold numB
      rw [cls64 ]
      have e1 : sgn 9223372036854775808 (mgB 53 (-1074) 9218868437227405312 mode (Nm.wn z) z.natAbs e) (Nm.wn z) % 9223372036854775808 = mgB 53 (-1074) 9218868437227405312 mode (Nm.wn z) z.natAbs e := by
        unfold sgn; split <;> omega
      rw [e1]
      unfold clsY
      simp only [decide_eq_true_eq]
      repeat' split
      all_goals omega
    · rw [od64 hb.1 hb.2.1]
      unfold Nm.wn sgn
      by_cases hn : z < 0
      · have ht : decide (z < 0) = true := decide_eq_true hn
        unfold Nm.wn at m0 m1
        rw [ht] at m0 m1 ⊢
        simp only [if_true]
        rw [if_neg (by omega), if_pos hn]
        omega
      · have ht : decide (z < 0) = false := decide_eq_false hn
        unfold Nm.wn at m0 m1
        rw [ht] at m0 m1 ⊢
        simp only [Bool.false_eq_true, if_false]
        rw [if_pos (by omega), if_neg hn, if_neg hz]
theorem natAbs_pow (z : Int) (n : Nat) : (z * 2 ^ n).natAbs = z.natAbs * 2 ^ n := by
  rw [Int.natAbs_mul, Int.natAbs_pow]; rfl
theorem RdB_bd (fm mode z e : Int) : 0 ≤ RdB fm mode (Nm.wn z) (Nm.wl z) e ∧ RdB fm mode (Nm.wn z) (Nm.wl z) e < 18446744073709551616 := by
  cases hO : RdO fm mode (Nm.wn z) (Nm.wl z) e
  · rw [(Rd_no hO).1]; decide
  · have hf : fmtB fm = true := by unfold RdO at hO; simp at hO; exact hO.1.1.1
    rcases fmt_cases hf with rfl | rfl
    · obtain ⟨h1, h2, -, -⟩ := ord_R32 mode z e hO; omega
    · obtain ⟨h1, h2, -, -⟩ := ord_R64 mode z e hO; omega
theorem nanOf_bd (fm : Int) : 0 ≤ nanOf fm ∧ nanOf fm < 18446744073709551616 := by unfold nanOf; split <;> omega
theorem scB_bd (fm mode x n : Int) (x0 : 0 ≤ x) (x1 : x < 18446744073709551616) : 0 ≤ scB fm mode x n ∧ scB fm mode x n < 18446744073709551616 := by
  have h1 := RdB_bd fm mode (nZ fm x) (nE fm x + n)
  have h2 := nanOf_bd fm
  unfold scB
  repeat' split
  all_goals omega
theorem xor_bd (x y : Int) : 0 ≤ bits .xor .u64 x y ∧ bits .xor .u64 x y < 18446744073709551616 := by
  have lo := bits_lo_u64 .xor x y
  have hi := bits_hi_u64 .xor x y
  omega
theorem near2_x (fm : Int) (hf : fmtB fm = true) (x : Int) (hx : okF fm x = true) (x0 : 0 ≤ x) (x1 : x < 18446744073709551616) (rb : Nat) (ca : Option Addr) (cc : Nat) (cs : List Int) (w : World) (hr : RD w rb ca cc cs) :
    Calls Tryz.prog 77 #[.pointer (some ⟨rb, 0, none⟩), .int .i64 fm, .int .u64 x] w fun e w' => ∃ y : Int, e = .returned (.int .u64 y) ∧ 0 ≤ y ∧ y < 18446744073709551616 ∧ RD w' rb ca cc cs ∧ w.grownBy w' (some rb) := by
  have CF := hid (fun w' h => float_any fm hf rb ca cc cs w' h)
  have CS := hid (fun w' => sign_s fm w' hf)
  have CU := hid (fun w' => spec_up fm x w' x0 x1)
  have CI := hid (fun w' => spec_fin fm x w' x0 x1)
  have SB := hid (fun n => scB_bd fm 0 x n x0 x1)
  have SC := hid (fun n w' => sc_spec fm 0 x n w' x0 x1 _ _ _ rfl rfl rfl)
  clear hf hx
  have b1 := xor_bd x (sgOf fm)
  have b2 := xor_bd (upF fm x) (sgOf fm)
  obtain ⟨S, hS⟩ : ∃ q, q = sgOf fm := ⟨_, rfl⟩
  obtain ⟨U, hU⟩ : ∃ q, q = upF fm x := ⟨_, rfl⟩
  rw [← hS] at CS b1 b2
  rw [← hU] at CU b2
  clear hS hU
  go_enter Tryz.func77, Tryz.ntmps77
  go_wp2_with fail
  refine (below_any rb ca cc cs 6 _ hr (by decide) (by decide)).mono ?_
  rintro e w1 ⟨v, rfl, v0, v1, hr1, hg1⟩
  rcases (show v = 0 ∨ v = 1 ∨ v = 2 ∨ 2 < v by omega) with rfl | rfl | rfl | hv
  · go_wp2_with fail
    refine (CS.out _).mono ?_
    rintro e w2 ⟨rfl, hb2⟩
    go_wp2
    go_ret
    exact ⟨_, rfl, b1.1, b1.2, hr1.below hb2, grown_trans hg1 (grown_below hb2 _)⟩
  · go_wp2_with fail
    refine (CU.out _).mono ?_
    rintro e w2 ⟨rfl, hb2⟩
    go_wp2_with fail
    refine (CS.out _).mono ?_
    rintro e w3 ⟨rfl, hb3⟩
    go_wp2
    go_ret
    exact ⟨_, rfl, b2.1, b2.2, (hr1.below hb2).below hb3, grown_trans (grown_trans hg1 (grown_below hb2 _)) (grown_below hb3 _)⟩
  · go_wp2_with fail
    refine (CI.out _).mono ?_
    rintro e w2 ⟨rfl, hb2⟩
    have hr2 := hr1.below hb2
    have hg2 := grown_trans hg1 (grown_below hb2 (some rb))
    clear hr1 hb2 hg1
    cases hfin : finB fm x
    · go_wp2_with fail
      refine (CF.out _ hr2).mono ?_
      rintro e w3 ⟨y, rfl, y0, y1, hr3, hg3⟩
      go_wp2
      go_ret
      exact ⟨_, rfl, y0, y1, hr3, grown_trans hg2 hg3⟩
    · go_wp2_with fail
      refine (below_any rb ca cc cs 60 _ hr2 (by decide) (by decide)).mono ?_
      rintro e w3 ⟨n, rfl, n0, n1, hr3, hg3⟩
      have W1 : IntKind.i64.wrap (n - 55) = n - 55 := by rw [IntKind.wrap_i64]; omega
      have SCn := hid (fun w' => SC.out (n - 55) w')
      have hB := SB.out (n - 55)
      obtain ⟨B, hBe⟩ : ∃ q, q = scB fm 0 x (n - 55) := ⟨_, rfl⟩
      obtain ⟨F, hFe⟩ : ∃ q, q = scF fm 0 x (n - 55) := ⟨_, rfl⟩
      obtain ⟨O, hOe⟩ : ∃ q, q = scO fm 0 x (n - 55) := ⟨_, rfl⟩
      rw [← hBe] at hB
      rw [← hBe, ← hFe, ← hOe] at SCn
      clear hBe hFe hOe SC SB
      go_wp2_with fail
      refine (SCn.out _).mono ?_
      rintro e w4 ⟨rfl, hb4⟩
      go_wp2
      go_ret
      exact ⟨_, rfl, hB.1, hB.2, hr3.below hb4, grown_trans (grown_trans hg2 hg3) (grown_below hb4 _)⟩
  · have e0 : (v == 0) = false := by simp; omega
    have e1 : (v == 1) = false := by simp; omega
    have e2 : (v == 2) = false := by simp; omega
    go_wp2_with fail
    refine (CF.out _ hr1).mono ?_
    rintro e w3 ⟨y, rfl, y0, y1, hr3, hg3⟩
    go_wp2
    go_ret
    exact ⟨_, rfl, y0, y1, hr3, grown_trans hg1 hg3⟩
end Fd
theorem al_b (w : World) (o : Obj) : Below w.heap.size w (w.alloc o) := (Below.refl _ _).alloc (Nat.le_refl _) _
namespace Fd
theorem zun (fm : Int) (h : fmtB fm = true) (g : Bool) : 0 ≤ sgn (sgOf fm) 0 g ∧ sgn (sgOf fm) 0 g < 18446744073709551616 ∧ finB fm (sgn (sgOf fm) 0 g) = true ∧ unI fm (sgn (sgOf fm) 0 g) = 0 := by
  rcases fmt_cases h with rfl | rfl <;> cases g <;> decide +kernel
end Fd
theorem own_apart {w : World} {B : Nat} {a : Option Addr} {c : Nat} {L : List Int} {b : Nat} (ho : Own w B a c L) (v : Bool) (hc : w.cell? ⟨b, 0, none⟩ = some (.bool v)) : L = [] ∨ ∀ g, a = some ⟨g, 0, none⟩ → g ≠ b := by
  by_cases hL : L = []
  · exact .inl hL
  · right
    intro g hg e
    subst e
    obtain ⟨-, -, -, h⟩ := ho.sl.cells
    have hpos : 0 < L.length := List.length_pos_iff.2 hL
    obtain ⟨b', off, h1, h2⟩ := h hpos
    rw [hg] at h1
    cases h1
    have h3 := h2 0 hpos
    rw [hc] at h3
    cases h3
theorem own_keep {w : World} {B : Nat} {a : Option Addr} {c : Nat} {L : List Int} {b : Nat} (ho : Own w B a c L) (ap : L = [] ∨ ∀ g, a = some ⟨g, 0, none⟩ → g ≠ b) (u0 u1 u2 u3 u4 : Value) :
    Sl .u32 (((((w.setCell ⟨b, 0, none⟩ u0).setCell ⟨b, 1, none⟩ u1).setCell ⟨b, 2, none⟩ u2).setCell ⟨b, 3, none⟩ u3).setCell ⟨b, 4, none⟩ u4) (.slice a L.length c) L := by
  rcases ap with rfl | h
  · obtain ⟨a', cap, h1, h2, h3, -⟩ := ho.sl
    exact ⟨a', cap, h1, h2, h3, .inl rfl⟩
  · exact (((((ho.setOther h u0).setOther h u1).setOther h u2).setOther h u3).setOther h u4).sl
theorem sg_okF {fm : Int} (h : fmtB fm = true) (g : Bool) : okF fm (sgn (sgOf fm) 0 g) = true ∧ okF fm (sgn (sgOf fm) (infOf fm) g) = true ∧ finB fm (sgn (sgOf fm) (infOf fm) g) = false := by
  rcases fmt_cases h with rfl | rfl <;> cases g <;> decide +kernel
theorem zero_i (fm : Int) (hfm : fmtB fm = true) (ng : Bool) (w : World) (hT : Tab w) :
    Calls Tryz.prog 31 #[.int .i64 fm, .bool ng] w fun e w' => e = .returned (.int .u64 (sgn (sgOf fm) 0 ng)) ∧ Below w.heap.size w w' := by
  rcases fmt_cases hfm with rfl | rfl
  · exact impl_Zero32 ng w hT
  · exact impl_Zero64 ng w hT
end Go.Proofs.YtmcflggionkhlaaGreatDoor
