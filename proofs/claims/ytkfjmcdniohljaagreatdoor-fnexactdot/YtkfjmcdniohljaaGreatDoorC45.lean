/-
  What is needed of AccO, LaidE, LaidF, FA, MB.
-/
import Derived.LaidHandle
import Derived.Look8
import Derived.Test.YtkfjmcdniohljaaGreatDoorC44
set_option maxHeartbeats 16000000
set_option maxRecDepth 1000000
namespace Go.Proofs.YtkfjmcdniohljaaGreatDoor
set_option linter.unusedVariables false
set_option linter.unusedSimpArgs false
open Go.RowKit Go.Deep
theorem Q9.set9 {w : World} {b : Nat} {v0 v1 v2 v3 v4 v5 v6 v7 v8 : Value} (h : Q9 w b v0 v1 v2 v3 v4 v5 v6 v7 v8) (u0 u1 u2 u3 u4 u5 u6 u7 u8 : Value) : Q9 (((((((((w.setCell ⟨b, 0, none⟩ u0).setCell ⟨b, 1, none⟩ u1).setCell ⟨b, 2, none⟩ u2).setCell ⟨b, 3, none⟩ u3).setCell ⟨b, 4, none⟩ u4).setCell ⟨b, 5, none⟩ u5).setCell ⟨b, 6, none⟩ u6).setCell ⟨b, 7, none⟩ u7).setCell ⟨b, 8, none⟩ u8) b u0 u1 u2 u3 u4 u5 u6 u7 u8 := by
  obtain ⟨c0, c1, c2, c3, c4, c5, c6, c7, c8, f0, f1, f2, f3, f4, f5, f6, f7, f8⟩ := h
  exact ⟨by simp [go_sem, c0, c1, c2, c3, c4, c5, c6, c7, c8], by simp [go_sem, c0, c1, c2, c3, c4, c5, c6, c7, c8], by simp [go_sem, c0, c1, c2, c3, c4, c5, c6, c7, c8], by simp [go_sem, c0, c1, c2, c3, c4, c5, c6, c7, c8], by simp [go_sem, c0, c1, c2, c3, c4, c5, c6, c7, c8], by simp [go_sem, c0, c1, c2, c3, c4, c5, c6, c7, c8], by simp [go_sem, c0, c1, c2, c3, c4, c5, c6, c7, c8], by simp [go_sem, c0, c1, c2, c3, c4, c5, c6, c7, c8], by simp [go_sem, c0, c1, c2, c3, c4, c5, c6, c7, c8], by simp [go_sem, f0], by simp [go_sem, f1], by simp [go_sem, f2], by simp [go_sem, f3], by simp [go_sem, f4], by simp [go_sem, f5], by simp [go_sem, f6], by simp [go_sem, f7], by simp [go_sem, f8]⟩
/-- What is known while the answer's flags are laid: the two arguments, the answer's own box, the box o that is laid, its limbs elsewhere. -/
structure MS (w wx : World) (o : Nat) (a1 : Option Addr) (k1 : Nat) (L : List Int) : Prop where
  own : Own wx w.heap.size a1 k1 L
  apart : ∀ g, a1 = some ⟨g, 0, none⟩ → g ≠ o ∧ g ≠ w.heap.size + 1 + 1
  bel : Below w.heap.size w wx
  lo : w.heap.size + 1 + 1 < o
theorem MS.set {w wx : World} {o : Nat} {a1 : Option Addr} {k1 : Nat} {L : List Int} (h : MS w wx o a1 k1 L) (i : Nat) (u : Value) : MS w (wx.setCell ⟨o, i, none⟩ u) o a1 k1 L :=
  ⟨h.own.setOther (fun g e => (h.apart g e).1) u, h.apart, h.bel.setCell (by have := h.lo; simp; omega) u, h.lo⟩
theorem MS.drew {w wx : World} {o : Nat} {a1 : Option Addr} {k1 : Nat} {L : List Int} (h : MS w wx o a1 k1 L) : MS w wx.drew o a1 k1 L := ⟨h.own.drew, h.apart, Below.drew h.bel, h.lo⟩
end Go.Proofs.YtkfjmcdniohljaaGreatDoor
namespace Go.Proofs.YtkfjmcdniohljaaGreatDoor
set_option linter.unusedVariables false
set_option linter.unusedSimpArgs false
namespace Ld
open Go.RowKit Go.Deep Go.ChangeShapes Go.WideShapes Go.ChangeAt Go.Joins
theorem gEt : Tryz.prog.globalNamed "errors.errorType" = some 2 := by kernel_rfl
theorem gEq : Tryz.prog.globalNamed "loop.example/g00672/impl.errQuiet" = some 0 := by kernel_rfl
theorem gEqType : (Tryz.prog.globals[0]?).map (·.type) = some 100 := by kernel_rfl
theorem rtT : (Tryz.prog.cutTypes.find? (·.1 == "internal/reflectlite.rtype")).map (·.2) = some 233 := by kernel_rfl
theorem sizeT : Tryz.prog.types.size = 278 := by kernel_rfl
theorem oneRow : ((List.range 278).filter fun t => Tryz.prog.rowNamed t [101, 114, 114, 111, 114]) = [100] := by kernel_rfl
theorem handle {W : World} {l : List (String × DataW Unit)} (h : handlesMet Tryz.prog l W) (hm : ("errors.errorType", Rows.laid_errors_errorType) ∈ l) : EA.ErrT W := by
  obtain ⟨name, u, ty, e1, e2, e3, e4, e5⟩ := h _ hm
  have en : name = [101, 114, 114, 111, 114] := (Option.some.inj e1).symm
  subst en
  obtain rfl := Option.some.inj (rtT.symm.trans e2)
  have hm : ty ∈ (List.range 278).filter fun t => Tryz.prog.rowNamed t [101, 114, 114, 111, 114] := List.mem_filter.2 ⟨List.mem_range.2 (by rw [← sizeT]; exact e3), e4⟩
  rw [oneRow] at hm
  obtain rfl := List.mem_singleton.1 hm
  have hh : typeHandle Tryz.prog 100 = .pointer (some ⟨5, 100, none⟩) := by kernel_rfl
  rw [hh] at e5
  simpa using World.var?_cell gEt e5 0
/-- The text of the error for a quiet NaN. -/
def qS : ByteArray := ⟨#[111, 110, 101, 32, 105, 115, 32, 97, 32, 113, 117, 105, 101, 116, 32, 78, 97, 78]⟩
noncomputable def low : Nat := (World.holding Tryz.prog default ⟨#[], #[], []⟩).heap.size
theorem tok_any {H : Type} {enc : TypeId × Value → H} {sp : Nat → Bool} {x : Value} (hx : IsIface x) (w : World) : DataW.trod enc Tryz.prog w 0 sp true 1 100 (#[x] : Array Value).toList = some (tok enc x, []) := by
  cases x <;> simp only [IsIface] at hx <;> (unfold DataW.trod; rw [Tryz.underlying100]; rfl)
theorem star : "*" ++ "errors.errorString" = "*errors.errorString" := by decide
theorem rowE (u : TypeId) (h : Tryz.prog.typeName? 3 u = some "*errors.errorString") : u = 246 :=
  typeName_ptr_named (nm := "errors.errorString") (by rw [star]; kernel_rfl) (by kernel_rfl) (by decide) u (by rw [star]; exact h)
theorem quiet {W : World} (h : laidMet Tryz.prog [("loop.example/g00672/impl.errQuiet", Rows.laid_loop_example_g00672_impl_errQuiet)] W) : ∃ u, ErrQ W u := by
  obtain ⟨ps, ⟨g', t', cs, fuel, p, q, hg', ht', hvar, hd, _, _⟩, _⟩ := h
  obtain rfl := Option.some.inj (gEq.symm.trans hg')
  obtain rfl := Option.some.inj (gEqType.symm.trans ht')
  cases fuel with
  | zero => simp [DataW.trod] at hd
  | succ n =>
    have hcell := World.var?_cell gEq hvar 0
    unfold DataW.trod at hd
    rw [Tryz.underlying100] at hd
    obtain ⟨l⟩ := cs
    match l, hd with
    | [.nilIface], hd => simp [Rows.laid_loop_example_g00672_impl_errQuiet] at hd
    | [.iface u v], hd =>
      simp only at hd
      cases hn : Tryz.prog.typeName? 3 u with
      | none => rw [hn] at hd; simp at hd
      | some name =>
        rw [hn] at hd
        simp only [Option.map_eq_some_iff, Prod.mk.injEq, Rows.laid_loop_example_g00672_impl_errQuiet, DataW.iface.injEq] at hd
        obtain ⟨y, _, ⟨e1, _⟩, _⟩ := hd
        subst e1
        obtain rfl := rowE u hn
        exact ⟨v, by simpa using hcell⟩
theorem all {W : World} (h : laidMetH Tryz.prog [("errors.errorType", Rows.laid_errors_errorType), ("loop.example/g00672/impl.formSizes", Rows.laid_loop_example_g00672_impl_formSizes), ("loop.example/g00672/impl.errQuiet", Rows.laid_loop_example_g00672_impl_errQuiet)] W) : EX W := by
  have h' : laidMet Tryz.prog [("loop.example/g00672/impl.formSizes", Rows.laid_loop_example_g00672_impl_formSizes), ("loop.example/g00672/impl.errQuiet", Rows.laid_loop_example_g00672_impl_errQuiet)] W ∧ handlesMet Tryz.prog [("errors.errorType", Rows.laid_errors_errorType)] W := h
  have h1 := h'.1.filter (fun x => x.1 == "loop.example/g00672/impl.formSizes")
  have h2 := h'.1.filter (fun x => x.1 == "loop.example/g00672/impl.errQuiet")
  obtain ⟨u, hu⟩ := quiet h2
  exact ⟨u, ⟨table h1, handle h'.2 (List.mem_singleton.2 rfl), hu⟩⟩
theorem all3 {W : World} (h : laidMetH Tryz.prog [("math/bits.deBruijn32tab", Rows.laid_math_bits_deBruijn32tab), ("math/bits.deBruijn64tab", Rows.laid_math_bits_deBruijn64tab), ("errors.errorType", Rows.laid_errors_errorType), ("loop.example/g00672/impl.formSizes", Rows.laid_loop_example_g00672_impl_formSizes), ("loop.example/g00672/impl.errQuiet", Rows.laid_loop_example_g00672_impl_errQuiet)] W) : EX3 W := by
  have h' : laidMet Tryz.prog [("math/bits.deBruijn32tab", Rows.laid_math_bits_deBruijn32tab), ("math/bits.deBruijn64tab", Rows.laid_math_bits_deBruijn64tab), ("loop.example/g00672/impl.formSizes", Rows.laid_loop_example_g00672_impl_formSizes), ("loop.example/g00672/impl.errQuiet", Rows.laid_loop_example_g00672_impl_errQuiet)] W ∧ handlesMet Tryz.prog [("errors.errorType", Rows.laid_errors_errorType)] W := h
  have h1 := h'.1.filter (fun x => x.1 == "loop.example/g00672/impl.formSizes")
  have h2 := h'.1.filter (fun x => x.1 == "loop.example/g00672/impl.errQuiet")
  have h3 := h'.1.filter (fun x => x.1 == "math/bits.deBruijn64tab")
  have h4 := h'.1.filter (fun x => x.1 == "math/bits.deBruijn32tab")
  obtain ⟨u, hu⟩ := quiet h2
  exact ⟨u, ⟨⟨⟨table h1, tb64 h3⟩, tb32 h4⟩, handle h'.2 (List.mem_singleton.2 rfl), hu⟩⟩
end Ld
open Go.RowKit Go.Deep
theorem unq_bd (fm : Int) : -1074 ≤ unQ fm ∧ unQ fm ≤ -149 := by unfold unQ; split <;> omega
theorem shz (z n : Int) (h : 0 ≤ n) : Nm.shV (Nm.wn z) (Nm.val (Nm.wl z)) n = z * 2 ^ n.toNat := by
  rw [Nm.val_wl, shV_sg]
  have e : ((Nm.sh z.natAbs n : Nat) : Int) = (z.natAbs : Int) * 2 ^ n.toNat := by unfold Nm.sh; rw [if_neg (by omega), Int.natCast_mul, Int.natCast_pow]; rfl
  rw [e]
  unfold Nm.wn
  by_cases hz : z < 0
  · rw [decide_eq_true hz, if_pos rfl, ← Int.neg_mul]; congr 1; omega
  · rw [decide_eq_false hz, if_neg (by decide)]; congr 1; omega
/-- A right wide shifted, where all fits. -/
theorem wsh_at2 (G : Bool) (p : Option Addr) (c : Nat) (L : List Int) (n : Int) (w : World) (hs : Sl .u32 w (.slice p L.length c) L) (d : Nm.Dg L) (ho : okB G L = true) (h0 : -10000 ≤ n) (h1 : n ≤ 10000) (V : Int) (hV : V = Nm.shV G (Nm.val L) n) (hf : (Nm.wl V).length ≤ 200) :
    Calls Tryz.prog 21 #[.agg #[.bool G, .slice p L.length c], .int .i64 n] w fun r w' => ∃ a' c', r = .returned (.tuple #[.agg #[.bool (Nm.wn V), .slice a' (Nm.wl V).length c'], .bool true]) ∧ Own w' w.heap.size a' c' (Nm.wl V) ∧ Below w.heap.size w w' := by
  have h := wsh_impl G p c L n w hs d (by have := (okB_nz ho).2; omega)
  have e1 : (okB G L && inZ n (-10000) 10000) = true := by rw [ho]; unfold inZ; rw [decide_eq_true h0, decide_eq_true h1]; rfl
  have e3 : Nm.fits V = true := by unfold Nm.fits; exact decide_eq_true hf
  have e4 := out_fits e3
  rw [e1, ← hV, (op_yes _).1, (op_yes _).2.1, (op_yes _).2.2, e3, e4.1, e4.2] at h
  exact h
theorem nan_ni {fm x : Int} (hx : okF fm x = true) (h : nanB fm x = true) : nI fm x = false ∧ zF fm x = false ∧ finB fm x = false := by
  have h1 := nan_ofE hx
  rw [h] at h1
  have h45 : cls fm x = 4 ∨ cls fm x = 5 := by
    by_cases e4 : cls fm x = 4
    · exact .inl e4
    · by_cases e5 : cls fm x = 5
      · exact .inr e5
      · rw [decide_eq_false e4, decide_eq_false e5] at h1; cases h1
  have hz : zF fm x = (cls fm x == 0) := (cls_zero hx).symm
  rcases h45 with e | e
  · exact ⟨by unfold nI; rw [e]; rfl, by rw [hz, e]; rfl, by unfold finB; rw [e]; decide⟩
  · exact ⟨by unfold nI; rw [e]; rfl, by rw [hz, e]; rfl, by unfold finB; rw [e]; decide⟩
theorem odd_no {fm x y : Int} (hx : okF fm x = true) (hy : okF fm y = true) (h : (nanB fm x || nanB fm y) = true) : oddX fm x y = false := by
  unfold oddX
  cases nx : nanB fm x
  · rw [nx, Bool.false_or] at h
    obtain ⟨h1, h2, -⟩ := nan_ni hy h
    rw [h1, h2, Bool.or_false, Bool.or_false]
    cases ix : nI fm x
    · rfl
    · rw [zF_inf hx ix]; rfl
  · obtain ⟨h1, h2, -⟩ := nan_ni hx nx
    rw [h1, h2, Bool.false_or, Bool.false_or]
    cases iy : nI fm y
    · rfl
    · rw [zF_inf hy iy]; rfl
theorem oddX_eq {fm x y : Int} (hx : okF fm x = true) (hy : okF fm y = true) (nx : nanB fm x = false) (ny : nanB fm y = false) : oddB (nI fm x) (decide ((Nm.wl (nZ fm x)).length = 0)) (nI fm y) (decide ((Nm.wl (nZ fm y)).length = 0)) = oddX fm x y := by
  have zx := sz_of hx nx
  have zy := sz_of hy ny
  unfold oddB oddX; rw [zx, zy]
  cases ix : nI fm x
  · cases iy : nI fm y
    · cases zF fm x <;> cases zF fm y <;> rfl
    · rw [zF_inf hy iy]; cases zF fm x <;> rfl
  · rw [zF_inf hx ix]
    cases iy : nI fm y
    · cases zF fm y <;> rfl
    · rw [zF_inf hy iy]; rfl
theorem one_finP_32 (x y : Int) (hx : okF 32 x = true) (hy : okF 32 y = true) (fx : finB 32 x = true) (fy : finB 32 y = true) (neg : Bool) (L : List Int) (E : Int) (hL : L = Nm.wl (nZ 32 x * nZ 32 y)) (hE : E = nE 32 x + nE 32 y) (m5 : Bool) (hm5 : m5 = (decide (L.length = 0) && neg)) (p : Option Addr) (c : Nat) (w : World) (hT : Tab w) (hg : EA.ErrT w) (hs : Sl .u32 w (.slice p L.length c) L) :
    Calls Tryz.prog 124 #[.int .i64 32, .agg #[.bool neg, .bool false, .bool (Nm.wn (nZ 32 x * nZ 32 y)), .slice p L.length c, .int .i64 E], .nilIface] w fun r w' => ∃ a' c', r = .returned (.agg #[.int .i64 1, .bool false, .bool false, .bool false, .bool false, .bool m5, .int .i64 32, .bool (Nm.wn (tpV 32 x y)), .slice a' (Nm.wl (tpV 32 x y)).length c']) ∧ Own w' w.heap.size a' c' (Nm.wl (tpV 32 x y)) ∧ Below w.heap.size w w' := by
  have b1 := nZ_bd 32 x
  have b2 := nZ_bd 32 y
  have hl2 : L.length ≤ 200 := by rw [hL]; exact nZm_len 32 x y
  have hd : Nm.Dg L := by rw [hL]; exact Nm.wl_dg _
  have ho : okB (Nm.wn (nZ 32 x * nZ 32 y)) L = true := by rw [hL]; exact okB_wl (nZm_len 32 x y)
  obtain ⟨-, hq, hb⟩ := tp_eq hx hy fx fy
  have hR : E + 298 = nE 32 x + nE 32 y - 2 * unQ 32 := by rw [hE]; have : unQ 32 = (-149) := rfl; omega
  have hV : tpV 32 x y = Nm.shV (Nm.wn (nZ 32 x * nZ 32 y)) (Nm.val L) (E + 298) := by
    rw [hL, hR, shz _ _ hq]; rfl
  have hfe : farE 32 ≤ 4196 := by decide
  refine one_32 neg false (Nm.wn (nZ 32 x * nZ 32 y)) p c L E .nilIface false false false false m5 (Nm.wn (tpV 32 x y)) (Nm.wl (tpV 32 x y)) w hT hg hs (by omega) (by omega) (fun w' hg' => ?_) (fun w' h => wsh_at2 _ p c L (E + 298) w' h hd ho (by omega) (by omega) (tpV 32 x y) hV (wl_len (by omega)))
  by_cases h0 : L.length = 0
  · rw [hm5, decide_eq_true h0, Bool.true_and]
    exact mk_zero neg _ p L.length c E w' hg' (by omega) h0
  · rw [hm5, decide_eq_false h0, Bool.false_and]
    exact mk_fin neg _ p L.length c E w' hg' (by omega) h0
theorem one_finP_64 (x y : Int) (hx : okF 64 x = true) (hy : okF 64 y = true) (fx : finB 64 x = true) (fy : finB 64 y = true) (neg : Bool) (L : List Int) (E : Int) (hL : L = Nm.wl (nZ 64 x * nZ 64 y)) (hE : E = nE 64 x + nE 64 y) (m5 : Bool) (hm5 : m5 = (decide (L.length = 0) && neg)) (p : Option Addr) (c : Nat) (w : World) (hT : Tab w) (hg : EA.ErrT w) (hs : Sl .u32 w (.slice p L.length c) L) :
    Calls Tryz.prog 124 #[.int .i64 64, .agg #[.bool neg, .bool false, .bool (Nm.wn (nZ 64 x * nZ 64 y)), .slice p L.length c, .int .i64 E], .nilIface] w fun r w' => ∃ a' c', r = .returned (.agg #[.int .i64 1, .bool false, .bool false, .bool false, .bool false, .bool m5, .int .i64 64, .bool (Nm.wn (tpV 64 x y)), .slice a' (Nm.wl (tpV 64 x y)).length c']) ∧ Own w' w.heap.size a' c' (Nm.wl (tpV 64 x y)) ∧ Below w.heap.size w w' := by
  have b1 := nZ_bd 64 x
  have b2 := nZ_bd 64 y
  have hl2 : L.length ≤ 200 := by rw [hL]; exact nZm_len 64 x y
  have hd : Nm.Dg L := by rw [hL]; exact Nm.wl_dg _
  have ho : okB (Nm.wn (nZ 64 x * nZ 64 y)) L = true := by rw [hL]; exact okB_wl (nZm_len 64 x y)
  obtain ⟨-, hq, hb⟩ := tp_eq hx hy fx fy
  have hR : E + 2148 = nE 64 x + nE 64 y - 2 * unQ 64 := by rw [hE]; have : unQ 64 = (-1074) := rfl; omega
  have hV : tpV 64 x y = Nm.shV (Nm.wn (nZ 64 x * nZ 64 y)) (Nm.val L) (E + 2148) := by
    rw [hL, hR, shz _ _ hq]; rfl
  have hfe : farE 64 ≤ 4196 := by decide
  refine one_64 neg false (Nm.wn (nZ 64 x * nZ 64 y)) p c L E .nilIface false false false false m5 (Nm.wn (tpV 64 x y)) (Nm.wl (tpV 64 x y)) w hT hg hs (by omega) (by omega) (fun w' hg' => ?_) (fun w' h => wsh_at2 _ p c L (E + 2148) w' h hd ho (by omega) (by omega) (tpV 64 x y) hV (wl_len (by omega)))
  by_cases h0 : L.length = 0
  · rw [hm5, decide_eq_true h0, Bool.true_and]
    exact mk_zero neg _ p L.length c E w' hg' (by omega) h0
  · rw [hm5, decide_eq_false h0, Bool.false_and]
    exact mk_fin neg _ p L.length c E w' hg' (by omega) h0
theorem accMI (fm : Int) (s : St) (x y : Int) (p : Option Addr) (cap : Nat) (u : Value) (w : World) (hE : EE u w) (hR : Rt fm s) (hx : okF fm x = true) (x0 : 0 ≤ x) (x1 : x < 18446744073709551616) (hy : okF fm y = true) (y0 : 0 ≤ y) (y1 : y < 18446744073709551616) (hT : s.T ≠ 1000000) (hs : Sl .u32 w (.slice p (Nm.wl s.z).length cap) (Nm.wl s.z)) (s' : St) (hs' : s' = s.add (tmM fm x y)) :
    Calls Tryz.prog 52 #[.agg #[.int .i64 fm, .bool (Nm.wn s.z), .slice p (Nm.wl s.z).length cap, .int .i64 s.T, .bool s.nn, .bool s.bd, .bool s.pl, .bool s.mi, .bool s.am], .int .u64 x, .int .u64 y] w fun r w' => ∃ a' c', r = .returned (.tuple #[.agg #[.int .i64 fm, .bool (Nm.wn s'.z), .slice a' (Nm.wl s'.z).length c', .int .i64 s'.T, .bool s'.nn, .bool s'.bd, .bool s'.pl, .bool s'.mi, .bool s'.am], .int .i64 0]) ∧ Own w' w.heap.size a' c' (Nm.wl s'.z) ∧ Below w.heap.size w w' := by
  subst hs'
  have hwv := Nm.wv_out s.z
  obtain ⟨hfm, hk1, ho, -⟩ := acc_parts hR
  have NX := numAt (u := u) hx x0 x1
  have NY := numAt (u := u) hy y0 y1
  have hft : Nm.fits s.z = true := by have := ok_fits (Nm.wl_dg _) ho (Nm.wn s.z); rwa [hwv] at this
  -- what is not finite: a number without a value
  have odd : ∀ (neg inf nk bk m1 m2 m3 m4 : Bool), ProdAt u fm x y neg inf false [] 0 nk bk → tmM fm x y = ⟨0, m1, m2, m3, m4, false⟩ →
      (∀ (ev : Value), EK u ev nk bk → ∀ (p : Option Addr) (c : Nat) (q : World), EA.ErrT q → Calls Tryz.prog 203 #[.agg #[.bool neg, .bool inf, .bool false, .slice p 0 c, .int .i64 0], ev] q fun r q' => r = .returned (.agg #[.int .i64 1, .bool m1, .bool m2, .bool m3, .bool m4, .bool false]) ∧ Below q.heap.size q q') →
      Calls Tryz.prog 52 #[.agg #[.int .i64 fm, .bool (Nm.wn s.z), .slice p (Nm.wl s.z).length cap, .int .i64 s.T, .bool s.nn, .bool s.bd, .bool s.pl, .bool s.mi, .bool s.am], .int .u64 x, .int .u64 y] w fun r w' => ∃ a' c', r = .returned (.tuple #[.agg #[.int .i64 fm, .bool (Nm.wn (s.add (tmM fm x y)).z), .slice a' (Nm.wl (s.add (tmM fm x y)).z).length c', .int .i64 (s.add (tmM fm x y)).T, .bool (s.add (tmM fm x y)).nn, .bool (s.add (tmM fm x y)).bd, .bool (s.add (tmM fm x y)).pl, .bool (s.add (tmM fm x y)).mi, .bool (s.add (tmM fm x y)).am], .int .i64 0]) ∧ Own w' w.heap.size a' c' (Nm.wl (s.add (tmM fm x y)).z) ∧ Below w.heap.size w w' := by
    intro neg inf nk bk m1 m2 m3 m4 hP e hm
    rw [e]
    have h := mulA_core fm (Nm.wn s.z) s.T s.nn s.bd s.pl s.mi s.am p cap (Nm.wl s.z) x y u w hE.t hE.g hE.q hs (Nm.wl_dg _) hR hx x0 x1 hy y0 y1 hT neg inf false [] 0 nk bk m1 m2 m3 m4 false false [] Nm.Dg.nil rfl s.z (by rw [hwv]; unfold Nm.wv Nm.val; simp) hft hP
      (fun ev kv a' c' w' t g h => one_odd fm hfm neg inf ev _ _ _ _ false w' t g a' c' h (fun q hq => hm ev kv a' c' q hq))
    rw [amW_no] at h
    simpa [St.add] using h
  cases hn : (nanB fm x || nanB fm y)
  · obtain ⟨nx, ny⟩ : nanB fm x = false ∧ nanB fm y = false := by simpa using hn
    have sx : nS fm x = sigB fm x := by unfold nS; rw [nx]; rfl
    have sy : nS fm y = sigB fm y := by unfold nS; rw [ny]; rfl
    have hodd := oddX_eq hx hy nx ny
    cases hod : oddX fm x y
    · rw [hod] at hodd
      cases hi : (nI fm x || nI fm y)
      · obtain ⟨ix, iy⟩ : nI fm x = false ∧ nI fm y = false := by simpa using hi
        have fx := (nan_cases hx nx).resolve_right (by rw [ix]; decide)
        have fy := (nan_cases hy ny).resolve_right (by rw [iy]; decide)
        have b1 := nZ_bd fm x
        have b2 := nZ_bd fm y
        have hl := nZm_len fm x y
        have e : tmM fm x y = ⟨tpV fm x y, false, false, false, false, decide (nZ fm x * nZ fm y = 0) && (sigB fm x != sigB fm y)⟩ := by unfold tmM; rw [hn, hod, hi]; rfl
        rw [e]
        rw [ix] at NX
        rw [iy] at NY
        have hP := prod_num fm x y u _ _ _ _ _ _ _ _ _ _ _ _ _ _ NX NY hn (nS fm x != nS fm y) false (Nm.wn (nZ fm x * nZ fm y)) (Nm.wl (nZ fm x * nZ fm y)) (nE fm x + nE fm y) false false
          (fun Q a1 c1 a2 c2 w hQ h1 h2 => (times_fin (nS fm x) (Nm.wn (nZ fm x)) (Nm.wl (nZ fm x)) (nE fm x) a1 c1 (nS fm y) (Nm.wn (nZ fm y)) (Nm.wl (nZ fm y)) (nE fm y) a2 c2 w (nS fm x != nS fm y) (Nm.wn (nZ fm x * nZ fm y)) (Nm.wl (nZ fm x * nZ fm y)) (nE fm x + nE fm y) rfl rfl (by omega) (by omega) (nZ_len fm x) (nZ_len fm y) h1.sl h2.sl
            (fun w' h1' h2' => mul_ok a1 a2 c1 c2 w' h1' h2' (Nm.wl_dg _) (Nm.wl_dg _) (okB_wl (nZ_len fm x)) (okB_wl (nZ_len fm y)) (nZ fm x * nZ fm y) (by rw [Nm.wv_out, Nm.wv_out]) (by unfold Nm.fits; exact decide_eq_true hl))).mono fun r w' ⟨a, c, hr, ho, hb⟩ => ⟨a, c, _, hr, EK.no, ho.base hQ, hb⟩)
        obtain ⟨-, -, hb⟩ := tp_eq hx hy fx fy
        have hfe : farE fm ≤ 4196 := by unfold farE; split <;> omega
        have hlV := wl_len (V := tpV fm x y) (by omega)
        have hfit := add_fits (Nm.wl_dg _) hR (V := tpV fm x y) (by omega)
        rw [hwv] at hfit
        obtain ⟨L, hL⟩ : ∃ L, L = Nm.wl (nZ fm x * nZ fm y) := ⟨_, rfl⟩
        have hlz : decide (nZ fm x * nZ fm y = 0) = decide (L.length = 0) := by
          rw [hL, Bool.eq_iff_iff, decide_eq_true_eq, decide_eq_true_eq]; unfold Nm.wl; rw [Nm.lim_length_zero]; omega
        rw [← hL] at hP
        have h := mulA_core fm (Nm.wn s.z) s.T s.nn s.bd s.pl s.mi s.am p cap (Nm.wl s.z) x y u w hE.t hE.g hE.q hs (Nm.wl_dg _) hR hx x0 x1 hy y0 y1 hT (nS fm x != nS fm y) false _ L (nE fm x + nE fm y) false false false false false false (decide (L.length = 0) && (nS fm x != nS fm y)) (Nm.wn (tpV fm x y)) (Nm.wl (tpV fm x y)) (Nm.wl_dg _) (okB_wl hlV) (s.z + tpV fm x y) (by rw [Nm.wv_out, Nm.wv_out]) hfit hP
          (fun ev kv a' c' w' t g h => by
            cases kv
            rcases fmt_cases hfm with rfl | rfl
            · exact one_finP_32 x y hx hy fx fy _ L _ hL rfl _ rfl a' c' w' t g h
            · exact one_finP_64 x y hx hy fx fy _ L _ hL rfl _ rfl a' c' w' t g h)
        have e5 : amW s.T s.am 1 (decide (L.length = 0) && (nS fm x != nS fm y)) = (decide (nZ fm x * nZ fm y = 0) && (sigB fm x != sigB fm y) && (s.am || decide (s.T = 0))) := by
          rw [hlz, sx, sy]; unfold amW
          rw [show decide ((1 : Int) = 0) = false from rfl]
          cases decide (L.length = 0) <;> cases (sigB fm x != sigB fm y) <;> cases s.am <;> cases decide (s.T = 0) <;> rfl
        rw [e5] at h
        simpa [St.add] using h
      · have e : tmM fm x y = ⟨0, false, false, !(sigB fm x != sigB fm y), sigB fm x != sigB fm y, false⟩ := by unfold tmM; rw [hn, hod, hi]; rfl
        have hP := prod_num fm x y u _ _ _ _ _ _ _ _ _ _ _ _ _ _ NX NY hn (nS fm x != nS fm y) true false [] 0 false false
          (fun Q a1 c1 a2 c2 w hQ h1 h2 => (times_inf (nS fm x) (nI fm x) (Nm.wn (nZ fm x)) (Nm.wl (nZ fm x)) (nE fm x) a1 c1 (nS fm y) (nI fm y) (Nm.wn (nZ fm y)) (Nm.wl (nZ fm y)) (nE fm y) a2 c2 w (nZ_len fm x) (nZ_len fm y) hodd hi _ rfl).mono fun r w' ⟨hr, hb⟩ => ⟨none, 0, _, hr, EK.no, Own.nil _ _, hb⟩)
        refine odd _ _ _ _ _ _ _ _ hP e (fun ev kv p c q hq => ?_)
        cases kv
        have := mk_inf (nS fm x != nS fm y) false p 0 c 0 q hq (by decide)
        rw [sx, sy] at this ⊢
        exact this
    · rw [hod] at hodd
      have e : tmM fm x y = ⟨0, true, true, false, false, false⟩ := by unfold tmM; rw [hn, hod]; simp
      have hP := prod_num fm x y u _ _ _ _ _ _ _ _ _ _ _ _ _ _ NX NY hn false false false [] 0 true true
          (fun Q a1 c1 a2 c2 w hQ h1 h2 => (times_odd (nS fm x) (nI fm x) (Nm.wn (nZ fm x)) (Nm.wl (nZ fm x)) (nE fm x) a1 c1 (nS fm y) (nI fm y) (Nm.wn (nZ fm y)) (Nm.wl (nZ fm y)) (nE fm y) a2 c2 w (nZ_len fm x) (nZ_len fm y) hodd).mono fun r w' ⟨s, hr, hb⟩ => ⟨none, 0, _, hr, EK.bad s, Own.nil _ _, hb⟩)
      refine odd _ _ _ _ _ _ _ _ hP e (fun ev kv p c q hq => ?_)
      cases kv with
      | bad sb => exact mk_bad sb false p 0 c 0 q hq (by decide) rfl
  · have hod := odd_no hx hy hn
    have e : tmM fm x y = ⟨0, true, nB fm x || nB fm y, false, false, false⟩ := by unfold tmM; rw [hn, hod]; simp
    have hP := prod_nan fm x y u _ _ _ _ _ _ _ _ _ _ _ _ _ _ NX NY hn _ rfl
    obtain ⟨bb, hbb⟩ : ∃ bb, bb = (nB fm x || nB fm y) := ⟨_, rfl⟩
    rw [← hbb] at hP e
    refine odd _ _ _ _ _ _ _ _ hP e (fun ev kv p c q hq => ?_)
    cases kv with
    | quiet => exact mk_quiet u false p 0 c 0 q hq (by decide) rfl
    | bad sb => exact mk_bad sb false p 0 c 0 q hq (by decide) rfl
end Go.Proofs.YtkfjmcdniohljaaGreatDoor
