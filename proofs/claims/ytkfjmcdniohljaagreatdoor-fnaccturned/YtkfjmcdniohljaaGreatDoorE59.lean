/-
  What is needed of Facts, AF, LaidE, AG.
-/
import Derived.LaidHandle
import Derived.Look8
import Derived.Test.YtkfjmcdniohljaaGreatDoorE58
set_option maxHeartbeats 16000000
set_option maxRecDepth 1000000
namespace Go.Proofs.YtkfjmcdniohljaaGreatDoor
namespace Fc
theorem mapsRowed : Go.mapsRowed Tryz.prog = true := by kernel_rfl
theorem heard : Tryz.prog.stopsHeard = true := by kernel_rfl
theorem lifts : (Rows.fnExactFloatIntRow.lifted == Tryz.prog.liftsFinal) = true := by kernel_rfl
theorem lifts_of (l : _) (h : l = Rows.fnExactFloatIntRow.lifted) : (l == Tryz.prog.liftsFinal) = true := by
  rw [h]; exact lifts
end Fc
set_option linter.unusedVariables false
set_option linter.unusedSimpArgs false
open Go.RowKit Go.Deep
theorem add_fits {fm : Int} {ng : Bool} {zs : List Int} {T : Int} {nn bd pl mi am : Bool} (dz : Nm.Dg zs) (h : accB fm ng zs T nn bd pl mi am = true) {V : Int} (hV : bitLen V.natAbs ≤ 4216) : Nm.fits (Nm.wv ng zs + V) = true := by
  refine fits_bl ?_
  have h1 := acc_val dz h
  have e1 := wv_abs ng dz
  have t1 := (mkB_T (acc_parts h).2.1).2
  have b := sum_bl (far_bl fm t1) hV
  have hm := Nm.bl_mono (show (Nm.wv ng zs + V).natAbs ≤ far fm T + V.natAbs by omega)
  omega
theorem wsh_at (G : Bool) (p : Option Addr) (c : Nat) (L : List Int) (n : Int) (w : World) (hs : Sl .u32 w (.slice p L.length c) L) (d : Nm.Dg L) (ho : okB G L = true) (h0 : -10000 ≤ n) (h1 : n ≤ 10000) (V : Int) (hV : V = Nm.shV G (Nm.val L) n) (hf : (Nm.wl V).length ≤ 200) :
    Calls Tryz.prog 21 #[.agg #[.bool G, .slice p L.length c], .int .i64 n] w fun r w' => ∃ a' c', r = .returned (.tuple #[.agg #[.bool (Nm.wn V), .slice a' (Nm.wl V).length c'], .bool true]) ∧ Own w' w.heap.size a' c' (Nm.wl V) ∧ Below w.heap.size w w' := by
  have h := wsh_impl G p c L n w hs d (by have := (okB_nz ho).2; omega)
  have e1 : (okB G L && inZ n (-10000) 10000) = true := by rw [ho]; unfold inZ; rw [decide_eq_true h0, decide_eq_true h1]; rfl
  have e3 : Nm.fits V = true := by unfold Nm.fits; exact decide_eq_true hf
  have e4 := out_fits e3
  rw [e1, ← hV, (op_yes _).1, (op_yes _).2.1, (op_yes _).2.2, e3, e4.1, e4.2] at h
  exact h
theorem wsh_nil (n : Int) (w : World) (h0 : -10000 ≤ n) (h1 : n ≤ 10000) (p : Option Addr) (c : Nat) (hs : Sl .u32 w (.slice p ([] : List Int).length c) []) :
    Calls Tryz.prog 21 #[.agg #[.bool false, .slice p ([] : List Int).length c], .int .i64 n] w fun r w' => ∃ a' c', r = .returned (.tuple #[.agg #[.bool false, .slice a' ([] : List Int).length c'], .bool true]) ∧ Own w' w.heap.size a' c' [] ∧ Below w.heap.size w w' := by
  have e : Nm.shV false (Nm.val []) n = 0 := by
    have : Nm.val [] = ((0 : Nat) : Int) := rfl
    rw [this, Nm.shV_sh]; unfold Nm.sh; split <;> simp
  have hw : Nm.wl 0 = [] := Nm.lim_zero
  have hn : Nm.wn 0 = false := by decide
  have h := wsh_at false p c [] n w hs Nm.Dg.nil rfl h0 h1 0 e.symm (by rw [hw]; simp)
  rw [hw, hn] at h
  exact h
theorem one_odd_32 (neg inf : Bool) (ev : Value) (m1 m2 m3 m4 m5 : Bool) (w : World) (hT : Tab w) (hg : EA.ErrT w) (p : Option Addr) (c : Nat) (hs : Sl .u32 w (.slice p ([] : List Int).length c) [])
    (hm : ∀ w' : World, EA.ErrT w' → Calls Tryz.prog 203 #[.agg #[.bool neg, .bool inf, .bool false, .slice p ([] : List Int).length c, .int .i64 0], ev] w' fun r w'' => r = .returned (.agg #[.int .i64 1, .bool m1, .bool m2, .bool m3, .bool m4, .bool m5]) ∧ Below w'.heap.size w' w'') :
    Calls Tryz.prog 124 #[.int .i64 32, .agg #[.bool neg, .bool inf, .bool false, .slice p ([] : List Int).length c, .int .i64 0], ev] w fun r w' => ∃ a' c', r = .returned (.agg #[.int .i64 1, .bool m1, .bool m2, .bool m3, .bool m4, .bool m5, .int .i64 32, .bool false, .slice a' ([] : List Int).length c']) ∧ Own w' w.heap.size a' c' [] ∧ Below w.heap.size w w' :=
  one_32 neg inf false p c [] 0 ev m1 m2 m3 m4 m5 false [] w hT hg hs (by decide) (by decide) hm (fun w' h => wsh_nil (0 + 298) w' (by decide) (by decide) p c h)
theorem one_odd_64 (neg inf : Bool) (ev : Value) (m1 m2 m3 m4 m5 : Bool) (w : World) (hT : Tab w) (hg : EA.ErrT w) (p : Option Addr) (c : Nat) (hs : Sl .u32 w (.slice p ([] : List Int).length c) [])
    (hm : ∀ w' : World, EA.ErrT w' → Calls Tryz.prog 203 #[.agg #[.bool neg, .bool inf, .bool false, .slice p ([] : List Int).length c, .int .i64 0], ev] w' fun r w'' => r = .returned (.agg #[.int .i64 1, .bool m1, .bool m2, .bool m3, .bool m4, .bool m5]) ∧ Below w'.heap.size w' w'') :
    Calls Tryz.prog 124 #[.int .i64 64, .agg #[.bool neg, .bool inf, .bool false, .slice p ([] : List Int).length c, .int .i64 0], ev] w fun r w' => ∃ a' c', r = .returned (.agg #[.int .i64 1, .bool m1, .bool m2, .bool m3, .bool m4, .bool m5, .int .i64 64, .bool false, .slice a' ([] : List Int).length c']) ∧ Own w' w.heap.size a' c' [] ∧ Below w.heap.size w w' :=
  one_64 neg inf false p c [] 0 ev m1 m2 m3 m4 m5 false [] w hT hg hs (by decide) (by decide) hm (fun w' h => wsh_nil (0 + 2148) w' (by decide) (by decide) p c h)
theorem one_odd (fm : Int) (hfm : fmtB fm = true) (neg inf : Bool) (ev : Value) (m1 m2 m3 m4 m5 : Bool) (w : World) (hT : Tab w) (hg : EA.ErrT w) (p : Option Addr) (c : Nat) (hs : Sl .u32 w (.slice p ([] : List Int).length c) [])
    (hm : ∀ w' : World, EA.ErrT w' → Calls Tryz.prog 203 #[.agg #[.bool neg, .bool inf, .bool false, .slice p ([] : List Int).length c, .int .i64 0], ev] w' fun r w'' => r = .returned (.agg #[.int .i64 1, .bool m1, .bool m2, .bool m3, .bool m4, .bool m5]) ∧ Below w'.heap.size w' w'') :
    Calls Tryz.prog 124 #[.int .i64 fm, .agg #[.bool neg, .bool inf, .bool false, .slice p ([] : List Int).length c, .int .i64 0], ev] w fun r w' => ∃ a' c', r = .returned (.agg #[.int .i64 1, .bool m1, .bool m2, .bool m3, .bool m4, .bool m5, .int .i64 fm, .bool false, .slice a' ([] : List Int).length c']) ∧ Own w' w.heap.size a' c' [] ∧ Below w.heap.size w w' := by
  rcases fmt_cases hfm with rfl | rfl
  · exact one_odd_32 neg inf ev m1 m2 m3 m4 m5 w hT hg p c hs hm
  · exact one_odd_64 neg inf ev m1 m2 m3 m4 m5 w hT hg p c hs hm
end Go.Proofs.YtkfjmcdniohljaaGreatDoor
namespace Go.Proofs.YtkfjmcdniohljaaGreatDoor
set_option linter.unusedVariables false
set_option linter.unusedSimpArgs false
namespace Ld
open Go.RowKit Go.Deep Go.ChangeShapes Go.WideShapes Go.ChangeAt Go.Joins
theorem gEt : Tryz.prog.globalNamed "errors.errorType" = some 2 := by kernel_rfl
theorem gEq : Tryz.prog.globalNamed "loop.example/g00672/impl.errQuiet" = some 0 := by kernel_rfl
theorem gEqType : (Tryz.prog.globals[0]?).map (·.type) = some 100 := by kernel_rfl
theorem rtT : (Tryz.prog.cutTypes.find? (·.1 == "internal/reflectlite.rtype")).map (·.2) = some 233 := by kernel_rfl
theorem sizeT : Tryz.prog.types.size = 278 := by kernel_rfl
theorem oneRow : ((List.range 278).filter fun t => Tryz.prog.rowNamed t [101, 114, 114, 111, 114]) = [100] := by kernel_rfl
theorem handle {W : World} {l : List (String × DataW Unit)} (h : handlesMet Tryz.prog l W) (hm : ("errors.errorType", Rows.laid_errors_errorType) ∈ l) : EA.ErrT W := by
  obtain ⟨name, u, ty, e1, e2, e3, e4, e5⟩ := h _ hm
  have en : name = [101, 114, 114, 111, 114] := (Option.some.inj e1).symm
  subst en
  obtain rfl := Option.some.inj (rtT.symm.trans e2)
  have hm : ty ∈ (List.range 278).filter fun t => Tryz.prog.rowNamed t [101, 114, 114, 111, 114] := List.mem_filter.2 ⟨List.mem_range.2 (by rw [← sizeT]; exact e3), e4⟩
  rw [oneRow] at hm
  obtain rfl := List.mem_singleton.1 hm
  have hh : typeHandle Tryz.prog 100 = .pointer (some ⟨5, 100, none⟩) := by kernel_rfl
  rw [hh] at e5
  simpa using World.var?_cell gEt e5 0
/-- The text of the error for a quiet NaN. -/
def qS : ByteArray := ⟨#[111, 110, 101, 32, 105, 115, 32, 97, 32, 113, 117, 105, 101, 116, 32, 78, 97, 78]⟩
noncomputable def low : Nat := (World.holding Tryz.prog default ⟨#[], #[], []⟩).heap.size
theorem tok_any {H : Type} {enc : TypeId × Value → H} {sp : Nat → Bool} {x : Value} (hx : IsIface x) (w : World) : DataW.trod enc Tryz.prog w 0 sp true 1 100 (#[x] : Array Value).toList = some (tok enc x, []) := by
  cases x <;> simp only [IsIface] at hx <;> (unfold DataW.trod; rw [Tryz.underlying100]; rfl)
theorem star : "*" ++ "errors.errorString" = "*errors.errorString" := by decide
theorem rowE (u : TypeId) (h : Tryz.prog.typeName? 3 u = some "*errors.errorString") : u = 246 :=
  typeName_ptr_named (nm := "errors.errorString") (by rw [star]; kernel_rfl) (by kernel_rfl) (by decide) u (by rw [star]; exact h)
theorem quiet {W : World} (h : laidMet Tryz.prog [("loop.example/g00672/impl.errQuiet", Rows.laid_loop_example_g00672_impl_errQuiet)] W) : ∃ u, ErrQ W u := by
  obtain ⟨ps, ⟨g', t', cs, fuel, p, q, hg', ht', hvar, hd, _, _⟩, _⟩ := h
  obtain rfl := Option.some.inj (gEq.symm.trans hg')
  obtain rfl := Option.some.inj (gEqType.symm.trans ht')
  cases fuel with
  | zero => simp [DataW.trod] at hd
  | succ n =>
    have hcell := World.var?_cell gEq hvar 0
    unfold DataW.trod at hd
    rw [Tryz.underlying100] at hd
    obtain ⟨l⟩ := cs
    match l, hd with
    | [.nilIface], hd => simp [Rows.laid_loop_example_g00672_impl_errQuiet] at hd
    | [.iface u v], hd =>
      simp only at hd
      cases hn : Tryz.prog.typeName? 3 u with
      | none => rw [hn] at hd; simp at hd
      | some name =>
        rw [hn] at hd
        simp only [Option.map_eq_some_iff, Prod.mk.injEq, Rows.laid_loop_example_g00672_impl_errQuiet, DataW.iface.injEq] at hd
        obtain ⟨y, _, ⟨e1, _⟩, _⟩ := hd
        subst e1
        obtain rfl := rowE u hn
        exact ⟨v, by simpa using hcell⟩
theorem all {W : World} (h : laidMetH Tryz.prog [("errors.errorType", Rows.laid_errors_errorType), ("loop.example/g00672/impl.formSizes", Rows.laid_loop_example_g00672_impl_formSizes), ("loop.example/g00672/impl.errQuiet", Rows.laid_loop_example_g00672_impl_errQuiet)] W) : EX W := by
  have h' : laidMet Tryz.prog [("loop.example/g00672/impl.formSizes", Rows.laid_loop_example_g00672_impl_formSizes), ("loop.example/g00672/impl.errQuiet", Rows.laid_loop_example_g00672_impl_errQuiet)] W ∧ handlesMet Tryz.prog [("errors.errorType", Rows.laid_errors_errorType)] W := h
  have h1 := h'.1.filter (fun x => x.1 == "loop.example/g00672/impl.formSizes")
  have h2 := h'.1.filter (fun x => x.1 == "loop.example/g00672/impl.errQuiet")
  obtain ⟨u, hu⟩ := quiet h2
  exact ⟨u, ⟨table h1, handle h'.2 (List.mem_singleton.2 rfl), hu⟩⟩
end Ld
open Go.RowKit Go.Deep
theorem addi_no (fm : Int) (ng : Bool) (T : Int) (nn bd pl mi am : Bool) (p : Option Addr) (cap : Nat) (zs : List Int) (x : Int) (w : World) (hT : Tab w) (hs : Sl .u32 w (.slice p zs.length cap) zs) (hl : zs.length ≤ 1048576) (x0 : 0 ≤ x) (x1 : x < 18446744073709551616) (c : Int) (hc : c = tcC (accB fm ng zs T nn bd pl mi am) (okF fm x) T) (hc0 : c ≠ 0) :
    Calls Tryz.prog 33 #[.agg #[.int .i64 fm, .bool ng, .slice p zs.length cap, .int .i64 T, .bool nn, .bool bd, .bool pl, .bool mi, .bool am], .int .u64 x] w fun r w' => r = .returned (.tuple #[A0, .int .i64 c]) ∧ Below w.heap.size w w' := by
  have dx : D64 [x] := fun z hz => by rw [List.mem_singleton.1 hz]; exact ⟨x0, x1⟩
  have hall : allB fm [x] = okF fm x := by unfold allB; rw [List.all_cons]; simp
  have CC := hid (fun q qc w' h h' h'' => tcode fm ng T nn bd pl mi am p cap zs q qc [x] w' h h' hl h'' dx (by simp) c (by rw [hall]; exact hc))
  have hne : (c != 0) = true := by simpa using hc0
  clear hc hc0 hall dx
  have Q := (Q9.new w (.int .i64 fm) (.bool ng) (.slice p zs.length cap) (.int .i64 T) (.bool nn) (.bool bd) (.bool pl) (.bool mi) (.bool am) 50).alloc (.cells #[.int .i64 0, .bool false, .slice none 0 0, .int .i64 0, .bool false, .bool false, .bool false, .bool false, .bool false] 50)
  have R := Q9.nwn w (.cells #[.int .i64 fm, .bool ng, .slice p zs.length cap, .int .i64 T, .bool nn, .bool bd, .bool pl, .bool mi, .bool am] 50) (.int .i64 0) (.bool false) (.slice none 0 0) (.int .i64 0) (.bool false) (.bool false) (.bool false) (.bool false) (.bool false) 50
  have bel0 : Below w.heap.size w ((w.alloc (.cells #[.int .i64 fm, .bool ng, .slice p zs.length cap, .int .i64 T, .bool nn, .bool bd, .bool pl, .bool mi, .bool am] 50)).alloc (.cells #[.int .i64 0, .bool false, .slice none 0 0, .int .i64 0, .bool false, .bool false, .bool false, .bool false, .bool false] 50)) := (by repeat (first | exact bz0 _ _ | refine bz1 ?_ | refine bz2 ?_ _ | refine bz3 ?_ _ | refine bz5 ?_ _ | refine bz6 ?_ _))
  obtain ⟨c0, c1, c2, c3, c4, c5, c6, c7, c8⟩ := Q.cs
  go_enter Tryz.func33, Tryz.ntmps33
  go_wp2_with fail
  have hA : Below w.heap.size w (((w.alloc (.cells #[.int .i64 fm, .bool ng, .slice p zs.length cap, .int .i64 T, .bool nn, .bool bd, .bool pl, .bool mi, .bool am] 50)).alloc (.cells #[.int .i64 0, .bool false, .slice none 0 0, .int .i64 0, .bool false, .bool false, .bool false, .bool false, .bool false] 50)).alloc (.cells #[.int .u64 x] 22)) := bel_al bel0 _
  have hxx : Sl .u64 (((w.alloc (.cells #[.int .i64 fm, .bool ng, .slice p zs.length cap, .int .i64 T, .bool nn, .bool bd, .bool pl, .bool mi, .bool am] 50)).alloc (.cells #[.int .i64 0, .bool false, .slice none 0 0, .int .i64 0, .bool false, .bool false, .bool false, .bool false, .bool false] 50)).alloc (.cells #[.int .u64 x] 22)) (.slice (some ⟨w.heap.size + 1 + 1, 0, none⟩) [x].length 1) [x] := ⟨some ⟨w.heap.size + 1 + 1, 0, none⟩, 1, rfl, Nat.le_refl _, by unfold maxLen; omega, .inr ⟨w.heap.size + 1 + 1, 0, rfl, fun i hi => by
    have : i = 0 := by simpa using hi
    subst this; exact cell_top _ _ _ _ (by simp)⟩⟩
  refine (CC.out (some ⟨w.heap.size + 1 + 1, 0, none⟩) 1 _ (hT.below hA) (hs.below hA) hxx).mono ?_
  rintro r w1 ⟨rfl, hb1⟩
  clear c0 c1 c2 c3 c4 c5 c6 c7 c8 hxx
  obtain ⟨r0, r1, r2, r3, r4, r5, r6, r7, r8, g0, g1, g2, g3, g4, g5, g6, g7, g8⟩ := (R.alloc (.cells #[.int .u64 x] 22)).below hb1
  have bel1 := bel_go hA hb1
  go_wp2
  refine bodyPost_ret (v := .tuple #[A0, .int .i64 c]) (by simp [results, Tryz.results33, go_sem, r0, r1, r2, r3, r4, r5, r6, r7, r8, A0]) rfl ⟨rfl, ?_⟩
  exact (by (repeat with_reducible first | refine Below.setCell ?_ ?_ _ | exact bz0 _ _ | refine bz1 ?_ | refine bz2 ?_ _ | refine bz3 ?_ _ | refine bz4 ?_ bel1 | refine Below.alloc ?_ ?_ _ | refine Below.trans ?_ (Below.mono bel1 ?_)) <;> first | omega | (simp; done) | (simp; omega))
/-- What the program says of a signalling NaN. -/
def sgS : ByteArray := ⟨#[111, 110, 101, 32, 105, 115, 32, 97, 32, 115, 105, 103, 110, 97, 108, 108, 105, 110, 103, 32, 78, 97, 78]⟩
theorem num_sig2 (fm x : Int) (w : World) (hT : Tab w) (h0 : 0 ≤ x) (h1 : x < 18446744073709551616) (hc : cls fm x = 5) :
    Calls Tryz.prog 90 #[.int .i64 fm, .int .u64 x] w fun e w' => e = .returned (.tuple #[.agg #[.bool false, .bool false, .bool false, .slice none 0 0, .int .i64 0], .iface 179 (.agg #[.iface 181 (.agg #[.string sgS])])]) ∧ Below w.heap.size w w' := by
  have C := hid (fun w' h => impl_cls fm x w' h h0 h1)
  rw [hc] at C
  clear hc
  have Q := Q5.new w (.bool false) (.bool false) (.bool false) (.slice none 0 0) (.int .i64 0) 98
  go_enter Tryz.func90, Tryz.ntmps90
  go_wp2_with fail
  refine (C.out _ (hT.below ((Below.refl _ _).alloc (Nat.le_refl _) _))).mono ?_
  rintro e w1 ⟨rfl, hb1⟩
  obtain ⟨r0, r1, r2, r3, r4, f0, f1, f2, f3, f4⟩ := Q.below hb1
  clear Q
  go_wp2
  refine bodyPost_ret (by simp [results, Tryz.results90, go_sem, r0, r1, r2, r3, r4]; rfl) rfl ⟨rfl, ?_⟩
  exact (by (repeat with_reducible first | refine Below.setCell ?_ ?_ _ | exact bz0 _ _ | refine bz1 ?_ | refine bz2 ?_ _ | refine bz3 ?_ _ | refine bz4 ?_ hb1 | refine Below.alloc ?_ ?_ _ | refine Below.trans ?_ (Below.mono hb1 ?_)) <;> first | omega | (simp; done) | (simp; omega))
theorem cls_six {fm x : Int} (h : okF fm x = true) : finB fm x = true ∨ cls fm x = 3 ∨ cls fm x = 4 ∨ cls fm x = 5 := by
  have h1 := cls_rng fm x
  by_cases hf : 0 ≤ cls fm x ∧ cls fm x ≤ 2
  · exact .inl (by unfold finB; exact decide_eq_true hf)
  · have : cls fm x ≠ -1 := by
      intro e
      cases hn : nanB fm x
      · have := cls_num h hn; omega
      · have := cls_nan h hn; omega
    omega
theorem amW_no (T : Int) (am : Bool) : amW T am 1 false = false := by unfold amW; simp
theorem one_fin_32 (x : Int) (hf : finB 32 x = true) (G : Bool) (L : List Int) (hG : G = Nm.wn (if pS 32 x then -pM 32 x else pM 32 x)) (hL : L = Nm.wl (if pS 32 x then -pM 32 x else pM 32 x)) (m5 : Bool) (hm5 : m5 = (decide (L.length = 0) && pS 32 x)) (p : Option Addr) (c : Nat) (w : World) (hT : Tab w) (hg : EA.ErrT w) (hs : Sl .u32 w (.slice p L.length c) L) :
    Calls Tryz.prog 124 #[.int .i64 32, .agg #[.bool (pS 32 x), .bool false, .bool G, .slice p L.length c, .int .i64 (pE 32 x)], .nilIface] w fun r w' => ∃ a' c', r = .returned (.agg #[.int .i64 1, .bool false, .bool false, .bool false, .bool false, .bool m5, .int .i64 32, .bool (Nm.wn (tmV 32 x)), .slice a' (Nm.wl (tmV 32 x)).length c']) ∧ Own w' w.heap.size a' c' (Nm.wl (tmV 32 x)) ∧ Below w.heap.size w w' := by
  obtain ⟨e1, e2⟩ := tm_eq hf
  have hE := pE_bd 32 x
  have hM := pM_bd 32 x
  have hl2 : L.length ≤ 200 := by rw [hL]; unfold Nm.wl; have := lim_two (x := (if pS 32 x then -pM 32 x else pM 32 x).natAbs) (by cases pS 32 x <;> simp <;> omega); omega
  have hd : Nm.Dg L := by rw [hL]; exact Nm.wl_dg _
  have ho : okB G L = true := by rw [hG, hL]; exact okB_wl (by rw [← hL]; exact hl2)
  have hV : tmV 32 x = Nm.shV G (Nm.val L) (pE 32 x + 298) := by
    rw [e1, hG, hL]; congr 1
  refine one_32 (pS 32 x) false G p c L (pE 32 x) .nilIface false false false false m5 (Nm.wn (tmV 32 x)) (Nm.wl (tmV 32 x)) w hT hg hs (by omega) (by omega) (fun w' hg' => ?_) (fun w' h => wsh_at G p c L (pE 32 x + 298) w' h hd ho (by omega) (by omega) (tmV 32 x) hV (wl_len (by omega)))
  by_cases h0 : L.length = 0
  · rw [hm5, decide_eq_true h0, Bool.true_and]
    exact mk_zero (pS 32 x) G p L.length c (pE 32 x) w' hg' (by omega) h0
  · rw [hm5, decide_eq_false h0, Bool.false_and]
    exact mk_fin (pS 32 x) G p L.length c (pE 32 x) w' hg' (by omega) h0
theorem one_fin_64 (x : Int) (hf : finB 64 x = true) (G : Bool) (L : List Int) (hG : G = Nm.wn (if pS 64 x then -pM 64 x else pM 64 x)) (hL : L = Nm.wl (if pS 64 x then -pM 64 x else pM 64 x)) (m5 : Bool) (hm5 : m5 = (decide (L.length = 0) && pS 64 x)) (p : Option Addr) (c : Nat) (w : World) (hT : Tab w) (hg : EA.ErrT w) (hs : Sl .u32 w (.slice p L.length c) L) :
    Calls Tryz.prog 124 #[.int .i64 64, .agg #[.bool (pS 64 x), .bool false, .bool G, .slice p L.length c, .int .i64 (pE 64 x)], .nilIface] w fun r w' => ∃ a' c', r = .returned (.agg #[.int .i64 1, .bool false, .bool false, .bool false, .bool false, .bool m5, .int .i64 64, .bool (Nm.wn (tmV 64 x)), .slice a' (Nm.wl (tmV 64 x)).length c']) ∧ Own w' w.heap.size a' c' (Nm.wl (tmV 64 x)) ∧ Below w.heap.size w w' := by
  obtain ⟨e1, e2⟩ := tm_eq hf
  have hE := pE_bd 64 x
  have hM := pM_bd 64 x
  have hl2 : L.length ≤ 200 := by rw [hL]; unfold Nm.wl; have := lim_two (x := (if pS 64 x then -pM 64 x else pM 64 x).natAbs) (by cases pS 64 x <;> simp <;> omega); omega
  have hd : Nm.Dg L := by rw [hL]; exact Nm.wl_dg _
  have ho : okB G L = true := by rw [hG, hL]; exact okB_wl (by rw [← hL]; exact hl2)
  have hV : tmV 64 x = Nm.shV G (Nm.val L) (pE 64 x + 2148) := by
    rw [e1, hG, hL]; congr 1
  refine one_64 (pS 64 x) false G p c L (pE 64 x) .nilIface false false false false m5 (Nm.wn (tmV 64 x)) (Nm.wl (tmV 64 x)) w hT hg hs (by omega) (by omega) (fun w' hg' => ?_) (fun w' h => wsh_at G p c L (pE 64 x + 2148) w' h hd ho (by omega) (by omega) (tmV 64 x) hV (wl_len (by omega)))
  by_cases h0 : L.length = 0
  · rw [hm5, decide_eq_true h0, Bool.true_and]
    exact mk_zero (pS 64 x) G p L.length c (pE 64 x) w' hg' (by omega) h0
  · rw [hm5, decide_eq_false h0, Bool.false_and]
    exact mk_fin (pS 64 x) G p L.length c (pE 64 x) w' hg' (by omega) h0
end Go.Proofs.YtkfjmcdniohljaaGreatDoor
