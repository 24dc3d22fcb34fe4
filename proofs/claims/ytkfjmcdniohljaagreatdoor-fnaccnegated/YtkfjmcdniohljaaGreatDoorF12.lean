/-
  What is needed of Laid, AD, EB, ED.
-/
import Derived.Test.YtkfjmcdniohljaaGreatDoorCards
import Derived.Test.YtkfjmcdniohljaaGreatDoorTie
import Derived.ProofKit
import Derived.OpenShut
import Derived.WalkSmall
import Derived.Deep.DeepHandedRow
import Derived.Deep.Strs
import Derived.Lib.LaidTab
import Derived.LaidEql
import Derived.Stop.Asserts
import Derived.RowKitTokens
import Derived.Deep.DeepCutAuto
import Derived.Test.YtkfjmcdniohljaaGreatDoorF03
import Derived.Test.YtkfjmcdniohljaaGreatDoorF06
set_option maxHeartbeats 16000000
set_option maxRecDepth 1000000
namespace Go.Proofs.YtkfjmcdniohljaaGreatDoor
set_option linter.unusedVariables false
set_option linter.unusedSimpArgs false
namespace Ld
open Go.RowKit Go.Deep
theorem own : ownKnob Tryz.prog.godebug = none := by kernel_rfl
theorem laidOut : laidOutB Tryz.prog = true := by kernel_rfl
theorem gTab : Tryz.prog.globalNamed "loop.example/g00672/impl.formSizes" = some 1 := by kernel_rfl
theorem gTabType : (Tryz.prog.globals[1]?).map (·.type) = some 187 := by kernel_rfl
theorem cellsS : Tryz.prog.cellsOf 121 = 3 := by kernel_rfl
theorem cellsU : Tryz.prog.cellsOf 22 = 1 := by kernel_rfl
theorem cellsI : Tryz.prog.cellsOf 2 = 1 := by kernel_rfl

theorem lt_of_var {P : Program} {w : World} {n : String} {g : Nat} {cs : Array Value} (hg : P.globalNamed n = some g) (h : w.var? P n = some cs) : g < w.heap.size := by
 simp only [World.var?, hg, Option.bind_some] at h
 by_cases hlt : g < w.heap.size
 ·exact hlt
 ·rw [Array.getElem?_eq_none (by omega)] at h; simp at h

theorem three {H : Type} {enc : TypeId × Value → H} {w : World} {base : Nat} {sp : Nat → Bool} {held : Bool} {m : Nat} {cs : List Value} {a b c : Int} {q : List MemPlace}
  (h : DataW.trod enc Tryz.prog w base sp held m 121 cs = some (.agg [.lit (.int .u64 a), .lit (.int .u64 b), .lit (.int .i64 c)], q)) :
  cs[0]? = some (.int .u64 a) ∧ cs[1]? = some (.int .u64 b) ∧ cs[2]? = some (.int .i64 c) := by
 obtain ⟨y0, y1, y2, n, hx, hl, h0, h1, h2⟩ := trod_struct3 Tryz.underlying121 h
 obtain ⟨n0, e0, rfl, _⟩ := DataW.trod_int Tryz.underlying22 h0
 obtain ⟨n1, e1, rfl, _⟩ := DataW.trod_int Tryz.underlying22 h1
 obtain ⟨n2, e2, rfl, _⟩ := DataW.trod_int Tryz.underlying2 h2
 simp only [Prod.mk.injEq, DataW.agg.injEq, List.cons.injEq, DataW.lit.injEq, Lit.int.injEq, true_and, and_true] at hx
 obtain ⟨⟨rfl, rfl, rfl⟩, _⟩ := hx
 simp only [cellsU, cellsI] at e0 e1 e2
 refine ⟨?_, ?_, ?_⟩
 ·have := congrArg (·[0]?) e0; simpa [List.getElem?_take, List.getElem?_drop] using this
 ·have := congrArg (·[0]?) e1; simpa [List.getElem?_take, List.getElem?_drop] using this
 ·have := congrArg (·[0]?) e2; simpa [List.getElem?_take, List.getElem?_drop] using this

theorem table {W : World} (h : laidMet Tryz.prog [("loop.example/g00672/impl.formSizes", Rows.laid_loop_example_g00672_impl_formSizes)] W) : Tab W := by
 obtain ⟨ps, ⟨g', t', cs, fuel, p, q, hg', ht', hvar, hd, _, _⟩, _⟩ := h
 obtain rfl := Option.some.inj (gTab.symm.trans hg')
 obtain rfl := Option.some.inj (gTabType.symm.trans ht')
 obtain ⟨xs, m, rfl, hx, hlen, hxl, hel⟩ := DataW.trod_array Tryz.underlying187 hd
 match xs, hxl with
 | [x0, x1, x2], _ =>
  simp only [Rows.laid_loop_example_g00672_impl_formSizes, Prod.mk.injEq, DataW.agg.injEq, List.map_cons, List.map_nil, List.cons.injEq, and_true] at hx
  obtain ⟨⟨hx0, hx1, hx2⟩, _⟩ := hx
  have t0 := hel 0 (by decide); have t1 := hel 1 (by decide); have t2 := hel 2 (by decide)
  simp only [cellsS, List.getElem?_cons_zero, List.getElem?_cons_succ] at t0 t1 t2
  obtain ⟨x0a, x0b⟩ := x0; obtain ⟨x1a, x1b⟩ := x1; obtain ⟨x2a, x2b⟩ := x2
  simp only at hx0 hx1 hx2
  subst hx0; subst hx1; subst hx2
  have r0 := three t0; have r1 := three t1; have r2 := three t2
  have cell : ∀ i v, cs.toList[i]? = some v → W.cell? ⟨1, i, none⟩ = some v := fun i v hv => by
   rw [World.var?_cell gTab hvar i]; simpa using hv
  simp [List.getElem?_take, List.getElem?_drop] at r0 r1 r2
  exact ⟨cell 0 _ (by simpa using r0.1), cell 1 _ (by simpa using r0.2.1), cell 2 _ (by simpa using r0.2.2), cell 3 _ (by simpa using r1.1), cell 4 _ (by simpa using r1.2.1), cell 5 _ (by simpa using r1.2.2), cell 6 _ (by simpa using r2.1), cell 7 _ (by simpa using r2.2.1), cell 8 _ (by simpa using r2.2.2)⟩
end Ld
open Go.RowKit Go.Deep
theorem Q9.nw2b (w : World) (o : Obj) (v0 v1 v2 v3 v4 v5 v6 v7 v8 : Value) (t : TypeId) : Q9 ((w.alloc o).alloc (.cells #[v0, v1, v2, v3, v4, v5, v6, v7, v8] t)) (w.heap.size + 1) v0 v1 v2 v3 v4 v5 v6 v7 v8 := by simpa using Q9.new (w.alloc o) v0 v1 v2 v3 v4 v5 v6 v7 v8 t
theorem zero7 (fm : Int) (ng : Bool) (T : Int) (nn bd pl mi am : Bool) (p : Option Addr) (n cap : Nat) (zr neg : Bool) (w : World) (h0 : 0 ≤ T) (h1 : T ≤ 1000000) (T2 : Int) (hT2 : T2 = T + 1) (a2 : Bool) (ha2 : a2 = (zr && neg && (am || decide (T = 0)))) :
  Calls Tryz.prog 134 #[.agg #[.int .i64 fm, .bool ng, .slice p n cap, .int .i64 T, .bool nn, .bool bd, .bool pl, .bool mi, .bool am], .bool zr, .bool neg] w fun e w' => e = .returned (.agg #[.int .i64 fm, .bool ng, .slice p n cap, .int .i64 T2, .bool nn, .bool bd, .bool pl, .bool mi, .bool a2]) ∧ Below w.heap.size w w' := by
 have hd1 : (T == 0) = decide (T = 0) := by rw [Bool.eq_iff_iff, beq_iff_eq, decide_eq_true_eq]
 obtain ⟨d1, e1'⟩ : ∃ d1, d1 = decide (T = 0) := ⟨_, rfl⟩
 rw [← e1'] at hd1 ha2
 clear e1'
 have hwr : IntKind.i64.wrap (T + 1) = T2 := by rw [IntKind.wrap_i64]; omega
 have HT2 := hid hT2
 clear hT2
 cases zr with
 | false =>
  have ha : a2 = false := ha2
  subst ha
  clear ha2
  go_enter Tryz.func134, Tryz.ntmps134
  go_wp2
  refine bodyPost_ret (v := .agg #[.int .i64 fm, .bool ng, .slice p n cap, .int .i64 T2, .bool nn, .bool bd, .bool pl, .bool mi, .bool false]) (by simp [results, Tryz.results134, go_sem, HT2.out]) rfl ⟨rfl, ?_⟩
  exact (by (repeat with_reducible first | refine Below.setCell ?_ ?_ _ | exact bz0 _ _ | refine bz1 ?_ | refine bz2 ?_ _ | refine bz3 ?_ _ | refine Below.alloc ?_ ?_ _) <;> first | omega | (simp; done) | (simp; omega))
 | true =>
 cases neg with
 | false =>
  have ha : a2 = false := ha2
  subst ha
  clear ha2
  go_enter Tryz.func134, Tryz.ntmps134
  go_wp2
  refine bodyPost_ret (v := .agg #[.int .i64 fm, .bool ng, .slice p n cap, .int .i64 T2, .bool nn, .bool bd, .bool pl, .bool mi, .bool false]) (by simp [results, Tryz.results134, go_sem, HT2.out]) rfl ⟨rfl, ?_⟩
  exact (by (repeat with_reducible first | refine Below.setCell ?_ ?_ _ | exact bz0 _ _ | refine bz1 ?_ | refine bz2 ?_ _ | refine bz3 ?_ _ | refine Below.alloc ?_ ?_ _) <;> first | omega | (simp; done) | (simp; omega))
 | true =>
 cases am with
 | true =>
  have ha : a2 = true := ha2
  subst ha
  clear ha2
  go_enter Tryz.func134, Tryz.ntmps134
  go_wp2
  refine bodyPost_ret (v := .agg #[.int .i64 fm, .bool ng, .slice p n cap, .int .i64 T2, .bool nn, .bool bd, .bool pl, .bool mi, .bool true]) (by simp [results, Tryz.results134, go_sem, HT2.out]) rfl ⟨rfl, ?_⟩
  exact (by (repeat with_reducible first | refine Below.setCell ?_ ?_ _ | exact bz0 _ _ | refine bz1 ?_ | refine bz2 ?_ _ | refine bz3 ?_ _ | refine Below.alloc ?_ ?_ _) <;> first | omega | (simp; done) | (simp; omega))
 | false =>
  have ha : a2 = d1 := by rw [ha2]; cases d1 <;> rfl
  subst ha
  clear ha2
  go_enter Tryz.func134, Tryz.ntmps134
  go_wp2
  refine bodyPost_ret (v := .agg #[.int .i64 fm, .bool ng, .slice p n cap, .int .i64 T2, .bool nn, .bool bd, .bool pl, .bool mi, .bool a2]) (by simp [results, Tryz.results134, go_sem, HT2.out]) rfl ⟨rfl, ?_⟩
  exact (by (repeat with_reducible first | refine Below.setCell ?_ ?_ _ | exact bz0 _ _ | refine bz1 ?_ | refine bz2 ?_ _ | refine bz3 ?_ _ | refine Below.alloc ?_ ?_ _) <;> first | omega | (simp; done) | (simp; omega))
theorem Q9.set4' {w : World} {b : Nat} {v0 v1 v2 v3 v4 v5 v6 v7 v8 : Value} (h : Q9 w b v0 v1 v2 v3 v4 v5 v6 v7 v8) (u : Value) : Q9 (w.setCell ⟨b, 4, none⟩ u) b v0 v1 v2 v3 u v5 v6 v7 v8 := by
 obtain ⟨c0, c1, c2, c3, c4, c5, c6, c7, c8, f0, f1, f2, f3, f4, f5, f6, f7, f8⟩ := h
 exact ⟨by simp [go_sem, c0, c4], by simp [go_sem, c1, c4], by simp [go_sem, c2, c4], by simp [go_sem, c3, c4], by simp [go_sem, c4, c4], by simp [go_sem, c5, c4], by simp [go_sem, c6, c4], by simp [go_sem, c7, c4], by simp [go_sem, c8, c4], by simp [go_sem, f0], by simp [go_sem, f1], by simp [go_sem, f2], by simp [go_sem, f3], by simp [go_sem, f4], by simp [go_sem, f5], by simp [go_sem, f6], by simp [go_sem, f7], by simp [go_sem, f8]⟩
theorem Q9.set5' {w : World} {b : Nat} {v0 v1 v2 v3 v4 v5 v6 v7 v8 : Value} (h : Q9 w b v0 v1 v2 v3 v4 v5 v6 v7 v8) (u : Value) : Q9 (w.setCell ⟨b, 5, none⟩ u) b v0 v1 v2 v3 v4 u v6 v7 v8 := by
 obtain ⟨c0, c1, c2, c3, c4, c5, c6, c7, c8, f0, f1, f2, f3, f4, f5, f6, f7, f8⟩ := h
 exact ⟨by simp [go_sem, c0, c5], by simp [go_sem, c1, c5], by simp [go_sem, c2, c5], by simp [go_sem, c3, c5], by simp [go_sem, c4, c5], by simp [go_sem, c5, c5], by simp [go_sem, c6, c5], by simp [go_sem, c7, c5], by simp [go_sem, c8, c5], by simp [go_sem, f0], by simp [go_sem, f1], by simp [go_sem, f2], by simp [go_sem, f3], by simp [go_sem, f4], by simp [go_sem, f5], by simp [go_sem, f6], by simp [go_sem, f7], by simp [go_sem, f8]⟩
theorem Q9.set6' {w : World} {b : Nat} {v0 v1 v2 v3 v4 v5 v6 v7 v8 : Value} (h : Q9 w b v0 v1 v2 v3 v4 v5 v6 v7 v8) (u : Value) : Q9 (w.setCell ⟨b, 6, none⟩ u) b v0 v1 v2 v3 v4 v5 u v7 v8 := by
 obtain ⟨c0, c1, c2, c3, c4, c5, c6, c7, c8, f0, f1, f2, f3, f4, f5, f6, f7, f8⟩ := h
 exact ⟨by simp [go_sem, c0, c6], by simp [go_sem, c1, c6], by simp [go_sem, c2, c6], by simp [go_sem, c3, c6], by simp [go_sem, c4, c6], by simp [go_sem, c5, c6], by simp [go_sem, c6, c6], by simp [go_sem, c7, c6], by simp [go_sem, c8, c6], by simp [go_sem, f0], by simp [go_sem, f1], by simp [go_sem, f2], by simp [go_sem, f3], by simp [go_sem, f4], by simp [go_sem, f5], by simp [go_sem, f6], by simp [go_sem, f7], by simp [go_sem, f8]⟩
theorem Q9.set7' {w : World} {b : Nat} {v0 v1 v2 v3 v4 v5 v6 v7 v8 : Value} (h : Q9 w b v0 v1 v2 v3 v4 v5 v6 v7 v8) (u : Value) : Q9 (w.setCell ⟨b, 7, none⟩ u) b v0 v1 v2 v3 v4 v5 v6 u v8 := by
 obtain ⟨c0, c1, c2, c3, c4, c5, c6, c7, c8, f0, f1, f2, f3, f4, f5, f6, f7, f8⟩ := h
 exact ⟨by simp [go_sem, c0, c7], by simp [go_sem, c1, c7], by simp [go_sem, c2, c7], by simp [go_sem, c3, c7], by simp [go_sem, c4, c7], by simp [go_sem, c5, c7], by simp [go_sem, c6, c7], by simp [go_sem, c7, c7], by simp [go_sem, c8, c7], by simp [go_sem, f0], by simp [go_sem, f1], by simp [go_sem, f2], by simp [go_sem, f3], by simp [go_sem, f4], by simp [go_sem, f5], by simp [go_sem, f6], by simp [go_sem, f7], by simp [go_sem, f8]⟩
theorem special7 (fm : Int) (ng : Bool) (T : Int) (nn bd pl mi am : Bool) (p : Option Addr) (n cap : Nat) (nan bad neg : Bool) (w : World) (h0 : 0 ≤ T) (h1 : T ≤ 1000000) (T2 : Int) (hT2 : T2 = T + 1) (n2 b2 p2 m2 : Bool) (hn2 : n2 = (nn || nan)) (hb2 : b2 = (bd || bad)) (hp2 : p2 = (pl || (!nan && !neg))) (hm2 : m2 = (mi || (!nan && neg))) :
  Calls Tryz.prog 130 #[.agg #[.int .i64 fm, .bool ng, .slice p n cap, .int .i64 T, .bool nn, .bool bd, .bool pl, .bool mi, .bool am], .bool nan, .bool bad, .bool neg] w fun e w' => e = .returned (.agg #[.int .i64 fm, .bool ng, .slice p n cap, .int .i64 T2, .bool n2, .bool b2, .bool p2, .bool m2, .bool false]) ∧ Below w.heap.size w w' := by
 have CZ := hid (fun w' => zero7 fm ng T n2 b2 p2 m2 am p n cap false false w' h0 h1 T2 hT2 false rfl)
 have H4 := hid hn2
 have H5 := hid hb2
 have H6 := hid hp2
 have H7 := hid hm2
 clear hn2 hb2 hp2 hm2 hT2
 have Q := (Q9.new w (.int .i64 fm) (.bool ng) (.slice p n cap) (.int .i64 T) (.bool nn) (.bool bd) (.bool pl) (.bool mi) (.bool am) 50).alloc (.cells #[.int .i64 0, .bool false, .slice none 0 0, .int .i64 0, .bool false, .bool false, .bool false, .bool false, .bool false] 50)
 have R := Q9.nw2b w (.cells #[.int .i64 fm, .bool ng, .slice p n cap, .int .i64 T, .bool nn, .bool bd, .bool pl, .bool mi, .bool am] 50) (.int .i64 0) (.bool false) (.slice none 0 0) (.int .i64 0) (.bool false) (.bool false) (.bool false) (.bool false) (.bool false) 50
 have bel : Below w.heap.size w ((w.alloc (.cells #[.int .i64 fm, .bool ng, .slice p n cap, .int .i64 T, .bool nn, .bool bd, .bool pl, .bool mi, .bool am] 50)).alloc (.cells #[.int .i64 0, .bool false, .slice none 0 0, .int .i64 0, .bool false, .bool false, .bool false, .bool false, .bool false] 50)) := (by repeat (first | exact bz0 _ _ | refine bz1 ?_ | refine bz2 ?_ _ | refine bz3 ?_ _ | refine bz5 ?_ _ | refine bz6 ?_ _))
 go_enter Tryz.func130, Tryz.ntmps130
 go_upto_region 1 with fail
 obtain ⟨W, hW⟩ : ∃ W, W = (w.alloc (.cells #[.int .i64 fm, .bool ng, .slice p n cap, .int .i64 T, .bool nn, .bool bd, .bool pl, .bool mi, .bool am] 50)).alloc (.cells #[.int .i64 0, .bool false, .slice none 0 0, .int .i64 0, .bool false, .bool false, .bool false, .bool false, .bool false] 50) := ⟨_, rfl⟩
 rw [← hW] at Q R bel ⊢
 clear hW
 go_cut [] (fun wx => Q9 wx w.heap.size (.int .i64 fm) (.bool ng) (.slice p n cap) (.int .i64 T) (.bool n2) (.bool bd) (.bool pl) (.bool mi) (.bool am) ∧ Q9 wx (w.heap.size + 1) (.int .i64 0) (.bool false) (.slice none 0 0) (.int .i64 0) (.bool false) (.bool false) (.bool false) (.bool false) (.bool false) ∧ Below w.heap.size w wx)
 case first =>
  have e1 := Q.c4
  have e2 := Q.f4
  cases nn with
  | true =>
   go_wp2_with fail; go_meet; (have hh := H4.out; simp at hh; subst hh; exact ⟨Q.set4' _, R.other (by simp) _, bel.setCell (by simp) _⟩)
  | false =>
   go_wp2_with fail; go_meet; (have hh := H4.out; simp at hh; subst hh; exact ⟨Q.set4' _, R.other (by simp) _, bel.setCell (by simp) _⟩)
 case rest =>
 clear Q R bel
 rename World => wx1
 obtain ⟨Q, R, bel⟩ := hcut
 go_upto_region 2 with fail
 go_cut [] (fun wx => Q9 wx w.heap.size (.int .i64 fm) (.bool ng) (.slice p n cap) (.int .i64 T) (.bool n2) (.bool b2) (.bool pl) (.bool mi) (.bool am) ∧ Q9 wx (w.heap.size + 1) (.int .i64 0) (.bool false) (.slice none 0 0) (.int .i64 0) (.bool false) (.bool false) (.bool false) (.bool false) (.bool false) ∧ Below w.heap.size w wx)
 case first =>
  have e1 := Q.c5
  have e2 := Q.f5
  cases bd with
  | true =>
   go_wp2_with fail; go_meet; (have hh := H5.out; simp at hh; subst hh; exact ⟨Q.set5' _, R.other (by simp) _, bel.setCell (by simp) _⟩)
  | false =>
   go_wp2_with fail; go_meet; (have hh := H5.out; simp at hh; subst hh; exact ⟨Q.set5' _, R.other (by simp) _, bel.setCell (by simp) _⟩)
 case rest =>
 clear Q R bel
 rename World => wx2
 obtain ⟨Q, R, bel⟩ := hcut
 go_upto_region 3 with fail
 go_cut [] (fun wx => Q9 wx w.heap.size (.int .i64 fm) (.bool ng) (.slice p n cap) (.int .i64 T) (.bool n2) (.bool b2) (.bool p2) (.bool mi) (.bool am) ∧ Q9 wx (w.heap.size + 1) (.int .i64 0) (.bool false) (.slice none 0 0) (.int .i64 0) (.bool false) (.bool false) (.bool false) (.bool false) (.bool false) ∧ Below w.heap.size w wx)
 case first =>
  have e1 := Q.c6
  have e2 := Q.f6
  cases pl with
  | true =>
   go_wp2_with fail; go_meet; (have hh := H6.out; simp at hh; subst hh; exact ⟨Q.set6' _, R.other (by simp) _, bel.setCell (by simp) _⟩)
  | false =>
   cases nan with
   | true =>
    go_wp2_with fail; go_meet; (have hh := H6.out; simp at hh; subst hh; exact ⟨Q.set6' _, R.other (by simp) _, bel.setCell (by simp) _⟩)
   | false =>
    go_wp2_with fail; go_meet; (have hh := H6.out; simp at hh; subst hh; exact ⟨Q.set6' _, R.other (by simp) _, bel.setCell (by simp) _⟩)
 case rest =>
 clear Q R bel
 rename World => wx3
 obtain ⟨Q, R, bel⟩ := hcut
 go_upto_region 4 with fail
 go_cut [] (fun wx => Q9 wx w.heap.size (.int .i64 fm) (.bool ng) (.slice p n cap) (.int .i64 T) (.bool n2) (.bool b2) (.bool p2) (.bool m2) (.bool am) ∧ Q9 wx (w.heap.size + 1) (.int .i64 0) (.bool false) (.slice none 0 0) (.int .i64 0) (.bool false) (.bool false) (.bool false) (.bool false) (.bool false) ∧ Below w.heap.size w wx)
 case first =>
  have e1 := Q.c7
  have e2 := Q.f7
  cases mi with
  | true =>
   go_wp2_with fail; go_meet; (have hh := H7.out; simp at hh; subst hh; exact ⟨Q.set7' _, R.other (by simp) _, bel.setCell (by simp) _⟩)
  | false =>
   cases nan with
   | true =>
    go_wp2_with fail; go_meet; (have hh := H7.out; simp at hh; subst hh; exact ⟨Q.set7' _, R.other (by simp) _, bel.setCell (by simp) _⟩)
   | false =>
    go_wp2_with fail; go_meet; (have hh := H7.out; simp at hh; subst hh; exact ⟨Q.set7' _, R.other (by simp) _, bel.setCell (by simp) _⟩)
 case rest =>
 clear Q R bel
 rename World => wx4
 obtain ⟨Q, R, bel⟩ := hcut
 obtain ⟨c0, c1, c2, c3, c4, c5, c6, c7, c8⟩ := Q.cs
 go_wp2_with fail
 refine (CZ.out _).mono ?_
 rintro e w5 ⟨rfl, hb5⟩
 clear c0 c1 c2 c3 c4 c5 c6 c7 c8
 obtain ⟨r0, r1, r2, r3, r4, r5, r6, r7, r8, f0, f1, f2, f3, f4, f5, f6, f7, f8⟩ := R.below hb5
 go_wp2
 refine bodyPost_ret (v := .agg #[.int .i64 fm, .bool ng, .slice p n cap, .int .i64 T2, .bool n2, .bool b2, .bool p2, .bool m2, .bool false]) (by simp [results, Tryz.results130, go_sem, r0, r1, r2, r3, r4, r5, r6, r7, r8]) rfl ⟨rfl, ?_⟩
 exact (by (repeat with_reducible first | refine Below.setCell ?_ ?_ _ | exact bz0 _ _ | refine bz1 ?_ | refine bz2 ?_ _ | refine bz3 ?_ _ | refine bz4 ?_ hb5 | refine bz4 ?_ bel | refine Below.alloc ?_ ?_ _ | refine Below.trans ?_ (Below.mono hb5 ?_) | refine Below.trans ?_ (Below.mono bel ?_)) <;> first | omega | (simp; done) | (simp; omega))
end Go.Proofs.YtkfjmcdniohljaaGreatDoor
namespace Go.Proofs.YtkfjmcdniohljaaGreatDoor
set_option linter.unusedVariables false
set_option linter.unusedSimpArgs false
open Go.RowKit Go.Extern.Stop Go.Stop Go.Extern
namespace EA
theorem five {w w' : World} (hg : w.cell? ⟨2, 0, none⟩ = some (.iface 233 (.agg #[.pointer (some ⟨5, 100, none⟩)]))) (hb : Below w.heap.size w w') : w'.cell? ⟨2, 0, none⟩ = some (.iface 233 (.agg #[.pointer (some ⟨5, 100, none⟩)])) :=
 (hb.cell (p := ⟨2, 0, none⟩) (World.block_lt_of_cell? w _ hg)).trans hg
abbrev ErrT (w : World) : Prop := w.cell? ⟨2, 0, none⟩ = some (.iface 233 (.agg #[.pointer (some ⟨5, 100, none⟩)]))
end EA
end Go.Proofs.YtkfjmcdniohljaaGreatDoor
