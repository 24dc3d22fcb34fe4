/-
  Several texts in one: Laid, LaidB.
-/
import Derived.Test.YtojcaoccjapdoaaDoorCards
import Derived.Test.YtojcaoccjapdoaaDoorTie
import Derived.Test.YtojcaoccjapdoaaDoorG08
import Derived.ProofKit
import Derived.OpenShut
import Derived.WalkSmall
import Derived.Deep.DeepHandedRow
import Derived.Deep.Strs
import Derived.Lib.LaidTab
import Derived.Test.YtojcaoccjapdoaaDoorG20
import Derived.LaidSub
import Derived.MakeChecks
/-
  The package's table of formats, as the row's list tells it: its cells.
-/
namespace Go.Proofs.YtojcaoccjapdoaaDoor
set_option linter.unusedVariables false
set_option linter.unusedSimpArgs false
namespace Ld
open Go.RowKit Go.Deep
theorem own : ownKnob Tryd.prog.godebug = none := by kernel_rfl
theorem laidOut : laidOutB Tryd.prog = true := by kernel_rfl
theorem gTab : Tryd.prog.globalNamed "loop.example/g00672/impl.formSizes" = some 0 := by kernel_rfl
theorem gTabType : (Tryd.prog.globals[0]?).map (·.type) = some 119 := by kernel_rfl
theorem cellsS : Tryd.prog.cellsOf 68 = 3 := by kernel_rfl
theorem cellsU : Tryd.prog.cellsOf 26 = 1 := by kernel_rfl
theorem cellsI : Tryd.prog.cellsOf 2 = 1 := by kernel_rfl

theorem bu64 {a : Int} (h : (Lit.int .u64 a).wf = true) : 0 ≤ a ∧ a < 18446744073709551616 := by have := bounds_u64 h; omega
theorem bi64 {a : Int} (h : (Lit.int .i64 a).wf = true) : -9223372036854775808 ≤ a ∧ a ≤ 9223372036854775807 := by have := bounds_i64 h; omega
theorem lt_of_var {P : Program} {w : World} {n : String} {g : Nat} {cs : Array Value} (hg : P.globalNamed n = some g) (h : w.var? P n = some cs) : g < w.heap.size := by
  simp only [World.var?, hg, Option.bind_some] at h
  by_cases hlt : g < w.heap.size
  · exact hlt
  · rw [Array.getElem?_eq_none (by omega)] at h; simp at h

/-- One row of the table: its three cells. -/
theorem three {H : Type} {enc : TypeId × Value → H} {w : World} {base : Nat} {sp : Nat → Bool} {held : Bool} {m : Nat} {cs : List Value} {a b c : Int} {q : List MemPlace}
    (h : DataW.trod enc Tryd.prog w base sp held m 68 cs = some (.agg [.lit (.int .u64 a), .lit (.int .u64 b), .lit (.int .i64 c)], q)) :
    cs[0]? = some (.int .u64 a) ∧ cs[1]? = some (.int .u64 b) ∧ cs[2]? = some (.int .i64 c) := by
  obtain ⟨y0, y1, y2, n, hx, hl, h0, h1, h2⟩ := trod_struct3 Tryd.underlying68 h
  obtain ⟨n0, e0, rfl, _⟩ := DataW.trod_int Tryd.underlying26 h0
  obtain ⟨n1, e1, rfl, _⟩ := DataW.trod_int Tryd.underlying26 h1
  obtain ⟨n2, e2, rfl, _⟩ := DataW.trod_int Tryd.underlying2 h2
  simp only [Prod.mk.injEq, DataW.agg.injEq, List.cons.injEq, DataW.lit.injEq, Lit.int.injEq, true_and, and_true] at hx
  obtain ⟨⟨rfl, rfl, rfl⟩, _⟩ := hx
  simp only [cellsU, cellsI] at e0 e1 e2
  refine ⟨?_, ?_, ?_⟩
  · have := congrArg (·[0]?) e0; simpa [List.getElem?_take, List.getElem?_drop] using this
  · have := congrArg (·[0]?) e1; simpa [List.getElem?_take, List.getElem?_drop] using this
  · have := congrArg (·[0]?) e2; simpa [List.getElem?_take, List.getElem?_drop] using this

theorem table {W : World} (h : laidMet Tryd.prog [("loop.example/g00672/impl.formSizes", Rows.laid_loop_example_g00672_impl_formSizes)] W) : Tab W := by
  obtain ⟨ps, ⟨g', t', cs, fuel, p, q, hg', ht', hvar, hd, _, _⟩, _⟩ := h
  obtain rfl := Option.some.inj (gTab.symm.trans hg')
  obtain rfl := Option.some.inj (gTabType.symm.trans ht')
  obtain ⟨xs, m, rfl, hx, hlen, hxl, hel⟩ := DataW.trod_array Tryd.underlying119 hd
  match xs, hxl with
  | [x0, x1, x2], _ =>
    simp only [Rows.laid_loop_example_g00672_impl_formSizes, Prod.mk.injEq, DataW.agg.injEq, List.map_cons, List.map_nil, List.cons.injEq, and_true] at hx
    obtain ⟨⟨hx0, hx1, hx2⟩, _⟩ := hx
    have t0 := hel 0 (by decide); have t1 := hel 1 (by decide); have t2 := hel 2 (by decide)
    simp only [cellsS, List.getElem?_cons_zero, List.getElem?_cons_succ] at t0 t1 t2
    obtain ⟨x0a, x0b⟩ := x0; obtain ⟨x1a, x1b⟩ := x1; obtain ⟨x2a, x2b⟩ := x2
    simp only at hx0 hx1 hx2
    subst hx0; subst hx1; subst hx2
    have r0 := three t0; have r1 := three t1; have r2 := three t2
    have cell : ∀ i v, cs.toList[i]? = some v → W.cell? ⟨0, i, none⟩ = some v := fun i v hv => by
      rw [World.var?_cell gTab hvar i]; simpa using hv
    simp [List.getElem?_take, List.getElem?_drop] at r0 r1 r2
    exact ⟨cell 0 _ (by simpa using r0.1), cell 1 _ (by simpa using r0.2.1), cell 2 _ (by simpa using r0.2.2), cell 3 _ (by simpa using r1.1), cell 4 _ (by simpa using r1.2.1), cell 5 _ (by simpa using r1.2.2), cell 6 _ (by simpa using r2.1), cell 7 _ (by simpa using r2.2.1), cell 8 _ (by simpa using r2.2.2)⟩
end Ld
end Go.Proofs.YtojcaoccjapdoaaDoor
/-
  The package's tables, as the row's list tells them: the formats' sizes, and Go's own tables of halvings.
-/
namespace Go.Proofs.YtojcaoccjapdoaaDoor
set_option linter.unusedVariables false
set_option linter.unusedSimpArgs false
namespace Ld
open Go.RowKit Go.Deep
def zs32 : List Int := Lib.deBruijn32tab.map Int.ofNat
theorem tb32 {W : World} (h : laidMet Tryd.prog [("math/bits.deBruijn32tab", Rows.laid_math_bits_deBruijn32tab)] W) : Tb W 2 Lib.deBruijn32tab := by
  have h' : laidMet Tryd.prog (("math/bits.deBruijn32tab", Lib.tabData .u8 zs32) :: []) W := h
  have hg : Tryd.prog.globalNamed "math/bits.deBruijn32tab" = some 2 := by kernel_rfl
  have ht := Lib.tabIs_of_head (g := 2) (t := 158) (e := 5) (n := 32) hg (by kernel_rfl) Tryd.underlying158 Tryd.underlying5 (by kernel_rfl) (by kernel_rfl) h'
  intro i hi
  have := ht.cell hg i (by simpa [zs32] using hi)
  rw [this]
  congr 2
  unfold zs32
  rw [List.getD_eq_getElem?_getD, List.getElem?_map, List.getD_eq_getElem?_getD, List.getElem?_eq_getElem hi]; rfl
def zs64 : List Int := Lib.deBruijn64tab.map Int.ofNat
theorem tb64 {W : World} (h : laidMet Tryd.prog [("math/bits.deBruijn64tab", Rows.laid_math_bits_deBruijn64tab)] W) : Tb W 1 Lib.deBruijn64tab := by
  have h' : laidMet Tryd.prog (("math/bits.deBruijn64tab", Lib.tabData .u8 zs64) :: []) W := h
  have hg : Tryd.prog.globalNamed "math/bits.deBruijn64tab" = some 1 := by kernel_rfl
  have ht := Lib.tabIs_of_head (g := 1) (t := 135) (e := 5) (n := 64) hg (by kernel_rfl) Tryd.underlying135 Tryd.underlying5 (by kernel_rfl) (by kernel_rfl) h'
  intro i hi
  have := ht.cell hg i (by simpa [zs64] using hi)
  rw [this]
  congr 2
  unfold zs64
  rw [List.getD_eq_getElem?_getD, List.getElem?_map, List.getD_eq_getElem?_getD, List.getElem?_eq_getElem hi]; rfl
theorem three_tabs {W : World} (h : laidMetH Tryd.prog [("math/bits.deBruijn32tab", Rows.laid_math_bits_deBruijn32tab), ("math/bits.deBruijn64tab", Rows.laid_math_bits_deBruijn64tab), ("loop.example/g00672/impl.formSizes", Rows.laid_loop_example_g00672_impl_formSizes)] W) : T3 W := by
  have h : laidMet Tryd.prog _ W := (laidMetH_iff.1 h).1
  have h1 := h.filter (fun x => x.1 == "loop.example/g00672/impl.formSizes")
  have h2 := h.filter (fun x => x.1 == "math/bits.deBruijn64tab")
  have h3 := h.filter (fun x => x.1 == "math/bits.deBruijn32tab")
  exact ⟨⟨table h1, tb64 h2⟩, tb32 h3⟩
theorem two_tabs {W : World} (h : laidMetH Tryd.prog [("math/bits.deBruijn64tab", Rows.laid_math_bits_deBruijn64tab), ("loop.example/g00672/impl.formSizes", Rows.laid_loop_example_g00672_impl_formSizes)] W) : Ts W := by
  have h : laidMet Tryd.prog _ W := (laidMetH_iff.1 h).1
  have h1 := h.filter (fun x => x.1 == "loop.example/g00672/impl.formSizes")
  have h2 := h.filter (fun x => x.1 == "math/bits.deBruijn64tab")
  exact ⟨table h1, tb64 h2⟩
end Ld
end Go.Proofs.YtojcaoccjapdoaaDoor
