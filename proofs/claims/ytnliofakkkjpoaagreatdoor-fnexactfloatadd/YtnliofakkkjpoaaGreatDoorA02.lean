/-
  What is needed of Cmp, FloatA, Laid, FloatB, NumsD, FloatD.
-/
import Derived.WalkSpells
import Derived.WalkLawsBesides
import Derived.Deep.RegionHeld3
import Derived.Test.YtnliofakkkjpoaaGreatDoorCards
import Derived.Test.YtnliofakkkjpoaaGreatDoorTie
import Derived.ProofKit
import Derived.OpenShut
import Derived.WalkSmall
import Derived.Deep.DeepHandedRow
import Derived.Deep.Strs
import Derived.Lib.LaidTab
import Derived.Deep.QuietTactic
import Derived.BigQuiet
import Derived.Test.YtnliofakkkjpoaaGreatDoorA00
set_option maxHeartbeats 16000000
set_option maxRecDepth 1000000
namespace Go.Proofs.YtnliofakkkjpoaaGreatDoor
set_option linter.unusedVariables false
set_option linter.unusedSimpArgs false
open Go.RowKit
/-- Less, the same, greater. -/
def cmpI (x y : Int) : Int := if x < y then -1 else if y < x then 1 else 0
/-- The table of the formats' sizes, as it lies. -/
structure Tab (w : World) : Prop where
  c0 : w.cell? ⟨1, 0, none⟩ = some (.int .u64 0)
  c1 : w.cell? ⟨1, 1, none⟩ = some (.int .u64 0)
  c2 : w.cell? ⟨1, 2, none⟩ = some (.int .i64 0)
  c3 : w.cell? ⟨1, 3, none⟩ = some (.int .u64 23)
  c4 : w.cell? ⟨1, 4, none⟩ = some (.int .u64 255)
  c5 : w.cell? ⟨1, 5, none⟩ = some (.int .i64 (-149))
  c6 : w.cell? ⟨1, 6, none⟩ = some (.int .u64 52)
  c7 : w.cell? ⟨1, 7, none⟩ = some (.int .u64 2047)
  c8 : w.cell? ⟨1, 8, none⟩ = some (.int .i64 (-1074))
theorem Tab.below {w w' : World} (h : Tab w) (hb : Below w.heap.size w w') : Tab w' := by
  have hlt := World.block_lt_of_cell? w _ h.c0
  have e : ∀ i, w'.cell? ⟨1, i, none⟩ = w.cell? ⟨1, i, none⟩ := fun i => hb.cell (p := ⟨1, i, none⟩) hlt
  exact ⟨(e 0).trans h.c0, (e 1).trans h.c1, (e 2).trans h.c2, (e 3).trans h.c3, (e 4).trans h.c4, (e 5).trans h.c5, (e 6).trans h.c6, (e 7).trans h.c7, (e 8).trans h.c8⟩

theorem Tab.pos {w : World} (h : Tab w) : 1 < w.heap.size := World.block_lt_of_cell? w _ h.c0

theorem sizes32 (w : World) (h : Tab w) :
    Calls Tryz.prog 137 #[.int .i64 32] w fun e w' => e = .returned (.tuple #[.agg #[.int .u64 23, .int .u64 255, .int .i64 (-149)], .bool true]) ∧ Below w.heap.size w w' := by
  have hp := h.pos
  obtain ⟨h0, h1, h2, h3, h4, h5, h6, h7, h8⟩ := h
  go_enter Tryz.func137, Tryz.ntmps137
  go_wp2
  exact bodyPost_ret (v := .tuple #[.agg #[.int .u64 23, .int .u64 255, .int .i64 (-149)], .bool true]) (by simp [results, Tryz.results137, go_sem]) rfl ⟨rfl, (by repeat (first | exact bz0 _ _ | refine bz1 ?_ | refine bz2 ?_ _ | refine bz3 ?_ _ | refine bz5 ?_ _ | refine bz6 ?_ _))⟩
theorem sizes64 (w : World) (h : Tab w) :
    Calls Tryz.prog 137 #[.int .i64 64] w fun e w' => e = .returned (.tuple #[.agg #[.int .u64 52, .int .u64 2047, .int .i64 (-1074)], .bool true]) ∧ Below w.heap.size w w' := by
  have hp := h.pos
  obtain ⟨h0, h1, h2, h3, h4, h5, h6, h7, h8⟩ := h
  go_enter Tryz.func137, Tryz.ntmps137
  go_wp2
  exact bodyPost_ret (v := .tuple #[.agg #[.int .u64 52, .int .u64 2047, .int .i64 (-1074)], .bool true]) (by simp [results, Tryz.results137, go_sem]) rfl ⟨rfl, (by repeat (first | exact bz0 _ _ | refine bz1 ?_ | refine bz2 ?_ _ | refine bz3 ?_ _ | refine bz5 ?_ _ | refine bz6 ?_ _))⟩
theorem sizes0 (fm : Int) (w : World) (h : Tab w) (h32 : fm ≠ 32) (h64 : fm ≠ 64) :
    Calls Tryz.prog 137 #[.int .i64 fm] w fun e w' => e = .returned (.tuple #[.agg #[.int .u64 0, .int .u64 0, .int .i64 0], .bool false]) ∧ Below w.heap.size w w' := by
  have hp := h.pos
  obtain ⟨h0, h1, h2, h3, h4, h5, h6, h7, h8⟩ := h
  have e1 : (fm == 32) = false := by simpa using h32
  have e2 : (fm == 64) = false := by simpa using h64
  clear h32 h64
  go_enter Tryz.func137, Tryz.ntmps137
  go_wp2
  exact bodyPost_ret (v := .tuple #[.agg #[.int .u64 0, .int .u64 0, .int .i64 0], .bool false]) (by simp [results, Tryz.results137, go_sem]) rfl ⟨rfl, (by repeat (first | exact bz0 _ _ | refine bz1 ?_ | refine bz2 ?_ _ | refine bz3 ?_ _ | refine bz5 ?_ _ | refine bz6 ?_ _))⟩

theorem sign32 (w : World) :
    Calls Tryz.prog 165 #[.agg #[.int .u64 23, .int .u64 255, .int .i64 (-149)]] w fun e w' => e = .returned (.int .u64 2147483648) ∧ Below w.heap.size w w' := by
  go_enter Tryz.func165, Tryz.ntmps165
  go_wp2
  all_goals go_ret
  all_goals exact ⟨rfl, (by repeat (first | exact bz0 _ _ | refine bz1 ?_ | refine bz2 ?_ _ | refine bz3 ?_ _ | refine bz5 ?_ _ | refine bz6 ?_ _))⟩
theorem quiet32 (w : World) :
    Calls Tryz.prog 189 #[.agg #[.int .u64 23, .int .u64 255, .int .i64 (-149)]] w fun e w' => e = .returned (.int .u64 4194304) ∧ Below w.heap.size w w' := by
  go_enter Tryz.func189, Tryz.ntmps189
  go_wp2
  all_goals go_ret
  all_goals exact ⟨rfl, (by repeat (first | exact bz0 _ _ | refine bz1 ?_ | refine bz2 ?_ _ | refine bz3 ?_ _ | refine bz5 ?_ _ | refine bz6 ?_ _))⟩
theorem sign64 (w : World) :
    Calls Tryz.prog 165 #[.agg #[.int .u64 52, .int .u64 2047, .int .i64 (-1074)]] w fun e w' => e = .returned (.int .u64 9223372036854775808) ∧ Below w.heap.size w w' := by
  go_enter Tryz.func165, Tryz.ntmps165
  go_wp2
  all_goals go_ret
  all_goals exact ⟨rfl, (by repeat (first | exact bz0 _ _ | refine bz1 ?_ | refine bz2 ?_ _ | refine bz3 ?_ _ | refine bz5 ?_ _ | refine bz6 ?_ _))⟩
theorem quiet64 (w : World) :
    Calls Tryz.prog 189 #[.agg #[.int .u64 52, .int .u64 2047, .int .i64 (-1074)]] w fun e w' => e = .returned (.int .u64 2251799813685248) ∧ Below w.heap.size w w' := by
  go_enter Tryz.func189, Tryz.ntmps189
  go_wp2
  all_goals go_ret
  all_goals exact ⟨rfl, (by repeat (first | exact bz0 _ _ | refine bz1 ?_ | refine bz2 ?_ _ | refine bz3 ?_ _ | refine bz5 ?_ _ | refine bz6 ?_ _))⟩
theorem parted32 (x : Int) (w : World) (h0 : 0 ≤ x) (h1 : x < 18446744073709551616) :
    Calls Tryz.prog 195 #[.agg #[.int .u64 23, .int .u64 255, .int .i64 (-149)], .int .u64 x] w fun e w' => e = .returned (.tuple #[.int .u64 (x / 8388608 % 256), .int .u64 (x % 8388608)]) ∧ Below w.heap.size w w' := by
  have e1 := Bt.mask8 (x / 8388608) (by omega) (by omega)
  have e2 := Bt.mask23 x h0 h1
  go_enter Tryz.func195, Tryz.ntmps195
  go_wp2
  go_region
  all_goals go_wp2
  all_goals go_ret2
  all_goals exact ⟨rfl, (by repeat (first | exact bz0 _ _ | refine bz1 ?_ | refine bz2 ?_ _ | refine bz3 ?_ _ | refine bz5 ?_ _ | refine bz6 ?_ _))⟩
theorem parted64 (x : Int) (w : World) (h0 : 0 ≤ x) (h1 : x < 18446744073709551616) :
    Calls Tryz.prog 195 #[.agg #[.int .u64 52, .int .u64 2047, .int .i64 (-1074)], .int .u64 x] w fun e w' => e = .returned (.tuple #[.int .u64 (x / 4503599627370496 % 2048), .int .u64 (x % 4503599627370496)]) ∧ Below w.heap.size w w' := by
  have e1 := Bt.mask11 (x / 4503599627370496) (by omega) (by omega)
  have e2 := Bt.mask52 x h0 h1
  go_enter Tryz.func195, Tryz.ntmps195
  go_wp2
  go_region
  all_goals go_wp2
  all_goals go_ret2
  all_goals exact ⟨rfl, (by repeat (first | exact bz0 _ _ | refine bz1 ?_ | refine bz2 ?_ _ | refine bz3 ?_ _ | refine bz5 ?_ _ | refine bz6 ?_ _))⟩
end Go.Proofs.YtnliofakkkjpoaaGreatDoor
namespace Go.Proofs.YtnliofakkkjpoaaGreatDoor
set_option linter.unusedVariables false
set_option linter.unusedSimpArgs false
namespace Ld
open Go.RowKit Go.Deep
theorem own : ownKnob Tryz.prog.godebug = none := by kernel_rfl
theorem laidOut : laidOutB Tryz.prog = true := by kernel_rfl
theorem gTab : Tryz.prog.globalNamed "loop.example/g00672/impl.formSizes" = some 1 := by kernel_rfl
theorem gTabType : (Tryz.prog.globals[1]?).map (·.type) = some 189 := by kernel_rfl
theorem cellsS : Tryz.prog.cellsOf 157 = 3 := by kernel_rfl
theorem cellsU : Tryz.prog.cellsOf 27 = 1 := by kernel_rfl
theorem cellsI : Tryz.prog.cellsOf 2 = 1 := by kernel_rfl

theorem bu64 {a : Int} (h : (Lit.int .u64 a).wf = true) : 0 ≤ a ∧ a < 18446744073709551616 := by have := bounds_u64 h; omega
theorem lt_of_var {P : Program} {w : World} {n : String} {g : Nat} {cs : Array Value} (hg : P.globalNamed n = some g) (h : w.var? P n = some cs) : g < w.heap.size := by
  simp only [World.var?, hg, Option.bind_some] at h
  by_cases hlt : g < w.heap.size
  · exact hlt
  · rw [Array.getElem?_eq_none (by omega)] at h; simp at h

/-- One row of the table: its three cells. -/
theorem three {H : Type} {enc : TypeId × Value → H} {w : World} {base : Nat} {sp : Nat → Bool} {held : Bool} {m : Nat} {cs : List Value} {a b c : Int} {q : List MemPlace}
    (h : DataW.trod enc Tryz.prog w base sp held m 157 cs = some (.agg [.lit (.int .u64 a), .lit (.int .u64 b), .lit (.int .i64 c)], q)) :
    cs[0]? = some (.int .u64 a) ∧ cs[1]? = some (.int .u64 b) ∧ cs[2]? = some (.int .i64 c) := by
  obtain ⟨y0, y1, y2, n, hx, hl, h0, h1, h2⟩ := trod_struct3 Tryz.underlying157 h
  obtain ⟨n0, e0, rfl, _⟩ := DataW.trod_int Tryz.underlying27 h0
  obtain ⟨n1, e1, rfl, _⟩ := DataW.trod_int Tryz.underlying27 h1
  obtain ⟨n2, e2, rfl, _⟩ := DataW.trod_int Tryz.underlying2 h2
  simp only [Prod.mk.injEq, DataW.agg.injEq, List.cons.injEq, DataW.lit.injEq, Lit.int.injEq, true_and, and_true] at hx
  obtain ⟨⟨rfl, rfl, rfl⟩, _⟩ := hx
  simp only [cellsU, cellsI] at e0 e1 e2
  refine ⟨?_, ?_, ?_⟩
  · have := congrArg (·[0]?) e0; simpa [List.getElem?_take, List.getElem?_drop] using this
  · have := congrArg (·[0]?) e1; simpa [List.getElem?_take, List.getElem?_drop] using this
  · have := congrArg (·[0]?) e2; simpa [List.getElem?_take, List.getElem?_drop] using this

theorem table {W : World} (h : laidMet Tryz.prog [("loop.example/g00672/impl.formSizes", Rows.laid_loop_example_g00672_impl_formSizes)] W) : Tab W := by
  obtain ⟨ps, ⟨g', t', cs, fuel, p, q, hg', ht', hvar, hd, _, _⟩, _⟩ := h
  obtain rfl := Option.some.inj (gTab.symm.trans hg')
  obtain rfl := Option.some.inj (gTabType.symm.trans ht')
  obtain ⟨xs, m, rfl, hx, hlen, hxl, hel⟩ := DataW.trod_array Tryz.underlying189 hd
  match xs, hxl with
  | [x0, x1, x2], _ =>
    simp only [Rows.laid_loop_example_g00672_impl_formSizes, Prod.mk.injEq, DataW.agg.injEq, List.map_cons, List.map_nil, List.cons.injEq, and_true] at hx
    obtain ⟨⟨hx0, hx1, hx2⟩, _⟩ := hx
    have t0 := hel 0 (by decide); have t1 := hel 1 (by decide); have t2 := hel 2 (by decide)
    simp only [cellsS, List.getElem?_cons_zero, List.getElem?_cons_succ] at t0 t1 t2
    obtain ⟨x0a, x0b⟩ := x0; obtain ⟨x1a, x1b⟩ := x1; obtain ⟨x2a, x2b⟩ := x2
    simp only at hx0 hx1 hx2
    subst hx0; subst hx1; subst hx2
    have r0 := three t0; have r1 := three t1; have r2 := three t2
    have cell : ∀ i v, cs.toList[i]? = some v → W.cell? ⟨1, i, none⟩ = some v := fun i v hv => by
      rw [World.var?_cell gTab hvar i]; simpa using hv
    simp [List.getElem?_take, List.getElem?_drop] at r0 r1 r2
    exact ⟨cell 0 _ (by simpa using r0.1), cell 1 _ (by simpa using r0.2.1), cell 2 _ (by simpa using r0.2.2), cell 3 _ (by simpa using r1.1), cell 4 _ (by simpa using r1.2.1), cell 5 _ (by simpa using r1.2.2), cell 6 _ (by simpa using r2.1), cell 7 _ (by simpa using r2.2.1), cell 8 _ (by simpa using r2.2.2)⟩
end Ld
open Go.RowKit
/-- The three cells of a format's sizes. -/
def Z3 (w : World) (b : Nat) (v0 v1 v2 : Value) : Prop := w.cell? ⟨b, 0, none⟩ = some v0 ∧ w.cell? ⟨b, 1, none⟩ = some v1 ∧ w.cell? ⟨b, 2, none⟩ = some v2
theorem Z3.below {w w' : World} {b : Nat} {v0 v1 v2 : Value} (h : Z3 w b v0 v1 v2) (hb : Below w.heap.size w w') : w'.cell? ⟨b, 0, none⟩ = some v0 ∧ w'.cell? ⟨b, 1, none⟩ = some v1 ∧ w'.cell? ⟨b, 2, none⟩ = some v2 := by
  have hlt := World.block_lt_of_cell? w _ h.1
  exact ⟨(hb.cell (p := ⟨b, 0, none⟩) hlt).trans h.1, (hb.cell (p := ⟨b, 1, none⟩) hlt).trans h.2.1, (hb.cell (p := ⟨b, 2, none⟩) hlt).trans h.2.2⟩
theorem Z3.new (w : World) (v0 v1 v2 : Value) (t : TypeId) : Z3 (w.alloc (.cells #[v0, v1, v2] t)) w.heap.size v0 v1 v2 := ⟨by simp, by simp, by simp⟩
theorem Z3.drew {w : World} {b : Nat} {v0 v1 v2 : Value} (h : Z3 w b v0 v1 v2) : Z3 w.drew b v0 v1 v2 := h

end Go.Proofs.YtnliofakkkjpoaaGreatDoor
namespace Go.Proofs.YtnliofakkkjpoaaGreatDoor
set_option linter.unusedVariables false
namespace Nm
/-- Shifted up, in place: i limbs are done. -/
structure UpAt (xs os : List Int) (wh : Nat) (p : Int) (i : Nat) : Prop where
  v : val os = pw wh * (p * val (xs.take i))
  d : Dg os
  lo : os.getD (wh + i) 0 < p
  z : ∀ j, wh + i < j → os.getD j 0 = 0
theorem UpAt.zero (xs : List Int) (wh n : Nat) (p : Int) (hp : 1 ≤ p) : UpAt xs (List.replicate n 0) wh p 0 :=
  ⟨by simp [val, val_replicate], Dg.replicate n, by rw [getD_replicate]; omega, fun j _ => getD_replicate n j⟩
/-- What a shifted limb is parted to. -/
theorem up_parts {x p q : Int} (hx : 0 ≤ x ∧ x < 4294967296) (hp : 1 ≤ p) (hq : 1 ≤ q) (e : p * q = 4294967296) : 0 ≤ x * p ∧ x * p < 18446744073709551616 ∧ 0 ≤ x * p % 4294967296 ∧ x * p % 4294967296 ≤ 4294967296 - p ∧ 0 ≤ x * p / 4294967296 ∧ x * p / 4294967296 < p := by
  have h0 : 0 ≤ x * p := Int.mul_nonneg hx.1 (by omega)
  have hpb : p ≤ 4294967296 := by
    have : p * 1 ≤ p * q := Int.mul_le_mul_of_nonneg_left hq (by omega)
    omega
  have h1 : x * p ≤ 4294967295 * p := Int.mul_le_mul_of_nonneg_right (by omega) (by omega)
  have e1 : x * p % 4294967296 = (x % q) * p := by rw [← e, Int.mul_comm x p, Int.mul_emod_mul_of_pos x q (by omega), Int.mul_comm]
  have h2 : x % q * p ≤ (q - 1) * p := Int.mul_le_mul_of_nonneg_right (by have := Int.emod_lt_of_pos x (show 0 < q by omega); omega) (by omega)
  have h3 : 0 ≤ x % q * p := Int.mul_nonneg (Int.emod_nonneg x (by omega)) (by omega)
  rw [Int.sub_mul, Int.mul_comm q p, e] at h2
  refine ⟨h0, by omega, by omega, by omega, by omega, ?_⟩
  have : 4294967295 * p < p * 4294967296 := by omega
  exact Int.ediv_lt_of_lt_mul (by decide) (by omega)
theorem UpAt.step {xs os : List Int} {wh : Nat} {p : Int} {i : Nat} {q : Int} (h : UpAt xs os wh p i) (hp : 1 ≤ p) (hq : 1 ≤ q) (e : p * q = 4294967296) (dx : Dg xs) (hl : wh + i + 1 < os.length) :
    UpAt xs ((os.set (wh + i) (os.getD (wh + i) 0 + xs.getD i 0 * p % 4294967296)).set (wh + i + 1) (xs.getD i 0 * p / 4294967296)) wh p (i + 1) := by
  obtain ⟨hv, hd, hlo, hz⟩ := h
  obtain ⟨u0, u1, u2, u3, u4, u5⟩ := up_parts (dx.getD i) hp hq e
  have hg := hd.getD (wh + i)
  have hpb : p ≤ 4294967296 := by omega
  have hd1 : Dg (os.set (wh + i) (os.getD (wh + i) 0 + xs.getD i 0 * p % 4294967296)) := hd.set _ (by omega)
  refine ⟨?_, hd1.set _ (by omega), ?_, fun j hj => ?_⟩
  · rw [val_set _ _ _ (by simp; omega), val_set _ _ _ (by omega), getD_set _ _ _ _ (by omega), if_neg (by omega), hz (wh + i + 1) (by omega), hv, val_take_succ]
    have e1 : pw (wh + i) * (os.getD (wh + i) 0 + xs.getD i 0 * p % 4294967296 - os.getD (wh + i) 0) + pw (wh + i + 1) * (xs.getD i 0 * p / 4294967296 - 0) = pw (wh + i) * (xs.getD i 0 * p) := by
      rw [show pw (wh + i + 1) = 4294967296 * pw (wh + i) from rfl, Int.mul_comm 4294967296 (pw _), Int.mul_assoc, ← Int.mul_add]
      congr 1; omega
    have e2 : pw wh * (p * (val (xs.take i) + pw i * xs.getD i 0)) = pw wh * (p * val (xs.take i)) + pw (wh + i) * (xs.getD i 0 * p) := by
      rw [pw_add, Int.mul_add, Int.mul_add, Int.mul_comm (xs.getD i 0) p, ← Int.mul_assoc p (pw i), Int.mul_comm p (pw i), Int.mul_assoc, Int.mul_assoc]
    omega
  · rw [show wh + (i + 1) = wh + i + 1 by omega, getD_set _ _ _ _ (by simp; omega), if_pos rfl]; exact u5
  · rw [getD_set _ _ _ _ (by simp; omega), if_neg (by omega), getD_set _ _ _ _ (by omega), if_neg (by omega)]; exact hz j (by omega)

/-- Shifted up, limb behind limb: i limbs are done, c is carried. -/
structure UpTo (xs os : List Int) (wh : Nat) (p : Int) (i : Nat) (c : Int) : Prop where
  v : val os + pw (wh + i) * c = pw wh * (p * val (xs.take i))
  d : Dg os
  l : os.length = wh + i
  c0 : 0 ≤ c
  c1 : c < p
theorem UpTo.zero (xs : List Int) (wh : Nat) (p : Int) (hp : 1 ≤ p) : UpTo xs (List.replicate wh 0) wh p 0 0 :=
  ⟨by simp [val, val_replicate], Dg.replicate wh, by simp, Int.le_refl _, by omega⟩
theorem UpTo.step {xs os : List Int} {wh : Nat} {p : Int} {i : Nat} {c q : Int} (h : UpTo xs os wh p i c) (hp : 1 ≤ p) (hq : 1 ≤ q) (e : p * q = 4294967296) (dx : Dg xs) :
    UpTo xs (os ++ [(c + xs.getD i 0 * p) % 4294967296]) wh p (i + 1) ((c + xs.getD i 0 * p) / 4294967296) := by
  obtain ⟨hv, hd, hl, h0, h1⟩ := h
  obtain ⟨u0, u1, u2, u3, u4, u5⟩ := up_parts (dx.getD i) hp hq e
  refine ⟨?_, hd.append (Dg.cons (by omega) Dg.nil), by simp; omega, by omega, by omega⟩
  rw [val_snoc, hl, val_take_succ]
  have e1 : pw (wh + i) * ((c + xs.getD i 0 * p) % 4294967296) + pw (wh + (i + 1)) * ((c + xs.getD i 0 * p) / 4294967296) = pw (wh + i) * c + pw (wh + i) * (xs.getD i 0 * p) := by
    rw [show wh + (i + 1) = wh + i + 1 by omega, show pw (wh + i + 1) = 4294967296 * pw (wh + i) from rfl, Int.mul_comm 4294967296 (pw _), Int.mul_assoc, ← Int.mul_add, ← Int.mul_add]
    congr 1; omega
  have e2 : pw wh * (p * (val (xs.take i) + pw i * xs.getD i 0)) = pw wh * (p * val (xs.take i)) + pw (wh + i) * (xs.getD i 0 * p) := by
    rw [pw_add, Int.mul_add, Int.mul_add, Int.mul_comm (xs.getD i 0) p, ← Int.mul_assoc p (pw i), Int.mul_comm p (pw i), Int.mul_assoc, Int.mul_assoc]
  omega
/-- Behind the last limb nothing is carried. -/
theorem UpTo.full {xs os : List Int} {wh : Nat} {p : Int} {c q : Int} (h : UpTo xs os wh p (xs.length + 1) c) (hc : c = 0) : val os = pw wh * (p * val xs) := by
  have := h.v; rw [hc, List.take_of_length_le (by omega)] at this; simpa using this
theorem UpAt.full {xs os : List Int} {wh : Nat} {p : Int} (h : UpAt xs os wh p xs.length) : val os = pw wh * (p * val xs) := by
  have := h.v; rwa [List.take_of_length_le (by omega)] at this

/-- Shifted down: each limb with the low part of the next one. -/
def sd (p : Int) : List Int → List Int
  | [] => []
  | x :: r => (r.getD 0 0 * 4294967296 + x) / p % 4294967296 :: sd p r
theorem sd_length (p : Int) (l : List Int) : (sd p l).length = l.length := by
  induction l with
  | nil => rfl
  | cons x r ih => simp [sd, ih]
theorem sd_getD (p : Int) (l : List Int) (i : Nat) (h : i < l.length) : (sd p l).getD i 0 = (l.getD (i + 1) 0 * 4294967296 + l.getD i 0) / p % 4294967296 := by
  induction l generalizing i with
  | nil => simp at h
  | cons x r ih =>
    cases i with
    | zero => simp [sd]
    | succ i => simpa [sd] using ih i (by simpa using h)
theorem sd_dg (p : Int) (l : List Int) : Dg (sd p l) := by
  induction l with
  | nil => exact Dg.nil
  | cons x r ih => exact Dg.cons (by omega) ih
theorem getD_drop (l : List Int) (n i : Nat) : (l.drop n).getD i 0 = l.getD (n + i) 0 := by
  rw [List.getD_eq_getElem?_getD, List.getElem?_drop, ← List.getD_eq_getElem?_getD]
theorem sd_val {p q : Int} (hp : 1 ≤ p) (hq : 1 ≤ q) (e : p * q = 4294967296) {l : List Int} (h : Dg l) : val (sd p l) = val l / p := by
  induction l with
  | nil => simp [sd, val]
  | cons x r ih =>
    have ih := ih h.tail
    have hx := h.head
    simp only [sd, val, ih]
    have hv := val_nonneg h.tail
    have hy : r.getD 0 0 = val r % 4294967296 := by
      cases r with
      | nil => simp [val]
      | cons y s => have := h.tail.head; simp [val]; omega
    rw [hy]
    generalize val r = v at hv ⊢
    -- v is p s and u
    have es : v = p * (v / p) + v % p := (Int.mul_ediv_add_emod v p).symm
    have hu0 := Int.emod_nonneg v (show p ≠ 0 by omega)
    have hu1 := Int.emod_lt_of_pos v (show 0 < p by omega)
    have ey : v % 4294967296 % p = v % p := Int.emod_emod_of_dvd v ⟨q, e.symm⟩
    have et : v % 4294967296 = p * (v % 4294967296 / p) + v % p := by rw [← ey]; exact (Int.mul_ediv_add_emod _ p).symm
    have hp0 : p ≠ 0 := by omega
    have k1 : (x + 4294967296 * v) / p = (x + 4294967296 * (v % p)) / p + 4294967296 * (v / p) := by
      have : x + 4294967296 * v = (x + 4294967296 * (v % p)) + (4294967296 * (v / p)) * p := by
        conv => lhs; rw [es]
        rw [Int.mul_add, ← Int.mul_assoc, Int.mul_comm 4294967296 p, Int.mul_assoc, Int.mul_comm p]; omega
      rw [this, Int.add_mul_ediv_right _ _ hp0]
    have k2 : (v % 4294967296 * 4294967296 + x) / p = (x + 4294967296 * (v % p)) / p + 4294967296 * (v % 4294967296 / p) := by
      have : v % 4294967296 * 4294967296 + x = (x + 4294967296 * (v % p)) + (4294967296 * (v % 4294967296 / p)) * p := by
        conv => lhs; rw [et]
        rw [Int.add_mul, Int.mul_assoc, Int.mul_comm _ 4294967296, ← Int.mul_assoc p, Int.mul_comm p 4294967296, Int.mul_assoc 4294967296 p, Int.mul_comm p (_ / p), ← Int.mul_assoc]; omega
      rw [this, Int.add_mul_ediv_right _ _ hp0]
    have k3 : (x + 4294967296 * (v % p)) / p < 4294967296 := by
      apply Int.ediv_lt_of_lt_mul (by omega)
      have : 4294967296 * (v % p) ≤ 4294967296 * (p - 1) := Int.mul_le_mul_of_nonneg_left (by omega) (by decide)
      omega
    have k4 : 0 ≤ (x + 4294967296 * (v % p)) / p := Int.ediv_nonneg (by omega) (by omega)
    rw [k1, k2, Int.add_mul_emod_self_left]
    omega
theorem val_drop {l : List Int} (h : Dg l) (n : Nat) : val (l.drop n) = val l / pw n := by
  by_cases hn : n ≤ l.length
  · have e : l = l.take n ++ l.drop n := (List.take_append_drop n l).symm
    have h2 := val_append (l.take n) (l.drop n)
    rw [← e] at h2
    have hl : (l.take n).length = n := by simp; omega
    rw [hl] at h2
    have h3 := val_lt (h.take n)
    rw [hl] at h3
    have h4 := val_nonneg (h.take n)
    have := pw_pos n
    rw [h2, Int.add_mul_ediv_left _ _ (by omega), Int.ediv_eq_zero_of_lt h4 h3]; omega
  · rw [List.drop_eq_nil_of_le (by omega)]
    have h3 := val_lt h
    have h4 := val_nonneg h
    have := pw_mono (show l.length ≤ n by omega)
    rw [Int.ediv_eq_zero_of_lt h4 (by omega)]; rfl
theorem pw_two (n : Nat) : pw n = (2 ^ (32 * n) : Nat) := by
  induction n with
  | zero => rfl
  | succ n ih => rw [show 32 * (n + 1) = 32 * n + 32 by omega, Nat.pow_add]; simp only [pw]; rw [ih]; simp; omega
end Nm
set_option linter.unusedSimpArgs false
open Go.RowKit
/-- Whether it is a float of the format. -/
def okF (fm x : Int) : Bool := fm == 64 || (fm == 32 && decide (x < 4294967296))
theorem okF0 {fm x : Int} (h32 : fm ≠ 32) (h64 : fm ≠ 64) : okF fm x = false := by simp [okF, h32, h64]

theorem impl_ok32 (x : Int) (w : World) (h : Tab w) (h0 : 0 ≤ x) (h1 : x < 18446744073709551616) :
    Calls Tryz.prog 100 #[.int .i64 32, .int .u64 x] w fun e w' => e = .returned (.bool (decide (x < 4294967296))) ∧ Below w.heap.size w w' := by
  have e := Bt.andNot31 x h0 h1
  have HX : Hid (decide (bits .andNot .u64 x 2147483648 < 2147483648) = decide (x < 4294967296)) := hid (by rw [e]; congr 1; apply propext; omega)
  clear e
  go_enter Tryz.func100, Tryz.ntmps100
  go_wp2_with fail
  refine (sizes32 _ h).mono ?_
  rintro e w1 ⟨rfl, hb1⟩
  go_wp2_with fail
  have z1 := Z3.new w1 (.int .u64 23) (.int .u64 255) (.int .i64 (-149)) 157
  go_region_held3 (fun w' => w'.cell? ⟨w1.heap.size, 0, none⟩ = some (.int .u64 23) ∧ w'.cell? ⟨w1.heap.size, 1, none⟩ = some (.int .u64 255) ∧ w'.cell? ⟨w1.heap.size, 2, none⟩ = some (.int .i64 (-149))) (first | assumption | exact z1.drew)
    (first
      | (go_at_call 165; refine (sign32 _).mono ?_; rintro e w2 ⟨rfl, hb2⟩; have z2 := Z3.below (Z3.drew z1) hb2)
      | (go_at_call 165; refine (sign32 _).mono ?_; rintro e w3 ⟨rfl, hb3⟩; have z3 := Z3.below z2 hb3))
  go_wp2
  go_ret
  exact ⟨ret_bool HX.out, (by repeat (first | exact bz0 _ _ | refine bz1 ?_ | refine bz2 ?_ _ | refine bz3 ?_ _ | refine bz4 ?_ hb3 | refine bz4 ?_ hb2 | refine bz4 ?_ hb1 | refine bz5 ?_ _ | refine bz6 ?_ _ | refine bz7 ?_ hb3 | refine bz7 ?_ hb2 | refine bz7 ?_ hb1))⟩
theorem impl_ok64 (x : Int) (w : World) (h : Tab w) (h0 : 0 ≤ x) (h1 : x < 18446744073709551616) :
    Calls Tryz.prog 100 #[.int .i64 64, .int .u64 x] w fun e w' => e = .returned (.bool (decide (x < 18446744073709551616))) ∧ Below w.heap.size w w' := by
  have e := Bt.andNot63 x h0 h1
  have HX : Hid (decide (bits .andNot .u64 x 9223372036854775808 < 9223372036854775808) = decide (x < 18446744073709551616)) := hid (by rw [e]; congr 1; apply propext; omega)
  clear e
  go_enter Tryz.func100, Tryz.ntmps100
  go_wp2_with fail
  refine (sizes64 _ h).mono ?_
  rintro e w1 ⟨rfl, hb1⟩
  go_wp2_with fail
  have z1 := Z3.new w1 (.int .u64 52) (.int .u64 2047) (.int .i64 (-1074)) 157
  go_region_held3 (fun w' => w'.cell? ⟨w1.heap.size, 0, none⟩ = some (.int .u64 52) ∧ w'.cell? ⟨w1.heap.size, 1, none⟩ = some (.int .u64 2047) ∧ w'.cell? ⟨w1.heap.size, 2, none⟩ = some (.int .i64 (-1074))) (first | assumption | exact z1.drew)
    (first
      | (go_at_call 165; refine (sign64 _).mono ?_; rintro e w2 ⟨rfl, hb2⟩; have z2 := Z3.below (Z3.drew z1) hb2)
      | (go_at_call 165; refine (sign64 _).mono ?_; rintro e w3 ⟨rfl, hb3⟩; have z3 := Z3.below z2 hb3))
  go_wp2
  go_ret
  exact ⟨ret_bool HX.out, (by repeat (first | exact bz0 _ _ | refine bz1 ?_ | refine bz2 ?_ _ | refine bz3 ?_ _ | refine bz4 ?_ hb3 | refine bz4 ?_ hb2 | refine bz4 ?_ hb1 | refine bz5 ?_ _ | refine bz6 ?_ _ | refine bz7 ?_ hb3 | refine bz7 ?_ hb2 | refine bz7 ?_ hb1))⟩

theorem impl_ok0 (fm x : Int) (w : World) (h : Tab w) (h32 : fm ≠ 32) (h64 : fm ≠ 64) :
    Calls Tryz.prog 100 #[.int .i64 fm, .int .u64 x] w fun e w' => e = .returned (.bool false) ∧ Below w.heap.size w w' := by
  go_enter Tryz.func100, Tryz.ntmps100
  go_wp2_with fail
  refine (sizes0 fm _ h h32 h64).mono ?_
  rintro e w1 ⟨rfl, hb1⟩
  go_wp2_with fail
  have z1 := Z3.new w1 (.int .u64 0) (.int .u64 0) (.int .i64 0) 157
  go_quiet (fail)
  go_wp2
  go_ret
  exact ⟨rfl, (by repeat (first | exact bz0 _ _ | refine bz1 ?_ | refine bz2 ?_ _ | refine bz3 ?_ _ | refine bz4 ?_ hb1 | refine bz5 ?_ _ | refine bz6 ?_ _ | refine bz7 ?_ hb1))⟩

theorem spec_ok (fm x : Int) (w : World) :
    Calls Tryz.prog 50 #[.int .i64 fm, .int .u64 x] w fun e w' => e = .returned (.bool (okF fm x)) ∧ Below w.heap.size w w' := by
  by_cases h64 : fm = 64
  · subst h64
    have HX : Hid (okF 64 x = true) := hid (by simp [okF])
    go_enter Tryz.func50, Tryz.ntmps50
    go_wp2
    go_ret
    exact ⟨ret_bool HX.out.symm, (by repeat (first | exact bz0 _ _ | refine bz1 ?_ | refine bz2 ?_ _ | refine bz3 ?_ _ | refine bz5 ?_ _ | refine bz6 ?_ _))⟩
  · have e2 : (fm == 64) = false := by simpa using h64
    by_cases h32 : fm = 32
    · subst h32
      have HX : Hid (okF 32 x = decide (x < 4294967296)) := hid (by simp [okF])
      clear h64 e2
      go_enter Tryz.func50, Tryz.ntmps50
      go_wp2
      go_ret
      exact ⟨ret_bool HX.out.symm, (by repeat (first | exact bz0 _ _ | refine bz1 ?_ | refine bz2 ?_ _ | refine bz3 ?_ _ | refine bz5 ?_ _ | refine bz6 ?_ _))⟩
    · have e1 : (fm == 32) = false := by simpa using h32
      have HX : Hid (okF fm x = false) := hid (okF0 h32 h64)
      clear h32 h64
      go_enter Tryz.func50, Tryz.ntmps50
      go_wp2
      go_ret
      exact ⟨ret_bool HX.out.symm, (by repeat (first | exact bz0 _ _ | refine bz1 ?_ | refine bz2 ?_ _ | refine bz3 ?_ _ | refine bz5 ?_ _ | refine bz6 ?_ _))⟩

theorem impl_ok (fm x : Int) (w : World) (h : Tab w) (h0 : 0 ≤ x) (h1 : x < 18446744073709551616) :
    Calls Tryz.prog 100 #[.int .i64 fm, .int .u64 x] w fun e w' => e = .returned (.bool (okF fm x)) ∧ Below w.heap.size w w' := by
  by_cases h32 : fm = 32
  · subst h32; have := impl_ok32 x w h h0 h1; rwa [show okF 32 x = decide (x < 4294967296) by simp [okF]]
  by_cases h64 : fm = 64
  · subst h64; have := impl_ok64 x w h h0 h1; rwa [show okF 64 x = decide (x < 18446744073709551616) by simp [okF, h1]]
  rw [okF0 h32 h64]; exact impl_ok0 fm x w h h32 h64
end Go.Proofs.YtnliofakkkjpoaaGreatDoor
