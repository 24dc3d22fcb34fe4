/-
  Several texts in one: FloatA, FloatB, WideF.
-/
import Derived.Test.YtfblidnejdkjhaaDoorRows
import Derived.WalkKit
import Derived.WalkSpells
import Derived.WalkLawsBesides
import Derived.Test.YtfblidnejdkjhaaDoorG00
import Derived.Test.YtfblidnejdkjhaaDoorG08
import Derived.Deep.RegionHeld3
import Derived.Test.YtfblidnejdkjhaaDoorG01
import Derived.Laws.MathBits
/-
  Floats: the table of sizes, and what the program's own methods on it answer.
-/
namespace Go.Proofs.YtfblidnejdkjhaaDoor
set_option linter.unusedVariables false
set_option linter.unusedSimpArgs false
open Go.RowKit

/-- The table of the formats' sizes, as it lies. -/
structure Tab (w : World) : Prop where
  c0 : w.cell? ⟨0, 0, none⟩ = some (.int .u64 0)
  c1 : w.cell? ⟨0, 1, none⟩ = some (.int .u64 0)
  c2 : w.cell? ⟨0, 2, none⟩ = some (.int .i64 0)
  c3 : w.cell? ⟨0, 3, none⟩ = some (.int .u64 23)
  c4 : w.cell? ⟨0, 4, none⟩ = some (.int .u64 255)
  c5 : w.cell? ⟨0, 5, none⟩ = some (.int .i64 (-149))
  c6 : w.cell? ⟨0, 6, none⟩ = some (.int .u64 52)
  c7 : w.cell? ⟨0, 7, none⟩ = some (.int .u64 2047)
  c8 : w.cell? ⟨0, 8, none⟩ = some (.int .i64 (-1074))
theorem Tab.below {w w' : World} (h : Tab w) (hb : Below w.heap.size w w') : Tab w' := by
  have hlt := World.block_lt_of_cell? w _ h.c0
  have e : ∀ i, w'.cell? ⟨0, i, none⟩ = w.cell? ⟨0, i, none⟩ := fun i => hb.cell (p := ⟨0, i, none⟩) hlt
  exact ⟨(e 0).trans h.c0, (e 1).trans h.c1, (e 2).trans h.c2, (e 3).trans h.c3, (e 4).trans h.c4, (e 5).trans h.c5, (e 6).trans h.c6, (e 7).trans h.c7, (e 8).trans h.c8⟩

/-- With the sign S, where there is one. -/
def sgn (S x : Int) (ng : Bool) : Int := if ng then x + S else x
/-- A format's sizes. -/
def sz32 : Value := .agg #[.int .u64 23, .int .u64 255, .int .i64 (-149)]
def sz64 : Value := .agg #[.int .u64 52, .int .u64 2047, .int .i64 (-1074)]
def sz0 : Value := .agg #[.int .u64 0, .int .u64 0, .int .i64 0]

theorem Tab.pos {w : World} (h : Tab w) : 0 < w.heap.size := World.block_lt_of_cell? w _ h.c0

set_option maxHeartbeats 1000000 in
theorem sizes32 (w : World) (h : Tab w) :
    Calls Tryd.prog 49 #[.int .i64 32] w fun e w' => e = .returned (.tuple #[.agg #[.int .u64 23, .int .u64 255, .int .i64 (-149)], .bool true]) ∧ Below w.heap.size w w' := by
  have hp := h.pos
  obtain ⟨h0, h1, h2, h3, h4, h5, h6, h7, h8⟩ := h
  go_enter Tryd.func49, Tryd.ntmps49
  go_wp2
  exact bodyPost_ret (v := .tuple #[.agg #[.int .u64 23, .int .u64 255, .int .i64 (-149)], .bool true]) (by simp [results, Tryd.results49, go_sem]) rfl ⟨rfl, (by repeat (first | exact Below.refl _ _ | refine Below.drew ?_ | refine bel_dn ?_ _ | refine bel_al ?_ _ | refine Below.setCell ?_ (by first | omega | (simp; done) | (simp; omega)) _ | refine Below.alloc ?_ (by first | omega | (simp; done) | (simp; omega)) _))⟩
set_option maxHeartbeats 1000000 in
theorem sizes64 (w : World) (h : Tab w) :
    Calls Tryd.prog 49 #[.int .i64 64] w fun e w' => e = .returned (.tuple #[.agg #[.int .u64 52, .int .u64 2047, .int .i64 (-1074)], .bool true]) ∧ Below w.heap.size w w' := by
  have hp := h.pos
  obtain ⟨h0, h1, h2, h3, h4, h5, h6, h7, h8⟩ := h
  go_enter Tryd.func49, Tryd.ntmps49
  go_wp2
  exact bodyPost_ret (v := .tuple #[.agg #[.int .u64 52, .int .u64 2047, .int .i64 (-1074)], .bool true]) (by simp [results, Tryd.results49, go_sem]) rfl ⟨rfl, (by repeat (first | exact Below.refl _ _ | refine Below.drew ?_ | refine bel_dn ?_ _ | refine bel_al ?_ _ | refine Below.setCell ?_ (by first | omega | (simp; done) | (simp; omega)) _ | refine Below.alloc ?_ (by first | omega | (simp; done) | (simp; omega)) _))⟩
theorem sizes0 (fm : Int) (w : World) (h : Tab w) (h32 : fm ≠ 32) (h64 : fm ≠ 64) :
    Calls Tryd.prog 49 #[.int .i64 fm] w fun e w' => e = .returned (.tuple #[.agg #[.int .u64 0, .int .u64 0, .int .i64 0], .bool false]) ∧ Below w.heap.size w w' := by
  have hp := h.pos
  obtain ⟨h0, h1, h2, h3, h4, h5, h6, h7, h8⟩ := h
  have e1 : (fm == 32) = false := by simpa using h32
  have e2 : (fm == 64) = false := by simpa using h64
  clear h32 h64
  go_enter Tryd.func49, Tryd.ntmps49
  go_wp2
  exact bodyPost_ret (v := .tuple #[.agg #[.int .u64 0, .int .u64 0, .int .i64 0], .bool false]) (by simp [results, Tryd.results49, go_sem]) rfl ⟨rfl, (by repeat (first | exact Below.refl _ _ | refine Below.drew ?_ | refine bel_dn ?_ _ | refine bel_al ?_ _ | refine Below.setCell ?_ (by first | omega | (simp; done) | (simp; omega)) _ | refine Below.alloc ?_ (by first | omega | (simp; done) | (simp; omega)) _))⟩

set_option maxHeartbeats 1000000 in
theorem sign32 (w : World) :
    Calls Tryd.prog 110 #[.agg #[.int .u64 23, .int .u64 255, .int .i64 (-149)]] w fun e w' => e = .returned (.int .u64 2147483648) ∧ Below w.heap.size w w' := by
  go_enter Tryd.func110, Tryd.ntmps110
  go_wp2
  all_goals go_ret
  all_goals exact ⟨rfl, (by repeat (first | exact Below.refl _ _ | refine Below.drew ?_ | refine bel_dn ?_ _ | refine bel_al ?_ _ | refine Below.setCell ?_ (by first | omega | (simp; done) | (simp; omega)) _ | refine Below.alloc ?_ (by first | omega | (simp; done) | (simp; omega)) _))⟩
set_option maxHeartbeats 1000000 in
theorem infinity32 (w : World) :
    Calls Tryd.prog 96 #[.agg #[.int .u64 23, .int .u64 255, .int .i64 (-149)]] w fun e w' => e = .returned (.int .u64 2139095040) ∧ Below w.heap.size w w' := by
  go_enter Tryd.func96, Tryd.ntmps96
  go_wp2
  all_goals go_ret
  all_goals exact ⟨rfl, (by repeat (first | exact Below.refl _ _ | refine Below.drew ?_ | refine bel_dn ?_ _ | refine bel_al ?_ _ | refine Below.setCell ?_ (by first | omega | (simp; done) | (simp; omega)) _ | refine Below.alloc ?_ (by first | omega | (simp; done) | (simp; omega)) _))⟩
set_option maxHeartbeats 1000000 in
theorem quiet32 (w : World) :
    Calls Tryd.prog 97 #[.agg #[.int .u64 23, .int .u64 255, .int .i64 (-149)]] w fun e w' => e = .returned (.int .u64 4194304) ∧ Below w.heap.size w w' := by
  go_enter Tryd.func97, Tryd.ntmps97
  go_wp2
  all_goals go_ret
  all_goals exact ⟨rfl, (by repeat (first | exact Below.refl _ _ | refine Below.drew ?_ | refine bel_dn ?_ _ | refine bel_al ?_ _ | refine Below.setCell ?_ (by first | omega | (simp; done) | (simp; omega)) _ | refine Below.alloc ?_ (by first | omega | (simp; done) | (simp; omega)) _))⟩
set_option maxHeartbeats 1000000 in
theorem sign64 (w : World) :
    Calls Tryd.prog 110 #[.agg #[.int .u64 52, .int .u64 2047, .int .i64 (-1074)]] w fun e w' => e = .returned (.int .u64 9223372036854775808) ∧ Below w.heap.size w w' := by
  go_enter Tryd.func110, Tryd.ntmps110
  go_wp2
  all_goals go_ret
  all_goals exact ⟨rfl, (by repeat (first | exact Below.refl _ _ | refine Below.drew ?_ | refine bel_dn ?_ _ | refine bel_al ?_ _ | refine Below.setCell ?_ (by first | omega | (simp; done) | (simp; omega)) _ | refine Below.alloc ?_ (by first | omega | (simp; done) | (simp; omega)) _))⟩
set_option maxHeartbeats 1000000 in
theorem infinity64 (w : World) :
    Calls Tryd.prog 96 #[.agg #[.int .u64 52, .int .u64 2047, .int .i64 (-1074)]] w fun e w' => e = .returned (.int .u64 9218868437227405312) ∧ Below w.heap.size w w' := by
  go_enter Tryd.func96, Tryd.ntmps96
  go_wp2
  all_goals go_ret
  all_goals exact ⟨rfl, (by repeat (first | exact Below.refl _ _ | refine Below.drew ?_ | refine bel_dn ?_ _ | refine bel_al ?_ _ | refine Below.setCell ?_ (by first | omega | (simp; done) | (simp; omega)) _ | refine Below.alloc ?_ (by first | omega | (simp; done) | (simp; omega)) _))⟩
set_option maxHeartbeats 1000000 in
theorem quiet64 (w : World) :
    Calls Tryd.prog 97 #[.agg #[.int .u64 52, .int .u64 2047, .int .i64 (-1074)]] w fun e w' => e = .returned (.int .u64 2251799813685248) ∧ Below w.heap.size w w' := by
  go_enter Tryd.func97, Tryd.ntmps97
  go_wp2
  all_goals go_ret
  all_goals exact ⟨rfl, (by repeat (first | exact Below.refl _ _ | refine Below.drew ?_ | refine bel_dn ?_ _ | refine bel_al ?_ _ | refine Below.setCell ?_ (by first | omega | (simp; done) | (simp; omega)) _ | refine Below.alloc ?_ (by first | omega | (simp; done) | (simp; omega)) _))⟩
set_option maxHeartbeats 1000000 in
theorem signed32 (x : Int) (ng : Bool) (w : World) (h0 : 0 ≤ x) (h1 : x < 2147483648) :
    Calls Tryd.prog 98 #[.agg #[.int .u64 23, .int .u64 255, .int .i64 (-149)], .int .u64 x, .bool ng] w fun e w' => e = .returned (.int .u64 (sgn 2147483648 x ng)) ∧ Below w.heap.size w w' := by
  have e := Bt.or31 x h0 h1
  cases ng
  · have HR : Hid (x = sgn 2147483648 x false) := hid rfl
    go_enter Tryd.func98, Tryd.ntmps98
    go_wp2
    go_ret
    exact ⟨ret_int HR.out, (by repeat (first | exact Below.refl _ _ | refine Below.drew ?_ | refine bel_dn ?_ _ | refine bel_al ?_ _ | refine Below.setCell ?_ (by first | omega | (simp; done) | (simp; omega)) _ | refine Below.alloc ?_ (by first | omega | (simp; done) | (simp; omega)) _))⟩
  · have HR : Hid (x + 2147483648 = sgn 2147483648 x true) := hid rfl
    go_enter Tryd.func98, Tryd.ntmps98
    go_wp2
    go_ret
    exact ⟨ret_int HR.out, (by repeat (first | exact Below.refl _ _ | refine Below.drew ?_ | refine bel_dn ?_ _ | refine bel_al ?_ _ | refine Below.setCell ?_ (by first | omega | (simp; done) | (simp; omega)) _ | refine Below.alloc ?_ (by first | omega | (simp; done) | (simp; omega)) _))⟩
set_option maxHeartbeats 1000000 in
theorem signed64 (x : Int) (ng : Bool) (w : World) (h0 : 0 ≤ x) (h1 : x < 9223372036854775808) :
    Calls Tryd.prog 98 #[.agg #[.int .u64 52, .int .u64 2047, .int .i64 (-1074)], .int .u64 x, .bool ng] w fun e w' => e = .returned (.int .u64 (sgn 9223372036854775808 x ng)) ∧ Below w.heap.size w w' := by
  have e := Bt.or63 x h0 h1
  cases ng
  · have HR : Hid (x = sgn 9223372036854775808 x false) := hid rfl
    go_enter Tryd.func98, Tryd.ntmps98
    go_wp2
    go_ret
    exact ⟨ret_int HR.out, (by repeat (first | exact Below.refl _ _ | refine Below.drew ?_ | refine bel_dn ?_ _ | refine bel_al ?_ _ | refine Below.setCell ?_ (by first | omega | (simp; done) | (simp; omega)) _ | refine Below.alloc ?_ (by first | omega | (simp; done) | (simp; omega)) _))⟩
  · have HR : Hid (x + 9223372036854775808 = sgn 9223372036854775808 x true) := hid rfl
    go_enter Tryd.func98, Tryd.ntmps98
    go_wp2
    go_ret
    exact ⟨ret_int HR.out, (by repeat (first | exact Below.refl _ _ | refine Below.drew ?_ | refine bel_dn ?_ _ | refine bel_al ?_ _ | refine Below.setCell ?_ (by first | omega | (simp; done) | (simp; omega)) _ | refine Below.alloc ?_ (by first | omega | (simp; done) | (simp; omega)) _))⟩
end Go.Proofs.YtfblidnejdkjhaaDoor
/-
  Floats: what the program's functions for floats with a name answer.
-/
namespace Go.Proofs.YtfblidnejdkjhaaDoor
set_option linter.unusedVariables false
set_option linter.unusedSimpArgs false
open Go.RowKit

/-- The three cells of a format's sizes. -/
def Z3 (w : World) (b : Nat) (v0 v1 v2 : Value) : Prop := w.cell? ⟨b, 0, none⟩ = some v0 ∧ w.cell? ⟨b, 1, none⟩ = some v1 ∧ w.cell? ⟨b, 2, none⟩ = some v2
theorem Z3.below {w w' : World} {b : Nat} {v0 v1 v2 : Value} (h : Z3 w b v0 v1 v2) (hb : Below w.heap.size w w') : w'.cell? ⟨b, 0, none⟩ = some v0 ∧ w'.cell? ⟨b, 1, none⟩ = some v1 ∧ w'.cell? ⟨b, 2, none⟩ = some v2 := by
  have hlt := World.block_lt_of_cell? w _ h.1
  exact ⟨(hb.cell (p := ⟨b, 0, none⟩) hlt).trans h.1, (hb.cell (p := ⟨b, 1, none⟩) hlt).trans h.2.1, (hb.cell (p := ⟨b, 2, none⟩) hlt).trans h.2.2⟩
theorem Z3.new (w : World) (v0 v1 v2 : Value) (t : TypeId) : Z3 (w.alloc (.cells #[v0, v1, v2] t)) w.heap.size v0 v1 v2 := ⟨by simp, by simp, by simp⟩
theorem Z3.drew {w : World} {b : Nat} {v0 v1 v2 : Value} (h : Z3 w b v0 v1 v2) : Z3 w.drew b v0 v1 v2 := h

set_option maxHeartbeats 1000000 in
theorem impl_nan32 (w : World) (h : Tab w) :
    Calls Tryd.prog 76 #[.int .i64 32] w fun e w' => e = .returned (.int .u64 2143289344) ∧ Below w.heap.size w w' := by
  have hor : bits .or .u64 2139095040 4194304 = 2143289344 := by decide +kernel
  go_enter Tryd.func76, Tryd.ntmps76
  go_wp2_with fail
  refine (sizes32 _ h).mono ?_
  rintro e w1 ⟨rfl, hb1⟩
  go_wp2_with fail
  have z1 := Z3.new w1 (.int .u64 23) (.int .u64 255) (.int .i64 (-149)) 72
  go_region_held3 (fun w' => w'.cell? ⟨w1.heap.size, 0, none⟩ = some (.int .u64 23) ∧ w'.cell? ⟨w1.heap.size, 1, none⟩ = some (.int .u64 255) ∧ w'.cell? ⟨w1.heap.size, 2, none⟩ = some (.int .i64 (-149))) (first | assumption | exact z1.drew)
    (first
      | (go_at_call 96; refine (infinity32 _).mono ?_; rintro e w2 ⟨rfl, hb2⟩; have z2 := Z3.below (Z3.drew z1) hb2)
      | (go_at_call 97; refine (quiet32 _).mono ?_; rintro e w3 ⟨rfl, hb3⟩; have z3 := Z3.below z2 hb3))
  go_wp2
  go_ret
  exact ⟨rfl, (by repeat (first | exact Below.refl _ _ | refine Below.drew ?_ | refine bel_dn ?_ _ | refine bel_al ?_ _ | refine bel_go ?_ hb3 | refine bel_go ?_ hb2 | refine bel_go ?_ hb1 | refine Below.setCell ?_ (by first | omega | (simp; done) | (simp; omega)) _ | refine Below.alloc ?_ (by first | omega | (simp; done) | (simp; omega)) _ | refine Below.trans ?_ (Below.mono hb3 (by first | omega | (simp; done) | (simp; omega))) | refine Below.trans ?_ (Below.mono hb2 (by first | omega | (simp; done) | (simp; omega))) | refine Below.trans ?_ (Below.mono hb1 (by first | omega | (simp; done) | (simp; omega)))))⟩

set_option maxHeartbeats 1000000 in
theorem impl_nan64 (w : World) (h : Tab w) :
    Calls Tryd.prog 76 #[.int .i64 64] w fun e w' => e = .returned (.int .u64 9221120237041090560) ∧ Below w.heap.size w w' := by
  have hor : bits .or .u64 9218868437227405312 2251799813685248 = 9221120237041090560 := by decide +kernel
  go_enter Tryd.func76, Tryd.ntmps76
  go_wp2_with fail
  refine (sizes64 _ h).mono ?_
  rintro e w1 ⟨rfl, hb1⟩
  go_wp2_with fail
  have z1 := Z3.new w1 (.int .u64 52) (.int .u64 2047) (.int .i64 (-1074)) 72
  go_region_held3 (fun w' => w'.cell? ⟨w1.heap.size, 0, none⟩ = some (.int .u64 52) ∧ w'.cell? ⟨w1.heap.size, 1, none⟩ = some (.int .u64 2047) ∧ w'.cell? ⟨w1.heap.size, 2, none⟩ = some (.int .i64 (-1074))) (first | assumption | exact z1.drew)
    (first
      | (go_at_call 96; refine (infinity64 _).mono ?_; rintro e w2 ⟨rfl, hb2⟩; have z2 := Z3.below (Z3.drew z1) hb2)
      | (go_at_call 97; refine (quiet64 _).mono ?_; rintro e w3 ⟨rfl, hb3⟩; have z3 := Z3.below z2 hb3))
  go_wp2
  go_ret
  exact ⟨rfl, (by repeat (first | exact Below.refl _ _ | refine Below.drew ?_ | refine bel_dn ?_ _ | refine bel_al ?_ _ | refine bel_go ?_ hb3 | refine bel_go ?_ hb2 | refine bel_go ?_ hb1 | refine Below.setCell ?_ (by first | omega | (simp; done) | (simp; omega)) _ | refine Below.alloc ?_ (by first | omega | (simp; done) | (simp; omega)) _ | refine Below.trans ?_ (Below.mono hb3 (by first | omega | (simp; done) | (simp; omega))) | refine Below.trans ?_ (Below.mono hb2 (by first | omega | (simp; done) | (simp; omega))) | refine Below.trans ?_ (Below.mono hb1 (by first | omega | (simp; done) | (simp; omega)))))⟩

theorem impl_nan0 (fm : Int) (w : World) (h : Tab w) (h32 : fm ≠ 32) (h64 : fm ≠ 64) :
    Calls Tryd.prog 76 #[.int .i64 fm] w fun e w' => e = .returned (.int .u64 0) ∧ Below w.heap.size w w' := by
  go_enter Tryd.func76, Tryd.ntmps76
  go_wp2_with fail
  refine (sizes0 fm _ h h32 h64).mono ?_
  rintro e w1 ⟨rfl, hb1⟩
  go_wp2
  go_ret
  exact ⟨rfl, (by repeat (first | exact Below.refl _ _ | refine Below.drew ?_ | refine bel_dn ?_ _ | refine bel_al ?_ _ | refine bel_go ?_ hb1 | refine Below.setCell ?_ (by first | omega | (simp; done) | (simp; omega)) _ | refine Below.alloc ?_ (by first | omega | (simp; done) | (simp; omega)) _ | refine Below.trans ?_ (Below.mono hb1 (by first | omega | (simp; done) | (simp; omega)))))⟩
set_option maxHeartbeats 1000000 in
theorem impl_Inf32 (ng : Bool) (w : World) (h : Tab w) :
    Calls Tryd.prog 77 #[.int .i64 32, .bool ng] w fun e w' => e = .returned (.int .u64 (sgn 2147483648 2139095040 ng)) ∧ Below w.heap.size w w' := by
  go_enter Tryd.func77, Tryd.ntmps77
  go_wp2_with fail
  refine (sizes32 _ h).mono ?_
  rintro e w1 ⟨rfl, hb1⟩
  go_wp2_with fail
  have z1 := Z3.new w1 (.int .u64 23) (.int .u64 255) (.int .i64 (-149)) 72
  go_region_held3 (fun w' => w'.cell? ⟨w1.heap.size, 0, none⟩ = some (.int .u64 23) ∧ w'.cell? ⟨w1.heap.size, 1, none⟩ = some (.int .u64 255) ∧ w'.cell? ⟨w1.heap.size, 2, none⟩ = some (.int .i64 (-149))) (first | assumption | exact z1.drew)
    (first
      | (go_at_call 96; refine (infinity32 _).mono ?_; rintro e w2 ⟨rfl, hb2⟩; have z2 := Z3.below (Z3.drew z1) hb2)
      | (go_at_call 98; refine (signed32 2139095040 ng _ (by decide) (by decide)).mono ?_; rintro e w3 ⟨rfl, hb3⟩; have z3 := Z3.below z2 hb3))
  go_wp2
  go_ret
  exact ⟨rfl, (by repeat (first | exact Below.refl _ _ | refine Below.drew ?_ | refine bel_dn ?_ _ | refine bel_al ?_ _ | refine bel_go ?_ hb3 | refine bel_go ?_ hb2 | refine bel_go ?_ hb1 | refine Below.setCell ?_ (by first | omega | (simp; done) | (simp; omega)) _ | refine Below.alloc ?_ (by first | omega | (simp; done) | (simp; omega)) _ | refine Below.trans ?_ (Below.mono hb3 (by first | omega | (simp; done) | (simp; omega))) | refine Below.trans ?_ (Below.mono hb2 (by first | omega | (simp; done) | (simp; omega))) | refine Below.trans ?_ (Below.mono hb1 (by first | omega | (simp; done) | (simp; omega)))))⟩
set_option maxHeartbeats 1000000 in
theorem impl_Inf64 (ng : Bool) (w : World) (h : Tab w) :
    Calls Tryd.prog 77 #[.int .i64 64, .bool ng] w fun e w' => e = .returned (.int .u64 (sgn 9223372036854775808 9218868437227405312 ng)) ∧ Below w.heap.size w w' := by
  go_enter Tryd.func77, Tryd.ntmps77
  go_wp2_with fail
  refine (sizes64 _ h).mono ?_
  rintro e w1 ⟨rfl, hb1⟩
  go_wp2_with fail
  have z1 := Z3.new w1 (.int .u64 52) (.int .u64 2047) (.int .i64 (-1074)) 72
  go_region_held3 (fun w' => w'.cell? ⟨w1.heap.size, 0, none⟩ = some (.int .u64 52) ∧ w'.cell? ⟨w1.heap.size, 1, none⟩ = some (.int .u64 2047) ∧ w'.cell? ⟨w1.heap.size, 2, none⟩ = some (.int .i64 (-1074))) (first | assumption | exact z1.drew)
    (first
      | (go_at_call 96; refine (infinity64 _).mono ?_; rintro e w2 ⟨rfl, hb2⟩; have z2 := Z3.below (Z3.drew z1) hb2)
      | (go_at_call 98; refine (signed64 9218868437227405312 ng _ (by decide) (by decide)).mono ?_; rintro e w3 ⟨rfl, hb3⟩; have z3 := Z3.below z2 hb3))
  go_wp2
  go_ret
  exact ⟨rfl, (by repeat (first | exact Below.refl _ _ | refine Below.drew ?_ | refine bel_dn ?_ _ | refine bel_al ?_ _ | refine bel_go ?_ hb3 | refine bel_go ?_ hb2 | refine bel_go ?_ hb1 | refine Below.setCell ?_ (by first | omega | (simp; done) | (simp; omega)) _ | refine Below.alloc ?_ (by first | omega | (simp; done) | (simp; omega)) _ | refine Below.trans ?_ (Below.mono hb3 (by first | omega | (simp; done) | (simp; omega))) | refine Below.trans ?_ (Below.mono hb2 (by first | omega | (simp; done) | (simp; omega))) | refine Below.trans ?_ (Below.mono hb1 (by first | omega | (simp; done) | (simp; omega)))))⟩

set_option maxHeartbeats 1000000 in
theorem impl_Greatest32 (ng : Bool) (w : World) (h : Tab w) :
    Calls Tryd.prog 122 #[.int .i64 32, .bool ng] w fun e w' => e = .returned (.int .u64 (sgn 2147483648 2139095039 ng)) ∧ Below w.heap.size w w' := by
  go_enter Tryd.func122, Tryd.ntmps122
  go_wp2_with fail
  refine (sizes32 _ h).mono ?_
  rintro e w1 ⟨rfl, hb1⟩
  go_wp2_with fail
  have z1 := Z3.new w1 (.int .u64 23) (.int .u64 255) (.int .i64 (-149)) 72
  go_region_held3 (fun w' => w'.cell? ⟨w1.heap.size, 0, none⟩ = some (.int .u64 23) ∧ w'.cell? ⟨w1.heap.size, 1, none⟩ = some (.int .u64 255) ∧ w'.cell? ⟨w1.heap.size, 2, none⟩ = some (.int .i64 (-149))) (first | assumption | exact z1.drew)
    (first
      | (go_at_call 96; refine (infinity32 _).mono ?_; rintro e w2 ⟨rfl, hb2⟩; have z2 := Z3.below (Z3.drew z1) hb2)
      | (go_at_call 98; refine (signed32 2139095039 ng _ (by decide) (by decide)).mono ?_; rintro e w3 ⟨rfl, hb3⟩; have z3 := Z3.below z2 hb3))
  go_wp2
  go_ret
  exact ⟨rfl, (by repeat (first | exact Below.refl _ _ | refine Below.drew ?_ | refine bel_dn ?_ _ | refine bel_al ?_ _ | refine bel_go ?_ hb3 | refine bel_go ?_ hb2 | refine bel_go ?_ hb1 | refine Below.setCell ?_ (by first | omega | (simp; done) | (simp; omega)) _ | refine Below.alloc ?_ (by first | omega | (simp; done) | (simp; omega)) _ | refine Below.trans ?_ (Below.mono hb3 (by first | omega | (simp; done) | (simp; omega))) | refine Below.trans ?_ (Below.mono hb2 (by first | omega | (simp; done) | (simp; omega))) | refine Below.trans ?_ (Below.mono hb1 (by first | omega | (simp; done) | (simp; omega)))))⟩
set_option maxHeartbeats 1000000 in
theorem impl_Greatest64 (ng : Bool) (w : World) (h : Tab w) :
    Calls Tryd.prog 122 #[.int .i64 64, .bool ng] w fun e w' => e = .returned (.int .u64 (sgn 9223372036854775808 9218868437227405311 ng)) ∧ Below w.heap.size w w' := by
  go_enter Tryd.func122, Tryd.ntmps122
  go_wp2_with fail
  refine (sizes64 _ h).mono ?_
  rintro e w1 ⟨rfl, hb1⟩
  go_wp2_with fail
  have z1 := Z3.new w1 (.int .u64 52) (.int .u64 2047) (.int .i64 (-1074)) 72
  go_region_held3 (fun w' => w'.cell? ⟨w1.heap.size, 0, none⟩ = some (.int .u64 52) ∧ w'.cell? ⟨w1.heap.size, 1, none⟩ = some (.int .u64 2047) ∧ w'.cell? ⟨w1.heap.size, 2, none⟩ = some (.int .i64 (-1074))) (first | assumption | exact z1.drew)
    (first
      | (go_at_call 96; refine (infinity64 _).mono ?_; rintro e w2 ⟨rfl, hb2⟩; have z2 := Z3.below (Z3.drew z1) hb2)
      | (go_at_call 98; refine (signed64 9218868437227405311 ng _ (by decide) (by decide)).mono ?_; rintro e w3 ⟨rfl, hb3⟩; have z3 := Z3.below z2 hb3))
  go_wp2
  go_ret
  exact ⟨rfl, (by repeat (first | exact Below.refl _ _ | refine Below.drew ?_ | refine bel_dn ?_ _ | refine bel_al ?_ _ | refine bel_go ?_ hb3 | refine bel_go ?_ hb2 | refine bel_go ?_ hb1 | refine Below.setCell ?_ (by first | omega | (simp; done) | (simp; omega)) _ | refine Below.alloc ?_ (by first | omega | (simp; done) | (simp; omega)) _ | refine Below.trans ?_ (Below.mono hb3 (by first | omega | (simp; done) | (simp; omega))) | refine Below.trans ?_ (Below.mono hb2 (by first | omega | (simp; done) | (simp; omega))) | refine Below.trans ?_ (Below.mono hb1 (by first | omega | (simp; done) | (simp; omega)))))⟩


set_option maxHeartbeats 1000000 in
theorem impl_Zero32 (ng : Bool) (w : World) (h : Tab w) :
    Calls Tryd.prog 78 #[.int .i64 32, .bool ng] w fun e w' => e = .returned (.int .u64 (sgn 2147483648 0 ng)) ∧ Below w.heap.size w w' := by
  go_enter Tryd.func78, Tryd.ntmps78
  go_wp2_with fail
  refine (sizes32 _ h).mono ?_
  rintro e w1 ⟨rfl, hb1⟩
  go_wp2_with (go_at_call 98; refine (signed32 0 ng _ (by decide) (by decide)).mono ?_; rintro e w3 ⟨rfl, hb3⟩)
  go_ret
  exact ⟨rfl, (by repeat (first | exact Below.refl _ _ | refine Below.drew ?_ | refine bel_dn ?_ _ | refine bel_al ?_ _ | refine bel_go ?_ hb3 | refine bel_go ?_ hb1 | refine Below.setCell ?_ (by first | omega | (simp; done) | (simp; omega)) _ | refine Below.alloc ?_ (by first | omega | (simp; done) | (simp; omega)) _ | refine Below.trans ?_ (Below.mono hb3 (by first | omega | (simp; done) | (simp; omega))) | refine Below.trans ?_ (Below.mono hb1 (by first | omega | (simp; done) | (simp; omega)))))⟩
set_option maxHeartbeats 1000000 in
theorem impl_Zero64 (ng : Bool) (w : World) (h : Tab w) :
    Calls Tryd.prog 78 #[.int .i64 64, .bool ng] w fun e w' => e = .returned (.int .u64 (sgn 9223372036854775808 0 ng)) ∧ Below w.heap.size w w' := by
  go_enter Tryd.func78, Tryd.ntmps78
  go_wp2_with fail
  refine (sizes64 _ h).mono ?_
  rintro e w1 ⟨rfl, hb1⟩
  go_wp2_with (go_at_call 98; refine (signed64 0 ng _ (by decide) (by decide)).mono ?_; rintro e w3 ⟨rfl, hb3⟩)
  go_ret
  exact ⟨rfl, (by repeat (first | exact Below.refl _ _ | refine Below.drew ?_ | refine bel_dn ?_ _ | refine bel_al ?_ _ | refine bel_go ?_ hb3 | refine bel_go ?_ hb1 | refine Below.setCell ?_ (by first | omega | (simp; done) | (simp; omega)) _ | refine Below.alloc ?_ (by first | omega | (simp; done) | (simp; omega)) _ | refine Below.trans ?_ (Below.mono hb3 (by first | omega | (simp; done) | (simp; omega))) | refine Below.trans ?_ (Below.mono hb1 (by first | omega | (simp; done) | (simp; omega)))))⟩
theorem impl_Inf0 (fm : Int) (ng : Bool) (w : World) (h : Tab w) (h32 : fm ≠ 32) (h64 : fm ≠ 64) :
    Calls Tryd.prog 77 #[.int .i64 fm, .bool ng] w fun e w' => e = .returned (.int .u64 0) ∧ Below w.heap.size w w' := by
  go_enter Tryd.func77, Tryd.ntmps77
  go_wp2_with fail
  refine (sizes0 fm _ h h32 h64).mono ?_
  rintro e w1 ⟨rfl, hb1⟩
  go_wp2
  go_ret
  exact ⟨rfl, (by repeat (first | exact Below.refl _ _ | refine Below.drew ?_ | refine bel_dn ?_ _ | refine bel_al ?_ _ | refine bel_go ?_ hb1 | refine Below.setCell ?_ (by first | omega | (simp; done) | (simp; omega)) _ | refine Below.alloc ?_ (by first | omega | (simp; done) | (simp; omega)) _ | refine Below.trans ?_ (Below.mono hb1 (by first | omega | (simp; done) | (simp; omega)))))⟩
theorem impl_Greatest0 (fm : Int) (ng : Bool) (w : World) (h : Tab w) (h32 : fm ≠ 32) (h64 : fm ≠ 64) :
    Calls Tryd.prog 122 #[.int .i64 fm, .bool ng] w fun e w' => e = .returned (.int .u64 0) ∧ Below w.heap.size w w' := by
  go_enter Tryd.func122, Tryd.ntmps122
  go_wp2_with fail
  refine (sizes0 fm _ h h32 h64).mono ?_
  rintro e w1 ⟨rfl, hb1⟩
  go_wp2
  go_ret
  exact ⟨rfl, (by repeat (first | exact Below.refl _ _ | refine Below.drew ?_ | refine bel_dn ?_ _ | refine bel_al ?_ _ | refine bel_go ?_ hb1 | refine Below.setCell ?_ (by first | omega | (simp; done) | (simp; omega)) _ | refine Below.alloc ?_ (by first | omega | (simp; done) | (simp; omega)) _ | refine Below.trans ?_ (Below.mono hb1 (by first | omega | (simp; done) | (simp; omega)))))⟩
theorem impl_Zero0 (fm : Int) (ng : Bool) (w : World) (h : Tab w) (h32 : fm ≠ 32) (h64 : fm ≠ 64) :
    Calls Tryd.prog 78 #[.int .i64 fm, .bool ng] w fun e w' => e = .returned (.int .u64 0) ∧ Below w.heap.size w w' := by
  go_enter Tryd.func78, Tryd.ntmps78
  go_wp2_with fail
  refine (sizes0 fm _ h h32 h64).mono ?_
  rintro e w1 ⟨rfl, hb1⟩
  go_wp2
  go_ret
  exact ⟨rfl, (by repeat (first | exact Below.refl _ _ | refine Below.drew ?_ | refine bel_dn ?_ _ | refine bel_al ?_ _ | refine bel_go ?_ hb1 | refine Below.setCell ?_ (by first | omega | (simp; done) | (simp; omega)) _ | refine Below.alloc ?_ (by first | omega | (simp; done) | (simp; omega)) _ | refine Below.trans ?_ (Below.mono hb1 (by first | omega | (simp; done) | (simp; omega)))))⟩
end Go.Proofs.YtfblidnejdkjhaaDoor
/-
  The library bits.Len32.
-/
namespace Go.Proofs.YtfblidnejdkjhaaDoor
set_option linter.unusedVariables false
set_option linter.unusedSimpArgs false
open Go.RowKit Go.Deep
theorem wrap_small (t : Int) (h0 : 0 ≤ t) (h1 : t ≤ 1000) : wrap64 t = t := IntWalk.wrap64_in t ⟨by omega, by omega⟩
theorem bitLen_div (x : Int) (k : Nat) (h0 : 0 ≤ x) (hx : x / (2 ^ k : Nat) ≠ 0) : bitLen x.toNat = k + bitLen (x / (2 ^ k : Nat)).toNat := by
  obtain ⟨n, rfl⟩ := Int.eq_ofNat_of_zero_le h0
  have e : (((n : Int) / (2 ^ k : Nat)).toNat) = n / 2 ^ k := by rw [← Int.natCast_ediv]; exact Int.toNat_natCast _
  rw [e]
  simp only [Int.toNat_natCast]
  apply bitLen_shift
  intro h
  apply hx
  rw [← Int.natCast_ediv, h]; rfl
theorem wrap_two (c t : Int) (h0 : 0 ≤ c) (h1 : c ≤ 100) (t0 : 0 ≤ t) (t1 : t ≤ 8) : wrap64 (c + wrap64 t) = c + t := by rw [wrap_small t t0 (by omega), wrap_small _ (by omega) (by omega)]
theorem bl_le (i : Nat) (h : i < 256) : (bitLen i : Int) ≤ 8 := by have := bitLen_le8 i h; omega

set_option maxHeartbeats 4000000 in
set_option maxRecDepth 1000000 in
theorem len32_any (x : Int) (w : World) (h0 : 0 ≤ x) (h1 : x < 4294967296) :
    Calls Tryd.prog 117 #[.int .u32 x] w fun e w' => e = .returned (.int .i64 (bitLen x.toNat)) ∧ w' = w := by
  by_cases c2 : 65536 ≤ x
  · by_cases c1 : 256 ≤ x / 65536
    · have HB : Hid ((bitLen x.toNat : Int) = 24 + bitLen (x / 65536 / 256).toNat) := hid (by
        have h := bitLen_div x 24 h0 (by simp; omega)
        rw [h, show (x / ((2 ^ 24 : Nat) : Int)) = x / 65536 / 256 by first | (simp; done) | (simp; omega)]; simp)
      have HL := hid (bl_le (x / 65536 / 256).toNat (by omega))
      go_enter Tryd.func117, Tryd.ntmps117
      go_wp2
      go_ret
      refine ⟨ret_int ?_, rfl⟩
      simp only [len8tab_get]
      rw [wrap_two _ _ (by decide) (by decide) (by omega) HL.out, HB.out]
    · have HB : Hid ((bitLen x.toNat : Int) = 16 + bitLen (x / 65536).toNat) := hid (by
        have h := bitLen_div x 16 h0 (by simp; omega)
        rw [h, show (x / ((2 ^ 16 : Nat) : Int)) = x / 65536 by first | (simp; done) | (simp; omega)]; simp)
      have HL := hid (bl_le (x / 65536).toNat (by omega))
      go_enter Tryd.func117, Tryd.ntmps117
      go_wp2
      go_ret
      refine ⟨ret_int ?_, rfl⟩
      simp only [len8tab_get]
      rw [wrap_two _ _ (by decide) (by decide) (by omega) HL.out, HB.out]
  · by_cases c1 : 256 ≤ x
    · have HB : Hid ((bitLen x.toNat : Int) = 8 + bitLen (x / 256).toNat) := hid (by
        have h := bitLen_div x 8 h0 (by simp; omega)
        rw [h, show (x / ((2 ^ 8 : Nat) : Int)) = x / 256 by first | (simp; done) | (simp; omega)]; simp)
      have HL := hid (bl_le (x / 256).toNat (by omega))
      go_enter Tryd.func117, Tryd.ntmps117
      go_wp2
      go_ret
      refine ⟨ret_int ?_, rfl⟩
      simp only [len8tab_get]
      rw [wrap_two _ _ (by decide) (by decide) (by omega) HL.out, HB.out]
    · have HL := hid (bl_le x.toNat (by omega))
      go_enter Tryd.func117, Tryd.ntmps117
      go_wp2
      go_ret
      refine ⟨ret_int ?_, rfl⟩
      simp only [len8tab_get]
      have h8 := HL.out
      rw [wrap_small (wrap64 _) (by rw [wrap_small _ (by omega) (by omega)]; omega) (by rw [wrap_small _ (by omega) (by omega)]; omega), wrap_small _ (by omega) (by omega)]
end Go.Proofs.YtfblidnejdkjhaaDoor
