/-
  Floats with a name: what the specification answers; the laws.
-/
import Derived.Test.YtgedhfmahfcdpaaDoorFloatB
namespace Go.Proofs.YtgedhfmahfcdpaaDoor
set_option linter.unusedVariables false
set_option linter.unusedSimpArgs false
open Go.RowKit

set_option maxHeartbeats 1000000 in
theorem spec_nan32 (w : World) :
    Calls Tryd.prog 13 #[.int .i64 32] w fun e w' => e = .returned (.int .u64 2143289344) ∧ Below w.heap.size w w' := by
  go_enter Tryd.func13, Tryd.ntmps13
  go_wp2
  go_ret
  exact ⟨rfl, (by repeat (first | exact Below.refl _ _ | refine Below.drew ?_ | refine bel_al ?_ _ | refine Below.setCell ?_ (by first | omega | (simp; done) | (simp; omega)) _ | refine Below.alloc ?_ (by first | omega | (simp; done) | (simp; omega)) _))⟩
set_option maxHeartbeats 1000000 in
theorem spec_nan64 (w : World) :
    Calls Tryd.prog 13 #[.int .i64 64] w fun e w' => e = .returned (.int .u64 9221120237041090560) ∧ Below w.heap.size w w' := by
  go_enter Tryd.func13, Tryd.ntmps13
  go_wp2
  go_ret
  exact ⟨rfl, (by repeat (first | exact Below.refl _ _ | refine Below.drew ?_ | refine bel_al ?_ _ | refine Below.setCell ?_ (by first | omega | (simp; done) | (simp; omega)) _ | refine Below.alloc ?_ (by first | omega | (simp; done) | (simp; omega)) _))⟩
set_option maxHeartbeats 1000000 in
theorem spec_Inf32 (ng : Bool) (w : World) :
    Calls Tryd.prog 15 #[.int .i64 32, .bool ng] w fun e w' => e = .returned (.int .u64 (sgn 2147483648 2139095040 ng)) ∧ Below w.heap.size w w' := by
  have e := Bt.or31 2139095040 (by decide) (by decide)
  cases ng
  · go_enter Tryd.func15, Tryd.ntmps15
    go_wp2
    go_ret
    exact ⟨rfl, (by repeat (first | exact Below.refl _ _ | refine Below.drew ?_ | refine bel_al ?_ _ | refine Below.setCell ?_ (by first | omega | (simp; done) | (simp; omega)) _ | refine Below.alloc ?_ (by first | omega | (simp; done) | (simp; omega)) _))⟩
  · go_enter Tryd.func15, Tryd.ntmps15
    go_wp2
    go_ret
    exact ⟨rfl, (by repeat (first | exact Below.refl _ _ | refine Below.drew ?_ | refine bel_al ?_ _ | refine Below.setCell ?_ (by first | omega | (simp; done) | (simp; omega)) _ | refine Below.alloc ?_ (by first | omega | (simp; done) | (simp; omega)) _))⟩
set_option maxHeartbeats 1000000 in
theorem spec_Inf64 (ng : Bool) (w : World) :
    Calls Tryd.prog 15 #[.int .i64 64, .bool ng] w fun e w' => e = .returned (.int .u64 (sgn 9223372036854775808 9218868437227405312 ng)) ∧ Below w.heap.size w w' := by
  have e := Bt.or63 9218868437227405312 (by decide) (by decide)
  cases ng
  · go_enter Tryd.func15, Tryd.ntmps15
    go_wp2
    go_ret
    exact ⟨rfl, (by repeat (first | exact Below.refl _ _ | refine Below.drew ?_ | refine bel_al ?_ _ | refine Below.setCell ?_ (by first | omega | (simp; done) | (simp; omega)) _ | refine Below.alloc ?_ (by first | omega | (simp; done) | (simp; omega)) _))⟩
  · go_enter Tryd.func15, Tryd.ntmps15
    go_wp2
    go_ret
    exact ⟨rfl, (by repeat (first | exact Below.refl _ _ | refine Below.drew ?_ | refine bel_al ?_ _ | refine Below.setCell ?_ (by first | omega | (simp; done) | (simp; omega)) _ | refine Below.alloc ?_ (by first | omega | (simp; done) | (simp; omega)) _))⟩
set_option maxHeartbeats 1000000 in
theorem spec_Greatest32 (ng : Bool) (w : World) :
    Calls Tryd.prog 17 #[.int .i64 32, .bool ng] w fun e w' => e = .returned (.int .u64 (sgn 2147483648 2139095039 ng)) ∧ Below w.heap.size w w' := by
  have e := Bt.or31 2139095039 (by decide) (by decide)
  cases ng
  · go_enter Tryd.func17, Tryd.ntmps17
    go_wp2
    go_ret
    exact ⟨rfl, (by repeat (first | exact Below.refl _ _ | refine Below.drew ?_ | refine bel_al ?_ _ | refine Below.setCell ?_ (by first | omega | (simp; done) | (simp; omega)) _ | refine Below.alloc ?_ (by first | omega | (simp; done) | (simp; omega)) _))⟩
  · go_enter Tryd.func17, Tryd.ntmps17
    go_wp2
    go_ret
    exact ⟨rfl, (by repeat (first | exact Below.refl _ _ | refine Below.drew ?_ | refine bel_al ?_ _ | refine Below.setCell ?_ (by first | omega | (simp; done) | (simp; omega)) _ | refine Below.alloc ?_ (by first | omega | (simp; done) | (simp; omega)) _))⟩
set_option maxHeartbeats 1000000 in
theorem spec_Greatest64 (ng : Bool) (w : World) :
    Calls Tryd.prog 17 #[.int .i64 64, .bool ng] w fun e w' => e = .returned (.int .u64 (sgn 9223372036854775808 9218868437227405311 ng)) ∧ Below w.heap.size w w' := by
  have e := Bt.or63 9218868437227405311 (by decide) (by decide)
  cases ng
  · go_enter Tryd.func17, Tryd.ntmps17
    go_wp2
    go_ret
    exact ⟨rfl, (by repeat (first | exact Below.refl _ _ | refine Below.drew ?_ | refine bel_al ?_ _ | refine Below.setCell ?_ (by first | omega | (simp; done) | (simp; omega)) _ | refine Below.alloc ?_ (by first | omega | (simp; done) | (simp; omega)) _))⟩
  · go_enter Tryd.func17, Tryd.ntmps17
    go_wp2
    go_ret
    exact ⟨rfl, (by repeat (first | exact Below.refl _ _ | refine Below.drew ?_ | refine bel_al ?_ _ | refine Below.setCell ?_ (by first | omega | (simp; done) | (simp; omega)) _ | refine Below.alloc ?_ (by first | omega | (simp; done) | (simp; omega)) _))⟩
set_option maxHeartbeats 1000000 in
theorem spec_Least32 (ng : Bool) (w : World) :
    Calls Tryd.prog 19 #[.int .i64 32, .bool ng] w fun e w' => e = .returned (.int .u64 (sgn 2147483648 1 ng)) ∧ Below w.heap.size w w' := by
  have e := Bt.or31 1 (by decide) (by decide)
  cases ng
  · go_enter Tryd.func19, Tryd.ntmps19
    go_wp2
    go_ret
    exact ⟨rfl, (by repeat (first | exact Below.refl _ _ | refine Below.drew ?_ | refine bel_al ?_ _ | refine Below.setCell ?_ (by first | omega | (simp; done) | (simp; omega)) _ | refine Below.alloc ?_ (by first | omega | (simp; done) | (simp; omega)) _))⟩
  · go_enter Tryd.func19, Tryd.ntmps19
    go_wp2
    go_ret
    exact ⟨rfl, (by repeat (first | exact Below.refl _ _ | refine Below.drew ?_ | refine bel_al ?_ _ | refine Below.setCell ?_ (by first | omega | (simp; done) | (simp; omega)) _ | refine Below.alloc ?_ (by first | omega | (simp; done) | (simp; omega)) _))⟩
set_option maxHeartbeats 1000000 in
theorem spec_Least64 (ng : Bool) (w : World) :
    Calls Tryd.prog 19 #[.int .i64 64, .bool ng] w fun e w' => e = .returned (.int .u64 (sgn 9223372036854775808 1 ng)) ∧ Below w.heap.size w w' := by
  have e := Bt.or63 1 (by decide) (by decide)
  cases ng
  · go_enter Tryd.func19, Tryd.ntmps19
    go_wp2
    go_ret
    exact ⟨rfl, (by repeat (first | exact Below.refl _ _ | refine Below.drew ?_ | refine bel_al ?_ _ | refine Below.setCell ?_ (by first | omega | (simp; done) | (simp; omega)) _ | refine Below.alloc ?_ (by first | omega | (simp; done) | (simp; omega)) _))⟩
  · go_enter Tryd.func19, Tryd.ntmps19
    go_wp2
    go_ret
    exact ⟨rfl, (by repeat (first | exact Below.refl _ _ | refine Below.drew ?_ | refine bel_al ?_ _ | refine Below.setCell ?_ (by first | omega | (simp; done) | (simp; omega)) _ | refine Below.alloc ?_ (by first | omega | (simp; done) | (simp; omega)) _))⟩

theorem spec_Inf0 (fm : Int) (ng : Bool) (w : World) (h32 : fm ≠ 32) (h64 : fm ≠ 64) :
    Calls Tryd.prog 15 #[.int .i64 fm, .bool ng] w fun e w' => e = .returned (.int .u64 0) ∧ Below w.heap.size w w' := by
  have e1 : (fm == 32) = false := by simpa using h32
  have e2 : (fm == 64) = false := by simpa using h64
  clear h32 h64
  go_enter Tryd.func15, Tryd.ntmps15
  go_wp2
  go_ret
  exact ⟨rfl, (by repeat (first | exact Below.refl _ _ | refine Below.drew ?_ | refine bel_al ?_ _ | refine Below.setCell ?_ (by first | omega | (simp; done) | (simp; omega)) _ | refine Below.alloc ?_ (by first | omega | (simp; done) | (simp; omega)) _))⟩
theorem spec_Greatest0 (fm : Int) (ng : Bool) (w : World) (h32 : fm ≠ 32) (h64 : fm ≠ 64) :
    Calls Tryd.prog 17 #[.int .i64 fm, .bool ng] w fun e w' => e = .returned (.int .u64 0) ∧ Below w.heap.size w w' := by
  have e1 : (fm == 32) = false := by simpa using h32
  have e2 : (fm == 64) = false := by simpa using h64
  clear h32 h64
  go_enter Tryd.func17, Tryd.ntmps17
  go_wp2
  go_ret
  exact ⟨rfl, (by repeat (first | exact Below.refl _ _ | refine Below.drew ?_ | refine bel_al ?_ _ | refine Below.setCell ?_ (by first | omega | (simp; done) | (simp; omega)) _ | refine Below.alloc ?_ (by first | omega | (simp; done) | (simp; omega)) _))⟩
theorem spec_Least0 (fm : Int) (ng : Bool) (w : World) (h32 : fm ≠ 32) (h64 : fm ≠ 64) :
    Calls Tryd.prog 19 #[.int .i64 fm, .bool ng] w fun e w' => e = .returned (.int .u64 0) ∧ Below w.heap.size w w' := by
  have e1 : (fm == 32) = false := by simpa using h32
  have e2 : (fm == 64) = false := by simpa using h64
  clear h32 h64
  go_enter Tryd.func19, Tryd.ntmps19
  go_wp2
  go_ret
  exact ⟨rfl, (by repeat (first | exact Below.refl _ _ | refine Below.drew ?_ | refine bel_al ?_ _ | refine Below.setCell ?_ (by first | omega | (simp; done) | (simp; omega)) _ | refine Below.alloc ?_ (by first | omega | (simp; done) | (simp; omega)) _))⟩
theorem spec_nan0 (fm : Int) (w : World) (h32 : fm ≠ 32) (h64 : fm ≠ 64) :
    Calls Tryd.prog 13 #[.int .i64 fm] w fun e w' => e = .returned (.int .u64 0) ∧ Below w.heap.size w w' := by
  have e1 : (fm == 32) = false := by simpa using h32
  have e2 : (fm == 64) = false := by simpa using h64
  clear h32 h64
  go_enter Tryd.func13, Tryd.ntmps13
  go_wp2
  go_ret
  exact ⟨rfl, (by repeat (first | exact Below.refl _ _ | refine Below.drew ?_ | refine bel_al ?_ _ | refine Below.setCell ?_ (by first | omega | (simp; done) | (simp; omega)) _ | refine Below.alloc ?_ (by first | omega | (simp; done) | (simp; omega)) _))⟩

/-! ### The laws -/
set_option maxHeartbeats 1000000 in
theorem law_Inf (fm : Int) (ng : Bool) (w : World) (h : Tab w) :
    Calls Tryd.prog 6 #[.int .i64 fm, .bool ng] w fun e w' => e = .returned (.bool true) ∧ Below w.heap.size w w' := by
  have all : ∃ v : Int, (∀ w, Calls Tryd.prog 15 #[.int .i64 fm, .bool ng] w fun e w' => e = .returned (.int .u64 v) ∧ Below w.heap.size w w') ∧ (∀ w, Tab w → Calls Tryd.prog 16 #[.int .i64 fm, .bool ng] w fun e w' => e = .returned (.int .u64 v) ∧ Below w.heap.size w w') := by
    by_cases h32 : fm = 32
    · subst h32; exact ⟨_, fun w => spec_Inf32 ng w, fun w h => impl_Inf32 ng w h⟩
    by_cases h64 : fm = 64
    · subst h64; exact ⟨_, fun w => spec_Inf64 ng w, fun w h => impl_Inf64 ng w h⟩
    exact ⟨0, fun w => spec_Inf0 fm ng w h32 h64, fun w h => impl_Inf0 fm ng w h h32 h64⟩
  obtain ⟨v, hsp, him⟩ := all
  have HS := hid hsp; have HI := hid him
  clear hsp him
  have hbe : (v != v) = false := by simp
  go_enter Tryd.func6, Tryd.ntmps6
  go_wp2_with fail
  refine (HS.out _).mono ?_
  rintro e w1 ⟨rfl, hb1⟩
  go_wp2_with fail
  refine (HI.out _ (h.below hb1)).mono ?_
  rintro e w2 ⟨rfl, hb2⟩
  go_wp2
  go_ret
  exact ⟨rfl, (by repeat (first | exact Below.refl _ _ | refine Below.drew ?_ | refine bel_al ?_ _ | refine bel_go ?_ hb2 | refine bel_go ?_ hb1 | refine Below.setCell ?_ (by first | omega | (simp; done) | (simp; omega)) _ | refine Below.alloc ?_ (by first | omega | (simp; done) | (simp; omega)) _ | refine Below.trans ?_ (Below.mono hb2 (by first | omega | (simp; done) | (simp; omega))) | refine Below.trans ?_ (Below.mono hb1 (by first | omega | (simp; done) | (simp; omega)))))⟩
set_option maxHeartbeats 1000000 in
theorem law_Greatest (fm : Int) (ng : Bool) (w : World) (h : Tab w) :
    Calls Tryd.prog 7 #[.int .i64 fm, .bool ng] w fun e w' => e = .returned (.bool true) ∧ Below w.heap.size w w' := by
  have all : ∃ v : Int, (∀ w, Calls Tryd.prog 17 #[.int .i64 fm, .bool ng] w fun e w' => e = .returned (.int .u64 v) ∧ Below w.heap.size w w') ∧ (∀ w, Tab w → Calls Tryd.prog 18 #[.int .i64 fm, .bool ng] w fun e w' => e = .returned (.int .u64 v) ∧ Below w.heap.size w w') := by
    by_cases h32 : fm = 32
    · subst h32; exact ⟨_, fun w => spec_Greatest32 ng w, fun w h => impl_Greatest32 ng w h⟩
    by_cases h64 : fm = 64
    · subst h64; exact ⟨_, fun w => spec_Greatest64 ng w, fun w h => impl_Greatest64 ng w h⟩
    exact ⟨0, fun w => spec_Greatest0 fm ng w h32 h64, fun w h => impl_Greatest0 fm ng w h h32 h64⟩
  obtain ⟨v, hsp, him⟩ := all
  have HS := hid hsp; have HI := hid him
  clear hsp him
  have hbe : (v != v) = false := by simp
  go_enter Tryd.func7, Tryd.ntmps7
  go_wp2_with fail
  refine (HS.out _).mono ?_
  rintro e w1 ⟨rfl, hb1⟩
  go_wp2_with fail
  refine (HI.out _ (h.below hb1)).mono ?_
  rintro e w2 ⟨rfl, hb2⟩
  go_wp2
  go_ret
  exact ⟨rfl, (by repeat (first | exact Below.refl _ _ | refine Below.drew ?_ | refine bel_al ?_ _ | refine bel_go ?_ hb2 | refine bel_go ?_ hb1 | refine Below.setCell ?_ (by first | omega | (simp; done) | (simp; omega)) _ | refine Below.alloc ?_ (by first | omega | (simp; done) | (simp; omega)) _ | refine Below.trans ?_ (Below.mono hb2 (by first | omega | (simp; done) | (simp; omega))) | refine Below.trans ?_ (Below.mono hb1 (by first | omega | (simp; done) | (simp; omega)))))⟩
set_option maxHeartbeats 1000000 in
theorem law_Least (fm : Int) (ng : Bool) (w : World) (h : Tab w) :
    Calls Tryd.prog 8 #[.int .i64 fm, .bool ng] w fun e w' => e = .returned (.bool true) ∧ Below w.heap.size w w' := by
  have all : ∃ v : Int, (∀ w, Calls Tryd.prog 19 #[.int .i64 fm, .bool ng] w fun e w' => e = .returned (.int .u64 v) ∧ Below w.heap.size w w') ∧ (∀ w, Tab w → Calls Tryd.prog 20 #[.int .i64 fm, .bool ng] w fun e w' => e = .returned (.int .u64 v) ∧ Below w.heap.size w w') := by
    by_cases h32 : fm = 32
    · subst h32; exact ⟨_, fun w => spec_Least32 ng w, fun w h => impl_Least32 ng w h⟩
    by_cases h64 : fm = 64
    · subst h64; exact ⟨_, fun w => spec_Least64 ng w, fun w h => impl_Least64 ng w h⟩
    exact ⟨0, fun w => spec_Least0 fm ng w h32 h64, fun w h => impl_Least0 fm ng w h h32 h64⟩
  obtain ⟨v, hsp, him⟩ := all
  have HS := hid hsp; have HI := hid him
  clear hsp him
  have hbe : (v != v) = false := by simp
  go_enter Tryd.func8, Tryd.ntmps8
  go_wp2_with fail
  refine (HS.out _).mono ?_
  rintro e w1 ⟨rfl, hb1⟩
  go_wp2_with fail
  refine (HI.out _ (h.below hb1)).mono ?_
  rintro e w2 ⟨rfl, hb2⟩
  go_wp2
  go_ret
  exact ⟨rfl, (by repeat (first | exact Below.refl _ _ | refine Below.drew ?_ | refine bel_al ?_ _ | refine bel_go ?_ hb2 | refine bel_go ?_ hb1 | refine Below.setCell ?_ (by first | omega | (simp; done) | (simp; omega)) _ | refine Below.alloc ?_ (by first | omega | (simp; done) | (simp; omega)) _ | refine Below.trans ?_ (Below.mono hb2 (by first | omega | (simp; done) | (simp; omega))) | refine Below.trans ?_ (Below.mono hb1 (by first | omega | (simp; done) | (simp; omega)))))⟩
set_option maxHeartbeats 1000000 in
theorem law_nan (fm : Int) (w : World) (h : Tab w) :
    Calls Tryd.prog 5 #[.int .i64 fm] w fun e w' => e = .returned (.bool true) ∧ Below w.heap.size w w' := by
  have all : ∃ v : Int, (∀ w, Calls Tryd.prog 13 #[.int .i64 fm] w fun e w' => e = .returned (.int .u64 v) ∧ Below w.heap.size w w') ∧ (∀ w, Tab w → Calls Tryd.prog 14 #[.int .i64 fm] w fun e w' => e = .returned (.int .u64 v) ∧ Below w.heap.size w w') := by
    by_cases h32 : fm = 32
    · subst h32; exact ⟨_, fun w => spec_nan32 w, fun w h => impl_nan32 w h⟩
    by_cases h64 : fm = 64
    · subst h64; exact ⟨_, fun w => spec_nan64 w, fun w h => impl_nan64 w h⟩
    exact ⟨0, fun w => spec_nan0 fm w h32 h64, fun w h => impl_nan0 fm w h h32 h64⟩
  obtain ⟨v, hsp, him⟩ := all
  have HS := hid hsp; have HI := hid him
  clear hsp him
  have hbe : (v != v) = false := by simp
  go_enter Tryd.func5, Tryd.ntmps5
  go_wp2_with fail
  refine (HS.out _).mono ?_
  rintro e w1 ⟨rfl, hb1⟩
  go_wp2_with fail
  refine (HI.out _ (h.below hb1)).mono ?_
  rintro e w2 ⟨rfl, hb2⟩
  go_wp2
  go_ret
  exact ⟨rfl, (by repeat (first | exact Below.refl _ _ | refine Below.drew ?_ | refine bel_al ?_ _ | refine bel_go ?_ hb2 | refine bel_go ?_ hb1 | refine Below.setCell ?_ (by first | omega | (simp; done) | (simp; omega)) _ | refine Below.alloc ?_ (by first | omega | (simp; done) | (simp; omega)) _ | refine Below.trans ?_ (Below.mono hb2 (by first | omega | (simp; done) | (simp; omega))) | refine Below.trans ?_ (Below.mono hb1 (by first | omega | (simp; done) | (simp; omega)))))⟩
end Go.Proofs.YtgedhfmahfcdpaaDoor
