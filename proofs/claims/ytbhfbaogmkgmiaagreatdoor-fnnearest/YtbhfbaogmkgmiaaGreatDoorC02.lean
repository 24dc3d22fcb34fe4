/-
  What is needed of FloatB, FloatD, FloatE.
-/
import Derived.Deep.QuietTactic
import Derived.BigQuiet
import Derived.Test.YtbhfbaogmkgmiaaGreatDoorC00
set_option maxHeartbeats 16000000
set_option maxRecDepth 1000000
namespace Go.Proofs.YtbhfbaogmkgmiaaGreatDoor
set_option linter.unusedVariables false
set_option linter.unusedSimpArgs false
open Go.RowKit
/-- The three cells of a format's sizes. -/
def Z3 (w : World) (b : Nat) (v0 v1 v2 : Value) : Prop := w.cell? ⟨b, 0, none⟩ = some v0 ∧ w.cell? ⟨b, 1, none⟩ = some v1 ∧ w.cell? ⟨b, 2, none⟩ = some v2
theorem Z3.below {w w' : World} {b : Nat} {v0 v1 v2 : Value} (h : Z3 w b v0 v1 v2) (hb : Below w.heap.size w w') : w'.cell? ⟨b, 0, none⟩ = some v0 ∧ w'.cell? ⟨b, 1, none⟩ = some v1 ∧ w'.cell? ⟨b, 2, none⟩ = some v2 := by
  have hlt := World.block_lt_of_cell? w _ h.1
  exact ⟨(hb.cell (p := ⟨b, 0, none⟩) hlt).trans h.1, (hb.cell (p := ⟨b, 1, none⟩) hlt).trans h.2.1, (hb.cell (p := ⟨b, 2, none⟩) hlt).trans h.2.2⟩
theorem Z3.new (w : World) (v0 v1 v2 : Value) (t : TypeId) : Z3 (w.alloc (.cells #[v0, v1, v2] t)) w.heap.size v0 v1 v2 := ⟨by simp, by simp, by simp⟩
theorem Z3.drew {w : World} {b : Nat} {v0 v1 v2 : Value} (h : Z3 w b v0 v1 v2) : Z3 w.drew b v0 v1 v2 := h

theorem impl_Inf32 (ng : Bool) (w : World) (h : Tab w) :
    Calls Tryz.prog 83 #[.int .i64 32, .bool ng] w fun e w' => e = .returned (.int .u64 (sgn 2147483648 2139095040 ng)) ∧ Below w.heap.size w w' := by
  go_enter Tryz.func83, Tryz.ntmps83
  go_wp2_with fail
  refine (sizes32 _ h).mono ?_
  rintro e w1 ⟨rfl, hb1⟩
  go_wp2_with fail
  have z1 := Z3.new w1 (.int .u64 23) (.int .u64 255) (.int .i64 (-149)) 101
  go_region_held3 (fun w' => w'.cell? ⟨w1.heap.size, 0, none⟩ = some (.int .u64 23) ∧ w'.cell? ⟨w1.heap.size, 1, none⟩ = some (.int .u64 255) ∧ w'.cell? ⟨w1.heap.size, 2, none⟩ = some (.int .i64 (-149))) (first | assumption | exact z1.drew)
    (first
      | (go_at_call 164; refine (infinity32 _).mono ?_; rintro e w2 ⟨rfl, hb2⟩; have z2 := Z3.below (Z3.drew z1) hb2)
      | (go_at_call 141; refine (signed32 2139095040 ng _ (by decide) (by decide)).mono ?_; rintro e w3 ⟨rfl, hb3⟩; have z3 := Z3.below z2 hb3))
  go_wp2
  go_ret
  exact ⟨rfl, (by repeat (first | exact bz0 _ _ | refine bz1 ?_ | refine bz2 ?_ _ | refine bz3 ?_ _ | refine bz4 ?_ hb3 | refine bz4 ?_ hb2 | refine bz4 ?_ hb1 | refine bz5 ?_ _ | refine bz6 ?_ _ | refine bz7 ?_ hb3 | refine bz7 ?_ hb2 | refine bz7 ?_ hb1))⟩
theorem impl_Inf64 (ng : Bool) (w : World) (h : Tab w) :
    Calls Tryz.prog 83 #[.int .i64 64, .bool ng] w fun e w' => e = .returned (.int .u64 (sgn 9223372036854775808 9218868437227405312 ng)) ∧ Below w.heap.size w w' := by
  go_enter Tryz.func83, Tryz.ntmps83
  go_wp2_with fail
  refine (sizes64 _ h).mono ?_
  rintro e w1 ⟨rfl, hb1⟩
  go_wp2_with fail
  have z1 := Z3.new w1 (.int .u64 52) (.int .u64 2047) (.int .i64 (-1074)) 101
  go_region_held3 (fun w' => w'.cell? ⟨w1.heap.size, 0, none⟩ = some (.int .u64 52) ∧ w'.cell? ⟨w1.heap.size, 1, none⟩ = some (.int .u64 2047) ∧ w'.cell? ⟨w1.heap.size, 2, none⟩ = some (.int .i64 (-1074))) (first | assumption | exact z1.drew)
    (first
      | (go_at_call 164; refine (infinity64 _).mono ?_; rintro e w2 ⟨rfl, hb2⟩; have z2 := Z3.below (Z3.drew z1) hb2)
      | (go_at_call 141; refine (signed64 9218868437227405312 ng _ (by decide) (by decide)).mono ?_; rintro e w3 ⟨rfl, hb3⟩; have z3 := Z3.below z2 hb3))
  go_wp2
  go_ret
  exact ⟨rfl, (by repeat (first | exact bz0 _ _ | refine bz1 ?_ | refine bz2 ?_ _ | refine bz3 ?_ _ | refine bz4 ?_ hb3 | refine bz4 ?_ hb2 | refine bz4 ?_ hb1 | refine bz5 ?_ _ | refine bz6 ?_ _ | refine bz7 ?_ hb3 | refine bz7 ?_ hb2 | refine bz7 ?_ hb1))⟩

theorem impl_Greatest32 (ng : Bool) (w : World) (h : Tab w) :
    Calls Tryz.prog 185 #[.int .i64 32, .bool ng] w fun e w' => e = .returned (.int .u64 (sgn 2147483648 2139095039 ng)) ∧ Below w.heap.size w w' := by
  go_enter Tryz.func185, Tryz.ntmps185
  go_wp2_with fail
  refine (sizes32 _ h).mono ?_
  rintro e w1 ⟨rfl, hb1⟩
  go_wp2_with fail
  have z1 := Z3.new w1 (.int .u64 23) (.int .u64 255) (.int .i64 (-149)) 101
  go_region_held3 (fun w' => w'.cell? ⟨w1.heap.size, 0, none⟩ = some (.int .u64 23) ∧ w'.cell? ⟨w1.heap.size, 1, none⟩ = some (.int .u64 255) ∧ w'.cell? ⟨w1.heap.size, 2, none⟩ = some (.int .i64 (-149))) (first | assumption | exact z1.drew)
    (first
      | (go_at_call 164; refine (infinity32 _).mono ?_; rintro e w2 ⟨rfl, hb2⟩; have z2 := Z3.below (Z3.drew z1) hb2)
      | (go_at_call 141; refine (signed32 2139095039 ng _ (by decide) (by decide)).mono ?_; rintro e w3 ⟨rfl, hb3⟩; have z3 := Z3.below z2 hb3))
  go_wp2
  go_ret
  exact ⟨rfl, (by repeat (first | exact bz0 _ _ | refine bz1 ?_ | refine bz2 ?_ _ | refine bz3 ?_ _ | refine bz4 ?_ hb3 | refine bz4 ?_ hb2 | refine bz4 ?_ hb1 | refine bz5 ?_ _ | refine bz6 ?_ _ | refine bz7 ?_ hb3 | refine bz7 ?_ hb2 | refine bz7 ?_ hb1))⟩
theorem impl_Greatest64 (ng : Bool) (w : World) (h : Tab w) :
    Calls Tryz.prog 185 #[.int .i64 64, .bool ng] w fun e w' => e = .returned (.int .u64 (sgn 9223372036854775808 9218868437227405311 ng)) ∧ Below w.heap.size w w' := by
  go_enter Tryz.func185, Tryz.ntmps185
  go_wp2_with fail
  refine (sizes64 _ h).mono ?_
  rintro e w1 ⟨rfl, hb1⟩
  go_wp2_with fail
  have z1 := Z3.new w1 (.int .u64 52) (.int .u64 2047) (.int .i64 (-1074)) 101
  go_region_held3 (fun w' => w'.cell? ⟨w1.heap.size, 0, none⟩ = some (.int .u64 52) ∧ w'.cell? ⟨w1.heap.size, 1, none⟩ = some (.int .u64 2047) ∧ w'.cell? ⟨w1.heap.size, 2, none⟩ = some (.int .i64 (-1074))) (first | assumption | exact z1.drew)
    (first
      | (go_at_call 164; refine (infinity64 _).mono ?_; rintro e w2 ⟨rfl, hb2⟩; have z2 := Z3.below (Z3.drew z1) hb2)
      | (go_at_call 141; refine (signed64 9218868437227405311 ng _ (by decide) (by decide)).mono ?_; rintro e w3 ⟨rfl, hb3⟩; have z3 := Z3.below z2 hb3))
  go_wp2
  go_ret
  exact ⟨rfl, (by repeat (first | exact bz0 _ _ | refine bz1 ?_ | refine bz2 ?_ _ | refine bz3 ?_ _ | refine bz4 ?_ hb3 | refine bz4 ?_ hb2 | refine bz4 ?_ hb1 | refine bz5 ?_ _ | refine bz6 ?_ _ | refine bz7 ?_ hb3 | refine bz7 ?_ hb2 | refine bz7 ?_ hb1))⟩

theorem impl_Zero32 (ng : Bool) (w : World) (h : Tab w) :
    Calls Tryz.prog 56 #[.int .i64 32, .bool ng] w fun e w' => e = .returned (.int .u64 (sgn 2147483648 0 ng)) ∧ Below w.heap.size w w' := by
  go_enter Tryz.func56, Tryz.ntmps56
  go_wp2_with fail
  refine (sizes32 _ h).mono ?_
  rintro e w1 ⟨rfl, hb1⟩
  go_wp2_with (go_at_call 141; refine (signed32 0 ng _ (by decide) (by decide)).mono ?_; rintro e w3 ⟨rfl, hb3⟩)
  go_ret
  exact ⟨rfl, (by repeat (first | exact bz0 _ _ | refine bz1 ?_ | refine bz2 ?_ _ | refine bz3 ?_ _ | refine bz4 ?_ hb3 | refine bz4 ?_ hb1 | refine bz5 ?_ _ | refine bz6 ?_ _ | refine bz7 ?_ hb3 | refine bz7 ?_ hb1))⟩
theorem impl_Zero64 (ng : Bool) (w : World) (h : Tab w) :
    Calls Tryz.prog 56 #[.int .i64 64, .bool ng] w fun e w' => e = .returned (.int .u64 (sgn 9223372036854775808 0 ng)) ∧ Below w.heap.size w w' := by
  go_enter Tryz.func56, Tryz.ntmps56
  go_wp2_with fail
  refine (sizes64 _ h).mono ?_
  rintro e w1 ⟨rfl, hb1⟩
  go_wp2_with (go_at_call 141; refine (signed64 0 ng _ (by decide) (by decide)).mono ?_; rintro e w3 ⟨rfl, hb3⟩)
  go_ret
  exact ⟨rfl, (by repeat (first | exact bz0 _ _ | refine bz1 ?_ | refine bz2 ?_ _ | refine bz3 ?_ _ | refine bz4 ?_ hb3 | refine bz4 ?_ hb1 | refine bz5 ?_ _ | refine bz6 ?_ _ | refine bz7 ?_ hb3 | refine bz7 ?_ hb1))⟩
/-- Whether it is a float of the format. -/
def okF (fm x : Int) : Bool := fm == 64 || (fm == 32 && decide (x < 4294967296))
theorem okF0 {fm x : Int} (h32 : fm ≠ 32) (h64 : fm ≠ 64) : okF fm x = false := by simp [okF, h32, h64]

theorem impl_ok32 (x : Int) (w : World) (h : Tab w) (h0 : 0 ≤ x) (h1 : x < 18446744073709551616) :
    Calls Tryz.prog 105 #[.int .i64 32, .int .u64 x] w fun e w' => e = .returned (.bool (decide (x < 4294967296))) ∧ Below w.heap.size w w' := by
  have e := Bt.andNot31 x h0 h1
  have HX : Hid (decide (bits .andNot .u64 x 2147483648 < 2147483648) = decide (x < 4294967296)) := hid (by rw [e]; congr 1; apply propext; omega)
  clear e
  go_enter Tryz.func105, Tryz.ntmps105
  go_wp2_with fail
  refine (sizes32 _ h).mono ?_
  rintro e w1 ⟨rfl, hb1⟩
  go_wp2_with fail
  have z1 := Z3.new w1 (.int .u64 23) (.int .u64 255) (.int .i64 (-149)) 101
  go_region_held3 (fun w' => w'.cell? ⟨w1.heap.size, 0, none⟩ = some (.int .u64 23) ∧ w'.cell? ⟨w1.heap.size, 1, none⟩ = some (.int .u64 255) ∧ w'.cell? ⟨w1.heap.size, 2, none⟩ = some (.int .i64 (-149))) (first | assumption | exact z1.drew)
    (first
      | (go_at_call 106; refine (sign32 _).mono ?_; rintro e w2 ⟨rfl, hb2⟩; have z2 := Z3.below (Z3.drew z1) hb2)
      | (go_at_call 106; refine (sign32 _).mono ?_; rintro e w3 ⟨rfl, hb3⟩; have z3 := Z3.below z2 hb3))
  go_wp2
  go_ret
  exact ⟨ret_bool HX.out, (by repeat (first | exact bz0 _ _ | refine bz1 ?_ | refine bz2 ?_ _ | refine bz3 ?_ _ | refine bz4 ?_ hb3 | refine bz4 ?_ hb2 | refine bz4 ?_ hb1 | refine bz5 ?_ _ | refine bz6 ?_ _ | refine bz7 ?_ hb3 | refine bz7 ?_ hb2 | refine bz7 ?_ hb1))⟩
theorem impl_ok64 (x : Int) (w : World) (h : Tab w) (h0 : 0 ≤ x) (h1 : x < 18446744073709551616) :
    Calls Tryz.prog 105 #[.int .i64 64, .int .u64 x] w fun e w' => e = .returned (.bool (decide (x < 18446744073709551616))) ∧ Below w.heap.size w w' := by
  have e := Bt.andNot63 x h0 h1
  have HX : Hid (decide (bits .andNot .u64 x 9223372036854775808 < 9223372036854775808) = decide (x < 18446744073709551616)) := hid (by rw [e]; congr 1; apply propext; omega)
  clear e
  go_enter Tryz.func105, Tryz.ntmps105
  go_wp2_with fail
  refine (sizes64 _ h).mono ?_
  rintro e w1 ⟨rfl, hb1⟩
  go_wp2_with fail
  have z1 := Z3.new w1 (.int .u64 52) (.int .u64 2047) (.int .i64 (-1074)) 101
  go_region_held3 (fun w' => w'.cell? ⟨w1.heap.size, 0, none⟩ = some (.int .u64 52) ∧ w'.cell? ⟨w1.heap.size, 1, none⟩ = some (.int .u64 2047) ∧ w'.cell? ⟨w1.heap.size, 2, none⟩ = some (.int .i64 (-1074))) (first | assumption | exact z1.drew)
    (first
      | (go_at_call 106; refine (sign64 _).mono ?_; rintro e w2 ⟨rfl, hb2⟩; have z2 := Z3.below (Z3.drew z1) hb2)
      | (go_at_call 106; refine (sign64 _).mono ?_; rintro e w3 ⟨rfl, hb3⟩; have z3 := Z3.below z2 hb3))
  go_wp2
  go_ret
  exact ⟨ret_bool HX.out, (by repeat (first | exact bz0 _ _ | refine bz1 ?_ | refine bz2 ?_ _ | refine bz3 ?_ _ | refine bz4 ?_ hb3 | refine bz4 ?_ hb2 | refine bz4 ?_ hb1 | refine bz5 ?_ _ | refine bz6 ?_ _ | refine bz7 ?_ hb3 | refine bz7 ?_ hb2 | refine bz7 ?_ hb1))⟩

theorem impl_ok0 (fm x : Int) (w : World) (h : Tab w) (h32 : fm ≠ 32) (h64 : fm ≠ 64) :
    Calls Tryz.prog 105 #[.int .i64 fm, .int .u64 x] w fun e w' => e = .returned (.bool false) ∧ Below w.heap.size w w' := by
  go_enter Tryz.func105, Tryz.ntmps105
  go_wp2_with fail
  refine (sizes0 fm _ h h32 h64).mono ?_
  rintro e w1 ⟨rfl, hb1⟩
  go_wp2_with fail
  have z1 := Z3.new w1 (.int .u64 0) (.int .u64 0) (.int .i64 0) 101
  go_quiet (fail)
  go_wp2
  go_ret
  exact ⟨rfl, (by repeat (first | exact bz0 _ _ | refine bz1 ?_ | refine bz2 ?_ _ | refine bz3 ?_ _ | refine bz4 ?_ hb1 | refine bz5 ?_ _ | refine bz6 ?_ _ | refine bz7 ?_ hb1))⟩

theorem spec_ok (fm x : Int) (w : World) :
    Calls Tryz.prog 88 #[.int .i64 fm, .int .u64 x] w fun e w' => e = .returned (.bool (okF fm x)) ∧ Below w.heap.size w w' := by
  by_cases h64 : fm = 64
  · subst h64
    have HX : Hid (okF 64 x = true) := hid (by simp [okF])
    go_enter Tryz.func88, Tryz.ntmps88
    go_wp2
    go_ret
    exact ⟨ret_bool HX.out.symm, (by repeat (first | exact bz0 _ _ | refine bz1 ?_ | refine bz2 ?_ _ | refine bz3 ?_ _ | refine bz5 ?_ _ | refine bz6 ?_ _))⟩
  · have e2 : (fm == 64) = false := by simpa using h64
    by_cases h32 : fm = 32
    · subst h32
      have HX : Hid (okF 32 x = decide (x < 4294967296)) := hid (by simp [okF])
      clear h64 e2
      go_enter Tryz.func88, Tryz.ntmps88
      go_wp2
      go_ret
      exact ⟨ret_bool HX.out.symm, (by repeat (first | exact bz0 _ _ | refine bz1 ?_ | refine bz2 ?_ _ | refine bz3 ?_ _ | refine bz5 ?_ _ | refine bz6 ?_ _))⟩
    · have e1 : (fm == 32) = false := by simpa using h32
      have HX : Hid (okF fm x = false) := hid (okF0 h32 h64)
      clear h32 h64
      go_enter Tryz.func88, Tryz.ntmps88
      go_wp2
      go_ret
      exact ⟨ret_bool HX.out.symm, (by repeat (first | exact bz0 _ _ | refine bz1 ?_ | refine bz2 ?_ _ | refine bz3 ?_ _ | refine bz5 ?_ _ | refine bz6 ?_ _))⟩

theorem impl_ok (fm x : Int) (w : World) (h : Tab w) (h0 : 0 ≤ x) (h1 : x < 18446744073709551616) :
    Calls Tryz.prog 105 #[.int .i64 fm, .int .u64 x] w fun e w' => e = .returned (.bool (okF fm x)) ∧ Below w.heap.size w w' := by
  by_cases h32 : fm = 32
  · subst h32; have := impl_ok32 x w h h0 h1; rwa [show okF 32 x = decide (x < 4294967296) by simp [okF]]
  by_cases h64 : fm = 64
  · subst h64; have := impl_ok64 x w h h0 h1; rwa [show okF 64 x = decide (x < 18446744073709551616) by simp [okF, h1]]
  rw [okF0 h32 h64]; exact impl_ok0 fm x w h h32 h64
/-- The class of a float whose bits without sign are y. -/
def clsY (L I Q y : Int) : Int := if y = 0 then 0 else if y < L then 1 else if y < I then 2 else if y = I then 3 else if y / Q % 2 = 1 then 4 else 5
/-- The class of bits of a format; -1 when they are no float. -/
def cls (fm x : Int) : Int := if okF fm x then (if fm = 32 then clsY 8388608 2139095040 4194304 (x % 2147483648) else clsY 4503599627370496 9218868437227405312 2251799813685248 (x % 9223372036854775808)) else -1
theorem okF32 {x : Int} (h : x < 4294967296) : okF 32 x = true := by simp [okF, h]
theorem okF64 {x : Int} : okF 64 x = true := by simp [okF]
theorem cls32 {x : Int} (h : x < 4294967296) : cls 32 x = clsY 8388608 2139095040 4194304 (x % 2147483648) := by unfold cls; rw [okF32 h]; simp
theorem cls64 {x : Int} : cls 64 x = clsY 4503599627370496 9218868437227405312 2251799813685248 (x % 9223372036854775808) := by unfold cls; rw [okF64]; simp
theorem cls_no {fm x : Int} (h : okF fm x = false) : cls fm x = -1 := by unfold cls; rw [h]; simp

theorem okF_cases {fm x : Int} (h : okF fm x = true) : fm = 32 ∧ x < 4294967296 ∨ fm = 64 := by
  unfold okF at h
  by_cases h64 : fm = 64
  · exact .inr h64
  · simp [h64] at h; exact .inl h
theorem impl_cls32 (x : Int) (w : World) (h : Tab w) (h0 : 0 ≤ x) (h1 : x < 4294967296) :
    Calls Tryz.prog 80 #[.int .i64 32, .int .u64 x] w fun e w' => e = .returned (.int .i64 (clsY 8388608 2139095040 4194304 (x % 2147483648))) ∧ Below w.heap.size w w' := by
  have hok : okF 32 x = true := by simp [okF, h1]
  have h1' : x < 18446744073709551616 := by omega
  have eb := Bt.bit22 (x % 8388608) (by omega) (by omega)
  obtain ⟨y, hy⟩ : ∃ y, y = x % 2147483648 := ⟨_, rfl⟩
  rw [← hy]
  by_cases c0 : y = 0
  · have t0 : (x / 8388608 % 256 == 0) = true := by rw [beq_iff_eq]; omega
    have r0 : (x % 8388608 == 0) = true := by rw [beq_iff_eq]; omega
    have HR : Hid (clsY 8388608 2139095040 4194304 y = 0) := hid (by unfold clsY; rw [if_pos c0])
    clear c0 eb hy
    go_enter Tryz.func80, Tryz.ntmps80
    go_wp2_with fail
    refine (impl_ok 32 x _ h h0 h1').mono ?_
    rintro e w1 ⟨rfl, hb1⟩
    have hT1 := h.below hb1
    go_wp2_with fail
    refine (sizes32 _ hT1).mono ?_
    rintro e w2 ⟨rfl, hb2⟩
    go_wp2_with (go_at_call 162; refine (parted32 x _ h0 h1').mono ?_; rintro e w3 ⟨rfl, hb3⟩; obtain ⟨z30, z31, z32⟩ := Z3.below (Z3.new w2 (.int .u64 23) (.int .u64 255) (.int .i64 (-149)) 101) hb3)
    go_ret
    exact ⟨ret_int HR.out.symm, (by repeat (first | exact bz0 _ _ | refine bz1 ?_ | refine bz2 ?_ _ | refine bz3 ?_ _ | refine bz4 ?_ hb3 | refine bz4 ?_ hb2 | refine bz4 ?_ hb1 | refine bz5 ?_ _ | refine bz6 ?_ _ | refine bz7 ?_ hb3 | refine bz7 ?_ hb2 | refine bz7 ?_ hb1))⟩
  by_cases c1 : y < 8388608
  · have t0 : (x / 8388608 % 256 == 0) = true := by rw [beq_iff_eq]; omega
    have r0 : (x % 8388608 == 0) = false := by rw [beq_eq_false_iff_ne]; omega
    have HR : Hid (clsY 8388608 2139095040 4194304 y = 1) := hid (by unfold clsY; rw [if_neg c0, if_pos c1])
    clear c0 eb hy c1
    go_enter Tryz.func80, Tryz.ntmps80
    go_wp2_with fail
    refine (impl_ok 32 x _ h h0 h1').mono ?_
    rintro e w1 ⟨rfl, hb1⟩
    have hT1 := h.below hb1
    go_wp2_with fail
    refine (sizes32 _ hT1).mono ?_
    rintro e w2 ⟨rfl, hb2⟩
    go_wp2_with (go_at_call 162; refine (parted32 x _ h0 h1').mono ?_; rintro e w3 ⟨rfl, hb3⟩; obtain ⟨z30, z31, z32⟩ := Z3.below (Z3.new w2 (.int .u64 23) (.int .u64 255) (.int .i64 (-149)) 101) hb3)
    go_ret
    exact ⟨ret_int HR.out.symm, (by repeat (first | exact bz0 _ _ | refine bz1 ?_ | refine bz2 ?_ _ | refine bz3 ?_ _ | refine bz4 ?_ hb3 | refine bz4 ?_ hb2 | refine bz4 ?_ hb1 | refine bz5 ?_ _ | refine bz6 ?_ _ | refine bz7 ?_ hb3 | refine bz7 ?_ hb2 | refine bz7 ?_ hb1))⟩
  have t0 : (x / 8388608 % 256 == 0) = false := by rw [beq_eq_false_iff_ne]; omega
  by_cases c2 : y < 2139095040
  · have u0 : x / 8388608 % 256 < 255 := by omega
    have HR : Hid (clsY 8388608 2139095040 4194304 y = 2) := hid (by unfold clsY; rw [if_neg c0, if_neg c1, if_pos c2])
    clear c0 eb hy c1 c2
    go_enter Tryz.func80, Tryz.ntmps80
    go_wp2_with fail
    refine (impl_ok 32 x _ h h0 h1').mono ?_
    rintro e w1 ⟨rfl, hb1⟩
    have hT1 := h.below hb1
    go_wp2_with fail
    refine (sizes32 _ hT1).mono ?_
    rintro e w2 ⟨rfl, hb2⟩
    go_wp2_with (go_at_call 162; refine (parted32 x _ h0 h1').mono ?_; rintro e w3 ⟨rfl, hb3⟩; obtain ⟨z30, z31, z32⟩ := Z3.below (Z3.new w2 (.int .u64 23) (.int .u64 255) (.int .i64 (-149)) 101) hb3)
    go_ret
    exact ⟨ret_int HR.out.symm, (by repeat (first | exact bz0 _ _ | refine bz1 ?_ | refine bz2 ?_ _ | refine bz3 ?_ _ | refine bz4 ?_ hb3 | refine bz4 ?_ hb2 | refine bz4 ?_ hb1 | refine bz5 ?_ _ | refine bz6 ?_ _ | refine bz7 ?_ hb3 | refine bz7 ?_ hb2 | refine bz7 ?_ hb1))⟩
  have u0 : ¬ x / 8388608 % 256 < 255 := by omega
  by_cases c3 : y = 2139095040
  · have r0 : (x % 8388608 == 0) = true := by rw [beq_iff_eq]; omega
    have HR : Hid (clsY 8388608 2139095040 4194304 y = 3) := hid (by unfold clsY; rw [if_neg c0, if_neg c1, if_neg c2, if_pos c3])
    clear c0 eb c3 hy c1 c2
    go_enter Tryz.func80, Tryz.ntmps80
    go_wp2_with fail
    refine (impl_ok 32 x _ h h0 h1').mono ?_
    rintro e w1 ⟨rfl, hb1⟩
    have hT1 := h.below hb1
    go_wp2_with fail
    refine (sizes32 _ hT1).mono ?_
    rintro e w2 ⟨rfl, hb2⟩
    go_wp2_with (go_at_call 162; refine (parted32 x _ h0 h1').mono ?_; rintro e w3 ⟨rfl, hb3⟩; obtain ⟨z30, z31, z32⟩ := Z3.below (Z3.new w2 (.int .u64 23) (.int .u64 255) (.int .i64 (-149)) 101) hb3)
    go_ret
    exact ⟨ret_int HR.out.symm, (by repeat (first | exact bz0 _ _ | refine bz1 ?_ | refine bz2 ?_ _ | refine bz3 ?_ _ | refine bz4 ?_ hb3 | refine bz4 ?_ hb2 | refine bz4 ?_ hb1 | refine bz5 ?_ _ | refine bz6 ?_ _ | refine bz7 ?_ hb3 | refine bz7 ?_ hb2 | refine bz7 ?_ hb1))⟩
  have r0 : (x % 8388608 == 0) = false := by rw [beq_eq_false_iff_ne]; omega
  by_cases c4 : y / 4194304 % 2 = 1
  · have t4 : (bits .and .u64 (x % 8388608) 4194304 != 0) = true := by rw [eb, show x % 8388608 / 4194304 % 2 = 1 by omega]; decide
    have HR : Hid (clsY 8388608 2139095040 4194304 y = 4) := hid (by unfold clsY; rw [if_neg c0, if_neg c1, if_neg c2, if_neg c3, if_pos c4])
    clear c0 eb c3 c4 hy c1 c2
    go_enter Tryz.func80, Tryz.ntmps80
    go_wp2_with fail
    refine (impl_ok 32 x _ h h0 h1').mono ?_
    rintro e w1 ⟨rfl, hb1⟩
    have hT1 := h.below hb1
    go_wp2_with fail
    refine (sizes32 _ hT1).mono ?_
    rintro e w2 ⟨rfl, hb2⟩
    go_wp2_with (go_at_call 162; refine (parted32 x _ h0 h1').mono ?_; rintro e w3 ⟨rfl, hb3⟩; obtain ⟨z30, z31, z32⟩ := Z3.below (Z3.new w2 (.int .u64 23) (.int .u64 255) (.int .i64 (-149)) 101) hb3)
    refine (quiet32 _).mono ?_
    rintro e w4 ⟨rfl, hb4⟩
    go_wp2
    go_ret
    exact ⟨ret_int HR.out.symm, (by repeat (first | exact bz0 _ _ | refine bz1 ?_ | refine bz2 ?_ _ | refine bz3 ?_ _ | refine bz4 ?_ hb4 | refine bz4 ?_ hb3 | refine bz4 ?_ hb2 | refine bz4 ?_ hb1 | refine bz5 ?_ _ | refine bz6 ?_ _ | refine bz7 ?_ hb4 | refine bz7 ?_ hb3 | refine bz7 ?_ hb2 | refine bz7 ?_ hb1))⟩
  · have t4 : (bits .and .u64 (x % 8388608) 4194304 != 0) = false := by rw [eb, show x % 8388608 / 4194304 % 2 = 0 by omega]; decide
    have HR : Hid (clsY 8388608 2139095040 4194304 y = 5) := hid (by unfold clsY; rw [if_neg c0, if_neg c1, if_neg c2, if_neg c3, if_neg c4])
    clear c0 eb c3 c4 hy c1 c2
    go_enter Tryz.func80, Tryz.ntmps80
    go_wp2_with fail
    refine (impl_ok 32 x _ h h0 h1').mono ?_
    rintro e w1 ⟨rfl, hb1⟩
    have hT1 := h.below hb1
    go_wp2_with fail
    refine (sizes32 _ hT1).mono ?_
    rintro e w2 ⟨rfl, hb2⟩
    go_wp2_with (go_at_call 162; refine (parted32 x _ h0 h1').mono ?_; rintro e w3 ⟨rfl, hb3⟩; obtain ⟨z30, z31, z32⟩ := Z3.below (Z3.new w2 (.int .u64 23) (.int .u64 255) (.int .i64 (-149)) 101) hb3)
    refine (quiet32 _).mono ?_
    rintro e w4 ⟨rfl, hb4⟩
    go_wp2
    go_ret
    exact ⟨ret_int HR.out.symm, (by repeat (first | exact bz0 _ _ | refine bz1 ?_ | refine bz2 ?_ _ | refine bz3 ?_ _ | refine bz4 ?_ hb4 | refine bz4 ?_ hb3 | refine bz4 ?_ hb2 | refine bz4 ?_ hb1 | refine bz5 ?_ _ | refine bz6 ?_ _ | refine bz7 ?_ hb4 | refine bz7 ?_ hb3 | refine bz7 ?_ hb2 | refine bz7 ?_ hb1))⟩
theorem impl_cls64 (x : Int) (w : World) (h : Tab w) (h0 : 0 ≤ x) (h1 : x < 18446744073709551616) :
    Calls Tryz.prog 80 #[.int .i64 64, .int .u64 x] w fun e w' => e = .returned (.int .i64 (clsY 4503599627370496 9218868437227405312 2251799813685248 (x % 9223372036854775808))) ∧ Below w.heap.size w w' := by
  have hok : okF 64 x = true := by simp [okF, h1]
  have h1' : x < 18446744073709551616 := by omega
  have eb := Bt.bit51 (x % 4503599627370496) (by omega) (by omega)
  obtain ⟨y, hy⟩ : ∃ y, y = x % 9223372036854775808 := ⟨_, rfl⟩
  rw [← hy]
  by_cases c0 : y = 0
  · have t0 : (x / 4503599627370496 % 2048 == 0) = true := by rw [beq_iff_eq]; omega
    have r0 : (x % 4503599627370496 == 0) = true := by rw [beq_iff_eq]; omega
    have HR : Hid (clsY 4503599627370496 9218868437227405312 2251799813685248 y = 0) := hid (by unfold clsY; rw [if_pos c0])
    clear c0 eb hy
    go_enter Tryz.func80, Tryz.ntmps80
    go_wp2_with fail
    refine (impl_ok 64 x _ h h0 h1').mono ?_
    rintro e w1 ⟨rfl, hb1⟩
    have hT1 := h.below hb1
    go_wp2_with fail
    refine (sizes64 _ hT1).mono ?_
    rintro e w2 ⟨rfl, hb2⟩
    go_wp2_with (go_at_call 162; refine (parted64 x _ h0 h1').mono ?_; rintro e w3 ⟨rfl, hb3⟩; obtain ⟨z30, z31, z32⟩ := Z3.below (Z3.new w2 (.int .u64 52) (.int .u64 2047) (.int .i64 (-1074)) 101) hb3)
    go_ret
    exact ⟨ret_int HR.out.symm, (by repeat (first | exact bz0 _ _ | refine bz1 ?_ | refine bz2 ?_ _ | refine bz3 ?_ _ | refine bz4 ?_ hb3 | refine bz4 ?_ hb2 | refine bz4 ?_ hb1 | refine bz5 ?_ _ | refine bz6 ?_ _ | refine bz7 ?_ hb3 | refine bz7 ?_ hb2 | refine bz7 ?_ hb1))⟩
  by_cases c1 : y < 4503599627370496
  · have t0 : (x / 4503599627370496 % 2048 == 0) = true := by rw [beq_iff_eq]; omega
    have r0 : (x % 4503599627370496 == 0) = false := by rw [beq_eq_false_iff_ne]; omega
    have HR : Hid (clsY 4503599627370496 9218868437227405312 2251799813685248 y = 1) := hid (by unfold clsY; rw [if_neg c0, if_pos c1])
    clear c0 eb hy c1
    go_enter Tryz.func80, Tryz.ntmps80
    go_wp2_with fail
    refine (impl_ok 64 x _ h h0 h1').mono ?_
    rintro e w1 ⟨rfl, hb1⟩
    have hT1 := h.below hb1
    go_wp2_with fail
    refine (sizes64 _ hT1).mono ?_
    rintro e w2 ⟨rfl, hb2⟩
    go_wp2_with (go_at_call 162; refine (parted64 x _ h0 h1').mono ?_; rintro e w3 ⟨rfl, hb3⟩; obtain ⟨z30, z31, z32⟩ := Z3.below (Z3.new w2 (.int .u64 52) (.int .u64 2047) (.int .i64 (-1074)) 101) hb3)
    go_ret
    exact ⟨ret_int HR.out.symm, (by repeat (first | exact bz0 _ _ | refine bz1 ?_ | refine bz2 ?_ _ | refine bz3 ?_ _ | refine bz4 ?_ hb3 | refine bz4 ?_ hb2 | refine bz4 ?_ hb1 | refine bz5 ?_ _ | refine bz6 ?_ _ | refine bz7 ?_ hb3 | refine bz7 ?_ hb2 | refine bz7 ?_ hb1))⟩
  have t0 : (x / 4503599627370496 % 2048 == 0) = false := by rw [beq_eq_false_iff_ne]; omega
  by_cases c2 : y < 9218868437227405312
  · have u0 : x / 4503599627370496 % 2048 < 2047 := by omega
    have HR : Hid (clsY 4503599627370496 9218868437227405312 2251799813685248 y = 2) := hid (by unfold clsY; rw [if_neg c0, if_neg c1, if_pos c2])
    clear c0 eb hy c1 c2
    go_enter Tryz.func80, Tryz.ntmps80
    go_wp2_with fail
    refine (impl_ok 64 x _ h h0 h1').mono ?_
    rintro e w1 ⟨rfl, hb1⟩
    have hT1 := h.below hb1
    go_wp2_with fail
    refine (sizes64 _ hT1).mono ?_
    rintro e w2 ⟨rfl, hb2⟩
    go_wp2_with (go_at_call 162; refine (parted64 x _ h0 h1').mono ?_; rintro e w3 ⟨rfl, hb3⟩; obtain ⟨z30, z31, z32⟩ := Z3.below (Z3.new w2 (.int .u64 52) (.int .u64 2047) (.int .i64 (-1074)) 101) hb3)
    go_ret
    exact ⟨ret_int HR.out.symm, (by repeat (first | exact bz0 _ _ | refine bz1 ?_ | refine bz2 ?_ _ | refine bz3 ?_ _ | refine bz4 ?_ hb3 | refine bz4 ?_ hb2 | refine bz4 ?_ hb1 | refine bz5 ?_ _ | refine bz6 ?_ _ | refine bz7 ?_ hb3 | refine bz7 ?_ hb2 | refine bz7 ?_ hb1))⟩
  have u0 : ¬ x / 4503599627370496 % 2048 < 2047 := by omega
  by_cases c3 : y = 9218868437227405312
  · have r0 : (x % 4503599627370496 == 0) = true := by rw [beq_iff_eq]; omega
    have HR : Hid (clsY 4503599627370496 9218868437227405312 2251799813685248 y = 3) := hid (by unfold clsY; rw [if_neg c0, if_neg c1, if_neg c2, if_pos c3])
    clear c0 eb c3 hy c1 c2
    go_enter Tryz.func80, Tryz.ntmps80
    go_wp2_with fail
    refine (impl_ok 64 x _ h h0 h1').mono ?_
    rintro e w1 ⟨rfl, hb1⟩
    have hT1 := h.below hb1
    go_wp2_with fail
    refine (sizes64 _ hT1).mono ?_
    rintro e w2 ⟨rfl, hb2⟩
    go_wp2_with (go_at_call 162; refine (parted64 x _ h0 h1').mono ?_; rintro e w3 ⟨rfl, hb3⟩; obtain ⟨z30, z31, z32⟩ := Z3.below (Z3.new w2 (.int .u64 52) (.int .u64 2047) (.int .i64 (-1074)) 101) hb3)
    go_ret
    exact ⟨ret_int HR.out.symm, (by repeat (first | exact bz0 _ _ | refine bz1 ?_ | refine bz2 ?_ _ | refine bz3 ?_ _ | refine bz4 ?_ hb3 | refine bz4 ?_ hb2 | refine bz4 ?_ hb1 | refine bz5 ?_ _ | refine bz6 ?_ _ | refine bz7 ?_ hb3 | refine bz7 ?_ hb2 | refine bz7 ?_ hb1))⟩
  have r0 : (x % 4503599627370496 == 0) = false := by rw [beq_eq_false_iff_ne]; omega
  by_cases c4 : y / 2251799813685248 % 2 = 1
  · have t4 : (bits .and .u64 (x % 4503599627370496) 2251799813685248 != 0) = true := by rw [eb, show x % 4503599627370496 / 2251799813685248 % 2 = 1 by omega]; decide
    have HR : Hid (clsY 4503599627370496 9218868437227405312 2251799813685248 y = 4) := hid (by unfold clsY; rw [if_neg c0, if_neg c1, if_neg c2, if_neg c3, if_pos c4])
    clear c0 eb c3 c4 hy c1 c2
    go_enter Tryz.func80, Tryz.ntmps80
    go_wp2_with fail
    refine (impl_ok 64 x _ h h0 h1').mono ?_
    rintro e w1 ⟨rfl, hb1⟩
    have hT1 := h.below hb1
    go_wp2_with fail
    refine (sizes64 _ hT1).mono ?_
    rintro e w2 ⟨rfl, hb2⟩
    go_wp2_with (go_at_call 162; refine (parted64 x _ h0 h1').mono ?_; rintro e w3 ⟨rfl, hb3⟩; obtain ⟨z30, z31, z32⟩ := Z3.below (Z3.new w2 (.int .u64 52) (.int .u64 2047) (.int .i64 (-1074)) 101) hb3)
    refine (quiet64 _).mono ?_
    rintro e w4 ⟨rfl, hb4⟩
    go_wp2
    go_ret
    exact ⟨ret_int HR.out.symm, (by repeat (first | exact bz0 _ _ | refine bz1 ?_ | refine bz2 ?_ _ | refine bz3 ?_ _ | refine bz4 ?_ hb4 | refine bz4 ?_ hb3 | refine bz4 ?_ hb2 | refine bz4 ?_ hb1 | refine bz5 ?_ _ | refine bz6 ?_ _ | refine bz7 ?_ hb4 | refine bz7 ?_ hb3 | refine bz7 ?_ hb2 | refine bz7 ?_ hb1))⟩
  · have t4 : (bits .and .u64 (x % 4503599627370496) 2251799813685248 != 0) = false := by rw [eb, show x % 4503599627370496 / 2251799813685248 % 2 = 0 by omega]; decide
    have HR : Hid (clsY 4503599627370496 9218868437227405312 2251799813685248 y = 5) := hid (by unfold clsY; rw [if_neg c0, if_neg c1, if_neg c2, if_neg c3, if_neg c4])
    clear c0 eb c3 c4 hy c1 c2
    go_enter Tryz.func80, Tryz.ntmps80
    go_wp2_with fail
    refine (impl_ok 64 x _ h h0 h1').mono ?_
    rintro e w1 ⟨rfl, hb1⟩
    have hT1 := h.below hb1
    go_wp2_with fail
    refine (sizes64 _ hT1).mono ?_
    rintro e w2 ⟨rfl, hb2⟩
    go_wp2_with (go_at_call 162; refine (parted64 x _ h0 h1').mono ?_; rintro e w3 ⟨rfl, hb3⟩; obtain ⟨z30, z31, z32⟩ := Z3.below (Z3.new w2 (.int .u64 52) (.int .u64 2047) (.int .i64 (-1074)) 101) hb3)
    refine (quiet64 _).mono ?_
    rintro e w4 ⟨rfl, hb4⟩
    go_wp2
    go_ret
    exact ⟨ret_int HR.out.symm, (by repeat (first | exact bz0 _ _ | refine bz1 ?_ | refine bz2 ?_ _ | refine bz3 ?_ _ | refine bz4 ?_ hb4 | refine bz4 ?_ hb3 | refine bz4 ?_ hb2 | refine bz4 ?_ hb1 | refine bz5 ?_ _ | refine bz6 ?_ _ | refine bz7 ?_ hb4 | refine bz7 ?_ hb3 | refine bz7 ?_ hb2 | refine bz7 ?_ hb1))⟩
theorem impl_clsNo (fm x : Int) (w : World) (hT : Tab w) (h : okF fm x = false) (h0 : 0 ≤ x) (h1 : x < 18446744073709551616) :
    Calls Tryz.prog 80 #[.int .i64 fm, .int .u64 x] w fun e w' => e = .returned (.int .i64 (-1)) ∧ Below w.heap.size w w' := by
  go_enter Tryz.func80, Tryz.ntmps80
  go_wp2_with (go_at_call 105; refine (impl_ok fm x _ hT h0 h1).mono ?_; rintro e w1 ⟨rfl, hb1⟩)
  go_ret
  exact ⟨rfl, (by repeat (first | exact bz0 _ _ | refine bz1 ?_ | refine bz2 ?_ _ | refine bz3 ?_ _ | refine bz4 ?_ hb1 | refine bz5 ?_ _ | refine bz6 ?_ _ | refine bz7 ?_ hb1))⟩
theorem impl_cls (fm x : Int) (w : World) (hT : Tab w) (h0 : 0 ≤ x) (h1 : x < 18446744073709551616) :
    Calls Tryz.prog 80 #[.int .i64 fm, .int .u64 x] w fun e w' => e = .returned (.int .i64 (cls fm x)) ∧ Below w.heap.size w w' := by
  cases h : okF fm x
  · rw [cls_no h]; exact impl_clsNo fm x w hT h h0 h1
  · rcases okF_cases h with ⟨rfl, hx⟩ | rfl
    · rw [cls32 hx]; exact impl_cls32 x w hT h0 hx
    · rw [cls64]; exact impl_cls64 x w hT h0 h1
end Go.Proofs.YtbhfbaogmkgmiaaGreatDoor
