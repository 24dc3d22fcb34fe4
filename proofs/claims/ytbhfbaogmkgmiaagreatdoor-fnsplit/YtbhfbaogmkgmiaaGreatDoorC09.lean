/-
  What is needed of FloatB, FloatK, FloatL.
-/
import Derived.Test.YtbhfbaogmkgmiaaGreatDoorC07
set_option maxHeartbeats 16000000
set_option maxRecDepth 1000000
namespace Go.Proofs.YtbhfbaogmkgmiaaGreatDoor
set_option linter.unusedVariables false
set_option linter.unusedSimpArgs false
open Go.RowKit
theorem impl_nan32 (w : World) (h : Tab w) :
    Calls Tryz.prog 81 #[.int .i64 32] w fun e w' => e = .returned (.int .u64 2143289344) ∧ Below w.heap.size w w' := by
  have hor : bits .or .u64 2139095040 4194304 = 2143289344 := by decide +kernel
  go_enter Tryz.func81, Tryz.ntmps81
  go_wp2_with fail
  refine (sizes32 _ h).mono ?_
  rintro e w1 ⟨rfl, hb1⟩
  go_wp2_with fail
  have z1 := Z3.new w1 (.int .u64 23) (.int .u64 255) (.int .i64 (-149)) 101
  go_region_held3 (fun w' => w'.cell? ⟨w1.heap.size, 0, none⟩ = some (.int .u64 23) ∧ w'.cell? ⟨w1.heap.size, 1, none⟩ = some (.int .u64 255) ∧ w'.cell? ⟨w1.heap.size, 2, none⟩ = some (.int .i64 (-149))) (first | assumption | exact z1.drew)
    (first
      | (go_at_call 164; refine (infinity32 _).mono ?_; rintro e w2 ⟨rfl, hb2⟩; have z2 := Z3.below (Z3.drew z1) hb2)
      | (go_at_call 163; refine (quiet32 _).mono ?_; rintro e w3 ⟨rfl, hb3⟩; have z3 := Z3.below z2 hb3))
  go_wp2
  go_ret
  exact ⟨rfl, (by repeat (first | exact bz0 _ _ | refine bz1 ?_ | refine bz2 ?_ _ | refine bz3 ?_ _ | refine bz4 ?_ hb3 | refine bz4 ?_ hb2 | refine bz4 ?_ hb1 | refine bz5 ?_ _ | refine bz6 ?_ _ | refine bz7 ?_ hb3 | refine bz7 ?_ hb2 | refine bz7 ?_ hb1))⟩

theorem impl_nan64 (w : World) (h : Tab w) :
    Calls Tryz.prog 81 #[.int .i64 64] w fun e w' => e = .returned (.int .u64 9221120237041090560) ∧ Below w.heap.size w w' := by
  have hor : bits .or .u64 9218868437227405312 2251799813685248 = 9221120237041090560 := by decide +kernel
  go_enter Tryz.func81, Tryz.ntmps81
  go_wp2_with fail
  refine (sizes64 _ h).mono ?_
  rintro e w1 ⟨rfl, hb1⟩
  go_wp2_with fail
  have z1 := Z3.new w1 (.int .u64 52) (.int .u64 2047) (.int .i64 (-1074)) 101
  go_region_held3 (fun w' => w'.cell? ⟨w1.heap.size, 0, none⟩ = some (.int .u64 52) ∧ w'.cell? ⟨w1.heap.size, 1, none⟩ = some (.int .u64 2047) ∧ w'.cell? ⟨w1.heap.size, 2, none⟩ = some (.int .i64 (-1074))) (first | assumption | exact z1.drew)
    (first
      | (go_at_call 164; refine (infinity64 _).mono ?_; rintro e w2 ⟨rfl, hb2⟩; have z2 := Z3.below (Z3.drew z1) hb2)
      | (go_at_call 163; refine (quiet64 _).mono ?_; rintro e w3 ⟨rfl, hb3⟩; have z3 := Z3.below z2 hb3))
  go_wp2
  go_ret
  exact ⟨rfl, (by repeat (first | exact bz0 _ _ | refine bz1 ?_ | refine bz2 ?_ _ | refine bz3 ?_ _ | refine bz4 ?_ hb3 | refine bz4 ?_ hb2 | refine bz4 ?_ hb1 | refine bz5 ?_ _ | refine bz6 ?_ _ | refine bz7 ?_ hb3 | refine bz7 ?_ hb2 | refine bz7 ?_ hb1))⟩

theorem num_nan {fm x : Int} (h : okF fm x = true) : numB fm x = !nanB fm x := by
  rcases okF_cases h with ⟨rfl, hx⟩ | rfl
  · unfold numB nanB infOf; rw [cls32 hx, abs32 hx, if_pos rfl]; unfold clsY
    rw [Bool.eq_iff_iff]; simp only [decide_eq_true_eq, Bool.not_eq_true', decide_eq_false_iff_not]
    repeat' split
    all_goals omega
  · unfold numB nanB infOf; rw [cls64, abs64, if_neg (by decide)]; unfold clsY
    rw [Bool.eq_iff_iff]; simp only [decide_eq_true_eq, Bool.not_eq_true', decide_eq_false_iff_not]
    repeat' split
    all_goals omega
theorem cls_zero {fm x : Int} (h : okF fm x = true) : (cls fm x == 0) = (absF fm x == 0) := by
  rcases okF_cases h with ⟨rfl, hx⟩ | rfl
  · rw [cls32 hx, abs32 hx]; unfold clsY
    rw [Bool.eq_iff_iff]; simp only [beq_iff_eq]
    repeat' split
    all_goals omega
  · rw [cls64, abs64]; unfold clsY
    rw [Bool.eq_iff_iff]; simp only [beq_iff_eq]
    repeat' split
    all_goals omega

/-- The classes, told by the bits without sign. -/
theorem cls_nan {fm x : Int} (h : okF fm x = true) (h1 : nanB fm x = true) : cls fm x = 4 ∨ cls fm x = 5 := by
  have r := cls_rng fm x
  have n := num_nan h
  rw [h1] at n
  unfold numB at n
  simp at n
  have z := cls_zero h
  rcases okF_cases h with ⟨rfl, hx⟩ | rfl
  · have := clsY_rng 8388608 2139095040 4194304 (x % 2147483648); rw [← cls32 hx] at this; omega
  · have := clsY_rng 4503599627370496 9218868437227405312 2251799813685248 (x % 9223372036854775808); rw [← cls64] at this; omega
theorem cls_num {fm x : Int} (h : okF fm x = true) (h1 : nanB fm x = false) : 0 ≤ cls fm x ∧ cls fm x ≤ 3 := by
  have n := num_nan h
  rw [h1] at n
  unfold numB at n
  simpa using n
end Go.Proofs.YtbhfbaogmkgmiaaGreatDoor
