/-
  What is needed of FloatO, LH.
-/
import Derived.Test.YtbhfbaogmkgmiaaGreatDoorC43
set_option maxHeartbeats 16000000
set_option maxRecDepth 1000000
namespace Go.Proofs.YtbhfbaogmkgmiaaGreatDoor
set_option linter.unusedVariables false
set_option linter.unusedSimpArgs false
open Go.RowKit
theorem spec_l2Parts (fm x : Int) (w : World) (hf : finB fm x = true) (h0 : 0 ≤ x) (h1 : x < 18446744073709551616) :
    Calls Tryz.prog 120 #[.int .i64 fm, .int .u64 x] w fun e w' => e = .returned (.agg #[.bool (pS fm x), .int .i64 (pM fm x), .int .i64 (pE fm x)]) ∧ Below w.heap.size w w' := by
  have ho : okF fm x = true := by
    cases ho : okF fm x
    · rw [fin_no ho] at hf; cases hf
    · rfl
  rcases okF_cases ho with ⟨rfl, hx⟩ | rfl
  · refine (spec_l2Parts32 x w h0 hx).mono ?_
    rintro e w1 ⟨rfl, hb1⟩
    exact ⟨ret_p3 (by unfold pS; rw [hf]; rfl) (by unfold pM; rw [hf]; rfl) (by unfold pE; rw [hf]; rfl), hb1⟩
  · refine (spec_l2Parts64 x w h0 h1).mono ?_
    rintro e w1 ⟨rfl, hb1⟩
    exact ⟨ret_p3 (by unfold pS; rw [hf]; rfl) (by unfold pM; rw [hf]; rfl) (by unfold pE; rw [hf]; rfl), hb1⟩
theorem spec_parts (fm x : Int) (w : World) (h0 : 0 ≤ x) (h1 : x < 18446744073709551616) :
    Calls Tryz.prog 104 #[.int .i64 fm, .int .u64 x] w fun e w' => e = .returned (.tuple #[.agg #[.bool (pS fm x), .int .i64 (pM fm x), .int .i64 (pE fm x)], .bool (finB fm x)]) ∧ Below w.heap.size w w' := by
  cases hf : finB fm x
  · have HS : Hid (false = pS fm x) := hid (by unfold pS; rw [hf]; rfl)
    have HM : Hid (0 = pM fm x) := hid (by unfold pM; rw [hf]; rfl)
    have HE : Hid (0 = pE fm x) := hid (by unfold pE; rw [hf]; rfl)
    go_enter Tryz.func104, Tryz.ntmps104
    go_wp2_with fail
    refine (spec_fin fm x _ h0 h1).mono ?_
    rintro e w1 ⟨rfl, hb1⟩
    obtain ⟨rc0, rc1, rc2, rf0, rf1, rf2⟩ := (R3.new w (.bool false) (.int .i64 0) (.int .i64 0) 112).below hb1
    go_wp2
    exact bodyPost_ret (v := .tuple #[.agg #[.bool false, .int .i64 0, .int .i64 0], .bool false]) (by simp [results, Tryz.results104, go_sem, rc0, rc1, rc2]) rfl ⟨ret_p4 HS.out HM.out HE.out rfl, (by repeat (first | exact bz0 _ _ | refine bz1 ?_ | refine bz2 ?_ _ | refine bz3 ?_ _ | refine bz4 ?_ hb1 | refine bz5 ?_ _ | refine bz6 ?_ _ | refine bz7 ?_ hb1))⟩
  · have HF := hid hf
    go_enter Tryz.func104, Tryz.ntmps104
    go_wp2_with fail
    refine (spec_fin fm x _ h0 h1).mono ?_
    rintro e w1 ⟨rfl, hb1⟩
    have r1 := (R3.new w (.bool false) (.int .i64 0) (.int .i64 0) 112).below hb1
    go_wp2_with fail
    refine (spec_l2Parts fm x _ HF.out h0 h1).mono ?_
    rintro e w2 ⟨rfl, hb2⟩
    obtain ⟨rc0, rc1, rc2, rf0, rf1, rf2⟩ := r1.below hb2
    go_wp2
    exact bodyPost_ret (v := .tuple #[.agg #[.bool (pS fm x), .int .i64 (pM fm x), .int .i64 (pE fm x)], .bool true]) (by simp [results, Tryz.results104, go_sem, rc0, rc1, rc2]) rfl ⟨rfl, (by repeat (first | exact bz0 _ _ | refine bz1 ?_ | refine bz2 ?_ _ | refine bz3 ?_ _ | refine bz4 ?_ hb2 | refine bz4 ?_ hb1 | refine bz5 ?_ _ | refine bz6 ?_ _ | refine bz7 ?_ hb2 | refine bz7 ?_ hb1))⟩
end Go.Proofs.YtbhfbaogmkgmiaaGreatDoor
namespace Go.Proofs.YtbhfbaogmkgmiaaGreatDoor
set_option linter.unusedVariables false
set_option linter.unusedSimpArgs false
open Go.RowKit Go.Deep
namespace Fd
theorem unit32 (w : World) :
    Calls Tryz.prog 30 #[.int .i64 32] w fun e w' => e = .returned (.int .i64 (-149)) ∧ Below w.heap.size w w' := by
  have CP := hid (fun w' => spec_parts 32 0 w' (by decide) (by decide))
  have hf : finB 32 0 = true := by decide +kernel
  have h1 : pS 32 0 = false := by decide +kernel
  have h2 : pM 32 0 = 0 := by decide +kernel
  have h3 : pE 32 0 = (-149) := by decide +kernel
  rw [hf, h1, h2, h3] at CP
  clear hf h1 h2 h3
  go_enter Tryz.func30, Tryz.ntmps30
  go_wp2_with fail
  refine (CP.out _).mono ?_
  rintro e w1 ⟨rfl, hb1⟩
  go_wp2
  go_ret
  exact ⟨rfl, (by repeat (first | exact bz0 _ _ | refine bz1 ?_ | refine bz2 ?_ _ | refine bz3 ?_ _ | refine bz4 ?_ hb1 | refine bz5 ?_ _ | refine bz6 ?_ _ | refine bz7 ?_ hb1))⟩
theorem unit64 (w : World) :
    Calls Tryz.prog 30 #[.int .i64 64] w fun e w' => e = .returned (.int .i64 (-1074)) ∧ Below w.heap.size w w' := by
  have CP := hid (fun w' => spec_parts 64 0 w' (by decide) (by decide))
  have hf : finB 64 0 = true := by decide +kernel
  have h1 : pS 64 0 = false := by decide +kernel
  have h2 : pM 64 0 = 0 := by decide +kernel
  have h3 : pE 64 0 = (-1074) := by decide +kernel
  rw [hf, h1, h2, h3] at CP
  clear hf h1 h2 h3
  go_enter Tryz.func30, Tryz.ntmps30
  go_wp2_with fail
  refine (CP.out _).mono ?_
  rintro e w1 ⟨rfl, hb1⟩
  go_wp2
  go_ret
  exact ⟨rfl, (by repeat (first | exact bz0 _ _ | refine bz1 ?_ | refine bz2 ?_ _ | refine bz3 ?_ _ | refine bz4 ?_ hb1 | refine bz5 ?_ _ | refine bz6 ?_ _ | refine bz7 ?_ hb1))⟩
end Fd
end Go.Proofs.YtbhfbaogmkgmiaaGreatDoor
