/-
  What is needed of FA.
-/
import Derived.Test.YtnliofakkkjpoaaGreatDoorA53
set_option maxHeartbeats 16000000
set_option maxRecDepth 1000000
namespace Go.Proofs.YtnliofakkkjpoaaGreatDoor
set_option linter.unusedVariables false
set_option linter.unusedSimpArgs false
open Go.RowKit Go.Deep
theorem law_FloatAdd (fm mode x y : Int) (w : World) (hT : EX3 w) (x0 : 0 ≤ x) (x1 : x < 18446744073709551616) (y0 : 0 ≤ y) (y1 : y < 18446744073709551616) :
    Calls Tryz.prog 10 #[.int .i64 fm, .int .i64 mode, .int .u64 x, .int .u64 y] w fun e w' => e = .returned (.bool true) ∧ Below w.heap.size w w' := by
  obtain ⟨B, hB⟩ : ∃ B, B = adB fm mode x y := ⟨_, rfl⟩
  obtain ⟨F, hF⟩ : ∃ F, F = adF fm mode x y := ⟨_, rfl⟩
  obtain ⟨O, hO⟩ : ∃ O, O = muO fm mode x y := ⟨_, rfl⟩
  obtain ⟨u, hE⟩ := hT
  have CS := hid (fun w' => add_spec fm mode x y w' x0 x1 y0 y1 B F O hB hF hO)
  have CI := hid (fun w' h => addf_all fm mode x y u w' h x0 x1 y0 y1 B F O hB hF hO)
  have q1 : (B != B) = false := by simp
  have q2 : (F != F) = false := by simp
  have q3 : (O != O) = false := by simp
  clear hB hF hO
  go_enter Tryz.func10, Tryz.ntmps10
  go_wp2_with fail
  refine (CS.out _).mono ?_
  rintro e w1 ⟨rfl, hb1⟩
  go_wp2_with fail
  refine (CI.out _ (hE.below hb1)).mono ?_
  rintro e w2 ⟨rfl, hb2⟩
  go_wp2
  go_ret
  exact ⟨rfl, (by repeat (first | exact bz0 _ _ | refine bz1 ?_ | refine bz2 ?_ _ | refine bz3 ?_ _ | refine bz4 ?_ hb2 | refine bz4 ?_ hb1 | refine bz5 ?_ _ | refine bz6 ?_ _ | refine bz7 ?_ hb2 | refine bz7 ?_ hb1))⟩
end Go.Proofs.YtnliofakkkjpoaaGreatDoor
