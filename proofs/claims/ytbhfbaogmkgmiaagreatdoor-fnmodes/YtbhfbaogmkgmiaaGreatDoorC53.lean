/-
  What is needed of WI.
-/
import Derived.Test.YtbhfbaogmkgmiaaGreatDoorC51
set_option maxHeartbeats 16000000
set_option maxRecDepth 1000000
namespace Go.Proofs.YtbhfbaogmkgmiaaGreatDoor
set_option linter.unusedVariables false
set_option linter.unusedSimpArgs false
open Go.RowKit Go.Deep
namespace Fd
theorem mag_w (g : Bool) (a : Option Addr) (n c : Nat) (w : World) :
    Calls Tryz.prog 21 #[.agg #[.bool g, .slice a n c]] w fun e w' => e = .returned (.agg #[.bool false, .slice a n c]) ∧ Below w.heap.size w w' := by
  go_enter Tryz.func21, Tryz.ntmps21
  go_wp2
  exact bodyPost_ret (v := .agg #[.bool false, .slice a n c]) (by simp [results, Tryz.results21, go_sem]) rfl ⟨rfl, by first | exact (by repeat (first | exact bz0 _ _ | refine bz1 ?_ | refine bz2 ?_ _ | refine bz3 ?_ _ | refine bz5 ?_ _ | refine bz6 ?_ _)) | (exact Below.setCell (Below.setCell (by repeat (first | exact bz0 _ _ | refine bz1 ?_ | refine bz2 ?_ _ | refine bz3 ?_ _ | refine bz5 ?_ _ | refine bz6 ?_ _)) (by simp) _) (by simp) _)⟩
end Fd
end Go.Proofs.YtbhfbaogmkgmiaaGreatDoor
