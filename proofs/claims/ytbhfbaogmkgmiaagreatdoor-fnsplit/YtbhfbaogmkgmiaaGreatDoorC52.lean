/-
  What is needed of TP, SM.
-/
import Derived.Test.YtbhfbaogmkgmiaaGreatDoorC34
import Derived.Test.YtbhfbaogmkgmiaaGreatDoorC44
set_option maxHeartbeats 16000000
set_option maxRecDepth 1000000
namespace Go.Proofs.YtbhfbaogmkgmiaaGreatDoor
set_option linter.unusedVariables false
set_option linter.unusedSimpArgs false
open Go.RowKit Go.Deep
theorem fin_ok {fm x : Int} (hf : finB fm x = true) : okF fm x = true := by
  cases h : okF fm x
  · exfalso
    have : cls fm x = -1 := by unfold cls; rw [h]; rfl
    unfold finB at hf; rw [this] at hf; simp at hf
  · rfl
namespace Fd
theorem fin_ok {fm x : Int} (h : finB fm x = true) : okF fm x = true := by
  cases ho : okF fm x
  · unfold finB cls at h; rw [ho] at h; simp at h
  · rfl
end Fd
end Go.Proofs.YtbhfbaogmkgmiaaGreatDoor
