/-
  What is needed of FM, FO.
-/
import Derived.Test.YtbhfbaogmkgmiaaGreatDoorC27
set_option maxHeartbeats 16000000
set_option maxRecDepth 1000000
namespace Go.Proofs.YtbhfbaogmkgmiaaGreatDoor
set_option linter.unusedVariables false
set_option linter.unusedSimpArgs false
open Go.RowKit Go.Deep
theorem zF_inf {fm x : Int} (hx : okF fm x = true) (h : nI fm x = true) : zF fm x = false := by
  have h3 : cls fm x = 3 := by simpa [nI] using h
  unfold zF; rw [← cls_zero hx, h3]; rfl
theorem zlen {fm x : Int} : decide ((Nm.wl (nZ fm x)).length = 0) = decide (nZ fm x = 0) := by
  rw [Bool.eq_iff_iff, decide_eq_true_eq, decide_eq_true_eq]; unfold Nm.wl; rw [Nm.lim_length_zero]; omega
theorem sz_of {fm x : Int} (hx : okF fm x = true) (h : nanB fm x = false) : (!nI fm x && decide ((Nm.wl (nZ fm x)).length = 0)) = zF fm x := by
  rw [zlen]
  rcases nan_cases hx h with hf | hi
  · rw [zF_fin hx hf, (fin_facts hx hf).2.1]; rfl
  · rw [hi, zF_inf hx hi]; rfl
end Go.Proofs.YtbhfbaogmkgmiaaGreatDoor
