/-
  What is needed of FS, FM, FO.
-/
import Derived.Test.YtnliofakkkjpoaaGreatDoorA16
import Derived.Test.YtnliofakkkjpoaaGreatDoorA18
set_option maxHeartbeats 16000000
set_option maxRecDepth 1000000
namespace Go.Proofs.YtnliofakkkjpoaaGreatDoor
set_option linter.unusedVariables false
set_option linter.unusedSimpArgs false
open Go.RowKit Go.Deep
theorem zer4 (fm x : Int) (w : World) (h : okF fm x = true) (h0 : 0 ≤ x) (h1 : x < 18446744073709551616) (z : Bool) (hz : z = (absF fm x == 0)) :
    Calls Tryz.prog 92 #[.int .i64 fm, .int .u64 x] w fun e w' => e = .returned (.bool z) ∧ Below w.heap.size w w' := by
  have C := hid (fun w' => spec_l2abs fm x w' h h0 h1)
  obtain ⟨a, ha⟩ : ∃ a, a = absF fm x := ⟨_, rfl⟩
  rw [← ha] at C hz
  subst hz
  clear ha
  go_enter Tryz.func92, Tryz.ntmps92
  go_wp2_with fail
  refine (C.out _).mono ?_
  rintro r w1 ⟨rfl, hb1⟩
  go_wp2
  go_ret
  exact ⟨rfl, (by repeat (first | exact bz0 _ _ | refine bz1 ?_ | refine bz2 ?_ _ | refine bz3 ?_ _ | refine bz4 ?_ hb1 | refine bz5 ?_ _ | refine bz6 ?_ _ | refine bz7 ?_ hb1))⟩
def zF (fm x : Int) : Bool := absF fm x == 0
theorem zF_fin {fm x : Int} (hx : okF fm x = true) (hf : finB fm x = true) : zF fm x = decide (nZ fm x = 0) := by
  have hM := pM_bd fm x
  have e : (nZ fm x = 0) ↔ pM fm x = 0 := by
    rw [(fin_facts hx hf).2.2.1]; cases pS fm x <;> simp
  have h := cls_zero hx
  show (absF fm x == 0) = _
  rw [← h, Bool.eq_iff_iff, beq_iff_eq, decide_eq_true_eq, e]
  constructor
  · intro h
    have ha : (absF fm x == 0) = true := by rw [← cls_zero hx, h]; rfl
    have ha' : absF fm x = 0 := by simpa using ha
    unfold pM; rw [hf, if_pos rfl]
    rcases okF_cases hx with ⟨rfl, hx'⟩ | rfl
    · rw [abs32 hx'] at ha'
      rw [if_pos rfl, ha']; rfl
    · rw [abs64] at ha'
      rw [if_neg (by decide), ha']; rfl
  · intro h
    have hc : 0 ≤ cls fm x ∧ cls fm x ≤ 2 := by simpa [finB] using hf
    by_cases h12 : cls fm x = 1 ∨ cls fm x = 2
    · have := (pM_pos h12).2; omega
    · omega
theorem zF_inf {fm x : Int} (hx : okF fm x = true) (h : nI fm x = true) : zF fm x = false := by
  have h3 : cls fm x = 3 := by simpa [nI] using h
  unfold zF; rw [← cls_zero hx, h3]; rfl
theorem zlen {fm x : Int} : decide ((Nm.wl (nZ fm x)).length = 0) = decide (nZ fm x = 0) := by
  rw [Bool.eq_iff_iff, decide_eq_true_eq, decide_eq_true_eq]; unfold Nm.wl; rw [Nm.lim_length_zero]; omega
theorem sz_of {fm x : Int} (hx : okF fm x = true) (h : nanB fm x = false) : (!nI fm x && decide ((Nm.wl (nZ fm x)).length = 0)) = zF fm x := by
  rw [zlen]
  rcases nan_cases hx h with hf | hi
  · rw [zF_fin hx hf, (fin_facts hx hf).2.1]; rfl
  · rw [hi, zF_inf hx hi]; rfl
end Go.Proofs.YtnliofakkkjpoaaGreatDoor
