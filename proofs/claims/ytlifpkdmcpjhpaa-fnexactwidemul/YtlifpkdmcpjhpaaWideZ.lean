/-
  The law laws.FnExactWideMul.
-/
import Derived.Test.YtlifpkdmcpjhpaaLMul
namespace Go.Proofs.Ytlifpkdmcpjhpaa
set_option linter.unusedVariables false
set_option linter.unusedSimpArgs false
open Go.RowKit Go.Deep
set_option maxHeartbeats 1000000 in
theorem law_WideMul (na nb : Bool) (a b : Option Addr) (cap cap' : Nat) (xs ys : List Int) (w : World) (hx : Sl .u32 w (.slice a xs.length cap) xs) (hy : Sl .u32 w (.slice b ys.length cap') ys) (dx : Nm.Dg xs) (dy : Nm.Dg ys) :
    Calls Try.prog 13 #[.agg #[.bool na, .slice a xs.length cap], .agg #[.bool nb, .slice b ys.length cap']] w fun e w' => e = .returned (.bool true) ∧ Below w.heap.size w w' := by
  have hlx : xs.length ≤ 9223372036854775807 := by obtain ⟨_, h1, h2, _⟩ := hx.cells; unfold maxLen at h2; omega
  have hly : ys.length ≤ 9223372036854775807 := by obtain ⟨_, h1, h2, _⟩ := hy.cells; unfold maxLen at h2; omega
  by_cases h1 : xs.length ≤ 1048576
  · by_cases h2 : xs.length + ys.length ≤ 1048576
    · exact LWideMul.law na nb a b cap cap' xs ys w hx hy (opN (okB na xs && okB nb ys) (Nm.wv na xs * Nm.wv nb ys)) (opL (okB na xs && okB nb ys) (Nm.wv na xs * Nm.wv nb ys)) (opO (okB na xs && okB nb ys) (Nm.wv na xs * Nm.wv nb ys)) (op_200 _ _).1 (op_200 _ _).2 (by omega) (by omega) h2
        (fun w a b cap cap' h h' => wmul_spec na nb a b cap cap' xs ys w h h' dx dy (by omega) (by omega) _ rfl)
        (fun w a b cap cap' h h' => wmul_impl na nb a b cap cap' xs ys w h h' dx dy (by omega) (by omega) _ rfl)
    · have HS1 : Hid (szR 1048576 xs.length = 1048576 - xs.length) := hid (by unfold szR; rw [if_neg (by omega)])
      have HS2 : Hid (szR (1048576 - xs.length) ys.length = -1) := hid (by unfold szR; rw [if_pos (by omega)])
      go_enter Try.func13, Try.ntmps13
      have X0 := (Box.new w (.bool na) (.slice a xs.length cap) 48).alloc (.cells #[.bool nb, .slice b ys.length cap'] 48)
      have Y0 := Box.new2 w (.cells #[.bool na, .slice a xs.length cap] 48) (.bool nb) (.slice b ys.length cap') 48
      go_wp2_with fail
      have cs1 := fun W => szW_any na a xs.length cap 1048576 W hlx (by decide) (by decide)
      simp only [HS1.out] at cs1
      refine (cs1 _).mono ?_
      clear cs1
      rintro e w1 ⟨rfl, hb1⟩
      obtain ⟨y10, y11⟩ := Y0.below hb1
      clear X0 Y0
      go_wp2_with fail
      have cs2 := fun W => szW_any nb b ys.length cap' (1048576 - xs.length) W hly (by omega) (by omega)
      simp only [HS2.out] at cs2
      refine (cs2 _).mono ?_
      clear cs2
      rintro e w2 ⟨rfl, hb2⟩
      go_wp2
      go_ret
      exact ⟨rfl, (by repeat (first | exact Below.refl _ _ | refine Below.drew ?_ | refine bel_dn ?_ _ | refine bel_al ?_ _ | refine bel_go ?_ hb2 | refine bel_go ?_ hb1 | refine Below.setCell ?_ (by first | omega | (simp; done) | (simp; omega)) _ | refine Below.alloc ?_ (by first | omega | (simp; done) | (simp; omega)) _ | refine Below.trans ?_ (Below.mono hb2 (by first | omega | (simp; done) | (simp; omega))) | refine Below.trans ?_ (Below.mono hb1 (by first | omega | (simp; done) | (simp; omega)))))⟩
  · have HS1 : Hid (szR 1048576 xs.length = -1) := hid (by unfold szR; rw [if_pos (by omega)])
    go_enter Try.func13, Try.ntmps13
    go_wp2_with fail
    have cs1 := fun W => szW_any na a xs.length cap 1048576 W hlx (by decide) (by decide)
    simp only [HS1.out] at cs1
    refine (cs1 _).mono ?_
    clear cs1
    rintro e w1 ⟨rfl, hb1⟩
    go_wp2
    go_ret
    exact ⟨rfl, (by repeat (first | exact Below.refl _ _ | refine Below.drew ?_ | refine bel_dn ?_ _ | refine bel_al ?_ _ | refine bel_go ?_ hb1 | refine Below.setCell ?_ (by first | omega | (simp; done) | (simp; omega)) _ | refine Below.alloc ?_ (by first | omega | (simp; done) | (simp; omega)) _ | refine Below.trans ?_ (Below.mono hb1 (by first | omega | (simp; done) | (simp; omega)))))⟩
end Go.Proofs.Ytlifpkdmcpjhpaa
