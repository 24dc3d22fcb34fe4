/-
  Limbs cut to a wide that fits, by the program.
-/
import Derived.Test.YtklpajphbkokcaaLawsB
namespace Go.Proofs.Ytklpajphbkokcaa
set_option linter.unusedVariables false
set_option linter.unusedSimpArgs false
open Go.RowKit Go.Deep

/-- What limbs are as a wide that fits: the limbs, the sign, whether it fits. -/
def fitL (zs : List Int) : List Int := if (Nm.trim zs).length ≤ 200 then Nm.trim zs else []
def fitN (ng : Bool) (zs : List Int) : Bool := if (Nm.trim zs).length ≤ 200 then ng && !decide ((Nm.trim zs).length = 0) else false
def fitO (zs : List Int) : Bool := decide ((Nm.trim zs).length ≤ 200)

theorem Own.nil (w : World) (B : Nat) : Own w B none 0 [] := World.ownsRow_nil w B 156 1
/-- The first n limbs of what is owned. -/
theorem Own.take {w : World} {B : Nat} {a : Option Addr} {cap : Nat} {zs : List Int} (h : Own w B a cap zs) (n : Nat) (hn : n ≤ zs.length) : Own w B a cap (zs.take n) := by
  have hlen : (zs.take n).length = n := by simp; omega
  rcases h.2 with ⟨h1, h2⟩ | ⟨g, cap', cur, h1, h2, h3, h4, h5, h6, h7⟩
  · simp at h1
    obtain ⟨rfl, hz, rfl⟩ := h1
    subst hz
    simp
    exact Own.nil w B
  · simp only [Value.slice.injEq, true_and] at h1
    obtain ⟨rfl, rfl⟩ := h1
    refine ⟨by simp, .inr ⟨g, cap, cur, by rw [hlen], h2, h3, by rw [hlen]; omega, h5, h6, ?_⟩⟩
    rw [hlen, List.map_take, ← h7, List.take_take, Nat.mul_one, Nat.mul_one, Nat.min_eq_left hn]

theorem fit_cases (ng : Bool) (zs : List Int) {n : Nat} (h : Nm.trim zs = zs.take n) (hn : n ≤ zs.length) :
    (n = 0 → fitL zs = [] ∧ fitN ng zs = false ∧ fitO zs = true) ∧ (200 < n → fitL zs = [] ∧ fitN ng zs = false ∧ fitO zs = false) ∧ (0 < n → n ≤ 200 → fitL zs = zs.take n ∧ fitN ng zs = ng ∧ fitO zs = true) := by
  have hlen : (zs.take n).length = n := by simp; omega
  unfold fitL fitN fitO
  rw [h, hlen]
  refine ⟨fun e => ?_, fun e => ?_, fun e1 e2 => ?_⟩
  · subst e; simp
  · rw [if_neg (by omega), if_neg (by omega)]; simp; omega
  · rw [if_pos e2, if_pos e2]; simp [show n ≠ 0 by omega, e2]

end Go.Proofs.Ytklpajphbkokcaa
