/-
  What else is needed of Mem.
-/
import Derived.WalkKit
import Derived.Test.YtmnfidkpnogfmaaK00
import Derived.Deep.OwnRows
import Derived.Test.YtmnfidkpnogfmaaK01
namespace Go.Proofs.Ytmnfidkpnogfmaa
set_option linter.unusedVariables false
set_option linter.unusedSimpArgs false
open Go.RowKit Go.Deep
/-- What a reader of a slice of integers gives. -/
theorem Sl.of_cells {k : IntKind} {w : World} {x : Addr} {l c : Nat} {zs : List Int} (hl : l ≤ c) (hm : c ≤ maxLen) (hz : zs.length = c) (hcell : ∀ i, i < zs.length → w.cell? (x.add i) = some (.int k (zs.getD i 0))) :
    Sl k w (.slice (some x) l c) (zs.take l) := by
  have hlen : (zs.take l).length = l := by simp; omega
  refine ⟨some x, c, by rw [hlen], by rw [hlen]; exact hl, hm, ?_⟩
  by_cases h0 : l = 0
  · left; simp [h0]
  · right
    obtain ⟨b, off, spot⟩ := x
    have hc := hcell 0 (by omega)
    have hspot : spot = none := by simpa [Addr.add] using World.cell?_spot hc
    subst hspot
    refine ⟨b, off, rfl, fun i hi => ?_⟩
    rw [hlen] at hi
    have := hcell i (by omega)
    simp only [Addr.add] at this
    rw [List.getD_eq_getElem?_getD, List.getElem?_take_of_lt hi, ← List.getD_eq_getElem?_getD]
    by_cases e : i = 0
    · subst e; simpa using this
    · rw [if_neg e] at this; exact this

end Go.Proofs.Ytmnfidkpnogfmaa
