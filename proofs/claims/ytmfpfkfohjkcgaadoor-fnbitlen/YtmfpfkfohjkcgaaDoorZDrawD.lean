/-
  What else is needed of DrawD.
-/
import Derived.Test.YtmfpfkfohjkcgaaDoorK37
import Derived.Test.YtmfpfkfohjkcgaaDoorK28
import Derived.Test.YtmfpfkfohjkcgaaDoorK21
namespace Go.Proofs.YtmfpfkfohjkcgaaDoor
set_option linter.unusedVariables false
set_option linter.unusedSimpArgs false
open Go.RowKit Go.Deep
theorem bel_gr2 {w W w' : World} {rb : Nat} {a : Option Addr} (h : Below w.heap.size w W) (hG : Gr2 W w' rb a) (h1 : w.heap.size ≤ rb) (h2 : ∀ g, a = some ⟨g, 0, none⟩ → w.heap.size ≤ g) : Below w.heap.size w w' :=
  ⟨hG.os.trans h.os, hG.tape.trans h.tape, hG.output.trans h.output, Nat.le_trans h.size hG.size, fun i hi => (hG.block i (Nat.lt_of_lt_of_le hi h.size) (by omega) (fun g hg => by have := h2 g hg; omega)).trans (h.block i hi)⟩
end Go.Proofs.YtmfpfkfohjkcgaaDoor
