/-
  Go's own table of halvings of 32 bits, as the row's list tells it.
-/
import Derived.Test.YtbajfpcamlmenabDoorCards
import Derived.Test.YtbajfpcamlmenabDoorTie
import Derived.Test.YtbajfpcamlmenabDoorIA
import Derived.ProofKit
import Derived.OpenShut
import Derived.WalkSmall
import Derived.Deep.DeepHandedRow
import Derived.Deep.Strs
import Derived.Lib.LaidTab
import Derived.LaidSub
namespace Go.Proofs.YtbajfpcamlmenabDoor
set_option linter.unusedVariables false
set_option linter.unusedSimpArgs false
namespace Ld
open Go.RowKit Go.Deep
theorem own : ownKnob Tryd.prog.godebug = none := by kernel_rfl
theorem laidOut : laidOutB Tryd.prog = true := by kernel_rfl
def zs32 : List Int := Lib.deBruijn32tab.map Int.ofNat
theorem tb32 {W : World} (h : laidMet Tryd.prog [("math/bits.deBruijn32tab", Rows.laid_math_bits_deBruijn32tab)] W) : Tb W 0 Lib.deBruijn32tab := by
  have h' : laidMet Tryd.prog (("math/bits.deBruijn32tab", Lib.tabData .u8 zs32) :: []) W := h
  have hg : Tryd.prog.globalNamed "math/bits.deBruijn32tab" = some 0 := by kernel_rfl
  have ht := Lib.tabIs_of_head (g := 0) (t := 38) (e := 5) (n := 32) hg (by kernel_rfl) Tryd.underlying38 Tryd.underlying5 (by kernel_rfl) (by kernel_rfl) h'
  intro i hi
  have := ht.cell hg i (by simpa [zs32] using hi)
  rw [this]
  congr 2
  unfold zs32
  rw [List.getD_eq_getElem?_getD, List.getElem?_map, List.getD_eq_getElem?_getD, List.getElem?_eq_getElem hi]; rfl
theorem one_tab {W : World} (h : laidMetH Tryd.prog [("math/bits.deBruijn32tab", Rows.laid_math_bits_deBruijn32tab)] W) : Tb W 0 Lib.deBruijn32tab := tb32 (laidMetH_iff.1 h).1
end Ld
end Go.Proofs.YtbajfpcamlmenabDoor
