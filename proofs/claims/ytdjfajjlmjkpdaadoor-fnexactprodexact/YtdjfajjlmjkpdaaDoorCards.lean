/-
  DERIVED. GIVEN WITH THE SEED: THE CARDS: each row of YtdjfajjlmjkpdaaDoorRows.lean that lists a variable, with what it lists TIED to the program's text (the seventh form; the later family's looks); each row that meets fmt, with fmt's text TOLD by the authors' own Lean function (tested against real Go, not proved from fmt's source: count such statements apart). THE CARD IS WHAT COUNTS. Prove the row's statement (the work); the ties are given (YtdjfajjlmjkpdaaDoorTie.lean); close each card by the builder's one call (the guide's Derived/Test/ToyasCard.lean, 'card_holds'). Laid BY PROGRAM, IN A SANDBOX (cutbox-door.mjs). By AI agents, Wed Nov 11 2026. No macro, syntax, notation, axiom, sorry.
-/
import Derived.Test.YtdjfajjlmjkpdaaDoorRows
import GoSem.ClaimSeven
namespace Go.Proofs.YtdjfajjlmjkpdaaDoor
namespace Rows

/-- THE TIED CARD OF 'laws.FnExactSplit'. -/
def fnExactSplitCard : Claim7 := { stood := { row := fnExactSplitRow, standIns := [], harness := (true, "e073af616333ba8a582748ea651caafd167ae60d1581c471e551baf7a2ff3ff5"), looks := false }, kinds := [], alts := [], laidByText := true, laidKinds := [.data, .data], laidTests := true, laidLooks := .later }
def FnExactSplitCardSaid : Prop := Claim7.holds Tryd.pinned (.plain (OpenSpec.ofChange fnExactSplitSpec)) fnExactSplitCard

/-- THE TIED CARD OF 'laws.FnExactProdExact'. -/
def fnExactProdExactCard : Claim7 := { stood := { row := fnExactProdExactRow, standIns := [], harness := (true, "e073af616333ba8a582748ea651caafd167ae60d1581c471e551baf7a2ff3ff5"), looks := false }, kinds := [], alts := [], laidByText := true, laidKinds := [.data], laidTests := true, laidLooks := .later }
def FnExactProdExactCardSaid : Prop := Claim7.holds Tryd.pinned (.plain (OpenSpec.ofChange fnExactProdExactSpec)) fnExactProdExactCard

/-- THE TIED CARD OF 'laws.FnExactBinOk'. -/
def fnExactBinOkCard : Claim7 := { stood := { row := fnExactBinOkRow, standIns := [], harness := (true, "e073af616333ba8a582748ea651caafd167ae60d1581c471e551baf7a2ff3ff5"), looks := false }, kinds := [], alts := [], laidByText := true, laidKinds := [.data], laidTests := true, laidLooks := .later }
def FnExactBinOkCardSaid : Prop := Claim7.holds Tryd.pinned (.plain (OpenSpec.ofChange fnExactBinOkSpec)) fnExactBinOkCard

/-- THE TIED CARD OF 'laws.FnExactBinMerge'. -/
def fnExactBinMergeCard : Claim7 := { stood := { row := fnExactBinMergeRow, standIns := [], harness := (true, "e073af616333ba8a582748ea651caafd167ae60d1581c471e551baf7a2ff3ff5"), looks := false }, kinds := [], alts := [], laidByText := true, laidKinds := [.data], laidTests := true, laidLooks := .later }
def FnExactBinMergeCardSaid : Prop := Claim7.holds Tryd.pinned (.plain (OpenSpec.ofChange fnExactBinMergeSpec)) fnExactBinMergeCard

/-- THE SECOND FORM's CARD OF 'laws.FnExactSplit'. -/
def fnExactSplitUptoCard : Claim7 := { stood := { row := fnExactSplitUptoRow, standIns := [], harness := (true, "e073af616333ba8a582748ea651caafd167ae60d1581c471e551baf7a2ff3ff5"), looks := false }, kinds := [], alts := [], laidByText := true, laidKinds := [.data, .data], laidTests := true, laidLooks := .later }
def FnExactSplitUptoCardSaid : Prop := Claim7.holds Tryd.pinned (.plain (OpenSpec.upto fnExactSplitSpec)) fnExactSplitUptoCard

/-- THE SECOND FORM's CARD OF 'laws.FnExactProdExact'. -/
def fnExactProdExactUptoCard : Claim7 := { stood := { row := fnExactProdExactUptoRow, standIns := [], harness := (true, "e073af616333ba8a582748ea651caafd167ae60d1581c471e551baf7a2ff3ff5"), looks := false }, kinds := [], alts := [], laidByText := true, laidKinds := [.data], laidTests := true, laidLooks := .later }
def FnExactProdExactUptoCardSaid : Prop := Claim7.holds Tryd.pinned (.plain (OpenSpec.upto fnExactProdExactSpec)) fnExactProdExactUptoCard

/-- THE SECOND FORM's CARD OF 'laws.FnExactBinOk'. -/
def fnExactBinOkUptoCard : Claim7 := { stood := { row := fnExactBinOkUptoRow, standIns := [], harness := (true, "e073af616333ba8a582748ea651caafd167ae60d1581c471e551baf7a2ff3ff5"), looks := false }, kinds := [], alts := [], laidByText := true, laidKinds := [.data], laidTests := true, laidLooks := .later }
def FnExactBinOkUptoCardSaid : Prop := Claim7.holds Tryd.pinned (.plain (OpenSpec.upto fnExactBinOkSpec)) fnExactBinOkUptoCard

/-- THE SECOND FORM's CARD OF 'laws.FnExactBinMerge'. -/
def fnExactBinMergeUptoCard : Claim7 := { stood := { row := fnExactBinMergeUptoRow, standIns := [], harness := (true, "e073af616333ba8a582748ea651caafd167ae60d1581c471e551baf7a2ff3ff5"), looks := false }, kinds := [], alts := [], laidByText := true, laidKinds := [.data], laidTests := true, laidLooks := .later }
def FnExactBinMergeUptoCardSaid : Prop := Claim7.holds Tryd.pinned (.plain (OpenSpec.upto fnExactBinMergeSpec)) fnExactBinMergeUptoCard
end Rows
end Go.Proofs.YtdjfajjlmjkpdaaDoor
