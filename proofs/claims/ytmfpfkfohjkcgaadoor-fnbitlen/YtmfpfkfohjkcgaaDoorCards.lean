/-
  DERIVED. GIVEN WITH THE SEED: THE CARDS: each row of YtmfpfkfohjkcgaaDoorRows.lean that lists a variable, with what it lists TIED to the program's text (the seventh form; the later family's looks); each row that meets fmt, with fmt's text TOLD by the authors' own Lean function (tested against real Go, not proved from fmt's source: count such statements apart). THE CARD IS WHAT COUNTS. Prove the row's statement (the work); the ties are given (YtmfpfkfohjkcgaaDoorTie.lean); close each card by the builder's one call (the guide's Derived/Test/ToyasCard.lean, 'card_holds'). Laid BY PROGRAM, IN A SANDBOX (cutbox-door.mjs). By AI agents, Wed Nov 11 2026. No macro, syntax, notation, axiom, sorry.
-/
import Derived.Test.YtmfpfkfohjkcgaaDoorRows
import GoSem.ClaimSeven
namespace Go.Proofs.YtmfpfkfohjkcgaaDoor
namespace Rows

/-- THE TIED CARD OF 'laws.FnParts'. -/
def fnPartsCard : Claim7 := { stood := { row := fnPartsRow, standIns := [], harness := (true, "c6f91a6de5461a789a9aec9b89de21303549cb9c20129a99fb27a2b38108bf25"), looks := false }, kinds := [], alts := [], laidByText := true, laidKinds := [.data, .data], laidTests := true, laidLooks := .later }
def FnPartsCardSaid : Prop := Claim7.holds Tryd.pinned (.plain (OpenSpec.ofChange fnPartsSpec)) fnPartsCard

/-- THE TIED CARD OF 'laws.FnFromParts'. -/
def fnFromPartsCard : Claim7 := { stood := { row := fnFromPartsRow, standIns := [], harness := (true, "c6f91a6de5461a789a9aec9b89de21303549cb9c20129a99fb27a2b38108bf25"), looks := false }, kinds := [], alts := [], laidByText := true, laidKinds := [.data, .data], laidTests := true, laidLooks := .later }
def FnFromPartsCardSaid : Prop := Claim7.holds Tryd.pinned (.plain (OpenSpec.ofChange fnFromPartsSpec)) fnFromPartsCard

/-- THE TIED CARD OF 'laws.FnExactBinOk'. -/
def fnExactBinOkCard : Claim7 := { stood := { row := fnExactBinOkRow, standIns := [], harness := (true, "c6f91a6de5461a789a9aec9b89de21303549cb9c20129a99fb27a2b38108bf25"), looks := false }, kinds := [], alts := [], laidByText := true, laidKinds := [.data], laidTests := true, laidLooks := .later }
def FnExactBinOkCardSaid : Prop := Claim7.holds Tryd.pinned (.plain (OpenSpec.ofChange fnExactBinOkSpec)) fnExactBinOkCard

/-- THE TIED CARD OF 'laws.FnExactBinMerge'. -/
def fnExactBinMergeCard : Claim7 := { stood := { row := fnExactBinMergeRow, standIns := [], harness := (true, "c6f91a6de5461a789a9aec9b89de21303549cb9c20129a99fb27a2b38108bf25"), looks := false }, kinds := [], alts := [], laidByText := true, laidKinds := [.data], laidTests := true, laidLooks := .later }
def FnExactBinMergeCardSaid : Prop := Claim7.holds Tryd.pinned (.plain (OpenSpec.ofChange fnExactBinMergeSpec)) fnExactBinMergeCard

/-- THE TIED CARD OF 'laws.FnExactBinRound'. -/
def fnExactBinRoundCard : Claim7 := { stood := { row := fnExactBinRoundRow, standIns := [], harness := (true, "c6f91a6de5461a789a9aec9b89de21303549cb9c20129a99fb27a2b38108bf25"), looks := false }, kinds := [], alts := [], laidByText := true, laidKinds := [.data, .data, .data], laidTests := true, laidLooks := .later }
def FnExactBinRoundCardSaid : Prop := Claim7.holds Tryd.pinned (.plain (OpenSpec.ofChange fnExactBinRoundSpec)) fnExactBinRoundCard

/-- THE TIED CARD OF 'laws.FnBitLen'. -/
def fnBitLenCard : Claim7 := { stood := { row := fnBitLenRow, standIns := [], harness := (true, "c6f91a6de5461a789a9aec9b89de21303549cb9c20129a99fb27a2b38108bf25"), looks := false }, kinds := [], alts := [], laidByText := true, laidKinds := [.data], laidTests := true, laidLooks := .later }
def FnBitLenCardSaid : Prop := Claim7.holds Tryd.pinned (.plain (OpenSpec.ofChange fnBitLenSpec)) fnBitLenCard

/-- THE SECOND FORM's CARD OF 'laws.FnParts'. -/
def fnPartsUptoCard : Claim7 := { stood := { row := fnPartsUptoRow, standIns := [], harness := (true, "c6f91a6de5461a789a9aec9b89de21303549cb9c20129a99fb27a2b38108bf25"), looks := false }, kinds := [], alts := [], laidByText := true, laidKinds := [.data, .data], laidTests := true, laidLooks := .later }
def FnPartsUptoCardSaid : Prop := Claim7.holds Tryd.pinned (.plain (OpenSpec.upto fnPartsSpec)) fnPartsUptoCard

/-- THE SECOND FORM's CARD OF 'laws.FnFromParts'. -/
def fnFromPartsUptoCard : Claim7 := { stood := { row := fnFromPartsUptoRow, standIns := [], harness := (true, "c6f91a6de5461a789a9aec9b89de21303549cb9c20129a99fb27a2b38108bf25"), looks := false }, kinds := [], alts := [], laidByText := true, laidKinds := [.data, .data], laidTests := true, laidLooks := .later }
def FnFromPartsUptoCardSaid : Prop := Claim7.holds Tryd.pinned (.plain (OpenSpec.upto fnFromPartsSpec)) fnFromPartsUptoCard

/-- THE SECOND FORM's CARD OF 'laws.FnExactBinOk'. -/
def fnExactBinOkUptoCard : Claim7 := { stood := { row := fnExactBinOkUptoRow, standIns := [], harness := (true, "c6f91a6de5461a789a9aec9b89de21303549cb9c20129a99fb27a2b38108bf25"), looks := false }, kinds := [], alts := [], laidByText := true, laidKinds := [.data], laidTests := true, laidLooks := .later }
def FnExactBinOkUptoCardSaid : Prop := Claim7.holds Tryd.pinned (.plain (OpenSpec.upto fnExactBinOkSpec)) fnExactBinOkUptoCard

/-- THE SECOND FORM's CARD OF 'laws.FnExactBinMerge'. -/
def fnExactBinMergeUptoCard : Claim7 := { stood := { row := fnExactBinMergeUptoRow, standIns := [], harness := (true, "c6f91a6de5461a789a9aec9b89de21303549cb9c20129a99fb27a2b38108bf25"), looks := false }, kinds := [], alts := [], laidByText := true, laidKinds := [.data], laidTests := true, laidLooks := .later }
def FnExactBinMergeUptoCardSaid : Prop := Claim7.holds Tryd.pinned (.plain (OpenSpec.upto fnExactBinMergeSpec)) fnExactBinMergeUptoCard

/-- THE SECOND FORM's CARD OF 'laws.FnExactBinRound'. -/
def fnExactBinRoundUptoCard : Claim7 := { stood := { row := fnExactBinRoundUptoRow, standIns := [], harness := (true, "c6f91a6de5461a789a9aec9b89de21303549cb9c20129a99fb27a2b38108bf25"), looks := false }, kinds := [], alts := [], laidByText := true, laidKinds := [.data, .data, .data], laidTests := true, laidLooks := .later }
def FnExactBinRoundUptoCardSaid : Prop := Claim7.holds Tryd.pinned (.plain (OpenSpec.upto fnExactBinRoundSpec)) fnExactBinRoundUptoCard

/-- THE SECOND FORM's CARD OF 'laws.FnBitLen'. -/
def fnBitLenUptoCard : Claim7 := { stood := { row := fnBitLenUptoRow, standIns := [], harness := (true, "c6f91a6de5461a789a9aec9b89de21303549cb9c20129a99fb27a2b38108bf25"), looks := false }, kinds := [], alts := [], laidByText := true, laidKinds := [.data], laidTests := true, laidLooks := .later }
def FnBitLenUptoCardSaid : Prop := Claim7.holds Tryd.pinned (.plain (OpenSpec.upto fnBitLenSpec)) fnBitLenUptoCard
end Rows
end Go.Proofs.YtmfpfkfohjkcgaaDoor
