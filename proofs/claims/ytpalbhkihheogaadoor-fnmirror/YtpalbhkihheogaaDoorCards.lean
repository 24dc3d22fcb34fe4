/-
  DERIVED. GIVEN WITH THE SEED: THE CARDS: each row of YtpalbhkihheogaaDoorRows.lean that lists a variable, with what it lists TIED to the program's text (the seventh form; the later family's looks); each row that meets fmt, with fmt's text TOLD by the authors' own Lean function (tested against real Go, not proved from fmt's source: count such statements apart). THE CARD IS WHAT COUNTS. Prove the row's statement (the work); the ties are given (YtpalbhkihheogaaDoorTie.lean); close each card by the builder's one call (the guide's Derived/Test/ToyasCard.lean, 'card_holds'). Laid BY PROGRAM, IN A SANDBOX (cutbox-door.mjs). By AI agents, Wed Nov 11 2026. No macro, syntax, notation, axiom, sorry.
-/
import Derived.Test.YtpalbhkihheogaaDoorRows
import GoSem.ClaimSeven
namespace Go.Proofs.YtpalbhkihheogaaDoor
namespace Rows

/-- THE TIED CARD OF 'laws.FnCompared'. -/
def fnComparedCard : Claim7 := { stood := { row := fnComparedRow, standIns := [], harness := (true, "4877271a35a4c0a1a7dbc4464b5eade8c92feeabe477495bef07770734c2ca0a"), looks := false }, kinds := [], alts := [], laidByText := true, laidKinds := [.data], laidTests := true, laidLooks := .later }
def FnComparedCardSaid : Prop := Claim7.holds Tryd.pinned (.plain (OpenSpec.ofChange fnComparedSpec)) fnComparedCard

/-- THE TIED CARD OF 'laws.FnParts'. -/
def fnPartsCard : Claim7 := { stood := { row := fnPartsRow, standIns := [], harness := (true, "4877271a35a4c0a1a7dbc4464b5eade8c92feeabe477495bef07770734c2ca0a"), looks := false }, kinds := [], alts := [], laidByText := true, laidKinds := [.data, .data], laidTests := true, laidLooks := .later }
def FnPartsCardSaid : Prop := Claim7.holds Tryd.pinned (.plain (OpenSpec.ofChange fnPartsSpec)) fnPartsCard

/-- THE TIED CARD OF 'laws.FnFromParts'. -/
def fnFromPartsCard : Claim7 := { stood := { row := fnFromPartsRow, standIns := [], harness := (true, "4877271a35a4c0a1a7dbc4464b5eade8c92feeabe477495bef07770734c2ca0a"), looks := false }, kinds := [], alts := [], laidByText := true, laidKinds := [.data, .data], laidTests := true, laidLooks := .later }
def FnFromPartsCardSaid : Prop := Claim7.holds Tryd.pinned (.plain (OpenSpec.ofChange fnFromPartsSpec)) fnFromPartsCard

/-- THE TIED CARD OF 'laws.FnConverted'. -/
def fnConvertedCard : Claim7 := { stood := { row := fnConvertedRow, standIns := [], harness := (true, "4877271a35a4c0a1a7dbc4464b5eade8c92feeabe477495bef07770734c2ca0a"), looks := false }, kinds := [], alts := [], laidByText := true, laidKinds := [.data, .data, .data], laidTests := true, laidLooks := .later }
def FnConvertedCardSaid : Prop := Claim7.holds Tryd.pinned (.plain (OpenSpec.ofChange fnConvertedSpec)) fnConvertedCard

/-- THE TIED CARD OF 'laws.FnMirror'. -/
def fnMirrorCard : Claim7 := { stood := { row := fnMirrorRow, standIns := [], harness := (true, "4877271a35a4c0a1a7dbc4464b5eade8c92feeabe477495bef07770734c2ca0a"), looks := false }, kinds := [], alts := [], laidByText := true, laidKinds := [.data, .data, .data], laidTests := true, laidLooks := .later }
def FnMirrorCardSaid : Prop := Claim7.holds Tryd.pinned (.plain (OpenSpec.ofChange fnMirrorSpec)) fnMirrorCard

/-- THE TIED CARD OF 'laws.FnExactBinOk'. -/
def fnExactBinOkCard : Claim7 := { stood := { row := fnExactBinOkRow, standIns := [], harness := (true, "4877271a35a4c0a1a7dbc4464b5eade8c92feeabe477495bef07770734c2ca0a"), looks := false }, kinds := [], alts := [], laidByText := true, laidKinds := [.data], laidTests := true, laidLooks := .later }
def FnExactBinOkCardSaid : Prop := Claim7.holds Tryd.pinned (.plain (OpenSpec.ofChange fnExactBinOkSpec)) fnExactBinOkCard

/-- THE TIED CARD OF 'laws.FnExactBinMerge'. -/
def fnExactBinMergeCard : Claim7 := { stood := { row := fnExactBinMergeRow, standIns := [], harness := (true, "4877271a35a4c0a1a7dbc4464b5eade8c92feeabe477495bef07770734c2ca0a"), looks := false }, kinds := [], alts := [], laidByText := true, laidKinds := [.data], laidTests := true, laidLooks := .later }
def FnExactBinMergeCardSaid : Prop := Claim7.holds Tryd.pinned (.plain (OpenSpec.ofChange fnExactBinMergeSpec)) fnExactBinMergeCard

/-- THE TIED CARD OF 'laws.FnExactBinRound'. -/
def fnExactBinRoundCard : Claim7 := { stood := { row := fnExactBinRoundRow, standIns := [], harness := (true, "4877271a35a4c0a1a7dbc4464b5eade8c92feeabe477495bef07770734c2ca0a"), looks := false }, kinds := [], alts := [], laidByText := true, laidKinds := [.data, .data, .data], laidTests := true, laidLooks := .later }
def FnExactBinRoundCardSaid : Prop := Claim7.holds Tryd.pinned (.plain (OpenSpec.ofChange fnExactBinRoundSpec)) fnExactBinRoundCard

/-- THE SECOND FORM's CARD OF 'laws.FnCompared'. -/
def fnComparedUptoCard : Claim7 := { stood := { row := fnComparedUptoRow, standIns := [], harness := (true, "4877271a35a4c0a1a7dbc4464b5eade8c92feeabe477495bef07770734c2ca0a"), looks := false }, kinds := [], alts := [], laidByText := true, laidKinds := [.data], laidTests := true, laidLooks := .later }
def FnComparedUptoCardSaid : Prop := Claim7.holds Tryd.pinned (.plain (OpenSpec.upto fnComparedSpec)) fnComparedUptoCard

/-- THE SECOND FORM's CARD OF 'laws.FnParts'. -/
def fnPartsUptoCard : Claim7 := { stood := { row := fnPartsUptoRow, standIns := [], harness := (true, "4877271a35a4c0a1a7dbc4464b5eade8c92feeabe477495bef07770734c2ca0a"), looks := false }, kinds := [], alts := [], laidByText := true, laidKinds := [.data, .data], laidTests := true, laidLooks := .later }
def FnPartsUptoCardSaid : Prop := Claim7.holds Tryd.pinned (.plain (OpenSpec.upto fnPartsSpec)) fnPartsUptoCard

/-- THE SECOND FORM's CARD OF 'laws.FnFromParts'. -/
def fnFromPartsUptoCard : Claim7 := { stood := { row := fnFromPartsUptoRow, standIns := [], harness := (true, "4877271a35a4c0a1a7dbc4464b5eade8c92feeabe477495bef07770734c2ca0a"), looks := false }, kinds := [], alts := [], laidByText := true, laidKinds := [.data, .data], laidTests := true, laidLooks := .later }
def FnFromPartsUptoCardSaid : Prop := Claim7.holds Tryd.pinned (.plain (OpenSpec.upto fnFromPartsSpec)) fnFromPartsUptoCard

/-- THE SECOND FORM's CARD OF 'laws.FnConverted'. -/
def fnConvertedUptoCard : Claim7 := { stood := { row := fnConvertedUptoRow, standIns := [], harness := (true, "4877271a35a4c0a1a7dbc4464b5eade8c92feeabe477495bef07770734c2ca0a"), looks := false }, kinds := [], alts := [], laidByText := true, laidKinds := [.data, .data, .data], laidTests := true, laidLooks := .later }
def FnConvertedUptoCardSaid : Prop := Claim7.holds Tryd.pinned (.plain (OpenSpec.upto fnConvertedSpec)) fnConvertedUptoCard

/-- THE SECOND FORM's CARD OF 'laws.FnMirror'. -/
def fnMirrorUptoCard : Claim7 := { stood := { row := fnMirrorUptoRow, standIns := [], harness := (true, "4877271a35a4c0a1a7dbc4464b5eade8c92feeabe477495bef07770734c2ca0a"), looks := false }, kinds := [], alts := [], laidByText := true, laidKinds := [.data, .data, .data], laidTests := true, laidLooks := .later }
def FnMirrorUptoCardSaid : Prop := Claim7.holds Tryd.pinned (.plain (OpenSpec.upto fnMirrorSpec)) fnMirrorUptoCard

/-- THE SECOND FORM's CARD OF 'laws.FnExactBinOk'. -/
def fnExactBinOkUptoCard : Claim7 := { stood := { row := fnExactBinOkUptoRow, standIns := [], harness := (true, "4877271a35a4c0a1a7dbc4464b5eade8c92feeabe477495bef07770734c2ca0a"), looks := false }, kinds := [], alts := [], laidByText := true, laidKinds := [.data], laidTests := true, laidLooks := .later }
def FnExactBinOkUptoCardSaid : Prop := Claim7.holds Tryd.pinned (.plain (OpenSpec.upto fnExactBinOkSpec)) fnExactBinOkUptoCard

/-- THE SECOND FORM's CARD OF 'laws.FnExactBinMerge'. -/
def fnExactBinMergeUptoCard : Claim7 := { stood := { row := fnExactBinMergeUptoRow, standIns := [], harness := (true, "4877271a35a4c0a1a7dbc4464b5eade8c92feeabe477495bef07770734c2ca0a"), looks := false }, kinds := [], alts := [], laidByText := true, laidKinds := [.data], laidTests := true, laidLooks := .later }
def FnExactBinMergeUptoCardSaid : Prop := Claim7.holds Tryd.pinned (.plain (OpenSpec.upto fnExactBinMergeSpec)) fnExactBinMergeUptoCard

/-- THE SECOND FORM's CARD OF 'laws.FnExactBinRound'. -/
def fnExactBinRoundUptoCard : Claim7 := { stood := { row := fnExactBinRoundUptoRow, standIns := [], harness := (true, "4877271a35a4c0a1a7dbc4464b5eade8c92feeabe477495bef07770734c2ca0a"), looks := false }, kinds := [], alts := [], laidByText := true, laidKinds := [.data, .data, .data], laidTests := true, laidLooks := .later }
def FnExactBinRoundUptoCardSaid : Prop := Claim7.holds Tryd.pinned (.plain (OpenSpec.upto fnExactBinRoundSpec)) fnExactBinRoundUptoCard
end Rows
end Go.Proofs.YtpalbhkihheogaaDoor
