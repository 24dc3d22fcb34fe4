/-
  DERIVED. GIVEN WITH THE SEED: THE CARDS: each row of YtbhfbaogmkgmiaaGreatDoorRows.lean that lists a variable, with what it lists TIED to the program's text (the seventh form; the later family's looks); each row that meets fmt, with fmt's text TOLD by the authors' own Lean function (tested against real Go, not proved from fmt's source: count such statements apart). THE CARD IS WHAT COUNTS. Prove the row's statement (the work); the ties are given (YtbhfbaogmkgmiaaGreatDoorTie.lean); close each card by the builder's one call (the guide's Derived/Test/ToyasCard.lean, 'card_holds'). Laid BY PROGRAM, IN A SANDBOX (cutbox-door.mjs). By AI agents, Wed Nov 11 2026. No macro, syntax, notation, axiom, sorry.
-/
import Derived.Test.YtbhfbaogmkgmiaaGreatDoorRows
import GoSem.ClaimSeven
namespace Go.Proofs.YtbhfbaogmkgmiaaGreatDoor
namespace Rows

/-- THE TIED CARD OF 'laws.FnModes'. -/
def fnModesCard : Claim7 := { stood := { row := fnModesRow, standIns := [], harness := (true, "a77d2dc95cd42b3ebb2e4ee45a7269e5d03527d3ce7912a0e09d08e79b9c9cfd"), looks := true }, kinds := [], alts := [], laidByText := true, laidKinds := [.data, .data, .data], laidTests := true, laidLooks := .later }
def FnModesCardSaid : Prop := Claim7.holds Tryz.pinned (.plain (OpenSpec.ofChange fnModesSpec)) fnModesCard

/-- THE TIED CARD OF 'laws.FnBracket'. -/
def fnBracketCard : Claim7 := { stood := { row := fnBracketRow, standIns := [], harness := (true, "a77d2dc95cd42b3ebb2e4ee45a7269e5d03527d3ce7912a0e09d08e79b9c9cfd"), looks := true }, kinds := [], alts := [], laidByText := true, laidKinds := [.data, .data, .data], laidTests := true, laidLooks := .later }
def FnBracketCardSaid : Prop := Claim7.holds Tryz.pinned (.plain (OpenSpec.ofChange fnBracketSpec)) fnBracketCard

/-- THE TIED CARD OF 'laws.FnNearest'. -/
def fnNearestCard : Claim7 := { stood := { row := fnNearestRow, standIns := [], harness := (true, "a77d2dc95cd42b3ebb2e4ee45a7269e5d03527d3ce7912a0e09d08e79b9c9cfd"), looks := true }, kinds := [], alts := [], laidByText := true, laidKinds := [.data, .data, .data], laidTests := true, laidLooks := .later }
def FnNearestCardSaid : Prop := Claim7.holds Tryz.pinned (.plain (OpenSpec.ofChange fnNearestSpec)) fnNearestCard

/-- THE TIED CARD OF 'laws.FnAddRounded'. -/
def fnAddRoundedCard : Claim7 := { stood := { row := fnAddRoundedRow, standIns := [], harness := (true, "a77d2dc95cd42b3ebb2e4ee45a7269e5d03527d3ce7912a0e09d08e79b9c9cfd"), looks := true }, kinds := [], alts := [], laidByText := true, laidKinds := [.data, .data, .handle, .data, .sentinel], laidTests := true, laidLooks := .later }
def FnAddRoundedCardSaid : Prop := Claim7.holds Tryz.pinned (.plain (OpenSpec.ofChange fnAddRoundedSpec)) fnAddRoundedCard

/-- THE TIED CARD OF 'laws.FnAddTurned'. -/
def fnAddTurnedCard : Claim7 := { stood := { row := fnAddTurnedRow, standIns := [], harness := (true, "a77d2dc95cd42b3ebb2e4ee45a7269e5d03527d3ce7912a0e09d08e79b9c9cfd"), looks := true }, kinds := [], alts := [], laidByText := true, laidKinds := [.data, .data, .handle, .data, .sentinel], laidTests := true, laidLooks := .later }
def FnAddTurnedCardSaid : Prop := Claim7.holds Tryz.pinned (.plain (OpenSpec.ofChange fnAddTurnedSpec)) fnAddTurnedCard

/-- THE TIED CARD OF 'laws.FnMulRounded'. -/
def fnMulRoundedCard : Claim7 := { stood := { row := fnMulRoundedRow, standIns := [], harness := (true, "a77d2dc95cd42b3ebb2e4ee45a7269e5d03527d3ce7912a0e09d08e79b9c9cfd"), looks := true }, kinds := [], alts := [], laidByText := true, laidKinds := [.data, .data, .handle, .data, .sentinel], laidTests := true, laidLooks := .later }
def FnMulRoundedCardSaid : Prop := Claim7.holds Tryz.pinned (.plain (OpenSpec.ofChange fnMulRoundedSpec)) fnMulRoundedCard

/-- THE TIED CARD OF 'laws.FnNearSub'. -/
def fnNearSubCard : Claim7 := { stood := { row := fnNearSubRow, standIns := [], harness := (true, "a77d2dc95cd42b3ebb2e4ee45a7269e5d03527d3ce7912a0e09d08e79b9c9cfd"), looks := true }, kinds := [], alts := [], laidByText := true, laidKinds := [.data, .data, .handle, .data, .sentinel], laidTests := true, laidLooks := .later }
def FnNearSubCardSaid : Prop := Claim7.holds Tryz.pinned (.plain (OpenSpec.ofChange fnNearSubSpec)) fnNearSubCard

/-- THE TIED CARD OF 'laws.FnScaled'. -/
def fnScaledCard : Claim7 := { stood := { row := fnScaledRow, standIns := [], harness := (true, "a77d2dc95cd42b3ebb2e4ee45a7269e5d03527d3ce7912a0e09d08e79b9c9cfd"), looks := true }, kinds := [], alts := [], laidByText := true, laidKinds := [.data, .data, .handle, .data, .sentinel], laidTests := true, laidLooks := .later }
def FnScaledCardSaid : Prop := Claim7.holds Tryz.pinned (.plain (OpenSpec.ofChange fnScaledSpec)) fnScaledCard

/-- THE TIED CARD OF 'laws.FnSplit'. -/
def fnSplitCard : Claim7 := { stood := { row := fnSplitRow, standIns := [], harness := (true, "a77d2dc95cd42b3ebb2e4ee45a7269e5d03527d3ce7912a0e09d08e79b9c9cfd"), looks := true }, kinds := [], alts := [], laidByText := true, laidKinds := [.data, .data, .handle, .data, .sentinel], laidTests := true, laidLooks := .later }
def FnSplitCardSaid : Prop := Claim7.holds Tryz.pinned (.plain (OpenSpec.ofChange fnSplitSpec)) fnSplitCard

/-- THE TIED CARD OF 'laws.FnFma'. -/
def fnFmaCard : Claim7 := { stood := { row := fnFmaRow, standIns := [], harness := (true, "a77d2dc95cd42b3ebb2e4ee45a7269e5d03527d3ce7912a0e09d08e79b9c9cfd"), looks := true }, kinds := [], alts := [], laidByText := true, laidKinds := [.data, .data, .handle, .data, .sentinel], laidTests := true, laidLooks := .later }
def FnFmaCardSaid : Prop := Claim7.holds Tryz.pinned (.plain (OpenSpec.ofChange fnFmaSpec)) fnFmaCard

/-- THE TIED CARD OF 'laws.FnInts'. -/
def fnIntsCard : Claim7 := { stood := { row := fnIntsRow, standIns := [], harness := (true, "a77d2dc95cd42b3ebb2e4ee45a7269e5d03527d3ce7912a0e09d08e79b9c9cfd"), looks := true }, kinds := [], alts := [], laidByText := true, laidKinds := [.data, .data, .handle, .data, .sentinel], laidTests := true, laidLooks := .later }
def FnIntsCardSaid : Prop := Claim7.holds Tryz.pinned (.plain (OpenSpec.ofChange fnIntsSpec)) fnIntsCard

/-- THE TIED CARD OF 'laws.FnExactFloatFma'. -/
def fnExactFloatFmaCard : Claim7 := { stood := { row := fnExactFloatFmaRow, standIns := [], harness := (true, "a77d2dc95cd42b3ebb2e4ee45a7269e5d03527d3ce7912a0e09d08e79b9c9cfd"), looks := true }, kinds := [], alts := [], laidByText := true, laidKinds := [.data, .data, .handle, .data, .sentinel], laidTests := true, laidLooks := .later }
def FnExactFloatFmaCardSaid : Prop := Claim7.holds Tryz.pinned (.plain (OpenSpec.ofChange fnExactFloatFmaSpec)) fnExactFloatFmaCard

/-- THE SECOND FORM's CARD OF 'laws.FnModes'. -/
def fnModesUptoCard : Claim7 := { stood := { row := fnModesUptoRow, standIns := [], harness := (true, "a77d2dc95cd42b3ebb2e4ee45a7269e5d03527d3ce7912a0e09d08e79b9c9cfd"), looks := true }, kinds := [], alts := [], laidByText := true, laidKinds := [.data, .data, .data], laidTests := true, laidLooks := .later }
def FnModesUptoCardSaid : Prop := Claim7.holds Tryz.pinned (.plain (OpenSpec.upto fnModesSpec)) fnModesUptoCard

/-- THE SECOND FORM's CARD OF 'laws.FnBracket'. -/
def fnBracketUptoCard : Claim7 := { stood := { row := fnBracketUptoRow, standIns := [], harness := (true, "a77d2dc95cd42b3ebb2e4ee45a7269e5d03527d3ce7912a0e09d08e79b9c9cfd"), looks := true }, kinds := [], alts := [], laidByText := true, laidKinds := [.data, .data, .data], laidTests := true, laidLooks := .later }
def FnBracketUptoCardSaid : Prop := Claim7.holds Tryz.pinned (.plain (OpenSpec.upto fnBracketSpec)) fnBracketUptoCard

/-- THE SECOND FORM's CARD OF 'laws.FnNearest'. -/
def fnNearestUptoCard : Claim7 := { stood := { row := fnNearestUptoRow, standIns := [], harness := (true, "a77d2dc95cd42b3ebb2e4ee45a7269e5d03527d3ce7912a0e09d08e79b9c9cfd"), looks := true }, kinds := [], alts := [], laidByText := true, laidKinds := [.data, .data, .data], laidTests := true, laidLooks := .later }
def FnNearestUptoCardSaid : Prop := Claim7.holds Tryz.pinned (.plain (OpenSpec.upto fnNearestSpec)) fnNearestUptoCard

/-- THE SECOND FORM's CARD OF 'laws.FnAddRounded'. -/
def fnAddRoundedUptoCard : Claim7 := { stood := { row := fnAddRoundedUptoRow, standIns := [], harness := (true, "a77d2dc95cd42b3ebb2e4ee45a7269e5d03527d3ce7912a0e09d08e79b9c9cfd"), looks := true }, kinds := [], alts := [], laidByText := true, laidKinds := [.data, .data, .handle, .data, .sentinel], laidTests := true, laidLooks := .later }
def FnAddRoundedUptoCardSaid : Prop := Claim7.holds Tryz.pinned (.plain (OpenSpec.upto fnAddRoundedSpec)) fnAddRoundedUptoCard

/-- THE SECOND FORM's CARD OF 'laws.FnAddTurned'. -/
def fnAddTurnedUptoCard : Claim7 := { stood := { row := fnAddTurnedUptoRow, standIns := [], harness := (true, "a77d2dc95cd42b3ebb2e4ee45a7269e5d03527d3ce7912a0e09d08e79b9c9cfd"), looks := true }, kinds := [], alts := [], laidByText := true, laidKinds := [.data, .data, .handle, .data, .sentinel], laidTests := true, laidLooks := .later }
def FnAddTurnedUptoCardSaid : Prop := Claim7.holds Tryz.pinned (.plain (OpenSpec.upto fnAddTurnedSpec)) fnAddTurnedUptoCard

/-- THE SECOND FORM's CARD OF 'laws.FnMulRounded'. -/
def fnMulRoundedUptoCard : Claim7 := { stood := { row := fnMulRoundedUptoRow, standIns := [], harness := (true, "a77d2dc95cd42b3ebb2e4ee45a7269e5d03527d3ce7912a0e09d08e79b9c9cfd"), looks := true }, kinds := [], alts := [], laidByText := true, laidKinds := [.data, .data, .handle, .data, .sentinel], laidTests := true, laidLooks := .later }
def FnMulRoundedUptoCardSaid : Prop := Claim7.holds Tryz.pinned (.plain (OpenSpec.upto fnMulRoundedSpec)) fnMulRoundedUptoCard

/-- THE SECOND FORM's CARD OF 'laws.FnNearSub'. -/
def fnNearSubUptoCard : Claim7 := { stood := { row := fnNearSubUptoRow, standIns := [], harness := (true, "a77d2dc95cd42b3ebb2e4ee45a7269e5d03527d3ce7912a0e09d08e79b9c9cfd"), looks := true }, kinds := [], alts := [], laidByText := true, laidKinds := [.data, .data, .handle, .data, .sentinel], laidTests := true, laidLooks := .later }
def FnNearSubUptoCardSaid : Prop := Claim7.holds Tryz.pinned (.plain (OpenSpec.upto fnNearSubSpec)) fnNearSubUptoCard

/-- THE SECOND FORM's CARD OF 'laws.FnScaled'. -/
def fnScaledUptoCard : Claim7 := { stood := { row := fnScaledUptoRow, standIns := [], harness := (true, "a77d2dc95cd42b3ebb2e4ee45a7269e5d03527d3ce7912a0e09d08e79b9c9cfd"), looks := true }, kinds := [], alts := [], laidByText := true, laidKinds := [.data, .data, .handle, .data, .sentinel], laidTests := true, laidLooks := .later }
def FnScaledUptoCardSaid : Prop := Claim7.holds Tryz.pinned (.plain (OpenSpec.upto fnScaledSpec)) fnScaledUptoCard

/-- THE SECOND FORM's CARD OF 'laws.FnSplit'. -/
def fnSplitUptoCard : Claim7 := { stood := { row := fnSplitUptoRow, standIns := [], harness := (true, "a77d2dc95cd42b3ebb2e4ee45a7269e5d03527d3ce7912a0e09d08e79b9c9cfd"), looks := true }, kinds := [], alts := [], laidByText := true, laidKinds := [.data, .data, .handle, .data, .sentinel], laidTests := true, laidLooks := .later }
def FnSplitUptoCardSaid : Prop := Claim7.holds Tryz.pinned (.plain (OpenSpec.upto fnSplitSpec)) fnSplitUptoCard

/-- THE SECOND FORM's CARD OF 'laws.FnFma'. -/
def fnFmaUptoCard : Claim7 := { stood := { row := fnFmaUptoRow, standIns := [], harness := (true, "a77d2dc95cd42b3ebb2e4ee45a7269e5d03527d3ce7912a0e09d08e79b9c9cfd"), looks := true }, kinds := [], alts := [], laidByText := true, laidKinds := [.data, .data, .handle, .data, .sentinel], laidTests := true, laidLooks := .later }
def FnFmaUptoCardSaid : Prop := Claim7.holds Tryz.pinned (.plain (OpenSpec.upto fnFmaSpec)) fnFmaUptoCard

/-- THE SECOND FORM's CARD OF 'laws.FnInts'. -/
def fnIntsUptoCard : Claim7 := { stood := { row := fnIntsUptoRow, standIns := [], harness := (true, "a77d2dc95cd42b3ebb2e4ee45a7269e5d03527d3ce7912a0e09d08e79b9c9cfd"), looks := true }, kinds := [], alts := [], laidByText := true, laidKinds := [.data, .data, .handle, .data, .sentinel], laidTests := true, laidLooks := .later }
def FnIntsUptoCardSaid : Prop := Claim7.holds Tryz.pinned (.plain (OpenSpec.upto fnIntsSpec)) fnIntsUptoCard

/-- THE SECOND FORM's CARD OF 'laws.FnExactFloatFma'. -/
def fnExactFloatFmaUptoCard : Claim7 := { stood := { row := fnExactFloatFmaUptoRow, standIns := [], harness := (true, "a77d2dc95cd42b3ebb2e4ee45a7269e5d03527d3ce7912a0e09d08e79b9c9cfd"), looks := true }, kinds := [], alts := [], laidByText := true, laidKinds := [.data, .data, .handle, .data, .sentinel], laidTests := true, laidLooks := .later }
def FnExactFloatFmaUptoCardSaid : Prop := Claim7.holds Tryz.pinned (.plain (OpenSpec.upto fnExactFloatFmaSpec)) fnExactFloatFmaUptoCard
end Rows
end Go.Proofs.YtbhfbaogmkgmiaaGreatDoor
