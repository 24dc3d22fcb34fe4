/-
  DERIVED. GIVEN WITH THE SEED: THE CARDS: each row of YtnliofakkkjpoaaGreatDoorRows.lean that lists a variable, with what it lists TIED to the program's text (the seventh form; the later family's looks); each row that meets fmt, with fmt's text TOLD by the authors' own Lean function (tested against real Go, not proved from fmt's source: count such statements apart). THE CARD IS WHAT COUNTS. Prove the row's statement (the work); the ties are given (YtnliofakkkjpoaaGreatDoorTie.lean); close each card by the builder's one call (the guide's Derived/Test/ToyasCard.lean, 'card_holds'). Laid BY PROGRAM, IN A SANDBOX (cutbox-door.mjs). By AI agents, Wed Nov 11 2026. No macro, syntax, notation, axiom, sorry.
-/
import Derived.Test.YtnliofakkkjpoaaGreatDoorRows
import GoSem.ClaimSeven
namespace Go.Proofs.YtnliofakkkjpoaaGreatDoor
namespace Rows

/-- THE TIED CARD OF 'laws.FnExactAccMul'. -/
def fnExactAccMulCard : Claim7 := { stood := { row := fnExactAccMulRow, standIns := [], harness := (true, "f727482f6c71c305e7dffe092fb5d6a9847278ef94b631da711b1dfb18ea704f"), looks := true }, kinds := [], alts := [], laidByText := true, laidKinds := [.handle, .data, .sentinel], laidTests := true, laidLooks := .later }
def FnExactAccMulCardSaid : Prop := Claim7.holds Tryz.pinned (.plain (OpenSpec.ofChange fnExactAccMulSpec)) fnExactAccMulCard

/-- THE TIED CARD OF 'laws.FnExactSumOf'. -/
def fnExactSumOfCard : Claim7 := { stood := { row := fnExactSumOfRow, standIns := [], harness := (true, "f727482f6c71c305e7dffe092fb5d6a9847278ef94b631da711b1dfb18ea704f"), looks := true }, kinds := [], alts := [], laidByText := true, laidKinds := [.data, .data, .handle, .data, .sentinel], laidTests := true, laidLooks := .later }
def FnExactSumOfCardSaid : Prop := Claim7.holds Tryz.pinned (.plain (OpenSpec.ofChange fnExactSumOfSpec)) fnExactSumOfCard

/-- THE TIED CARD OF 'laws.FnExactSumAbs'. -/
def fnExactSumAbsCard : Claim7 := { stood := { row := fnExactSumAbsRow, standIns := [], harness := (true, "f727482f6c71c305e7dffe092fb5d6a9847278ef94b631da711b1dfb18ea704f"), looks := true }, kinds := [], alts := [], laidByText := true, laidKinds := [.data, .data, .handle, .data, .sentinel], laidTests := true, laidLooks := .later }
def FnExactSumAbsCardSaid : Prop := Claim7.holds Tryz.pinned (.plain (OpenSpec.ofChange fnExactSumAbsSpec)) fnExactSumAbsCard

/-- THE TIED CARD OF 'laws.FnExactDot'. -/
def fnExactDotCard : Claim7 := { stood := { row := fnExactDotRow, standIns := [], harness := (true, "f727482f6c71c305e7dffe092fb5d6a9847278ef94b631da711b1dfb18ea704f"), looks := true }, kinds := [], alts := [], laidByText := true, laidKinds := [.data, .data, .handle, .data, .sentinel], laidTests := true, laidLooks := .later }
def FnExactDotCardSaid : Prop := Claim7.holds Tryz.pinned (.plain (OpenSpec.ofChange fnExactDotSpec)) fnExactDotCard

/-- THE TIED CARD OF 'laws.FnExactSumSquare'. -/
def fnExactSumSquareCard : Claim7 := { stood := { row := fnExactSumSquareRow, standIns := [], harness := (true, "f727482f6c71c305e7dffe092fb5d6a9847278ef94b631da711b1dfb18ea704f"), looks := true }, kinds := [], alts := [], laidByText := true, laidKinds := [.data, .data, .handle, .data, .sentinel], laidTests := true, laidLooks := .later }
def FnExactSumSquareCardSaid : Prop := Claim7.holds Tryz.pinned (.plain (OpenSpec.ofChange fnExactSumSquareSpec)) fnExactSumSquareCard

/-- THE TIED CARD OF 'laws.FnExactFloatMul'. -/
def fnExactFloatMulCard : Claim7 := { stood := { row := fnExactFloatMulRow, standIns := [], harness := (true, "f727482f6c71c305e7dffe092fb5d6a9847278ef94b631da711b1dfb18ea704f"), looks := true }, kinds := [], alts := [], laidByText := true, laidKinds := [.data, .data, .handle, .data, .sentinel], laidTests := true, laidLooks := .later }
def FnExactFloatMulCardSaid : Prop := Claim7.holds Tryz.pinned (.plain (OpenSpec.ofChange fnExactFloatMulSpec)) fnExactFloatMulCard

/-- THE TIED CARD OF 'laws.FnExactFloatScaled'. -/
def fnExactFloatScaledCard : Claim7 := { stood := { row := fnExactFloatScaledRow, standIns := [], harness := (true, "f727482f6c71c305e7dffe092fb5d6a9847278ef94b631da711b1dfb18ea704f"), looks := true }, kinds := [], alts := [], laidByText := true, laidKinds := [.data, .data, .handle, .data, .sentinel], laidTests := true, laidLooks := .later }
def FnExactFloatScaledCardSaid : Prop := Claim7.holds Tryz.pinned (.plain (OpenSpec.ofChange fnExactFloatScaledSpec)) fnExactFloatScaledCard

/-- THE TIED CARD OF 'laws.FnExactFloatAdd'. -/
def fnExactFloatAddCard : Claim7 := { stood := { row := fnExactFloatAddRow, standIns := [], harness := (true, "f727482f6c71c305e7dffe092fb5d6a9847278ef94b631da711b1dfb18ea704f"), looks := true }, kinds := [], alts := [], laidByText := true, laidKinds := [.data, .data, .handle, .data, .sentinel], laidTests := true, laidLooks := .later }
def FnExactFloatAddCardSaid : Prop := Claim7.holds Tryz.pinned (.plain (OpenSpec.ofChange fnExactFloatAddSpec)) fnExactFloatAddCard

/-- THE TIED CARD OF 'laws.FnExactFloatSub'. -/
def fnExactFloatSubCard : Claim7 := { stood := { row := fnExactFloatSubRow, standIns := [], harness := (true, "f727482f6c71c305e7dffe092fb5d6a9847278ef94b631da711b1dfb18ea704f"), looks := true }, kinds := [], alts := [], laidByText := true, laidKinds := [.data, .data, .handle, .data, .sentinel], laidTests := true, laidLooks := .later }
def FnExactFloatSubCardSaid : Prop := Claim7.holds Tryz.pinned (.plain (OpenSpec.ofChange fnExactFloatSubSpec)) fnExactFloatSubCard

/-- THE TIED CARD OF 'laws.FnExactFloatFma'. -/
def fnExactFloatFmaCard : Claim7 := { stood := { row := fnExactFloatFmaRow, standIns := [], harness := (true, "f727482f6c71c305e7dffe092fb5d6a9847278ef94b631da711b1dfb18ea704f"), looks := true }, kinds := [], alts := [], laidByText := true, laidKinds := [.data, .data, .handle, .data, .sentinel], laidTests := true, laidLooks := .later }
def FnExactFloatFmaCardSaid : Prop := Claim7.holds Tryz.pinned (.plain (OpenSpec.ofChange fnExactFloatFmaSpec)) fnExactFloatFmaCard

/-- THE TIED CARD OF 'laws.FnExactFloatInt'. -/
def fnExactFloatIntCard : Claim7 := { stood := { row := fnExactFloatIntRow, standIns := [], harness := (true, "f727482f6c71c305e7dffe092fb5d6a9847278ef94b631da711b1dfb18ea704f"), looks := true }, kinds := [], alts := [], laidByText := true, laidKinds := [.data, .data, .handle, .data, .sentinel], laidTests := true, laidLooks := .later }
def FnExactFloatIntCardSaid : Prop := Claim7.holds Tryz.pinned (.plain (OpenSpec.ofChange fnExactFloatIntSpec)) fnExactFloatIntCard

/-- THE TIED CARD OF 'laws.FnExactAugAdd'. -/
def fnExactAugAddCard : Claim7 := { stood := { row := fnExactAugAddRow, standIns := [], harness := (true, "f727482f6c71c305e7dffe092fb5d6a9847278ef94b631da711b1dfb18ea704f"), looks := true }, kinds := [], alts := [], laidByText := true, laidKinds := [.data, .data, .handle, .data, .sentinel], laidTests := true, laidLooks := .later }
def FnExactAugAddCardSaid : Prop := Claim7.holds Tryz.pinned (.plain (OpenSpec.ofChange fnExactAugAddSpec)) fnExactAugAddCard

/-- THE SECOND FORM's CARD OF 'laws.FnExactAccMul'. -/
def fnExactAccMulUptoCard : Claim7 := { stood := { row := fnExactAccMulUptoRow, standIns := [], harness := (true, "f727482f6c71c305e7dffe092fb5d6a9847278ef94b631da711b1dfb18ea704f"), looks := true }, kinds := [], alts := [], laidByText := true, laidKinds := [.handle, .data, .sentinel], laidTests := true, laidLooks := .later }
def FnExactAccMulUptoCardSaid : Prop := Claim7.holds Tryz.pinned (.plain (OpenSpec.upto fnExactAccMulSpec)) fnExactAccMulUptoCard

/-- THE SECOND FORM's CARD OF 'laws.FnExactSumOf'. -/
def fnExactSumOfUptoCard : Claim7 := { stood := { row := fnExactSumOfUptoRow, standIns := [], harness := (true, "f727482f6c71c305e7dffe092fb5d6a9847278ef94b631da711b1dfb18ea704f"), looks := true }, kinds := [], alts := [], laidByText := true, laidKinds := [.data, .data, .handle, .data, .sentinel], laidTests := true, laidLooks := .later }
def FnExactSumOfUptoCardSaid : Prop := Claim7.holds Tryz.pinned (.plain (OpenSpec.upto fnExactSumOfSpec)) fnExactSumOfUptoCard

/-- THE SECOND FORM's CARD OF 'laws.FnExactSumAbs'. -/
def fnExactSumAbsUptoCard : Claim7 := { stood := { row := fnExactSumAbsUptoRow, standIns := [], harness := (true, "f727482f6c71c305e7dffe092fb5d6a9847278ef94b631da711b1dfb18ea704f"), looks := true }, kinds := [], alts := [], laidByText := true, laidKinds := [.data, .data, .handle, .data, .sentinel], laidTests := true, laidLooks := .later }
def FnExactSumAbsUptoCardSaid : Prop := Claim7.holds Tryz.pinned (.plain (OpenSpec.upto fnExactSumAbsSpec)) fnExactSumAbsUptoCard

/-- THE SECOND FORM's CARD OF 'laws.FnExactDot'. -/
def fnExactDotUptoCard : Claim7 := { stood := { row := fnExactDotUptoRow, standIns := [], harness := (true, "f727482f6c71c305e7dffe092fb5d6a9847278ef94b631da711b1dfb18ea704f"), looks := true }, kinds := [], alts := [], laidByText := true, laidKinds := [.data, .data, .handle, .data, .sentinel], laidTests := true, laidLooks := .later }
def FnExactDotUptoCardSaid : Prop := Claim7.holds Tryz.pinned (.plain (OpenSpec.upto fnExactDotSpec)) fnExactDotUptoCard

/-- THE SECOND FORM's CARD OF 'laws.FnExactSumSquare'. -/
def fnExactSumSquareUptoCard : Claim7 := { stood := { row := fnExactSumSquareUptoRow, standIns := [], harness := (true, "f727482f6c71c305e7dffe092fb5d6a9847278ef94b631da711b1dfb18ea704f"), looks := true }, kinds := [], alts := [], laidByText := true, laidKinds := [.data, .data, .handle, .data, .sentinel], laidTests := true, laidLooks := .later }
def FnExactSumSquareUptoCardSaid : Prop := Claim7.holds Tryz.pinned (.plain (OpenSpec.upto fnExactSumSquareSpec)) fnExactSumSquareUptoCard

/-- THE SECOND FORM's CARD OF 'laws.FnExactFloatMul'. -/
def fnExactFloatMulUptoCard : Claim7 := { stood := { row := fnExactFloatMulUptoRow, standIns := [], harness := (true, "f727482f6c71c305e7dffe092fb5d6a9847278ef94b631da711b1dfb18ea704f"), looks := true }, kinds := [], alts := [], laidByText := true, laidKinds := [.data, .data, .handle, .data, .sentinel], laidTests := true, laidLooks := .later }
def FnExactFloatMulUptoCardSaid : Prop := Claim7.holds Tryz.pinned (.plain (OpenSpec.upto fnExactFloatMulSpec)) fnExactFloatMulUptoCard

/-- THE SECOND FORM's CARD OF 'laws.FnExactFloatScaled'. -/
def fnExactFloatScaledUptoCard : Claim7 := { stood := { row := fnExactFloatScaledUptoRow, standIns := [], harness := (true, "f727482f6c71c305e7dffe092fb5d6a9847278ef94b631da711b1dfb18ea704f"), looks := true }, kinds := [], alts := [], laidByText := true, laidKinds := [.data, .data, .handle, .data, .sentinel], laidTests := true, laidLooks := .later }
def FnExactFloatScaledUptoCardSaid : Prop := Claim7.holds Tryz.pinned (.plain (OpenSpec.upto fnExactFloatScaledSpec)) fnExactFloatScaledUptoCard

/-- THE SECOND FORM's CARD OF 'laws.FnExactFloatAdd'. -/
def fnExactFloatAddUptoCard : Claim7 := { stood := { row := fnExactFloatAddUptoRow, standIns := [], harness := (true, "f727482f6c71c305e7dffe092fb5d6a9847278ef94b631da711b1dfb18ea704f"), looks := true }, kinds := [], alts := [], laidByText := true, laidKinds := [.data, .data, .handle, .data, .sentinel], laidTests := true, laidLooks := .later }
def FnExactFloatAddUptoCardSaid : Prop := Claim7.holds Tryz.pinned (.plain (OpenSpec.upto fnExactFloatAddSpec)) fnExactFloatAddUptoCard

/-- THE SECOND FORM's CARD OF 'laws.FnExactFloatSub'. -/
def fnExactFloatSubUptoCard : Claim7 := { stood := { row := fnExactFloatSubUptoRow, standIns := [], harness := (true, "f727482f6c71c305e7dffe092fb5d6a9847278ef94b631da711b1dfb18ea704f"), looks := true }, kinds := [], alts := [], laidByText := true, laidKinds := [.data, .data, .handle, .data, .sentinel], laidTests := true, laidLooks := .later }
def FnExactFloatSubUptoCardSaid : Prop := Claim7.holds Tryz.pinned (.plain (OpenSpec.upto fnExactFloatSubSpec)) fnExactFloatSubUptoCard

/-- THE SECOND FORM's CARD OF 'laws.FnExactFloatFma'. -/
def fnExactFloatFmaUptoCard : Claim7 := { stood := { row := fnExactFloatFmaUptoRow, standIns := [], harness := (true, "f727482f6c71c305e7dffe092fb5d6a9847278ef94b631da711b1dfb18ea704f"), looks := true }, kinds := [], alts := [], laidByText := true, laidKinds := [.data, .data, .handle, .data, .sentinel], laidTests := true, laidLooks := .later }
def FnExactFloatFmaUptoCardSaid : Prop := Claim7.holds Tryz.pinned (.plain (OpenSpec.upto fnExactFloatFmaSpec)) fnExactFloatFmaUptoCard

/-- THE SECOND FORM's CARD OF 'laws.FnExactFloatInt'. -/
def fnExactFloatIntUptoCard : Claim7 := { stood := { row := fnExactFloatIntUptoRow, standIns := [], harness := (true, "f727482f6c71c305e7dffe092fb5d6a9847278ef94b631da711b1dfb18ea704f"), looks := true }, kinds := [], alts := [], laidByText := true, laidKinds := [.data, .data, .handle, .data, .sentinel], laidTests := true, laidLooks := .later }
def FnExactFloatIntUptoCardSaid : Prop := Claim7.holds Tryz.pinned (.plain (OpenSpec.upto fnExactFloatIntSpec)) fnExactFloatIntUptoCard

/-- THE SECOND FORM's CARD OF 'laws.FnExactAugAdd'. -/
def fnExactAugAddUptoCard : Claim7 := { stood := { row := fnExactAugAddUptoRow, standIns := [], harness := (true, "f727482f6c71c305e7dffe092fb5d6a9847278ef94b631da711b1dfb18ea704f"), looks := true }, kinds := [], alts := [], laidByText := true, laidKinds := [.data, .data, .handle, .data, .sentinel], laidTests := true, laidLooks := .later }
def FnExactAugAddUptoCardSaid : Prop := Claim7.holds Tryz.pinned (.plain (OpenSpec.upto fnExactAugAddSpec)) fnExactAugAddUptoCard
end Rows
end Go.Proofs.YtnliofakkkjpoaaGreatDoor
