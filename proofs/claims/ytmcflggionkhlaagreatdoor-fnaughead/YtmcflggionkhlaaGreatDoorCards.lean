/-
  DERIVED. GIVEN WITH THE SEED: THE CARDS: each row of YtmcflggionkhlaaGreatDoorRows.lean that lists a variable, with what it lists TIED to the program's text (the seventh form; the later family's looks); each row that meets fmt, with fmt's text TOLD by the authors' own Lean function (tested against real Go, not proved from fmt's source: count such statements apart). THE CARD IS WHAT COUNTS. Prove the row's statement (the work); the ties are given (YtmcflggionkhlaaGreatDoorTie.lean); close each card by the builder's one call (the guide's Derived/Test/ToyasCard.lean, 'card_holds'). Laid BY PROGRAM, IN A SANDBOX (cutbox-door.mjs). By AI agents, Wed Nov 11 2026. No macro, syntax, notation, axiom, sorry.
-/
import Derived.Test.YtmcflggionkhlaaGreatDoorRows
import GoSem.ClaimSeven
namespace Go.Proofs.YtmcflggionkhlaaGreatDoor
namespace Rows

/-- THE TIED CARD OF 'laws.FnNearSub'. -/
def fnNearSubCard : Claim7 := { stood := { row := fnNearSubRow, standIns := [], harness := (true, "c877998360f3072ca926d8950793fc6fb2bf14edd7fc4ffdadf44eed8bdc97dd"), looks := true }, kinds := [], alts := [], laidByText := true, laidKinds := [.data, .data, .handle, .data, .sentinel], laidTests := true, laidLooks := .later }
def FnNearSubCardSaid : Prop := Claim7.holds Tryz.pinned (.plain (OpenSpec.ofChange fnNearSubSpec)) fnNearSubCard

/-- THE TIED CARD OF 'laws.FnFma'. -/
def fnFmaCard : Claim7 := { stood := { row := fnFmaRow, standIns := [], harness := (true, "c877998360f3072ca926d8950793fc6fb2bf14edd7fc4ffdadf44eed8bdc97dd"), looks := true }, kinds := [], alts := [], laidByText := true, laidKinds := [.data, .data, .handle, .data, .sentinel], laidTests := true, laidLooks := .later }
def FnFmaCardSaid : Prop := Claim7.holds Tryz.pinned (.plain (OpenSpec.ofChange fnFmaSpec)) fnFmaCard

/-- THE TIED CARD OF 'laws.FnInts'. -/
def fnIntsCard : Claim7 := { stood := { row := fnIntsRow, standIns := [], harness := (true, "c877998360f3072ca926d8950793fc6fb2bf14edd7fc4ffdadf44eed8bdc97dd"), looks := true }, kinds := [], alts := [], laidByText := true, laidKinds := [.data, .data, .handle, .data, .sentinel], laidTests := true, laidLooks := .later }
def FnIntsCardSaid : Prop := Claim7.holds Tryz.pinned (.plain (OpenSpec.ofChange fnIntsSpec)) fnIntsCard

/-- THE TIED CARD OF 'laws.FnExactFloatFma'. -/
def fnExactFloatFmaCard : Claim7 := { stood := { row := fnExactFloatFmaRow, standIns := [], harness := (true, "c877998360f3072ca926d8950793fc6fb2bf14edd7fc4ffdadf44eed8bdc97dd"), looks := true }, kinds := [], alts := [], laidByText := true, laidKinds := [.data, .data, .handle, .data, .sentinel], laidTests := true, laidLooks := .later }
def FnExactFloatFmaCardSaid : Prop := Claim7.holds Tryz.pinned (.plain (OpenSpec.ofChange fnExactFloatFmaSpec)) fnExactFloatFmaCard

/-- THE TIED CARD OF 'laws.FnExactFloatInt'. -/
def fnExactFloatIntCard : Claim7 := { stood := { row := fnExactFloatIntRow, standIns := [], harness := (true, "c877998360f3072ca926d8950793fc6fb2bf14edd7fc4ffdadf44eed8bdc97dd"), looks := true }, kinds := [], alts := [], laidByText := true, laidKinds := [.data, .data, .handle, .data, .sentinel], laidTests := true, laidLooks := .later }
def FnExactFloatIntCardSaid : Prop := Claim7.holds Tryz.pinned (.plain (OpenSpec.ofChange fnExactFloatIntSpec)) fnExactFloatIntCard

/-- THE TIED CARD OF 'laws.FnExactAugAdd'. -/
def fnExactAugAddCard : Claim7 := { stood := { row := fnExactAugAddRow, standIns := [], harness := (true, "c877998360f3072ca926d8950793fc6fb2bf14edd7fc4ffdadf44eed8bdc97dd"), looks := true }, kinds := [], alts := [], laidByText := true, laidKinds := [.data, .data, .handle, .data, .sentinel], laidTests := true, laidLooks := .later }
def FnExactAugAddCardSaid : Prop := Claim7.holds Tryz.pinned (.plain (OpenSpec.ofChange fnExactAugAddSpec)) fnExactAugAddCard

/-- THE TIED CARD OF 'laws.FnExactAugSub'. -/
def fnExactAugSubCard : Claim7 := { stood := { row := fnExactAugSubRow, standIns := [], harness := (true, "c877998360f3072ca926d8950793fc6fb2bf14edd7fc4ffdadf44eed8bdc97dd"), looks := true }, kinds := [], alts := [], laidByText := true, laidKinds := [.data, .data, .handle, .data, .sentinel], laidTests := true, laidLooks := .later }
def FnExactAugSubCardSaid : Prop := Claim7.holds Tryz.pinned (.plain (OpenSpec.ofChange fnExactAugSubSpec)) fnExactAugSubCard

/-- THE TIED CARD OF 'laws.FnExactAugMul'. -/
def fnExactAugMulCard : Claim7 := { stood := { row := fnExactAugMulRow, standIns := [], harness := (true, "c877998360f3072ca926d8950793fc6fb2bf14edd7fc4ffdadf44eed8bdc97dd"), looks := true }, kinds := [], alts := [], laidByText := true, laidKinds := [.data, .data, .handle, .data, .sentinel], laidTests := true, laidLooks := .later }
def FnExactAugMulCardSaid : Prop := Claim7.holds Tryz.pinned (.plain (OpenSpec.ofChange fnExactAugMulSpec)) fnExactAugMulCard

/-- THE TIED CARD OF 'laws.FnAugAdd'. -/
def fnAugAddCard : Claim7 := { stood := { row := fnAugAddRow, standIns := [], harness := (true, "c877998360f3072ca926d8950793fc6fb2bf14edd7fc4ffdadf44eed8bdc97dd"), looks := true }, kinds := [], alts := [], laidByText := true, laidKinds := [.data, .data, .handle, .data, .sentinel], laidTests := true, laidLooks := .later }
def FnAugAddCardSaid : Prop := Claim7.holds Tryz.pinned (.plain (OpenSpec.ofChange fnAugAddSpec)) fnAugAddCard

/-- THE TIED CARD OF 'laws.FnAugMul'. -/
def fnAugMulCard : Claim7 := { stood := { row := fnAugMulRow, standIns := [], harness := (true, "c877998360f3072ca926d8950793fc6fb2bf14edd7fc4ffdadf44eed8bdc97dd"), looks := true }, kinds := [], alts := [], laidByText := true, laidKinds := [.data, .data, .handle, .data, .sentinel], laidTests := true, laidLooks := .later }
def FnAugMulCardSaid : Prop := Claim7.holds Tryz.pinned (.plain (OpenSpec.ofChange fnAugMulSpec)) fnAugMulCard

/-- THE TIED CARD OF 'laws.FnAugHead'. -/
def fnAugHeadCard : Claim7 := { stood := { row := fnAugHeadRow, standIns := [], harness := (true, "c877998360f3072ca926d8950793fc6fb2bf14edd7fc4ffdadf44eed8bdc97dd"), looks := true }, kinds := [], alts := [], laidByText := true, laidKinds := [.data, .data, .handle, .data, .sentinel], laidTests := true, laidLooks := .later }
def FnAugHeadCardSaid : Prop := Claim7.holds Tryz.pinned (.plain (OpenSpec.ofChange fnAugHeadSpec)) fnAugHeadCard

/-- THE TIED CARD OF 'laws.FnExactDot'. -/
def fnExactDotCard : Claim7 := { stood := { row := fnExactDotRow, standIns := [], harness := (true, "c877998360f3072ca926d8950793fc6fb2bf14edd7fc4ffdadf44eed8bdc97dd"), looks := true }, kinds := [], alts := [], laidByText := true, laidKinds := [.data, .data, .handle, .data, .sentinel], laidTests := true, laidLooks := .later }
def FnExactDotCardSaid : Prop := Claim7.holds Tryz.pinned (.plain (OpenSpec.ofChange fnExactDotSpec)) fnExactDotCard

/-- THE SECOND FORM's CARD OF 'laws.FnNearSub'. -/
def fnNearSubUptoCard : Claim7 := { stood := { row := fnNearSubUptoRow, standIns := [], harness := (true, "c877998360f3072ca926d8950793fc6fb2bf14edd7fc4ffdadf44eed8bdc97dd"), looks := true }, kinds := [], alts := [], laidByText := true, laidKinds := [.data, .data, .handle, .data, .sentinel], laidTests := true, laidLooks := .later }
def FnNearSubUptoCardSaid : Prop := Claim7.holds Tryz.pinned (.plain (OpenSpec.upto fnNearSubSpec)) fnNearSubUptoCard

/-- THE SECOND FORM's CARD OF 'laws.FnFma'. -/
def fnFmaUptoCard : Claim7 := { stood := { row := fnFmaUptoRow, standIns := [], harness := (true, "c877998360f3072ca926d8950793fc6fb2bf14edd7fc4ffdadf44eed8bdc97dd"), looks := true }, kinds := [], alts := [], laidByText := true, laidKinds := [.data, .data, .handle, .data, .sentinel], laidTests := true, laidLooks := .later }
def FnFmaUptoCardSaid : Prop := Claim7.holds Tryz.pinned (.plain (OpenSpec.upto fnFmaSpec)) fnFmaUptoCard

/-- THE SECOND FORM's CARD OF 'laws.FnInts'. -/
def fnIntsUptoCard : Claim7 := { stood := { row := fnIntsUptoRow, standIns := [], harness := (true, "c877998360f3072ca926d8950793fc6fb2bf14edd7fc4ffdadf44eed8bdc97dd"), looks := true }, kinds := [], alts := [], laidByText := true, laidKinds := [.data, .data, .handle, .data, .sentinel], laidTests := true, laidLooks := .later }
def FnIntsUptoCardSaid : Prop := Claim7.holds Tryz.pinned (.plain (OpenSpec.upto fnIntsSpec)) fnIntsUptoCard

/-- THE SECOND FORM's CARD OF 'laws.FnExactFloatFma'. -/
def fnExactFloatFmaUptoCard : Claim7 := { stood := { row := fnExactFloatFmaUptoRow, standIns := [], harness := (true, "c877998360f3072ca926d8950793fc6fb2bf14edd7fc4ffdadf44eed8bdc97dd"), looks := true }, kinds := [], alts := [], laidByText := true, laidKinds := [.data, .data, .handle, .data, .sentinel], laidTests := true, laidLooks := .later }
def FnExactFloatFmaUptoCardSaid : Prop := Claim7.holds Tryz.pinned (.plain (OpenSpec.upto fnExactFloatFmaSpec)) fnExactFloatFmaUptoCard

/-- THE SECOND FORM's CARD OF 'laws.FnExactFloatInt'. -/
def fnExactFloatIntUptoCard : Claim7 := { stood := { row := fnExactFloatIntUptoRow, standIns := [], harness := (true, "c877998360f3072ca926d8950793fc6fb2bf14edd7fc4ffdadf44eed8bdc97dd"), looks := true }, kinds := [], alts := [], laidByText := true, laidKinds := [.data, .data, .handle, .data, .sentinel], laidTests := true, laidLooks := .later }
def FnExactFloatIntUptoCardSaid : Prop := Claim7.holds Tryz.pinned (.plain (OpenSpec.upto fnExactFloatIntSpec)) fnExactFloatIntUptoCard

/-- THE SECOND FORM's CARD OF 'laws.FnExactAugAdd'. -/
def fnExactAugAddUptoCard : Claim7 := { stood := { row := fnExactAugAddUptoRow, standIns := [], harness := (true, "c877998360f3072ca926d8950793fc6fb2bf14edd7fc4ffdadf44eed8bdc97dd"), looks := true }, kinds := [], alts := [], laidByText := true, laidKinds := [.data, .data, .handle, .data, .sentinel], laidTests := true, laidLooks := .later }
def FnExactAugAddUptoCardSaid : Prop := Claim7.holds Tryz.pinned (.plain (OpenSpec.upto fnExactAugAddSpec)) fnExactAugAddUptoCard

/-- THE SECOND FORM's CARD OF 'laws.FnExactAugSub'. -/
def fnExactAugSubUptoCard : Claim7 := { stood := { row := fnExactAugSubUptoRow, standIns := [], harness := (true, "c877998360f3072ca926d8950793fc6fb2bf14edd7fc4ffdadf44eed8bdc97dd"), looks := true }, kinds := [], alts := [], laidByText := true, laidKinds := [.data, .data, .handle, .data, .sentinel], laidTests := true, laidLooks := .later }
def FnExactAugSubUptoCardSaid : Prop := Claim7.holds Tryz.pinned (.plain (OpenSpec.upto fnExactAugSubSpec)) fnExactAugSubUptoCard

/-- THE SECOND FORM's CARD OF 'laws.FnExactAugMul'. -/
def fnExactAugMulUptoCard : Claim7 := { stood := { row := fnExactAugMulUptoRow, standIns := [], harness := (true, "c877998360f3072ca926d8950793fc6fb2bf14edd7fc4ffdadf44eed8bdc97dd"), looks := true }, kinds := [], alts := [], laidByText := true, laidKinds := [.data, .data, .handle, .data, .sentinel], laidTests := true, laidLooks := .later }
def FnExactAugMulUptoCardSaid : Prop := Claim7.holds Tryz.pinned (.plain (OpenSpec.upto fnExactAugMulSpec)) fnExactAugMulUptoCard

/-- THE SECOND FORM's CARD OF 'laws.FnAugAdd'. -/
def fnAugAddUptoCard : Claim7 := { stood := { row := fnAugAddUptoRow, standIns := [], harness := (true, "c877998360f3072ca926d8950793fc6fb2bf14edd7fc4ffdadf44eed8bdc97dd"), looks := true }, kinds := [], alts := [], laidByText := true, laidKinds := [.data, .data, .handle, .data, .sentinel], laidTests := true, laidLooks := .later }
def FnAugAddUptoCardSaid : Prop := Claim7.holds Tryz.pinned (.plain (OpenSpec.upto fnAugAddSpec)) fnAugAddUptoCard

/-- THE SECOND FORM's CARD OF 'laws.FnAugMul'. -/
def fnAugMulUptoCard : Claim7 := { stood := { row := fnAugMulUptoRow, standIns := [], harness := (true, "c877998360f3072ca926d8950793fc6fb2bf14edd7fc4ffdadf44eed8bdc97dd"), looks := true }, kinds := [], alts := [], laidByText := true, laidKinds := [.data, .data, .handle, .data, .sentinel], laidTests := true, laidLooks := .later }
def FnAugMulUptoCardSaid : Prop := Claim7.holds Tryz.pinned (.plain (OpenSpec.upto fnAugMulSpec)) fnAugMulUptoCard

/-- THE SECOND FORM's CARD OF 'laws.FnAugHead'. -/
def fnAugHeadUptoCard : Claim7 := { stood := { row := fnAugHeadUptoRow, standIns := [], harness := (true, "c877998360f3072ca926d8950793fc6fb2bf14edd7fc4ffdadf44eed8bdc97dd"), looks := true }, kinds := [], alts := [], laidByText := true, laidKinds := [.data, .data, .handle, .data, .sentinel], laidTests := true, laidLooks := .later }
def FnAugHeadUptoCardSaid : Prop := Claim7.holds Tryz.pinned (.plain (OpenSpec.upto fnAugHeadSpec)) fnAugHeadUptoCard

/-- THE SECOND FORM's CARD OF 'laws.FnExactDot'. -/
def fnExactDotUptoCard : Claim7 := { stood := { row := fnExactDotUptoRow, standIns := [], harness := (true, "c877998360f3072ca926d8950793fc6fb2bf14edd7fc4ffdadf44eed8bdc97dd"), looks := true }, kinds := [], alts := [], laidByText := true, laidKinds := [.data, .data, .handle, .data, .sentinel], laidTests := true, laidLooks := .later }
def FnExactDotUptoCardSaid : Prop := Claim7.holds Tryz.pinned (.plain (OpenSpec.upto fnExactDotSpec)) fnExactDotUptoCard
end Rows
end Go.Proofs.YtmcflggionkhlaaGreatDoor
