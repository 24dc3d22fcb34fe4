/-
  DERIVED. GIVEN WITH THE SEED: THE CARDS: each row of YtpoojmheegncfaaGreatDoorRows.lean that lists a variable, with what it lists TIED to the program's text (the seventh form; the later family's looks); each row that meets fmt, with fmt's text TOLD by the authors' own Lean function (tested against real Go, not proved from fmt's source: count such statements apart). THE CARD IS WHAT COUNTS. Prove the row's statement (the work); the ties are given (YtpoojmheegncfaaGreatDoorTie.lean); close each card by the builder's one call (the guide's Derived/Test/ToyasCard.lean, 'card_holds'). Laid BY PROGRAM, IN A SANDBOX (cutbox-door.mjs). By AI agents, Wed Nov 11 2026. No macro, syntax, notation, axiom, sorry.
-/
import Derived.Test.YtpoojmheegncfaaGreatDoorRows
import GoSem.ClaimSeven
namespace Go.Proofs.YtpoojmheegncfaaGreatDoor
namespace Rows

/-- THE TIED CARD OF 'laws.FnExactAugAdd'. -/
def fnExactAugAddCard : Claim7 := { stood := { row := fnExactAugAddRow, standIns := [], harness := (true, "b6a193196c25ab05a879b6a9effcfa5dc4589803fa079c398d6d81352242e247"), looks := true }, kinds := [], alts := [], laidByText := true, laidKinds := [.data, .data, .handle, .data, .sentinel], laidTests := true, laidLooks := .later }
def FnExactAugAddCardSaid : Prop := Claim7.holds Tryz.pinned (.plain (OpenSpec.ofChange fnExactAugAddSpec)) fnExactAugAddCard

/-- THE TIED CARD OF 'laws.FnExactAugSub'. -/
def fnExactAugSubCard : Claim7 := { stood := { row := fnExactAugSubRow, standIns := [], harness := (true, "b6a193196c25ab05a879b6a9effcfa5dc4589803fa079c398d6d81352242e247"), looks := true }, kinds := [], alts := [], laidByText := true, laidKinds := [.data, .data, .handle, .data, .sentinel], laidTests := true, laidLooks := .later }
def FnExactAugSubCardSaid : Prop := Claim7.holds Tryz.pinned (.plain (OpenSpec.ofChange fnExactAugSubSpec)) fnExactAugSubCard

/-- THE TIED CARD OF 'laws.FnExactAugMul'. -/
def fnExactAugMulCard : Claim7 := { stood := { row := fnExactAugMulRow, standIns := [], harness := (true, "b6a193196c25ab05a879b6a9effcfa5dc4589803fa079c398d6d81352242e247"), looks := true }, kinds := [], alts := [], laidByText := true, laidKinds := [.data, .data, .handle, .data, .sentinel], laidTests := true, laidLooks := .later }
def FnExactAugMulCardSaid : Prop := Claim7.holds Tryz.pinned (.plain (OpenSpec.ofChange fnExactAugMulSpec)) fnExactAugMulCard

/-- THE TIED CARD OF 'laws.FnExactAccAdd'. -/
def fnExactAccAddCard : Claim7 := { stood := { row := fnExactAccAddRow, standIns := [], harness := (true, "b6a193196c25ab05a879b6a9effcfa5dc4589803fa079c398d6d81352242e247"), looks := true }, kinds := [], alts := [], laidByText := true, laidKinds := [.handle, .data, .sentinel], laidTests := true, laidLooks := .later }
def FnExactAccAddCardSaid : Prop := Claim7.holds Tryz.pinned (.plain (OpenSpec.ofChange fnExactAccAddSpec)) fnExactAccAddCard

/-- THE TIED CARD OF 'laws.FnExactAccMul'. -/
def fnExactAccMulCard : Claim7 := { stood := { row := fnExactAccMulRow, standIns := [], harness := (true, "b6a193196c25ab05a879b6a9effcfa5dc4589803fa079c398d6d81352242e247"), looks := true }, kinds := [], alts := [], laidByText := true, laidKinds := [.handle, .data, .sentinel], laidTests := true, laidLooks := .later }
def FnExactAccMulCardSaid : Prop := Claim7.holds Tryz.pinned (.plain (OpenSpec.ofChange fnExactAccMulSpec)) fnExactAccMulCard

/-- THE TIED CARD OF 'laws.FnExactSumOf'. -/
def fnExactSumOfCard : Claim7 := { stood := { row := fnExactSumOfRow, standIns := [], harness := (true, "b6a193196c25ab05a879b6a9effcfa5dc4589803fa079c398d6d81352242e247"), looks := true }, kinds := [], alts := [], laidByText := true, laidKinds := [.data, .data, .handle, .data, .sentinel], laidTests := true, laidLooks := .later }
def FnExactSumOfCardSaid : Prop := Claim7.holds Tryz.pinned (.plain (OpenSpec.ofChange fnExactSumOfSpec)) fnExactSumOfCard

/-- THE SECOND FORM's CARD OF 'laws.FnExactAugAdd'. -/
def fnExactAugAddUptoCard : Claim7 := { stood := { row := fnExactAugAddUptoRow, standIns := [], harness := (true, "b6a193196c25ab05a879b6a9effcfa5dc4589803fa079c398d6d81352242e247"), looks := true }, kinds := [], alts := [], laidByText := true, laidKinds := [.data, .data, .handle, .data, .sentinel], laidTests := true, laidLooks := .later }
def FnExactAugAddUptoCardSaid : Prop := Claim7.holds Tryz.pinned (.plain (OpenSpec.upto fnExactAugAddSpec)) fnExactAugAddUptoCard

/-- THE SECOND FORM's CARD OF 'laws.FnExactAugSub'. -/
def fnExactAugSubUptoCard : Claim7 := { stood := { row := fnExactAugSubUptoRow, standIns := [], harness := (true, "b6a193196c25ab05a879b6a9effcfa5dc4589803fa079c398d6d81352242e247"), looks := true }, kinds := [], alts := [], laidByText := true, laidKinds := [.data, .data, .handle, .data, .sentinel], laidTests := true, laidLooks := .later }
def FnExactAugSubUptoCardSaid : Prop := Claim7.holds Tryz.pinned (.plain (OpenSpec.upto fnExactAugSubSpec)) fnExactAugSubUptoCard

/-- THE SECOND FORM's CARD OF 'laws.FnExactAugMul'. -/
def fnExactAugMulUptoCard : Claim7 := { stood := { row := fnExactAugMulUptoRow, standIns := [], harness := (true, "b6a193196c25ab05a879b6a9effcfa5dc4589803fa079c398d6d81352242e247"), looks := true }, kinds := [], alts := [], laidByText := true, laidKinds := [.data, .data, .handle, .data, .sentinel], laidTests := true, laidLooks := .later }
def FnExactAugMulUptoCardSaid : Prop := Claim7.holds Tryz.pinned (.plain (OpenSpec.upto fnExactAugMulSpec)) fnExactAugMulUptoCard

/-- THE SECOND FORM's CARD OF 'laws.FnExactAccAdd'. -/
def fnExactAccAddUptoCard : Claim7 := { stood := { row := fnExactAccAddUptoRow, standIns := [], harness := (true, "b6a193196c25ab05a879b6a9effcfa5dc4589803fa079c398d6d81352242e247"), looks := true }, kinds := [], alts := [], laidByText := true, laidKinds := [.handle, .data, .sentinel], laidTests := true, laidLooks := .later }
def FnExactAccAddUptoCardSaid : Prop := Claim7.holds Tryz.pinned (.plain (OpenSpec.upto fnExactAccAddSpec)) fnExactAccAddUptoCard

/-- THE SECOND FORM's CARD OF 'laws.FnExactAccMul'. -/
def fnExactAccMulUptoCard : Claim7 := { stood := { row := fnExactAccMulUptoRow, standIns := [], harness := (true, "b6a193196c25ab05a879b6a9effcfa5dc4589803fa079c398d6d81352242e247"), looks := true }, kinds := [], alts := [], laidByText := true, laidKinds := [.handle, .data, .sentinel], laidTests := true, laidLooks := .later }
def FnExactAccMulUptoCardSaid : Prop := Claim7.holds Tryz.pinned (.plain (OpenSpec.upto fnExactAccMulSpec)) fnExactAccMulUptoCard

/-- THE SECOND FORM's CARD OF 'laws.FnExactSumOf'. -/
def fnExactSumOfUptoCard : Claim7 := { stood := { row := fnExactSumOfUptoRow, standIns := [], harness := (true, "b6a193196c25ab05a879b6a9effcfa5dc4589803fa079c398d6d81352242e247"), looks := true }, kinds := [], alts := [], laidByText := true, laidKinds := [.data, .data, .handle, .data, .sentinel], laidTests := true, laidLooks := .later }
def FnExactSumOfUptoCardSaid : Prop := Claim7.holds Tryz.pinned (.plain (OpenSpec.upto fnExactSumOfSpec)) fnExactSumOfUptoCard
end Rows
end Go.Proofs.YtpoojmheegncfaaGreatDoor
