/-
  DERIVED. GIVEN WITH THE SEED: THE CARDS: each row of YtkfjmcdniohljaaGreatDoorRows.lean that lists a variable, with what it lists TIED to the program's text (the seventh form; the later family's looks); each row that meets fmt, with fmt's text TOLD by the authors' own Lean function (tested against real Go, not proved from fmt's source: count such statements apart). THE CARD IS WHAT COUNTS. Prove the row's statement (the work); the ties are given (YtkfjmcdniohljaaGreatDoorTie.lean); close each card by the builder's one call (the guide's Derived/Test/ToyasCard.lean, 'card_holds'). Laid BY PROGRAM, IN A SANDBOX (cutbox-door.mjs). By AI agents, Wed Nov 11 2026. No macro, syntax, notation, axiom, sorry.
-/
import Derived.Test.YtkfjmcdniohljaaGreatDoorRows
import GoSem.ClaimSeven
namespace Go.Proofs.YtkfjmcdniohljaaGreatDoor
namespace Rows

/-- THE TIED CARD OF 'laws.FnExactFloatInt'. -/
def fnExactFloatIntCard : Claim7 := { stood := { row := fnExactFloatIntRow, standIns := [], harness := (true, "e64121fc51a3bc77321790938027359aabf6c2dfa3eb77e74cbae33d222c155f"), looks := true }, kinds := [], alts := [], laidByText := true, laidKinds := [.data, .data, .handle, .data, .sentinel], laidTests := true, laidLooks := .later }
def FnExactFloatIntCardSaid : Prop := Claim7.holds Tryz.pinned (.plain (OpenSpec.ofChange fnExactFloatIntSpec)) fnExactFloatIntCard

/-- THE TIED CARD OF 'laws.FnInts'. -/
def fnIntsCard : Claim7 := { stood := { row := fnIntsRow, standIns := [], harness := (true, "e64121fc51a3bc77321790938027359aabf6c2dfa3eb77e74cbae33d222c155f"), looks := true }, kinds := [], alts := [], laidByText := true, laidKinds := [.data, .data, .handle, .data, .sentinel], laidTests := true, laidLooks := .later }
def FnIntsCardSaid : Prop := Claim7.holds Tryz.pinned (.plain (OpenSpec.ofChange fnIntsSpec)) fnIntsCard

/-- THE TIED CARD OF 'laws.FnExactDot'. -/
def fnExactDotCard : Claim7 := { stood := { row := fnExactDotRow, standIns := [], harness := (true, "e64121fc51a3bc77321790938027359aabf6c2dfa3eb77e74cbae33d222c155f"), looks := true }, kinds := [], alts := [], laidByText := true, laidKinds := [.data, .data, .handle, .data, .sentinel], laidTests := true, laidLooks := .later }
def FnExactDotCardSaid : Prop := Claim7.holds Tryz.pinned (.plain (OpenSpec.ofChange fnExactDotSpec)) fnExactDotCard

/-- THE TIED CARD OF 'laws.FnAccTurned'. -/
def fnAccTurnedCard : Claim7 := { stood := { row := fnAccTurnedRow, standIns := [], harness := (true, "e64121fc51a3bc77321790938027359aabf6c2dfa3eb77e74cbae33d222c155f"), looks := true }, kinds := [], alts := [], laidByText := true, laidKinds := [.handle, .data, .sentinel], laidTests := true, laidLooks := .later }
def FnAccTurnedCardSaid : Prop := Claim7.holds Tryz.pinned (.plain (OpenSpec.ofChange fnAccTurnedSpec)) fnAccTurnedCard

/-- THE TIED CARD OF 'laws.FnAccMerged'. -/
def fnAccMergedCard : Claim7 := { stood := { row := fnAccMergedRow, standIns := [], harness := (true, "e64121fc51a3bc77321790938027359aabf6c2dfa3eb77e74cbae33d222c155f"), looks := true }, kinds := [], alts := [], laidByText := true, laidKinds := [.handle, .data, .sentinel], laidTests := true, laidLooks := .later }
def FnAccMergedCardSaid : Prop := Claim7.holds Tryz.pinned (.plain (OpenSpec.ofChange fnAccMergedSpec)) fnAccMergedCard

/-- THE TIED CARD OF 'laws.FnAccMerges'. -/
def fnAccMergesCard : Claim7 := { stood := { row := fnAccMergesRow, standIns := [], harness := (true, "e64121fc51a3bc77321790938027359aabf6c2dfa3eb77e74cbae33d222c155f"), looks := true }, kinds := [], alts := [], laidByText := true, laidKinds := [.data], laidTests := true, laidLooks := .later }
def FnAccMergesCardSaid : Prop := Claim7.holds Tryz.pinned (.plain (OpenSpec.ofChange fnAccMergesSpec)) fnAccMergesCard

/-- THE TIED CARD OF 'laws.FnAccNegated'. -/
def fnAccNegatedCard : Claim7 := { stood := { row := fnAccNegatedRow, standIns := [], harness := (true, "e64121fc51a3bc77321790938027359aabf6c2dfa3eb77e74cbae33d222c155f"), looks := true }, kinds := [], alts := [], laidByText := true, laidKinds := [.data, .data, .data], laidTests := true, laidLooks := .later }
def FnAccNegatedCardSaid : Prop := Claim7.holds Tryz.pinned (.plain (OpenSpec.ofChange fnAccNegatedSpec)) fnAccNegatedCard

/-- THE TIED CARD OF 'laws.FnAccOnce'. -/
def fnAccOnceCard : Claim7 := { stood := { row := fnAccOnceRow, standIns := [], harness := (true, "e64121fc51a3bc77321790938027359aabf6c2dfa3eb77e74cbae33d222c155f"), looks := true }, kinds := [], alts := [], laidByText := true, laidKinds := [.data, .data, .handle, .data, .sentinel], laidTests := true, laidLooks := .later }
def FnAccOnceCardSaid : Prop := Claim7.holds Tryz.pinned (.plain (OpenSpec.ofChange fnAccOnceSpec)) fnAccOnceCard

/-- THE TIED CARD OF 'laws.FnAccRound'. -/
def fnAccRoundCard : Claim7 := { stood := { row := fnAccRoundRow, standIns := [], harness := (true, "e64121fc51a3bc77321790938027359aabf6c2dfa3eb77e74cbae33d222c155f"), looks := true }, kinds := [], alts := [], laidByText := true, laidKinds := [.data, .data, .data], laidTests := true, laidLooks := .later }
def FnAccRoundCardSaid : Prop := Claim7.holds Tryz.pinned (.plain (OpenSpec.ofChange fnAccRoundSpec)) fnAccRoundCard

/-- THE TIED CARD OF 'laws.FnSumRounded'. -/
def fnSumRoundedCard : Claim7 := { stood := { row := fnSumRoundedRow, standIns := [], harness := (true, "e64121fc51a3bc77321790938027359aabf6c2dfa3eb77e74cbae33d222c155f"), looks := true }, kinds := [], alts := [], laidByText := true, laidKinds := [.data, .data, .handle, .data, .sentinel], laidTests := true, laidLooks := .later }
def FnSumRoundedCardSaid : Prop := Claim7.holds Tryz.pinned (.plain (OpenSpec.ofChange fnSumRoundedSpec)) fnSumRoundedCard

/-- THE TIED CARD OF 'laws.FnSumOdd'. -/
def fnSumOddCard : Claim7 := { stood := { row := fnSumOddRow, standIns := [], harness := (true, "e64121fc51a3bc77321790938027359aabf6c2dfa3eb77e74cbae33d222c155f"), looks := true }, kinds := [], alts := [], laidByText := true, laidKinds := [.data, .data, .handle, .data, .sentinel], laidTests := true, laidLooks := .later }
def FnSumOddCardSaid : Prop := Claim7.holds Tryz.pinned (.plain (OpenSpec.ofChange fnSumOddSpec)) fnSumOddCard

/-- THE TIED CARD OF 'laws.FnDotOnes'. -/
def fnDotOnesCard : Claim7 := { stood := { row := fnDotOnesRow, standIns := [], harness := (true, "e64121fc51a3bc77321790938027359aabf6c2dfa3eb77e74cbae33d222c155f"), looks := true }, kinds := [], alts := [], laidByText := true, laidKinds := [.data, .data, .handle, .data, .sentinel], laidTests := true, laidLooks := .later }
def FnDotOnesCardSaid : Prop := Claim7.holds Tryz.pinned (.plain (OpenSpec.ofChange fnDotOnesSpec)) fnDotOnesCard

/-- THE TIED CARD OF 'laws.FnAbs'. -/
def fnAbsCard : Claim7 := { stood := { row := fnAbsRow, standIns := [], harness := (true, "e64121fc51a3bc77321790938027359aabf6c2dfa3eb77e74cbae33d222c155f"), looks := true }, kinds := [], alts := [], laidByText := true, laidKinds := [.data, .data, .handle, .data, .sentinel], laidTests := true, laidLooks := .later }
def FnAbsCardSaid : Prop := Claim7.holds Tryz.pinned (.plain (OpenSpec.ofChange fnAbsSpec)) fnAbsCard

/-- THE SECOND FORM's CARD OF 'laws.FnExactFloatInt'. -/
def fnExactFloatIntUptoCard : Claim7 := { stood := { row := fnExactFloatIntUptoRow, standIns := [], harness := (true, "e64121fc51a3bc77321790938027359aabf6c2dfa3eb77e74cbae33d222c155f"), looks := true }, kinds := [], alts := [], laidByText := true, laidKinds := [.data, .data, .handle, .data, .sentinel], laidTests := true, laidLooks := .later }
def FnExactFloatIntUptoCardSaid : Prop := Claim7.holds Tryz.pinned (.plain (OpenSpec.upto fnExactFloatIntSpec)) fnExactFloatIntUptoCard

/-- THE SECOND FORM's CARD OF 'laws.FnInts'. -/
def fnIntsUptoCard : Claim7 := { stood := { row := fnIntsUptoRow, standIns := [], harness := (true, "e64121fc51a3bc77321790938027359aabf6c2dfa3eb77e74cbae33d222c155f"), looks := true }, kinds := [], alts := [], laidByText := true, laidKinds := [.data, .data, .handle, .data, .sentinel], laidTests := true, laidLooks := .later }
def FnIntsUptoCardSaid : Prop := Claim7.holds Tryz.pinned (.plain (OpenSpec.upto fnIntsSpec)) fnIntsUptoCard

/-- THE SECOND FORM's CARD OF 'laws.FnExactDot'. -/
def fnExactDotUptoCard : Claim7 := { stood := { row := fnExactDotUptoRow, standIns := [], harness := (true, "e64121fc51a3bc77321790938027359aabf6c2dfa3eb77e74cbae33d222c155f"), looks := true }, kinds := [], alts := [], laidByText := true, laidKinds := [.data, .data, .handle, .data, .sentinel], laidTests := true, laidLooks := .later }
def FnExactDotUptoCardSaid : Prop := Claim7.holds Tryz.pinned (.plain (OpenSpec.upto fnExactDotSpec)) fnExactDotUptoCard

/-- THE SECOND FORM's CARD OF 'laws.FnAccTurned'. -/
def fnAccTurnedUptoCard : Claim7 := { stood := { row := fnAccTurnedUptoRow, standIns := [], harness := (true, "e64121fc51a3bc77321790938027359aabf6c2dfa3eb77e74cbae33d222c155f"), looks := true }, kinds := [], alts := [], laidByText := true, laidKinds := [.handle, .data, .sentinel], laidTests := true, laidLooks := .later }
def FnAccTurnedUptoCardSaid : Prop := Claim7.holds Tryz.pinned (.plain (OpenSpec.upto fnAccTurnedSpec)) fnAccTurnedUptoCard

/-- THE SECOND FORM's CARD OF 'laws.FnAccMerged'. -/
def fnAccMergedUptoCard : Claim7 := { stood := { row := fnAccMergedUptoRow, standIns := [], harness := (true, "e64121fc51a3bc77321790938027359aabf6c2dfa3eb77e74cbae33d222c155f"), looks := true }, kinds := [], alts := [], laidByText := true, laidKinds := [.handle, .data, .sentinel], laidTests := true, laidLooks := .later }
def FnAccMergedUptoCardSaid : Prop := Claim7.holds Tryz.pinned (.plain (OpenSpec.upto fnAccMergedSpec)) fnAccMergedUptoCard

/-- THE SECOND FORM's CARD OF 'laws.FnAccMerges'. -/
def fnAccMergesUptoCard : Claim7 := { stood := { row := fnAccMergesUptoRow, standIns := [], harness := (true, "e64121fc51a3bc77321790938027359aabf6c2dfa3eb77e74cbae33d222c155f"), looks := true }, kinds := [], alts := [], laidByText := true, laidKinds := [.data], laidTests := true, laidLooks := .later }
def FnAccMergesUptoCardSaid : Prop := Claim7.holds Tryz.pinned (.plain (OpenSpec.upto fnAccMergesSpec)) fnAccMergesUptoCard

/-- THE SECOND FORM's CARD OF 'laws.FnAccNegated'. -/
def fnAccNegatedUptoCard : Claim7 := { stood := { row := fnAccNegatedUptoRow, standIns := [], harness := (true, "e64121fc51a3bc77321790938027359aabf6c2dfa3eb77e74cbae33d222c155f"), looks := true }, kinds := [], alts := [], laidByText := true, laidKinds := [.data, .data, .data], laidTests := true, laidLooks := .later }
def FnAccNegatedUptoCardSaid : Prop := Claim7.holds Tryz.pinned (.plain (OpenSpec.upto fnAccNegatedSpec)) fnAccNegatedUptoCard

/-- THE SECOND FORM's CARD OF 'laws.FnAccOnce'. -/
def fnAccOnceUptoCard : Claim7 := { stood := { row := fnAccOnceUptoRow, standIns := [], harness := (true, "e64121fc51a3bc77321790938027359aabf6c2dfa3eb77e74cbae33d222c155f"), looks := true }, kinds := [], alts := [], laidByText := true, laidKinds := [.data, .data, .handle, .data, .sentinel], laidTests := true, laidLooks := .later }
def FnAccOnceUptoCardSaid : Prop := Claim7.holds Tryz.pinned (.plain (OpenSpec.upto fnAccOnceSpec)) fnAccOnceUptoCard

/-- THE SECOND FORM's CARD OF 'laws.FnAccRound'. -/
def fnAccRoundUptoCard : Claim7 := { stood := { row := fnAccRoundUptoRow, standIns := [], harness := (true, "e64121fc51a3bc77321790938027359aabf6c2dfa3eb77e74cbae33d222c155f"), looks := true }, kinds := [], alts := [], laidByText := true, laidKinds := [.data, .data, .data], laidTests := true, laidLooks := .later }
def FnAccRoundUptoCardSaid : Prop := Claim7.holds Tryz.pinned (.plain (OpenSpec.upto fnAccRoundSpec)) fnAccRoundUptoCard

/-- THE SECOND FORM's CARD OF 'laws.FnSumRounded'. -/
def fnSumRoundedUptoCard : Claim7 := { stood := { row := fnSumRoundedUptoRow, standIns := [], harness := (true, "e64121fc51a3bc77321790938027359aabf6c2dfa3eb77e74cbae33d222c155f"), looks := true }, kinds := [], alts := [], laidByText := true, laidKinds := [.data, .data, .handle, .data, .sentinel], laidTests := true, laidLooks := .later }
def FnSumRoundedUptoCardSaid : Prop := Claim7.holds Tryz.pinned (.plain (OpenSpec.upto fnSumRoundedSpec)) fnSumRoundedUptoCard

/-- THE SECOND FORM's CARD OF 'laws.FnSumOdd'. -/
def fnSumOddUptoCard : Claim7 := { stood := { row := fnSumOddUptoRow, standIns := [], harness := (true, "e64121fc51a3bc77321790938027359aabf6c2dfa3eb77e74cbae33d222c155f"), looks := true }, kinds := [], alts := [], laidByText := true, laidKinds := [.data, .data, .handle, .data, .sentinel], laidTests := true, laidLooks := .later }
def FnSumOddUptoCardSaid : Prop := Claim7.holds Tryz.pinned (.plain (OpenSpec.upto fnSumOddSpec)) fnSumOddUptoCard

/-- THE SECOND FORM's CARD OF 'laws.FnDotOnes'. -/
def fnDotOnesUptoCard : Claim7 := { stood := { row := fnDotOnesUptoRow, standIns := [], harness := (true, "e64121fc51a3bc77321790938027359aabf6c2dfa3eb77e74cbae33d222c155f"), looks := true }, kinds := [], alts := [], laidByText := true, laidKinds := [.data, .data, .handle, .data, .sentinel], laidTests := true, laidLooks := .later }
def FnDotOnesUptoCardSaid : Prop := Claim7.holds Tryz.pinned (.plain (OpenSpec.upto fnDotOnesSpec)) fnDotOnesUptoCard

/-- THE SECOND FORM's CARD OF 'laws.FnAbs'. -/
def fnAbsUptoCard : Claim7 := { stood := { row := fnAbsUptoRow, standIns := [], harness := (true, "e64121fc51a3bc77321790938027359aabf6c2dfa3eb77e74cbae33d222c155f"), looks := true }, kinds := [], alts := [], laidByText := true, laidKinds := [.data, .data, .handle, .data, .sentinel], laidTests := true, laidLooks := .later }
def FnAbsUptoCardSaid : Prop := Claim7.holds Tryz.pinned (.plain (OpenSpec.upto fnAbsSpec)) fnAbsUptoCard
end Rows
end Go.Proofs.YtkfjmcdniohljaaGreatDoor
