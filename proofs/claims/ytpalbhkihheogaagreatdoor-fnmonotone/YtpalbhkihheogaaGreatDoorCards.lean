/-
  DERIVED. GIVEN WITH THE SEED: THE CARDS: each row of YtpalbhkihheogaaGreatDoorRows.lean that lists a variable, with what it lists TIED to the program's text (the seventh form; the later family's looks); each row that meets fmt, with fmt's text TOLD by the authors' own Lean function (tested against real Go, not proved from fmt's source: count such statements apart). THE CARD IS WHAT COUNTS. Prove the row's statement (the work); the ties are given (YtpalbhkihheogaaGreatDoorTie.lean); close each card by the builder's one call (the guide's Derived/Test/ToyasCard.lean, 'card_holds'). Laid BY PROGRAM, IN A SANDBOX (cutbox-door.mjs). By AI agents, Wed Nov 11 2026. No macro, syntax, notation, axiom, sorry.
-/
import Derived.Test.YtpalbhkihheogaaGreatDoorRows
import GoSem.ClaimSeven
namespace Go.Proofs.YtpalbhkihheogaaGreatDoor
namespace Rows

/-- THE TIED CARD OF 'laws.FnExactRound'. -/
def fnExactRoundCard : Claim7 := { stood := { row := fnExactRoundRow, standIns := [], harness := (true, "fe02c5602ea2311407aa62e8a0ed9e2265c3db3e7a5b5706e23d825ff1f1f7a1"), looks := false }, kinds := [], alts := [], laidByText := true, laidKinds := [.data, .data, .data], laidTests := true, laidLooks := .later }
def FnExactRoundCardSaid : Prop := Claim7.holds Tryz.pinned (.plain (OpenSpec.ofChange fnExactRoundSpec)) fnExactRoundCard

/-- THE TIED CARD OF 'laws.FnMonotone'. -/
def fnMonotoneCard : Claim7 := { stood := { row := fnMonotoneRow, standIns := [], harness := (true, "fe02c5602ea2311407aa62e8a0ed9e2265c3db3e7a5b5706e23d825ff1f1f7a1"), looks := false }, kinds := [], alts := [], laidByText := true, laidKinds := [.data, .data, .data], laidTests := true, laidLooks := .later }
def FnMonotoneCardSaid : Prop := Claim7.holds Tryz.pinned (.plain (OpenSpec.ofChange fnMonotoneSpec)) fnMonotoneCard

/-- THE TIED CARD OF 'laws.FnFlags'. -/
def fnFlagsCard : Claim7 := { stood := { row := fnFlagsRow, standIns := [], harness := (true, "fe02c5602ea2311407aa62e8a0ed9e2265c3db3e7a5b5706e23d825ff1f1f7a1"), looks := false }, kinds := [], alts := [], laidByText := true, laidKinds := [.data, .data, .data], laidTests := true, laidLooks := .later }
def FnFlagsCardSaid : Prop := Claim7.holds Tryz.pinned (.plain (OpenSpec.ofChange fnFlagsSpec)) fnFlagsCard

/-- THE TIED CARD OF 'laws.FnModes'. -/
def fnModesCard : Claim7 := { stood := { row := fnModesRow, standIns := [], harness := (true, "fe02c5602ea2311407aa62e8a0ed9e2265c3db3e7a5b5706e23d825ff1f1f7a1"), looks := false }, kinds := [], alts := [], laidByText := true, laidKinds := [.data, .data, .data], laidTests := true, laidLooks := .later }
def FnModesCardSaid : Prop := Claim7.holds Tryz.pinned (.plain (OpenSpec.ofChange fnModesSpec)) fnModesCard

/-- THE SECOND FORM's CARD OF 'laws.FnExactRound'. -/
def fnExactRoundUptoCard : Claim7 := { stood := { row := fnExactRoundUptoRow, standIns := [], harness := (true, "fe02c5602ea2311407aa62e8a0ed9e2265c3db3e7a5b5706e23d825ff1f1f7a1"), looks := false }, kinds := [], alts := [], laidByText := true, laidKinds := [.data, .data, .data], laidTests := true, laidLooks := .later }
def FnExactRoundUptoCardSaid : Prop := Claim7.holds Tryz.pinned (.plain (OpenSpec.upto fnExactRoundSpec)) fnExactRoundUptoCard

/-- THE SECOND FORM's CARD OF 'laws.FnMonotone'. -/
def fnMonotoneUptoCard : Claim7 := { stood := { row := fnMonotoneUptoRow, standIns := [], harness := (true, "fe02c5602ea2311407aa62e8a0ed9e2265c3db3e7a5b5706e23d825ff1f1f7a1"), looks := false }, kinds := [], alts := [], laidByText := true, laidKinds := [.data, .data, .data], laidTests := true, laidLooks := .later }
def FnMonotoneUptoCardSaid : Prop := Claim7.holds Tryz.pinned (.plain (OpenSpec.upto fnMonotoneSpec)) fnMonotoneUptoCard

/-- THE SECOND FORM's CARD OF 'laws.FnFlags'. -/
def fnFlagsUptoCard : Claim7 := { stood := { row := fnFlagsUptoRow, standIns := [], harness := (true, "fe02c5602ea2311407aa62e8a0ed9e2265c3db3e7a5b5706e23d825ff1f1f7a1"), looks := false }, kinds := [], alts := [], laidByText := true, laidKinds := [.data, .data, .data], laidTests := true, laidLooks := .later }
def FnFlagsUptoCardSaid : Prop := Claim7.holds Tryz.pinned (.plain (OpenSpec.upto fnFlagsSpec)) fnFlagsUptoCard

/-- THE SECOND FORM's CARD OF 'laws.FnModes'. -/
def fnModesUptoCard : Claim7 := { stood := { row := fnModesUptoRow, standIns := [], harness := (true, "fe02c5602ea2311407aa62e8a0ed9e2265c3db3e7a5b5706e23d825ff1f1f7a1"), looks := false }, kinds := [], alts := [], laidByText := true, laidKinds := [.data, .data, .data], laidTests := true, laidLooks := .later }
def FnModesUptoCardSaid : Prop := Claim7.holds Tryz.pinned (.plain (OpenSpec.upto fnModesSpec)) fnModesUptoCard
end Rows
end Go.Proofs.YtpalbhkihheogaaGreatDoor
