/-
  DERIVED. GIVEN WITH THE SEED: THE CARDS: each row of YtojcaoccjapdoaaDoorRows.lean that lists a variable, with what it lists TIED to the program's text (the seventh form; the later family's looks); each row that meets fmt, with fmt's text TOLD by the authors' own Lean function (tested against real Go, not proved from fmt's source: count such statements apart). THE CARD IS WHAT COUNTS. Prove the row's statement (the work); the ties are given (YtojcaoccjapdoaaDoorTie.lean); close each card by the builder's one call (the guide's Derived/Test/ToyasCard.lean, 'card_holds'). Laid BY PROGRAM, IN A SANDBOX (cutbox-door.mjs). By AI agents, Wed Nov 11 2026. No macro, syntax, notation, axiom, sorry.
-/
import Derived.Test.YtojcaoccjapdoaaDoorRows
import GoSem.ClaimSeven
namespace Go.Proofs.YtojcaoccjapdoaaDoor
namespace Rows

/-- THE TIED CARD OF 'laws.FnSpecials'. -/
def fnSpecialsCard : Claim7 := { stood := { row := fnSpecialsRow, standIns := [], harness := (true, "458d3d370aa829f533d5265e21030befdc678cfea32e7164192490534acc7741"), looks := false }, kinds := [], alts := [], laidByText := true, laidKinds := [.data], laidTests := true, laidLooks := .later }
def FnSpecialsCardSaid : Prop := Claim7.holds Tryd.pinned (.plain (OpenSpec.ofChange fnSpecialsSpec)) fnSpecialsCard

/-- THE TIED CARD OF 'laws.FnSigns'. -/
def fnSignsCard : Claim7 := { stood := { row := fnSignsRow, standIns := [], harness := (true, "458d3d370aa829f533d5265e21030befdc678cfea32e7164192490534acc7741"), looks := false }, kinds := [], alts := [], laidByText := true, laidKinds := [.data], laidTests := true, laidLooks := .later }
def FnSignsCardSaid : Prop := Claim7.holds Tryd.pinned (.plain (OpenSpec.ofChange fnSignsSpec)) fnSignsCard

/-- THE TIED CARD OF 'laws.FnNext'. -/
def fnNextCard : Claim7 := { stood := { row := fnNextRow, standIns := [], harness := (true, "458d3d370aa829f533d5265e21030befdc678cfea32e7164192490534acc7741"), looks := false }, kinds := [], alts := [], laidByText := true, laidKinds := [.data], laidTests := true, laidLooks := .later }
def FnNextCardSaid : Prop := Claim7.holds Tryd.pinned (.plain (OpenSpec.ofChange fnNextSpec)) fnNextCard

/-- THE TIED CARD OF 'laws.FnCompared'. -/
def fnComparedCard : Claim7 := { stood := { row := fnComparedRow, standIns := [], harness := (true, "458d3d370aa829f533d5265e21030befdc678cfea32e7164192490534acc7741"), looks := false }, kinds := [], alts := [], laidByText := true, laidKinds := [.data], laidTests := true, laidLooks := .later }
def FnComparedCardSaid : Prop := Claim7.holds Tryd.pinned (.plain (OpenSpec.ofChange fnComparedSpec)) fnComparedCard

/-- THE TIED CARD OF 'laws.FnParts'. -/
def fnPartsCard : Claim7 := { stood := { row := fnPartsRow, standIns := [], harness := (true, "458d3d370aa829f533d5265e21030befdc678cfea32e7164192490534acc7741"), looks := false }, kinds := [], alts := [], laidByText := true, laidKinds := [.data, .data], laidTests := true, laidLooks := .later }
def FnPartsCardSaid : Prop := Claim7.holds Tryd.pinned (.plain (OpenSpec.ofChange fnPartsSpec)) fnPartsCard

/-- THE TIED CARD OF 'laws.FnFromParts'. -/
def fnFromPartsCard : Claim7 := { stood := { row := fnFromPartsRow, standIns := [], harness := (true, "458d3d370aa829f533d5265e21030befdc678cfea32e7164192490534acc7741"), looks := false }, kinds := [], alts := [], laidByText := true, laidKinds := [.data, .data], laidTests := true, laidLooks := .later }
def FnFromPartsCardSaid : Prop := Claim7.holds Tryd.pinned (.plain (OpenSpec.ofChange fnFromPartsSpec)) fnFromPartsCard

/-- THE TIED CARD OF 'laws.FnExactBinRound'. -/
def fnExactBinRoundCard : Claim7 := { stood := { row := fnExactBinRoundRow, standIns := [], harness := (true, "458d3d370aa829f533d5265e21030befdc678cfea32e7164192490534acc7741"), looks := false }, kinds := [], alts := [], laidByText := true, laidKinds := [.data, .data, .data], laidTests := true, laidLooks := .later }
def FnExactBinRoundCardSaid : Prop := Claim7.holds Tryd.pinned (.plain (OpenSpec.ofChange fnExactBinRoundSpec)) fnExactBinRoundCard

/-- THE SECOND FORM's CARD OF 'laws.FnSpecials'. -/
def fnSpecialsUptoCard : Claim7 := { stood := { row := fnSpecialsUptoRow, standIns := [], harness := (true, "458d3d370aa829f533d5265e21030befdc678cfea32e7164192490534acc7741"), looks := false }, kinds := [], alts := [], laidByText := true, laidKinds := [.data], laidTests := true, laidLooks := .later }
def FnSpecialsUptoCardSaid : Prop := Claim7.holds Tryd.pinned (.plain (OpenSpec.upto fnSpecialsSpec)) fnSpecialsUptoCard

/-- THE SECOND FORM's CARD OF 'laws.FnSigns'. -/
def fnSignsUptoCard : Claim7 := { stood := { row := fnSignsUptoRow, standIns := [], harness := (true, "458d3d370aa829f533d5265e21030befdc678cfea32e7164192490534acc7741"), looks := false }, kinds := [], alts := [], laidByText := true, laidKinds := [.data], laidTests := true, laidLooks := .later }
def FnSignsUptoCardSaid : Prop := Claim7.holds Tryd.pinned (.plain (OpenSpec.upto fnSignsSpec)) fnSignsUptoCard

/-- THE SECOND FORM's CARD OF 'laws.FnNext'. -/
def fnNextUptoCard : Claim7 := { stood := { row := fnNextUptoRow, standIns := [], harness := (true, "458d3d370aa829f533d5265e21030befdc678cfea32e7164192490534acc7741"), looks := false }, kinds := [], alts := [], laidByText := true, laidKinds := [.data], laidTests := true, laidLooks := .later }
def FnNextUptoCardSaid : Prop := Claim7.holds Tryd.pinned (.plain (OpenSpec.upto fnNextSpec)) fnNextUptoCard

/-- THE SECOND FORM's CARD OF 'laws.FnCompared'. -/
def fnComparedUptoCard : Claim7 := { stood := { row := fnComparedUptoRow, standIns := [], harness := (true, "458d3d370aa829f533d5265e21030befdc678cfea32e7164192490534acc7741"), looks := false }, kinds := [], alts := [], laidByText := true, laidKinds := [.data], laidTests := true, laidLooks := .later }
def FnComparedUptoCardSaid : Prop := Claim7.holds Tryd.pinned (.plain (OpenSpec.upto fnComparedSpec)) fnComparedUptoCard

/-- THE SECOND FORM's CARD OF 'laws.FnParts'. -/
def fnPartsUptoCard : Claim7 := { stood := { row := fnPartsUptoRow, standIns := [], harness := (true, "458d3d370aa829f533d5265e21030befdc678cfea32e7164192490534acc7741"), looks := false }, kinds := [], alts := [], laidByText := true, laidKinds := [.data, .data], laidTests := true, laidLooks := .later }
def FnPartsUptoCardSaid : Prop := Claim7.holds Tryd.pinned (.plain (OpenSpec.upto fnPartsSpec)) fnPartsUptoCard

/-- THE SECOND FORM's CARD OF 'laws.FnFromParts'. -/
def fnFromPartsUptoCard : Claim7 := { stood := { row := fnFromPartsUptoRow, standIns := [], harness := (true, "458d3d370aa829f533d5265e21030befdc678cfea32e7164192490534acc7741"), looks := false }, kinds := [], alts := [], laidByText := true, laidKinds := [.data, .data], laidTests := true, laidLooks := .later }
def FnFromPartsUptoCardSaid : Prop := Claim7.holds Tryd.pinned (.plain (OpenSpec.upto fnFromPartsSpec)) fnFromPartsUptoCard

/-- THE SECOND FORM's CARD OF 'laws.FnExactBinRound'. -/
def fnExactBinRoundUptoCard : Claim7 := { stood := { row := fnExactBinRoundUptoRow, standIns := [], harness := (true, "458d3d370aa829f533d5265e21030befdc678cfea32e7164192490534acc7741"), looks := false }, kinds := [], alts := [], laidByText := true, laidKinds := [.data, .data, .data], laidTests := true, laidLooks := .later }
def FnExactBinRoundUptoCardSaid : Prop := Claim7.holds Tryd.pinned (.plain (OpenSpec.upto fnExactBinRoundSpec)) fnExactBinRoundUptoCard
end Rows
end Go.Proofs.YtojcaoccjapdoaaDoor
