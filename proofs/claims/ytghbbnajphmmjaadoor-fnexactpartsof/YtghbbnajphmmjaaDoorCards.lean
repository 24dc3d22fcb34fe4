/-
  DERIVED. GIVEN WITH THE SEED: THE CARDS: each row of YtghbbnajphmmjaaDoorRows.lean that lists a variable, with what it lists TIED to the program's text (the seventh form; the later family's looks); each row that meets fmt, with fmt's text TOLD by the authors' own Lean function (tested against real Go, not proved from fmt's source: count such statements apart). THE CARD IS WHAT COUNTS. Prove the row's statement (the work); the ties are given (YtghbbnajphmmjaaDoorTie.lean); close each card by the builder's one call (the guide's Derived/Test/ToyasCard.lean, 'card_holds'). Laid BY PROGRAM, IN A SANDBOX (cutbox-door.mjs). By AI agents, Wed Nov 11 2026. No macro, syntax, notation, axiom, sorry.
-/
import Derived.Test.YtghbbnajphmmjaaDoorRows
import GoSem.ClaimSeven
namespace Go.Proofs.YtghbbnajphmmjaaDoor
namespace Rows

/-- THE TIED CARD OF 'laws.FnExactNextDown'. -/
def fnExactNextDownCard : Claim7 := { stood := { row := fnExactNextDownRow, standIns := [], harness := (true, "ef5ccea980870aa2742989eb08c6e86c01ffd34dfedad9b2a4c2b5d2ec5f7b0b"), looks := false }, kinds := [], alts := [], laidByText := true, laidKinds := [.data], laidTests := true, laidLooks := .later }
def FnExactNextDownCardSaid : Prop := Claim7.holds Tryd.pinned (.plain (OpenSpec.ofChange fnExactNextDownSpec)) fnExactNextDownCard

/-- THE TIED CARD OF 'laws.FnExactPartsOf'. -/
def fnExactPartsOfCard : Claim7 := { stood := { row := fnExactPartsOfRow, standIns := [], harness := (true, "ef5ccea980870aa2742989eb08c6e86c01ffd34dfedad9b2a4c2b5d2ec5f7b0b"), looks := false }, kinds := [], alts := [], laidByText := true, laidKinds := [.data], laidTests := true, laidLooks := .later }
def FnExactPartsOfCardSaid : Prop := Claim7.holds Tryd.pinned (.plain (OpenSpec.ofChange fnExactPartsOfSpec)) fnExactPartsOfCard

/-- THE TIED CARD OF 'laws.FnSpecials'. -/
def fnSpecialsCard : Claim7 := { stood := { row := fnSpecialsRow, standIns := [], harness := (true, "ef5ccea980870aa2742989eb08c6e86c01ffd34dfedad9b2a4c2b5d2ec5f7b0b"), looks := false }, kinds := [], alts := [], laidByText := true, laidKinds := [.data], laidTests := true, laidLooks := .later }
def FnSpecialsCardSaid : Prop := Claim7.holds Tryd.pinned (.plain (OpenSpec.ofChange fnSpecialsSpec)) fnSpecialsCard

/-- THE SECOND FORM's CARD OF 'laws.FnExactNextDown'. -/
def fnExactNextDownUptoCard : Claim7 := { stood := { row := fnExactNextDownUptoRow, standIns := [], harness := (true, "ef5ccea980870aa2742989eb08c6e86c01ffd34dfedad9b2a4c2b5d2ec5f7b0b"), looks := false }, kinds := [], alts := [], laidByText := true, laidKinds := [.data], laidTests := true, laidLooks := .later }
def FnExactNextDownUptoCardSaid : Prop := Claim7.holds Tryd.pinned (.plain (OpenSpec.upto fnExactNextDownSpec)) fnExactNextDownUptoCard

/-- THE SECOND FORM's CARD OF 'laws.FnExactPartsOf'. -/
def fnExactPartsOfUptoCard : Claim7 := { stood := { row := fnExactPartsOfUptoRow, standIns := [], harness := (true, "ef5ccea980870aa2742989eb08c6e86c01ffd34dfedad9b2a4c2b5d2ec5f7b0b"), looks := false }, kinds := [], alts := [], laidByText := true, laidKinds := [.data], laidTests := true, laidLooks := .later }
def FnExactPartsOfUptoCardSaid : Prop := Claim7.holds Tryd.pinned (.plain (OpenSpec.upto fnExactPartsOfSpec)) fnExactPartsOfUptoCard

/-- THE SECOND FORM's CARD OF 'laws.FnSpecials'. -/
def fnSpecialsUptoCard : Claim7 := { stood := { row := fnSpecialsUptoRow, standIns := [], harness := (true, "ef5ccea980870aa2742989eb08c6e86c01ffd34dfedad9b2a4c2b5d2ec5f7b0b"), looks := false }, kinds := [], alts := [], laidByText := true, laidKinds := [.data], laidTests := true, laidLooks := .later }
def FnSpecialsUptoCardSaid : Prop := Claim7.holds Tryd.pinned (.plain (OpenSpec.upto fnSpecialsSpec)) fnSpecialsUptoCard
end Rows
end Go.Proofs.YtghbbnajphmmjaaDoor
