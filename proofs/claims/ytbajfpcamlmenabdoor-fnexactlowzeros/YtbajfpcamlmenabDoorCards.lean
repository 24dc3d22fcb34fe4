/-
  DERIVED. GIVEN WITH THE SEED: THE CARDS: each row of YtbajfpcamlmenabDoorRows.lean that lists a variable, with what it lists TIED to the program's text (the seventh form; the later family's looks); each row that meets fmt, with fmt's text TOLD by the authors' own Lean function (tested against real Go, not proved from fmt's source: count such statements apart). THE CARD IS WHAT COUNTS. Prove the row's statement (the work); the ties are given (YtbajfpcamlmenabDoorTie.lean); close each card by the builder's one call (the guide's Derived/Test/ToyasCard.lean, 'card_holds'). Laid BY PROGRAM, IN A SANDBOX (cutbox-door.mjs). By AI agents, Wed Nov 11 2026. No macro, syntax, notation, axiom, sorry.
-/
import Derived.Test.YtbajfpcamlmenabDoorRows
import GoSem.ClaimSeven
namespace Go.Proofs.YtbajfpcamlmenabDoor
namespace Rows

/-- THE TIED CARD OF 'laws.FnExactLowZeros'. -/
def fnExactLowZerosCard : Claim7 := { stood := { row := fnExactLowZerosRow, standIns := [], harness := (true, "743e1a6558741e0a1bfd34d5185f686d80981a25e97603fdffdbae0a34304a67"), looks := false }, kinds := [], alts := [], laidByText := true, laidKinds := [.data], laidTests := true, laidLooks := .later }
def FnExactLowZerosCardSaid : Prop := Claim7.holds Tryd.pinned (.plain (OpenSpec.ofChange fnExactLowZerosSpec)) fnExactLowZerosCard

/-- THE SECOND FORM's CARD OF 'laws.FnExactLowZeros'. -/
def fnExactLowZerosUptoCard : Claim7 := { stood := { row := fnExactLowZerosUptoRow, standIns := [], harness := (true, "743e1a6558741e0a1bfd34d5185f686d80981a25e97603fdffdbae0a34304a67"), looks := false }, kinds := [], alts := [], laidByText := true, laidKinds := [.data], laidTests := true, laidLooks := .later }
def FnExactLowZerosUptoCardSaid : Prop := Claim7.holds Tryd.pinned (.plain (OpenSpec.upto fnExactLowZerosSpec)) fnExactLowZerosUptoCard
end Rows
end Go.Proofs.YtbajfpcamlmenabDoor
