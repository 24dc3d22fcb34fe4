/-
  DERIVED. GIVEN WITH THE SEED: THE CARDS: each row of YtfblidnejdkjhaaDoorRows.lean that lists a variable, with what it lists TIED to the program's text (the seventh form; the later family's looks); each row that meets fmt, with fmt's text TOLD by the authors' own Lean function (tested against real Go, not proved from fmt's source: count such statements apart). THE CARD IS WHAT COUNTS. Prove the row's statement (the work); the ties are given (YtfblidnejdkjhaaDoorTie.lean); close each card by the builder's one call (the guide's Derived/Test/ToyasCard.lean, 'card_holds'). Laid BY PROGRAM, IN A SANDBOX (cutbox-door.mjs). By AI agents, Wed Nov 11 2026. No macro, syntax, notation, axiom, sorry.
-/
import Derived.Test.YtfblidnejdkjhaaDoorRows
import GoSem.ClaimSeven
namespace Go.Proofs.YtfblidnejdkjhaaDoor
namespace Rows

/-- THE TIED CARD OF 'laws.FnExactAccOk'. -/
def fnExactAccOkCard : Claim7 := { stood := { row := fnExactAccOkRow, standIns := [], harness := (true, "e5cc063342cc69ab1706da2e56e633d4552441f4488e55df2d5354b53e1b5b11"), looks := false }, kinds := [], alts := [], laidByText := true, laidKinds := [.data], laidTests := true, laidLooks := .later }
def FnExactAccOkCardSaid : Prop := Claim7.holds Tryd.pinned (.plain (OpenSpec.ofChange fnExactAccOkSpec)) fnExactAccOkCard

/-- THE TIED CARD OF 'laws.FnExactAccMerge'. -/
def fnExactAccMergeCard : Claim7 := { stood := { row := fnExactAccMergeRow, standIns := [], harness := (true, "e5cc063342cc69ab1706da2e56e633d4552441f4488e55df2d5354b53e1b5b11"), looks := false }, kinds := [], alts := [], laidByText := true, laidKinds := [.data], laidTests := true, laidLooks := .later }
def FnExactAccMergeCardSaid : Prop := Claim7.holds Tryd.pinned (.plain (OpenSpec.ofChange fnExactAccMergeSpec)) fnExactAccMergeCard

/-- THE TIED CARD OF 'laws.FnExactAccNegated'. -/
def fnExactAccNegatedCard : Claim7 := { stood := { row := fnExactAccNegatedRow, standIns := [], harness := (true, "e5cc063342cc69ab1706da2e56e633d4552441f4488e55df2d5354b53e1b5b11"), looks := false }, kinds := [], alts := [], laidByText := true, laidKinds := [.data], laidTests := true, laidLooks := .later }
def FnExactAccNegatedCardSaid : Prop := Claim7.holds Tryd.pinned (.plain (OpenSpec.ofChange fnExactAccNegatedSpec)) fnExactAccNegatedCard

/-- THE TIED CARD OF 'laws.FnExactAccRound'. -/
def fnExactAccRoundCard : Claim7 := { stood := { row := fnExactAccRoundRow, standIns := [], harness := (true, "e5cc063342cc69ab1706da2e56e633d4552441f4488e55df2d5354b53e1b5b11"), looks := false }, kinds := [], alts := [], laidByText := true, laidKinds := [.data, .data, .data], laidTests := true, laidLooks := .later }
def FnExactAccRoundCardSaid : Prop := Claim7.holds Tryd.pinned (.plain (OpenSpec.ofChange fnExactAccRoundSpec)) fnExactAccRoundCard

/-- THE TIED CARD OF 'laws.FnExactVectorOk'. -/
def fnExactVectorOkCard : Claim7 := { stood := { row := fnExactVectorOkRow, standIns := [], harness := (true, "e5cc063342cc69ab1706da2e56e633d4552441f4488e55df2d5354b53e1b5b11"), looks := false }, kinds := [], alts := [], laidByText := true, laidKinds := [.data], laidTests := true, laidLooks := .later }
def FnExactVectorOkCardSaid : Prop := Claim7.holds Tryd.pinned (.plain (OpenSpec.ofChange fnExactVectorOkSpec)) fnExactVectorOkCard

/-- THE SECOND FORM's CARD OF 'laws.FnExactAccOk'. -/
def fnExactAccOkUptoCard : Claim7 := { stood := { row := fnExactAccOkUptoRow, standIns := [], harness := (true, "e5cc063342cc69ab1706da2e56e633d4552441f4488e55df2d5354b53e1b5b11"), looks := false }, kinds := [], alts := [], laidByText := true, laidKinds := [.data], laidTests := true, laidLooks := .later }
def FnExactAccOkUptoCardSaid : Prop := Claim7.holds Tryd.pinned (.plain (OpenSpec.upto fnExactAccOkSpec)) fnExactAccOkUptoCard

/-- THE SECOND FORM's CARD OF 'laws.FnExactAccMerge'. -/
def fnExactAccMergeUptoCard : Claim7 := { stood := { row := fnExactAccMergeUptoRow, standIns := [], harness := (true, "e5cc063342cc69ab1706da2e56e633d4552441f4488e55df2d5354b53e1b5b11"), looks := false }, kinds := [], alts := [], laidByText := true, laidKinds := [.data], laidTests := true, laidLooks := .later }
def FnExactAccMergeUptoCardSaid : Prop := Claim7.holds Tryd.pinned (.plain (OpenSpec.upto fnExactAccMergeSpec)) fnExactAccMergeUptoCard

/-- THE SECOND FORM's CARD OF 'laws.FnExactAccNegated'. -/
def fnExactAccNegatedUptoCard : Claim7 := { stood := { row := fnExactAccNegatedUptoRow, standIns := [], harness := (true, "e5cc063342cc69ab1706da2e56e633d4552441f4488e55df2d5354b53e1b5b11"), looks := false }, kinds := [], alts := [], laidByText := true, laidKinds := [.data], laidTests := true, laidLooks := .later }
def FnExactAccNegatedUptoCardSaid : Prop := Claim7.holds Tryd.pinned (.plain (OpenSpec.upto fnExactAccNegatedSpec)) fnExactAccNegatedUptoCard

/-- THE SECOND FORM's CARD OF 'laws.FnExactAccRound'. -/
def fnExactAccRoundUptoCard : Claim7 := { stood := { row := fnExactAccRoundUptoRow, standIns := [], harness := (true, "e5cc063342cc69ab1706da2e56e633d4552441f4488e55df2d5354b53e1b5b11"), looks := false }, kinds := [], alts := [], laidByText := true, laidKinds := [.data, .data, .data], laidTests := true, laidLooks := .later }
def FnExactAccRoundUptoCardSaid : Prop := Claim7.holds Tryd.pinned (.plain (OpenSpec.upto fnExactAccRoundSpec)) fnExactAccRoundUptoCard

/-- THE SECOND FORM's CARD OF 'laws.FnExactVectorOk'. -/
def fnExactVectorOkUptoCard : Claim7 := { stood := { row := fnExactVectorOkUptoRow, standIns := [], harness := (true, "e5cc063342cc69ab1706da2e56e633d4552441f4488e55df2d5354b53e1b5b11"), looks := false }, kinds := [], alts := [], laidByText := true, laidKinds := [.data], laidTests := true, laidLooks := .later }
def FnExactVectorOkUptoCardSaid : Prop := Claim7.holds Tryd.pinned (.plain (OpenSpec.upto fnExactVectorOkSpec)) fnExactVectorOkUptoCard
end Rows
end Go.Proofs.YtfblidnejdkjhaaDoor
