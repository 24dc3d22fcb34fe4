/-
  DERIVED. GIVEN WITH THE SEED: THE CARDS: each row of YtbalefbcpnoieaaDoorRows.lean that lists a variable, with what it lists TIED to the program's text (the seventh form; the later family's looks); each row that meets fmt, with fmt's text TOLD by the authors' own Lean function (tested against real Go, not proved from fmt's source: count such statements apart). THE CARD IS WHAT COUNTS. Prove the row's statement (the work); the ties are given (YtbalefbcpnoieaaDoorTie.lean); close each card by the builder's one call (the guide's Derived/Test/ToyasCard.lean, 'card_holds'). Laid BY PROGRAM, IN A SANDBOX (cutbox-door.mjs). By AI agents, Wed Nov 11 2026. No macro, syntax, notation, axiom, sorry.
-/
import Derived.Test.YtbalefbcpnoieaaDoorRows
import GoSem.ClaimSeven
namespace Go.Proofs.YtbalefbcpnoieaaDoor
namespace Rows

/-- THE TIED CARD OF 'laws.FnExactTopOf'. -/
def fnExactTopOfCard : Claim7 := { stood := { row := fnExactTopOfRow, standIns := [], harness := (true, "87e168103cb840db0fbc77e67ac3ca6f91ae4b869cb62b19051beee7158d7158"), looks := false }, kinds := [], alts := [], laidByText := true, laidKinds := [.data], laidTests := true, laidLooks := .later }
def FnExactTopOfCardSaid : Prop := Claim7.holds Tryd.pinned (.plain (OpenSpec.ofChange fnExactTopOfSpec)) fnExactTopOfCard

/-- THE TIED CARD OF 'laws.FnExactDigitOf'. -/
def fnExactDigitOfCard : Claim7 := { stood := { row := fnExactDigitOfRow, standIns := [], harness := (true, "87e168103cb840db0fbc77e67ac3ca6f91ae4b869cb62b19051beee7158d7158"), looks := false }, kinds := [], alts := [], laidByText := true, laidKinds := [.data], laidTests := true, laidLooks := .later }
def FnExactDigitOfCardSaid : Prop := Claim7.holds Tryd.pinned (.plain (OpenSpec.ofChange fnExactDigitOfSpec)) fnExactDigitOfCard

/-- THE TIED CARD OF 'laws.FnExactErrorOf'. -/
def fnExactErrorOfCard : Claim7 := { stood := { row := fnExactErrorOfRow, standIns := [], harness := (true, "87e168103cb840db0fbc77e67ac3ca6f91ae4b869cb62b19051beee7158d7158"), looks := false }, kinds := [], alts := [], laidByText := true, laidKinds := [.data], laidTests := true, laidLooks := .later }
def FnExactErrorOfCardSaid : Prop := Claim7.holds Tryd.pinned (.plain (OpenSpec.ofChange fnExactErrorOfSpec)) fnExactErrorOfCard

/-- THE TIED CARD OF 'laws.FnExactBinOk'. -/
def fnExactBinOkCard : Claim7 := { stood := { row := fnExactBinOkRow, standIns := [], harness := (true, "87e168103cb840db0fbc77e67ac3ca6f91ae4b869cb62b19051beee7158d7158"), looks := false }, kinds := [], alts := [], laidByText := true, laidKinds := [.data], laidTests := true, laidLooks := .later }
def FnExactBinOkCardSaid : Prop := Claim7.holds Tryd.pinned (.plain (OpenSpec.ofChange fnExactBinOkSpec)) fnExactBinOkCard

/-- THE TIED CARD OF 'laws.FnExactBinMerge'. -/
def fnExactBinMergeCard : Claim7 := { stood := { row := fnExactBinMergeRow, standIns := [], harness := (true, "87e168103cb840db0fbc77e67ac3ca6f91ae4b869cb62b19051beee7158d7158"), looks := false }, kinds := [], alts := [], laidByText := true, laidKinds := [.data], laidTests := true, laidLooks := .later }
def FnExactBinMergeCardSaid : Prop := Claim7.holds Tryd.pinned (.plain (OpenSpec.ofChange fnExactBinMergeSpec)) fnExactBinMergeCard

/-- THE SECOND FORM's CARD OF 'laws.FnExactTopOf'. -/
def fnExactTopOfUptoCard : Claim7 := { stood := { row := fnExactTopOfUptoRow, standIns := [], harness := (true, "87e168103cb840db0fbc77e67ac3ca6f91ae4b869cb62b19051beee7158d7158"), looks := false }, kinds := [], alts := [], laidByText := true, laidKinds := [.data], laidTests := true, laidLooks := .later }
def FnExactTopOfUptoCardSaid : Prop := Claim7.holds Tryd.pinned (.plain (OpenSpec.upto fnExactTopOfSpec)) fnExactTopOfUptoCard

/-- THE SECOND FORM's CARD OF 'laws.FnExactDigitOf'. -/
def fnExactDigitOfUptoCard : Claim7 := { stood := { row := fnExactDigitOfUptoRow, standIns := [], harness := (true, "87e168103cb840db0fbc77e67ac3ca6f91ae4b869cb62b19051beee7158d7158"), looks := false }, kinds := [], alts := [], laidByText := true, laidKinds := [.data], laidTests := true, laidLooks := .later }
def FnExactDigitOfUptoCardSaid : Prop := Claim7.holds Tryd.pinned (.plain (OpenSpec.upto fnExactDigitOfSpec)) fnExactDigitOfUptoCard

/-- THE SECOND FORM's CARD OF 'laws.FnExactErrorOf'. -/
def fnExactErrorOfUptoCard : Claim7 := { stood := { row := fnExactErrorOfUptoRow, standIns := [], harness := (true, "87e168103cb840db0fbc77e67ac3ca6f91ae4b869cb62b19051beee7158d7158"), looks := false }, kinds := [], alts := [], laidByText := true, laidKinds := [.data], laidTests := true, laidLooks := .later }
def FnExactErrorOfUptoCardSaid : Prop := Claim7.holds Tryd.pinned (.plain (OpenSpec.upto fnExactErrorOfSpec)) fnExactErrorOfUptoCard

/-- THE SECOND FORM's CARD OF 'laws.FnExactBinOk'. -/
def fnExactBinOkUptoCard : Claim7 := { stood := { row := fnExactBinOkUptoRow, standIns := [], harness := (true, "87e168103cb840db0fbc77e67ac3ca6f91ae4b869cb62b19051beee7158d7158"), looks := false }, kinds := [], alts := [], laidByText := true, laidKinds := [.data], laidTests := true, laidLooks := .later }
def FnExactBinOkUptoCardSaid : Prop := Claim7.holds Tryd.pinned (.plain (OpenSpec.upto fnExactBinOkSpec)) fnExactBinOkUptoCard

/-- THE SECOND FORM's CARD OF 'laws.FnExactBinMerge'. -/
def fnExactBinMergeUptoCard : Claim7 := { stood := { row := fnExactBinMergeUptoRow, standIns := [], harness := (true, "87e168103cb840db0fbc77e67ac3ca6f91ae4b869cb62b19051beee7158d7158"), looks := false }, kinds := [], alts := [], laidByText := true, laidKinds := [.data], laidTests := true, laidLooks := .later }
def FnExactBinMergeUptoCardSaid : Prop := Claim7.holds Tryd.pinned (.plain (OpenSpec.upto fnExactBinMergeSpec)) fnExactBinMergeUptoCard
end Rows
end Go.Proofs.YtbalefbcpnoieaaDoor
