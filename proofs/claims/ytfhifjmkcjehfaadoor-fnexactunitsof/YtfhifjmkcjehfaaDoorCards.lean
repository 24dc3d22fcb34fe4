/-
  DERIVED. GIVEN WITH THE SEED: THE CARDS: each row of YtfhifjmkcjehfaaDoorRows.lean that lists a variable, with what it lists TIED to the program's text (the seventh form; the later family's looks); each row that meets fmt, with fmt's text TOLD by the authors' own Lean function (tested against real Go, not proved from fmt's source: count such statements apart). THE CARD IS WHAT COUNTS. Prove the row's statement (the work); the ties are given (YtfhifjmkcjehfaaDoorTie.lean); close each card by the builder's one call (the guide's Derived/Test/ToyasCard.lean, 'card_holds'). Laid BY PROGRAM, IN A SANDBOX (cutbox-door.mjs). By AI agents, Wed Nov 11 2026. No macro, syntax, notation, axiom, sorry.
-/
import Derived.Test.YtfhifjmkcjehfaaDoorRows
import GoSem.ClaimSeven
namespace Go.Proofs.YtfhifjmkcjehfaaDoor
namespace Rows

/-- THE TIED CARD OF 'laws.FnExactUnitsOf'. -/
def fnExactUnitsOfCard : Claim7 := { stood := { row := fnExactUnitsOfRow, standIns := [], harness := (true, "83577cecc04ca9da8a2b21d83dc08fd1f71fac24dfa67481c88548987e58dc75"), looks := false }, kinds := [], alts := [], laidByText := true, laidKinds := [.data], laidTests := true, laidLooks := .later }
def FnExactUnitsOfCardSaid : Prop := Claim7.holds Tryd.pinned (.plain (OpenSpec.ofChange fnExactUnitsOfSpec)) fnExactUnitsOfCard

/-- THE TIED CARD OF 'laws.FnExactRounded'. -/
def fnExactRoundedCard : Claim7 := { stood := { row := fnExactRoundedRow, standIns := [], harness := (true, "83577cecc04ca9da8a2b21d83dc08fd1f71fac24dfa67481c88548987e58dc75"), looks := false }, kinds := [], alts := [], laidByText := true, laidKinds := [.data, .data, .data], laidTests := true, laidLooks := .later }
def FnExactRoundedCardSaid : Prop := Claim7.holds Tryd.pinned (.plain (OpenSpec.ofChange fnExactRoundedSpec)) fnExactRoundedCard

/-- THE TIED CARD OF 'laws.FnExactExactFloat'. -/
def fnExactExactFloatCard : Claim7 := { stood := { row := fnExactExactFloatRow, standIns := [], harness := (true, "83577cecc04ca9da8a2b21d83dc08fd1f71fac24dfa67481c88548987e58dc75"), looks := false }, kinds := [], alts := [], laidByText := true, laidKinds := [.data, .data, .data], laidTests := true, laidLooks := .later }
def FnExactExactFloatCardSaid : Prop := Claim7.holds Tryd.pinned (.plain (OpenSpec.ofChange fnExactExactFloatSpec)) fnExactExactFloatCard

/-- THE TIED CARD OF 'laws.FnExactFromParts'. -/
def fnExactFromPartsCard : Claim7 := { stood := { row := fnExactFromPartsRow, standIns := [], harness := (true, "83577cecc04ca9da8a2b21d83dc08fd1f71fac24dfa67481c88548987e58dc75"), looks := false }, kinds := [], alts := [], laidByText := true, laidKinds := [.data, .data], laidTests := true, laidLooks := .later }
def FnExactFromPartsCardSaid : Prop := Claim7.holds Tryd.pinned (.plain (OpenSpec.ofChange fnExactFromPartsSpec)) fnExactFromPartsCard

/-- THE TIED CARD OF 'laws.FnExactConverted'. -/
def fnExactConvertedCard : Claim7 := { stood := { row := fnExactConvertedRow, standIns := [], harness := (true, "83577cecc04ca9da8a2b21d83dc08fd1f71fac24dfa67481c88548987e58dc75"), looks := false }, kinds := [], alts := [], laidByText := true, laidKinds := [.data, .data, .data], laidTests := true, laidLooks := .later }
def FnExactConvertedCardSaid : Prop := Claim7.holds Tryd.pinned (.plain (OpenSpec.ofChange fnExactConvertedSpec)) fnExactConvertedCard

/-- THE SECOND FORM's CARD OF 'laws.FnExactUnitsOf'. -/
def fnExactUnitsOfUptoCard : Claim7 := { stood := { row := fnExactUnitsOfUptoRow, standIns := [], harness := (true, "83577cecc04ca9da8a2b21d83dc08fd1f71fac24dfa67481c88548987e58dc75"), looks := false }, kinds := [], alts := [], laidByText := true, laidKinds := [.data], laidTests := true, laidLooks := .later }
def FnExactUnitsOfUptoCardSaid : Prop := Claim7.holds Tryd.pinned (.plain (OpenSpec.upto fnExactUnitsOfSpec)) fnExactUnitsOfUptoCard

/-- THE SECOND FORM's CARD OF 'laws.FnExactRounded'. -/
def fnExactRoundedUptoCard : Claim7 := { stood := { row := fnExactRoundedUptoRow, standIns := [], harness := (true, "83577cecc04ca9da8a2b21d83dc08fd1f71fac24dfa67481c88548987e58dc75"), looks := false }, kinds := [], alts := [], laidByText := true, laidKinds := [.data, .data, .data], laidTests := true, laidLooks := .later }
def FnExactRoundedUptoCardSaid : Prop := Claim7.holds Tryd.pinned (.plain (OpenSpec.upto fnExactRoundedSpec)) fnExactRoundedUptoCard

/-- THE SECOND FORM's CARD OF 'laws.FnExactExactFloat'. -/
def fnExactExactFloatUptoCard : Claim7 := { stood := { row := fnExactExactFloatUptoRow, standIns := [], harness := (true, "83577cecc04ca9da8a2b21d83dc08fd1f71fac24dfa67481c88548987e58dc75"), looks := false }, kinds := [], alts := [], laidByText := true, laidKinds := [.data, .data, .data], laidTests := true, laidLooks := .later }
def FnExactExactFloatUptoCardSaid : Prop := Claim7.holds Tryd.pinned (.plain (OpenSpec.upto fnExactExactFloatSpec)) fnExactExactFloatUptoCard

/-- THE SECOND FORM's CARD OF 'laws.FnExactFromParts'. -/
def fnExactFromPartsUptoCard : Claim7 := { stood := { row := fnExactFromPartsUptoRow, standIns := [], harness := (true, "83577cecc04ca9da8a2b21d83dc08fd1f71fac24dfa67481c88548987e58dc75"), looks := false }, kinds := [], alts := [], laidByText := true, laidKinds := [.data, .data], laidTests := true, laidLooks := .later }
def FnExactFromPartsUptoCardSaid : Prop := Claim7.holds Tryd.pinned (.plain (OpenSpec.upto fnExactFromPartsSpec)) fnExactFromPartsUptoCard

/-- THE SECOND FORM's CARD OF 'laws.FnExactConverted'. -/
def fnExactConvertedUptoCard : Claim7 := { stood := { row := fnExactConvertedUptoRow, standIns := [], harness := (true, "83577cecc04ca9da8a2b21d83dc08fd1f71fac24dfa67481c88548987e58dc75"), looks := false }, kinds := [], alts := [], laidByText := true, laidKinds := [.data, .data, .data], laidTests := true, laidLooks := .later }
def FnExactConvertedUptoCardSaid : Prop := Claim7.holds Tryd.pinned (.plain (OpenSpec.upto fnExactConvertedSpec)) fnExactConvertedUptoCard
end Rows
end Go.Proofs.YtfhifjmkcjehfaaDoor
