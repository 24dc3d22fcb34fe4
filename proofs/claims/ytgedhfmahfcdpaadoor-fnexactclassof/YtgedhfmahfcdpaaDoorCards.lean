/-
  DERIVED. GIVEN WITH THE SEED: THE CARDS: each row of YtgedhfmahfcdpaaDoorRows.lean that lists a variable, with what it lists TIED to the program's text (the seventh form; the later family's looks); each row that meets fmt, with fmt's text TOLD by the authors' own Lean function (tested against real Go, not proved from fmt's source: count such statements apart). THE CARD IS WHAT COUNTS. Prove the row's statement (the work); the ties are given (YtgedhfmahfcdpaaDoorTie.lean); close each card by the builder's one call (the guide's Derived/Test/ToyasCard.lean, 'card_holds'). Laid BY PROGRAM, IN A SANDBOX (cutbox-door.mjs). By AI agents, Wed Nov 11 2026. No macro, syntax, notation, axiom, sorry.
-/
import Derived.Test.YtgedhfmahfcdpaaDoorRows
import GoSem.ClaimSeven
namespace Go.Proofs.YtgedhfmahfcdpaaDoor
namespace Rows

/-- THE TIED CARD OF 'laws.FnExactFloatOk'. -/
def fnExactFloatOkCard : Claim7 := { stood := { row := fnExactFloatOkRow, standIns := [], harness := (true, "c9ef0907d9090332eb6078b2957c7b84b144e63068c40b8a1f201489cc290a84"), looks := false }, kinds := [], alts := [], laidByText := true, laidKinds := [.data], laidTests := true, laidLooks := .later }
def FnExactFloatOkCardSaid : Prop := Claim7.holds Tryd.pinned (.plain (OpenSpec.ofChange fnExactFloatOkSpec)) fnExactFloatOkCard

/-- THE TIED CARD OF 'laws.FnExactClassOf'. -/
def fnExactClassOfCard : Claim7 := { stood := { row := fnExactClassOfRow, standIns := [], harness := (true, "c9ef0907d9090332eb6078b2957c7b84b144e63068c40b8a1f201489cc290a84"), looks := false }, kinds := [], alts := [], laidByText := true, laidKinds := [.data], laidTests := true, laidLooks := .later }
def FnExactClassOfCardSaid : Prop := Claim7.holds Tryd.pinned (.plain (OpenSpec.ofChange fnExactClassOfSpec)) fnExactClassOfCard

/-- THE TIED CARD OF 'laws.FnExactNaNOf'. -/
def fnExactNaNOfCard : Claim7 := { stood := { row := fnExactNaNOfRow, standIns := [], harness := (true, "c9ef0907d9090332eb6078b2957c7b84b144e63068c40b8a1f201489cc290a84"), looks := false }, kinds := [], alts := [], laidByText := true, laidKinds := [.data], laidTests := true, laidLooks := .later }
def FnExactNaNOfCardSaid : Prop := Claim7.holds Tryd.pinned (.plain (OpenSpec.ofChange fnExactNaNOfSpec)) fnExactNaNOfCard

/-- THE TIED CARD OF 'laws.FnExactInfOf'. -/
def fnExactInfOfCard : Claim7 := { stood := { row := fnExactInfOfRow, standIns := [], harness := (true, "c9ef0907d9090332eb6078b2957c7b84b144e63068c40b8a1f201489cc290a84"), looks := false }, kinds := [], alts := [], laidByText := true, laidKinds := [.data], laidTests := true, laidLooks := .later }
def FnExactInfOfCardSaid : Prop := Claim7.holds Tryd.pinned (.plain (OpenSpec.ofChange fnExactInfOfSpec)) fnExactInfOfCard

/-- THE TIED CARD OF 'laws.FnExactGreatestOf'. -/
def fnExactGreatestOfCard : Claim7 := { stood := { row := fnExactGreatestOfRow, standIns := [], harness := (true, "c9ef0907d9090332eb6078b2957c7b84b144e63068c40b8a1f201489cc290a84"), looks := false }, kinds := [], alts := [], laidByText := true, laidKinds := [.data], laidTests := true, laidLooks := .later }
def FnExactGreatestOfCardSaid : Prop := Claim7.holds Tryd.pinned (.plain (OpenSpec.ofChange fnExactGreatestOfSpec)) fnExactGreatestOfCard

/-- THE TIED CARD OF 'laws.FnExactLeastOf'. -/
def fnExactLeastOfCard : Claim7 := { stood := { row := fnExactLeastOfRow, standIns := [], harness := (true, "c9ef0907d9090332eb6078b2957c7b84b144e63068c40b8a1f201489cc290a84"), looks := false }, kinds := [], alts := [], laidByText := true, laidKinds := [.data], laidTests := true, laidLooks := .later }
def FnExactLeastOfCardSaid : Prop := Claim7.holds Tryd.pinned (.plain (OpenSpec.ofChange fnExactLeastOfSpec)) fnExactLeastOfCard

/-- THE SECOND FORM's CARD OF 'laws.FnExactFloatOk'. -/
def fnExactFloatOkUptoCard : Claim7 := { stood := { row := fnExactFloatOkUptoRow, standIns := [], harness := (true, "c9ef0907d9090332eb6078b2957c7b84b144e63068c40b8a1f201489cc290a84"), looks := false }, kinds := [], alts := [], laidByText := true, laidKinds := [.data], laidTests := true, laidLooks := .later }
def FnExactFloatOkUptoCardSaid : Prop := Claim7.holds Tryd.pinned (.plain (OpenSpec.upto fnExactFloatOkSpec)) fnExactFloatOkUptoCard

/-- THE SECOND FORM's CARD OF 'laws.FnExactClassOf'. -/
def fnExactClassOfUptoCard : Claim7 := { stood := { row := fnExactClassOfUptoRow, standIns := [], harness := (true, "c9ef0907d9090332eb6078b2957c7b84b144e63068c40b8a1f201489cc290a84"), looks := false }, kinds := [], alts := [], laidByText := true, laidKinds := [.data], laidTests := true, laidLooks := .later }
def FnExactClassOfUptoCardSaid : Prop := Claim7.holds Tryd.pinned (.plain (OpenSpec.upto fnExactClassOfSpec)) fnExactClassOfUptoCard

/-- THE SECOND FORM's CARD OF 'laws.FnExactNaNOf'. -/
def fnExactNaNOfUptoCard : Claim7 := { stood := { row := fnExactNaNOfUptoRow, standIns := [], harness := (true, "c9ef0907d9090332eb6078b2957c7b84b144e63068c40b8a1f201489cc290a84"), looks := false }, kinds := [], alts := [], laidByText := true, laidKinds := [.data], laidTests := true, laidLooks := .later }
def FnExactNaNOfUptoCardSaid : Prop := Claim7.holds Tryd.pinned (.plain (OpenSpec.upto fnExactNaNOfSpec)) fnExactNaNOfUptoCard

/-- THE SECOND FORM's CARD OF 'laws.FnExactInfOf'. -/
def fnExactInfOfUptoCard : Claim7 := { stood := { row := fnExactInfOfUptoRow, standIns := [], harness := (true, "c9ef0907d9090332eb6078b2957c7b84b144e63068c40b8a1f201489cc290a84"), looks := false }, kinds := [], alts := [], laidByText := true, laidKinds := [.data], laidTests := true, laidLooks := .later }
def FnExactInfOfUptoCardSaid : Prop := Claim7.holds Tryd.pinned (.plain (OpenSpec.upto fnExactInfOfSpec)) fnExactInfOfUptoCard

/-- THE SECOND FORM's CARD OF 'laws.FnExactGreatestOf'. -/
def fnExactGreatestOfUptoCard : Claim7 := { stood := { row := fnExactGreatestOfUptoRow, standIns := [], harness := (true, "c9ef0907d9090332eb6078b2957c7b84b144e63068c40b8a1f201489cc290a84"), looks := false }, kinds := [], alts := [], laidByText := true, laidKinds := [.data], laidTests := true, laidLooks := .later }
def FnExactGreatestOfUptoCardSaid : Prop := Claim7.holds Tryd.pinned (.plain (OpenSpec.upto fnExactGreatestOfSpec)) fnExactGreatestOfUptoCard

/-- THE SECOND FORM's CARD OF 'laws.FnExactLeastOf'. -/
def fnExactLeastOfUptoCard : Claim7 := { stood := { row := fnExactLeastOfUptoRow, standIns := [], harness := (true, "c9ef0907d9090332eb6078b2957c7b84b144e63068c40b8a1f201489cc290a84"), looks := false }, kinds := [], alts := [], laidByText := true, laidKinds := [.data], laidTests := true, laidLooks := .later }
def FnExactLeastOfUptoCardSaid : Prop := Claim7.holds Tryd.pinned (.plain (OpenSpec.upto fnExactLeastOfSpec)) fnExactLeastOfUptoCard
end Rows
end Go.Proofs.YtgedhfmahfcdpaaDoor
