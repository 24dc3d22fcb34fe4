/-
  DERIVED. GIVEN WITH THE SEED: THE CARDS: each row of YtpphokbefichcaaDoorRows.lean that lists a variable, with what it lists TIED to the program's text (the seventh form; the later family's looks); each row that meets fmt, with fmt's text TOLD by the authors' own Lean function (tested against real Go, not proved from fmt's source: count such statements apart). THE CARD IS WHAT COUNTS. Prove the row's statement (the work); the ties are given (YtpphokbefichcaaDoorTie.lean); close each card by the builder's one call (the guide's Derived/Test/ToyasCard.lean, 'card_holds'). Laid BY PROGRAM, IN A SANDBOX (cutbox-door.mjs). By AI agents, Wed Nov 11 2026. No macro, syntax, notation, axiom, sorry.
-/
import Derived.Test.YtpphokbefichcaaDoorRows
import GoSem.ClaimSeven
namespace Go.Proofs.YtpphokbefichcaaDoor
namespace Rows

/-- THE TIED CARD OF 'laws.FnExactZeroOf'. -/
def fnExactZeroOfCard : Claim7 := { stood := { row := fnExactZeroOfRow, standIns := [], harness := (true, "34262463f06411a6f9d182f9c8dbd433a1f0b85628bf4a8773fa23975ae0f127"), looks := false }, kinds := [], alts := [], laidByText := true, laidKinds := [.data], laidTests := true, laidLooks := .later }
def FnExactZeroOfCardSaid : Prop := Claim7.holds Tryd.pinned (.plain (OpenSpec.ofChange fnExactZeroOfSpec)) fnExactZeroOfCard

/-- THE TIED CARD OF 'laws.FnExactNegated'. -/
def fnExactNegatedCard : Claim7 := { stood := { row := fnExactNegatedRow, standIns := [], harness := (true, "34262463f06411a6f9d182f9c8dbd433a1f0b85628bf4a8773fa23975ae0f127"), looks := false }, kinds := [], alts := [], laidByText := true, laidKinds := [.data], laidTests := true, laidLooks := .later }
def FnExactNegatedCardSaid : Prop := Claim7.holds Tryd.pinned (.plain (OpenSpec.ofChange fnExactNegatedSpec)) fnExactNegatedCard

/-- THE TIED CARD OF 'laws.FnExactAbsolute'. -/
def fnExactAbsoluteCard : Claim7 := { stood := { row := fnExactAbsoluteRow, standIns := [], harness := (true, "34262463f06411a6f9d182f9c8dbd433a1f0b85628bf4a8773fa23975ae0f127"), looks := false }, kinds := [], alts := [], laidByText := true, laidKinds := [.data], laidTests := true, laidLooks := .later }
def FnExactAbsoluteCardSaid : Prop := Claim7.holds Tryd.pinned (.plain (OpenSpec.ofChange fnExactAbsoluteSpec)) fnExactAbsoluteCard

/-- THE TIED CARD OF 'laws.FnExactOrderOf'. -/
def fnExactOrderOfCard : Claim7 := { stood := { row := fnExactOrderOfRow, standIns := [], harness := (true, "34262463f06411a6f9d182f9c8dbd433a1f0b85628bf4a8773fa23975ae0f127"), looks := false }, kinds := [], alts := [], laidByText := true, laidKinds := [.data], laidTests := true, laidLooks := .later }
def FnExactOrderOfCardSaid : Prop := Claim7.holds Tryd.pinned (.plain (OpenSpec.ofChange fnExactOrderOfSpec)) fnExactOrderOfCard

/-- THE TIED CARD OF 'laws.FnExactCompareFloats'. -/
def fnExactCompareFloatsCard : Claim7 := { stood := { row := fnExactCompareFloatsRow, standIns := [], harness := (true, "34262463f06411a6f9d182f9c8dbd433a1f0b85628bf4a8773fa23975ae0f127"), looks := false }, kinds := [], alts := [], laidByText := true, laidKinds := [.data], laidTests := true, laidLooks := .later }
def FnExactCompareFloatsCardSaid : Prop := Claim7.holds Tryd.pinned (.plain (OpenSpec.ofChange fnExactCompareFloatsSpec)) fnExactCompareFloatsCard

/-- THE TIED CARD OF 'laws.FnExactNextUp'. -/
def fnExactNextUpCard : Claim7 := { stood := { row := fnExactNextUpRow, standIns := [], harness := (true, "34262463f06411a6f9d182f9c8dbd433a1f0b85628bf4a8773fa23975ae0f127"), looks := false }, kinds := [], alts := [], laidByText := true, laidKinds := [.data], laidTests := true, laidLooks := .later }
def FnExactNextUpCardSaid : Prop := Claim7.holds Tryd.pinned (.plain (OpenSpec.ofChange fnExactNextUpSpec)) fnExactNextUpCard

/-- THE SECOND FORM's CARD OF 'laws.FnExactZeroOf'. -/
def fnExactZeroOfUptoCard : Claim7 := { stood := { row := fnExactZeroOfUptoRow, standIns := [], harness := (true, "34262463f06411a6f9d182f9c8dbd433a1f0b85628bf4a8773fa23975ae0f127"), looks := false }, kinds := [], alts := [], laidByText := true, laidKinds := [.data], laidTests := true, laidLooks := .later }
def FnExactZeroOfUptoCardSaid : Prop := Claim7.holds Tryd.pinned (.plain (OpenSpec.upto fnExactZeroOfSpec)) fnExactZeroOfUptoCard

/-- THE SECOND FORM's CARD OF 'laws.FnExactNegated'. -/
def fnExactNegatedUptoCard : Claim7 := { stood := { row := fnExactNegatedUptoRow, standIns := [], harness := (true, "34262463f06411a6f9d182f9c8dbd433a1f0b85628bf4a8773fa23975ae0f127"), looks := false }, kinds := [], alts := [], laidByText := true, laidKinds := [.data], laidTests := true, laidLooks := .later }
def FnExactNegatedUptoCardSaid : Prop := Claim7.holds Tryd.pinned (.plain (OpenSpec.upto fnExactNegatedSpec)) fnExactNegatedUptoCard

/-- THE SECOND FORM's CARD OF 'laws.FnExactAbsolute'. -/
def fnExactAbsoluteUptoCard : Claim7 := { stood := { row := fnExactAbsoluteUptoRow, standIns := [], harness := (true, "34262463f06411a6f9d182f9c8dbd433a1f0b85628bf4a8773fa23975ae0f127"), looks := false }, kinds := [], alts := [], laidByText := true, laidKinds := [.data], laidTests := true, laidLooks := .later }
def FnExactAbsoluteUptoCardSaid : Prop := Claim7.holds Tryd.pinned (.plain (OpenSpec.upto fnExactAbsoluteSpec)) fnExactAbsoluteUptoCard

/-- THE SECOND FORM's CARD OF 'laws.FnExactOrderOf'. -/
def fnExactOrderOfUptoCard : Claim7 := { stood := { row := fnExactOrderOfUptoRow, standIns := [], harness := (true, "34262463f06411a6f9d182f9c8dbd433a1f0b85628bf4a8773fa23975ae0f127"), looks := false }, kinds := [], alts := [], laidByText := true, laidKinds := [.data], laidTests := true, laidLooks := .later }
def FnExactOrderOfUptoCardSaid : Prop := Claim7.holds Tryd.pinned (.plain (OpenSpec.upto fnExactOrderOfSpec)) fnExactOrderOfUptoCard

/-- THE SECOND FORM's CARD OF 'laws.FnExactCompareFloats'. -/
def fnExactCompareFloatsUptoCard : Claim7 := { stood := { row := fnExactCompareFloatsUptoRow, standIns := [], harness := (true, "34262463f06411a6f9d182f9c8dbd433a1f0b85628bf4a8773fa23975ae0f127"), looks := false }, kinds := [], alts := [], laidByText := true, laidKinds := [.data], laidTests := true, laidLooks := .later }
def FnExactCompareFloatsUptoCardSaid : Prop := Claim7.holds Tryd.pinned (.plain (OpenSpec.upto fnExactCompareFloatsSpec)) fnExactCompareFloatsUptoCard

/-- THE SECOND FORM's CARD OF 'laws.FnExactNextUp'. -/
def fnExactNextUpUptoCard : Claim7 := { stood := { row := fnExactNextUpUptoRow, standIns := [], harness := (true, "34262463f06411a6f9d182f9c8dbd433a1f0b85628bf4a8773fa23975ae0f127"), looks := false }, kinds := [], alts := [], laidByText := true, laidKinds := [.data], laidTests := true, laidLooks := .later }
def FnExactNextUpUptoCardSaid : Prop := Claim7.holds Tryd.pinned (.plain (OpenSpec.upto fnExactNextUpSpec)) fnExactNextUpUptoCard
end Rows
end Go.Proofs.YtpphokbefichcaaDoor
