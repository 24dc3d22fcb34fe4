/-
  NARROWER THAN 'FOR EVERY INPUT', by the rows' own cells (each row's printed sentence says how): FnExactZeroOf: laid · FnExactNegated: laid · FnExactAbsolute: laid · FnExactOrderOf: laid · FnExactCompareFloats: laid · FnExactNextUp: laid.
  DERIVED. THE GIVEN ROWS OF THIS SEAT. 6 by the template 'for every input the law returns true; each argument reads behind the call as it read before'; 0 by the template 'total and deterministic' (their statements: YtpphokbefichcaaDoorTotals.lean).
  GIVEN WITH THE SEED: the statements are not yours to turn. If you find one false, say at which input.
  Laid BY PROGRAM, IN A SANDBOX (cutbox-rows.mjs): the forced cells as the released guide's own fill.sh prints them over the translation 18f517d9d09f7e8b… (all of the seat's roots in one cut). By AI agents, Wed Nov 11 2026. No macro, syntax, notation, axiom, sorry.
-/
import Derived.Test.YtpphokbefichcaaDoorChecked
import GoSem.Claim
import GoSem.ClaimJoined
import GoSem.ClaimMapViews
import Derived.JoinedTies
import Derived.KernelRfl
namespace Go.Proofs.YtpphokbefichcaaDoor
/- THE CELL 'sum', in the pinned program and in every row, IS THE sha256 OF THE DUMP (.gsa) THAT YtpphokbefichcaaDoorProg.lean LOADS. Nothing in Lean hashes anything: it is a label: what it is worth is what the hold of that sum in a sandbox is worth. -/
noncomputable def Tryd.pinned : Pinned := { name := "ytpphokbefichcaadoor", sum := "18f517d9d09f7e8b77316c1d6088cf20694db64664c757bfe136fee4220874fb", checked := Tryd.checked }
namespace Rows
def none {H : Type} : Left H := { results := [], args := [] }

/- WHAT THE LISTED PACKAGE-LEVEL VARIABLES READ AS WHEN THE CALL BEGINS. Each datum BY PROGRAM (the guide's laid-datum.mjs) off the statement by which the dump's own 'gosem.cut.vars' lays the variable. In a bare row this is a premise. The card (YtpphokbefichcaaDoorCards.lean) ties it to the program's text. -/
def laid_loop_example_g00672_impl_formSizes {H : Type} : DataW H := .agg [.agg [.lit (.int .u64 0), .lit (.int .u64 0), .lit (.int .i64 0)], .agg [.lit (.int .u64 23), .lit (.int .u64 255), .lit (.int .i64 (-149))], .agg [.lit (.int .u64 52), .lit (.int .u64 2047), .lit (.int .i64 (-1074))]]

/-- 'laws.FnExactZeroOf': WHATEVER THE INPUT: true; the input reads as it did. -/
def fnExactZeroOfSpec : ChangeSpec := { name := "fnExactZeroOf", vars := ["loop.example/g00672/impl.formSizes"], fn := fun _ => fun
  | [d1, d2, g1] => { results := [.lit (.bool true)], args := [d1, d2], vars := [g1] }
  | _ => none }
def fnExactZeroOfRow : OpenClaim := { program := "ytpphokbefichcaadoor", sum := "18f517d9d09f7e8b77316c1d6088cf20694db64664c757bfe136fee4220874fb", func := "loop.example/g00672/laws.FnExactZeroOf", spec := "fnExactZeroOf", named := ["loop.example/g00672/impl.formSizes"], apart := false, laid := [("loop.example/g00672/impl.formSizes", laid_loop_example_g00672_impl_formSizes)] }
def FnExactZeroOfSaid : Prop := fnExactZeroOfRow.holds Tryd.pinned (OpenSpec.ofChange fnExactZeroOfSpec)

/-- ITS FALSE NEIGHBOUR: 'it returns false'. Refute it at one input. -/
def fnExactZeroOfWrong : ChangeSpec := { name := "fnExactZeroOf", vars := ["loop.example/g00672/impl.formSizes"], fn := fun _ => fun
  | [d1, d2, g1] => { results := [.lit (.bool false)], args := [d1, d2], vars := [g1] }
  | _ => none }
def FnExactZeroOfWrongFalsely : Prop := fnExactZeroOfRow.holds Tryd.pinned (OpenSpec.ofChange fnExactZeroOfWrong)

/-- 'laws.FnExactNegated': WHATEVER THE INPUT: true; the input reads as it did. -/
def fnExactNegatedSpec : ChangeSpec := { name := "fnExactNegated", vars := ["loop.example/g00672/impl.formSizes"], fn := fun _ => fun
  | [d1, d2, g1] => { results := [.lit (.bool true)], args := [d1, d2], vars := [g1] }
  | _ => none }
def fnExactNegatedRow : OpenClaim := { program := "ytpphokbefichcaadoor", sum := "18f517d9d09f7e8b77316c1d6088cf20694db64664c757bfe136fee4220874fb", func := "loop.example/g00672/laws.FnExactNegated", spec := "fnExactNegated", named := ["loop.example/g00672/impl.formSizes"], apart := false, laid := [("loop.example/g00672/impl.formSizes", laid_loop_example_g00672_impl_formSizes)] }
def FnExactNegatedSaid : Prop := fnExactNegatedRow.holds Tryd.pinned (OpenSpec.ofChange fnExactNegatedSpec)

/-- ITS FALSE NEIGHBOUR: 'it returns false'. Refute it at one input. -/
def fnExactNegatedWrong : ChangeSpec := { name := "fnExactNegated", vars := ["loop.example/g00672/impl.formSizes"], fn := fun _ => fun
  | [d1, d2, g1] => { results := [.lit (.bool false)], args := [d1, d2], vars := [g1] }
  | _ => none }
def FnExactNegatedWrongFalsely : Prop := fnExactNegatedRow.holds Tryd.pinned (OpenSpec.ofChange fnExactNegatedWrong)

/-- 'laws.FnExactAbsolute': WHATEVER THE INPUT: true; the input reads as it did. -/
def fnExactAbsoluteSpec : ChangeSpec := { name := "fnExactAbsolute", vars := ["loop.example/g00672/impl.formSizes"], fn := fun _ => fun
  | [d1, d2, g1] => { results := [.lit (.bool true)], args := [d1, d2], vars := [g1] }
  | _ => none }
def fnExactAbsoluteRow : OpenClaim := { program := "ytpphokbefichcaadoor", sum := "18f517d9d09f7e8b77316c1d6088cf20694db64664c757bfe136fee4220874fb", func := "loop.example/g00672/laws.FnExactAbsolute", spec := "fnExactAbsolute", named := ["loop.example/g00672/impl.formSizes"], apart := false, laid := [("loop.example/g00672/impl.formSizes", laid_loop_example_g00672_impl_formSizes)] }
def FnExactAbsoluteSaid : Prop := fnExactAbsoluteRow.holds Tryd.pinned (OpenSpec.ofChange fnExactAbsoluteSpec)

/-- ITS FALSE NEIGHBOUR: 'it returns false'. Refute it at one input. -/
def fnExactAbsoluteWrong : ChangeSpec := { name := "fnExactAbsolute", vars := ["loop.example/g00672/impl.formSizes"], fn := fun _ => fun
  | [d1, d2, g1] => { results := [.lit (.bool false)], args := [d1, d2], vars := [g1] }
  | _ => none }
def FnExactAbsoluteWrongFalsely : Prop := fnExactAbsoluteRow.holds Tryd.pinned (OpenSpec.ofChange fnExactAbsoluteWrong)

/-- 'laws.FnExactOrderOf': WHATEVER THE INPUT: true; the input reads as it did. -/
def fnExactOrderOfSpec : ChangeSpec := { name := "fnExactOrderOf", vars := ["loop.example/g00672/impl.formSizes"], fn := fun _ => fun
  | [d1, d2, g1] => { results := [.lit (.bool true)], args := [d1, d2], vars := [g1] }
  | _ => none }
def fnExactOrderOfRow : OpenClaim := { program := "ytpphokbefichcaadoor", sum := "18f517d9d09f7e8b77316c1d6088cf20694db64664c757bfe136fee4220874fb", func := "loop.example/g00672/laws.FnExactOrderOf", spec := "fnExactOrderOf", named := ["loop.example/g00672/impl.formSizes"], apart := false, laid := [("loop.example/g00672/impl.formSizes", laid_loop_example_g00672_impl_formSizes)] }
def FnExactOrderOfSaid : Prop := fnExactOrderOfRow.holds Tryd.pinned (OpenSpec.ofChange fnExactOrderOfSpec)

/-- ITS FALSE NEIGHBOUR: 'it returns false'. Refute it at one input. -/
def fnExactOrderOfWrong : ChangeSpec := { name := "fnExactOrderOf", vars := ["loop.example/g00672/impl.formSizes"], fn := fun _ => fun
  | [d1, d2, g1] => { results := [.lit (.bool false)], args := [d1, d2], vars := [g1] }
  | _ => none }
def FnExactOrderOfWrongFalsely : Prop := fnExactOrderOfRow.holds Tryd.pinned (OpenSpec.ofChange fnExactOrderOfWrong)

/-- 'laws.FnExactCompareFloats': WHATEVER THE INPUT: true; the input reads as it did. -/
def fnExactCompareFloatsSpec : ChangeSpec := { name := "fnExactCompareFloats", vars := ["loop.example/g00672/impl.formSizes"], fn := fun _ => fun
  | [d1, d2, d3, g1] => { results := [.lit (.bool true)], args := [d1, d2, d3], vars := [g1] }
  | _ => none }
def fnExactCompareFloatsRow : OpenClaim := { program := "ytpphokbefichcaadoor", sum := "18f517d9d09f7e8b77316c1d6088cf20694db64664c757bfe136fee4220874fb", func := "loop.example/g00672/laws.FnExactCompareFloats", spec := "fnExactCompareFloats", named := ["loop.example/g00672/impl.formSizes"], apart := false, laid := [("loop.example/g00672/impl.formSizes", laid_loop_example_g00672_impl_formSizes)] }
def FnExactCompareFloatsSaid : Prop := fnExactCompareFloatsRow.holds Tryd.pinned (OpenSpec.ofChange fnExactCompareFloatsSpec)

/-- ITS FALSE NEIGHBOUR: 'it returns false'. Refute it at one input. -/
def fnExactCompareFloatsWrong : ChangeSpec := { name := "fnExactCompareFloats", vars := ["loop.example/g00672/impl.formSizes"], fn := fun _ => fun
  | [d1, d2, d3, g1] => { results := [.lit (.bool false)], args := [d1, d2, d3], vars := [g1] }
  | _ => none }
def FnExactCompareFloatsWrongFalsely : Prop := fnExactCompareFloatsRow.holds Tryd.pinned (OpenSpec.ofChange fnExactCompareFloatsWrong)

/-- 'laws.FnExactNextUp': WHATEVER THE INPUT: true; the input reads as it did. -/
def fnExactNextUpSpec : ChangeSpec := { name := "fnExactNextUp", vars := ["loop.example/g00672/impl.formSizes"], fn := fun _ => fun
  | [d1, d2, g1] => { results := [.lit (.bool true)], args := [d1, d2], vars := [g1] }
  | _ => none }
def fnExactNextUpRow : OpenClaim := { program := "ytpphokbefichcaadoor", sum := "18f517d9d09f7e8b77316c1d6088cf20694db64664c757bfe136fee4220874fb", func := "loop.example/g00672/laws.FnExactNextUp", spec := "fnExactNextUp", named := ["loop.example/g00672/impl.formSizes"], apart := false, laid := [("loop.example/g00672/impl.formSizes", laid_loop_example_g00672_impl_formSizes)] }
def FnExactNextUpSaid : Prop := fnExactNextUpRow.holds Tryd.pinned (OpenSpec.ofChange fnExactNextUpSpec)

/-- ITS FALSE NEIGHBOUR: 'it returns false'. Refute it at one input. -/
def fnExactNextUpWrong : ChangeSpec := { name := "fnExactNextUp", vars := ["loop.example/g00672/impl.formSizes"], fn := fun _ => fun
  | [d1, d2, g1] => { results := [.lit (.bool false)], args := [d1, d2], vars := [g1] }
  | _ => none }
def FnExactNextUpWrongFalsely : Prop := fnExactNextUpRow.holds Tryd.pinned (OpenSpec.ofChange fnExactNextUpWrong)

/- THE SECOND FORM. 'bulk': how many values and letters a reading holds, each counted each time it is reached (what is shared counts as often as it is met; a slice's spare places count too). A statement '..UptoSaid' is the law's where the arguments, and the package variables that the reading takes, are together of bulk at most 1048576: NARROWER than '..Said'. Prove '..Said' where nothing that the law and all that it calls make is longer than what came in: it says more and counts as full. Else prove '..UptoSaid'. A law counts once. -/
mutual
def uptoBulk {H : Type} : DataW H → Nat
  | .lit (.string bytes) => bytes.length + 1
  | .lit _ => 1
  | .nil => 1
  | .ptr d => uptoBulk d + 1
  | .slice elems spare => uptoBulkAll elems + uptoBulkAll spare + 1
  | .agg parts => uptoBulkAll parts + 1
  | .iface _ d => uptoBulk d + 1
  | .map entries => uptoBulkEntries entries + 1
  | .held _ => 1
def uptoBulkAll {H : Type} : List (DataW H) → Nat
  | [] => 0
  | d :: r => uptoBulk d + uptoBulkAll r
def uptoBulkEntries {H : Type} : List (Lit × DataW H) → Nat
  | [] => 0
  | x :: r => uptoBulkEntry x + uptoBulkEntries r
def uptoBulkEntry {H : Type} : Lit × DataW H → Nat
  | (.string bytes, d) => bytes.length + uptoBulk d + 1
  | (_, d) => uptoBulk d + 1
 end
def uptoSmall : (H : Type) → List (DataW H) → Bool := fun _ ds => decide (uptoBulkAll ds ≤ 1048576)
def OpenSpec.upto (s : _root_.Go.ChangeSpec) : _root_.Go.OpenSpec := { _root_.Go.OpenSpec.ofChange s with cond := some uptoSmall }

/-- 'laws.FnExactZeroOf', WHERE WHAT IT READS IS OF BULK AT MOST 1048576: true; the input reads as it did. -/
def fnExactZeroOfUptoRow : OpenClaim := { program := "ytpphokbefichcaadoor", sum := "18f517d9d09f7e8b77316c1d6088cf20694db64664c757bfe136fee4220874fb", func := "loop.example/g00672/laws.FnExactZeroOf", spec := "fnExactZeroOf", named := ["loop.example/g00672/impl.formSizes"], apart := false, laid := [("loop.example/g00672/impl.formSizes", laid_loop_example_g00672_impl_formSizes)], narrowed := true }
def FnExactZeroOfUptoSaid : Prop := fnExactZeroOfUptoRow.holds Tryd.pinned (OpenSpec.upto fnExactZeroOfSpec)

/-- 'laws.FnExactNegated', WHERE WHAT IT READS IS OF BULK AT MOST 1048576: true; the input reads as it did. -/
def fnExactNegatedUptoRow : OpenClaim := { program := "ytpphokbefichcaadoor", sum := "18f517d9d09f7e8b77316c1d6088cf20694db64664c757bfe136fee4220874fb", func := "loop.example/g00672/laws.FnExactNegated", spec := "fnExactNegated", named := ["loop.example/g00672/impl.formSizes"], apart := false, laid := [("loop.example/g00672/impl.formSizes", laid_loop_example_g00672_impl_formSizes)], narrowed := true }
def FnExactNegatedUptoSaid : Prop := fnExactNegatedUptoRow.holds Tryd.pinned (OpenSpec.upto fnExactNegatedSpec)

/-- 'laws.FnExactAbsolute', WHERE WHAT IT READS IS OF BULK AT MOST 1048576: true; the input reads as it did. -/
def fnExactAbsoluteUptoRow : OpenClaim := { program := "ytpphokbefichcaadoor", sum := "18f517d9d09f7e8b77316c1d6088cf20694db64664c757bfe136fee4220874fb", func := "loop.example/g00672/laws.FnExactAbsolute", spec := "fnExactAbsolute", named := ["loop.example/g00672/impl.formSizes"], apart := false, laid := [("loop.example/g00672/impl.formSizes", laid_loop_example_g00672_impl_formSizes)], narrowed := true }
def FnExactAbsoluteUptoSaid : Prop := fnExactAbsoluteUptoRow.holds Tryd.pinned (OpenSpec.upto fnExactAbsoluteSpec)

/-- 'laws.FnExactOrderOf', WHERE WHAT IT READS IS OF BULK AT MOST 1048576: true; the input reads as it did. -/
def fnExactOrderOfUptoRow : OpenClaim := { program := "ytpphokbefichcaadoor", sum := "18f517d9d09f7e8b77316c1d6088cf20694db64664c757bfe136fee4220874fb", func := "loop.example/g00672/laws.FnExactOrderOf", spec := "fnExactOrderOf", named := ["loop.example/g00672/impl.formSizes"], apart := false, laid := [("loop.example/g00672/impl.formSizes", laid_loop_example_g00672_impl_formSizes)], narrowed := true }
def FnExactOrderOfUptoSaid : Prop := fnExactOrderOfUptoRow.holds Tryd.pinned (OpenSpec.upto fnExactOrderOfSpec)

/-- 'laws.FnExactCompareFloats', WHERE WHAT IT READS IS OF BULK AT MOST 1048576: true; the input reads as it did. -/
def fnExactCompareFloatsUptoRow : OpenClaim := { program := "ytpphokbefichcaadoor", sum := "18f517d9d09f7e8b77316c1d6088cf20694db64664c757bfe136fee4220874fb", func := "loop.example/g00672/laws.FnExactCompareFloats", spec := "fnExactCompareFloats", named := ["loop.example/g00672/impl.formSizes"], apart := false, laid := [("loop.example/g00672/impl.formSizes", laid_loop_example_g00672_impl_formSizes)], narrowed := true }
def FnExactCompareFloatsUptoSaid : Prop := fnExactCompareFloatsUptoRow.holds Tryd.pinned (OpenSpec.upto fnExactCompareFloatsSpec)

/-- 'laws.FnExactNextUp', WHERE WHAT IT READS IS OF BULK AT MOST 1048576: true; the input reads as it did. -/
def fnExactNextUpUptoRow : OpenClaim := { program := "ytpphokbefichcaadoor", sum := "18f517d9d09f7e8b77316c1d6088cf20694db64664c757bfe136fee4220874fb", func := "loop.example/g00672/laws.FnExactNextUp", spec := "fnExactNextUp", named := ["loop.example/g00672/impl.formSizes"], apart := false, laid := [("loop.example/g00672/impl.formSizes", laid_loop_example_g00672_impl_formSizes)], narrowed := true }
def FnExactNextUpUptoSaid : Prop := fnExactNextUpUptoRow.holds Tryd.pinned (OpenSpec.upto fnExactNextUpSpec)

end Rows
end Go.Proofs.YtpphokbefichcaaDoor
