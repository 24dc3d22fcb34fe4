/-
  NARROWER THAN 'FOR EVERY INPUT', by the rows' own cells (each row's printed sentence says how): FnExactFloatOk: laid · FnExactClassOf: laid · FnExactNaNOf: laid · FnExactInfOf: laid · FnExactGreatestOf: laid · FnExactLeastOf: laid.
  DERIVED. THE GIVEN ROWS OF THIS SEAT. 6 by the template 'for every input the law returns true; each argument reads behind the call as it read before'; 0 by the template 'total and deterministic' (their statements: YtgedhfmahfcdpaaDoorTotals.lean).
  GIVEN WITH THE SEED: the statements are not yours to turn. If you find one false, say at which input.
  Laid BY PROGRAM, IN A SANDBOX (cutbox-rows.mjs): the forced cells as the released guide's own fill.sh prints them over the translation 763f44031be5207f… (all of the seat's roots in one cut). By AI agents, Wed Nov 11 2026. No macro, syntax, notation, axiom, sorry.
-/
import Derived.Test.YtgedhfmahfcdpaaDoorChecked
import GoSem.Claim
import GoSem.ClaimJoined
import GoSem.ClaimMapViews
import Derived.JoinedTies
import Derived.KernelRfl
namespace Go.Proofs.YtgedhfmahfcdpaaDoor
/- THE CELL 'sum', in the pinned program and in every row, IS THE sha256 OF THE DUMP (.gsa) THAT YtgedhfmahfcdpaaDoorProg.lean LOADS. Nothing in Lean hashes anything: it is a label: what it is worth is what the hold of that sum in a sandbox is worth. -/
noncomputable def Tryd.pinned : Pinned := { name := "ytgedhfmahfcdpaadoor", sum := "763f44031be5207fa31adc52e856230de95f3d6e0bc8054e66363949ca7592cd", checked := Tryd.checked }
namespace Rows
def none {H : Type} : Left H := { results := [], args := [] }

/- WHAT THE LISTED PACKAGE-LEVEL VARIABLES READ AS WHEN THE CALL BEGINS. Each datum BY PROGRAM (the guide's laid-datum.mjs) off the statement by which the dump's own 'gosem.cut.vars' lays the variable. In a bare row this is a premise. The card (YtgedhfmahfcdpaaDoorCards.lean) ties it to the program's text. -/
def laid_loop_example_g00672_impl_formSizes {H : Type} : DataW H := .agg [.agg [.lit (.int .u64 0), .lit (.int .u64 0), .lit (.int .i64 0)], .agg [.lit (.int .u64 23), .lit (.int .u64 255), .lit (.int .i64 (-149))], .agg [.lit (.int .u64 52), .lit (.int .u64 2047), .lit (.int .i64 (-1074))]]

/-- 'laws.FnExactFloatOk': WHATEVER THE INPUT: true; the input reads as it did. -/
def fnExactFloatOkSpec : ChangeSpec := { name := "fnExactFloatOk", vars := ["loop.example/g00672/impl.formSizes"], fn := fun _ => fun
  | [d1, d2, g1] => { results := [.lit (.bool true)], args := [d1, d2], vars := [g1] }
  | _ => none }
def fnExactFloatOkRow : OpenClaim := { program := "ytgedhfmahfcdpaadoor", sum := "763f44031be5207fa31adc52e856230de95f3d6e0bc8054e66363949ca7592cd", func := "loop.example/g00672/laws.FnExactFloatOk", spec := "fnExactFloatOk", named := ["loop.example/g00672/impl.formSizes"], apart := false, laid := [("loop.example/g00672/impl.formSizes", laid_loop_example_g00672_impl_formSizes)] }
def FnExactFloatOkSaid : Prop := fnExactFloatOkRow.holds Tryd.pinned (OpenSpec.ofChange fnExactFloatOkSpec)

/-- ITS FALSE NEIGHBOUR: 'it returns false'. Refute it at one input. -/
def fnExactFloatOkWrong : ChangeSpec := { name := "fnExactFloatOk", vars := ["loop.example/g00672/impl.formSizes"], fn := fun _ => fun
  | [d1, d2, g1] => { results := [.lit (.bool false)], args := [d1, d2], vars := [g1] }
  | _ => none }
def FnExactFloatOkWrongFalsely : Prop := fnExactFloatOkRow.holds Tryd.pinned (OpenSpec.ofChange fnExactFloatOkWrong)

/-- 'laws.FnExactClassOf': WHATEVER THE INPUT: true; the input reads as it did. -/
def fnExactClassOfSpec : ChangeSpec := { name := "fnExactClassOf", vars := ["loop.example/g00672/impl.formSizes"], fn := fun _ => fun
  | [d1, d2, g1] => { results := [.lit (.bool true)], args := [d1, d2], vars := [g1] }
  | _ => none }
def fnExactClassOfRow : OpenClaim := { program := "ytgedhfmahfcdpaadoor", sum := "763f44031be5207fa31adc52e856230de95f3d6e0bc8054e66363949ca7592cd", func := "loop.example/g00672/laws.FnExactClassOf", spec := "fnExactClassOf", named := ["loop.example/g00672/impl.formSizes"], apart := false, laid := [("loop.example/g00672/impl.formSizes", laid_loop_example_g00672_impl_formSizes)] }
def FnExactClassOfSaid : Prop := fnExactClassOfRow.holds Tryd.pinned (OpenSpec.ofChange fnExactClassOfSpec)

/-- ITS FALSE NEIGHBOUR: 'it returns false'. Refute it at one input. -/
def fnExactClassOfWrong : ChangeSpec := { name := "fnExactClassOf", vars := ["loop.example/g00672/impl.formSizes"], fn := fun _ => fun
  | [d1, d2, g1] => { results := [.lit (.bool false)], args := [d1, d2], vars := [g1] }
  | _ => none }
def FnExactClassOfWrongFalsely : Prop := fnExactClassOfRow.holds Tryd.pinned (OpenSpec.ofChange fnExactClassOfWrong)

/-- 'laws.FnExactNaNOf': WHATEVER THE INPUT: true; the input reads as it did. -/
def fnExactNaNOfSpec : ChangeSpec := { name := "fnExactNaNOf", vars := ["loop.example/g00672/impl.formSizes"], fn := fun _ => fun
  | [d, g1] => { results := [.lit (.bool true)], args := [d], vars := [g1] }
  | _ => none }
def fnExactNaNOfRow : OpenClaim := { program := "ytgedhfmahfcdpaadoor", sum := "763f44031be5207fa31adc52e856230de95f3d6e0bc8054e66363949ca7592cd", func := "loop.example/g00672/laws.FnExactNaNOf", spec := "fnExactNaNOf", named := ["loop.example/g00672/impl.formSizes"], apart := false, laid := [("loop.example/g00672/impl.formSizes", laid_loop_example_g00672_impl_formSizes)] }
def FnExactNaNOfSaid : Prop := fnExactNaNOfRow.holds Tryd.pinned (OpenSpec.ofChange fnExactNaNOfSpec)

/-- ITS FALSE NEIGHBOUR: 'it returns false'. Refute it at one input. -/
def fnExactNaNOfWrong : ChangeSpec := { name := "fnExactNaNOf", vars := ["loop.example/g00672/impl.formSizes"], fn := fun _ => fun
  | [d, g1] => { results := [.lit (.bool false)], args := [d], vars := [g1] }
  | _ => none }
def FnExactNaNOfWrongFalsely : Prop := fnExactNaNOfRow.holds Tryd.pinned (OpenSpec.ofChange fnExactNaNOfWrong)

/-- 'laws.FnExactInfOf': WHATEVER THE INPUT: true; the input reads as it did. -/
def fnExactInfOfSpec : ChangeSpec := { name := "fnExactInfOf", vars := ["loop.example/g00672/impl.formSizes"], fn := fun _ => fun
  | [d1, d2, g1] => { results := [.lit (.bool true)], args := [d1, d2], vars := [g1] }
  | _ => none }
def fnExactInfOfRow : OpenClaim := { program := "ytgedhfmahfcdpaadoor", sum := "763f44031be5207fa31adc52e856230de95f3d6e0bc8054e66363949ca7592cd", func := "loop.example/g00672/laws.FnExactInfOf", spec := "fnExactInfOf", named := ["loop.example/g00672/impl.formSizes"], apart := false, laid := [("loop.example/g00672/impl.formSizes", laid_loop_example_g00672_impl_formSizes)] }
def FnExactInfOfSaid : Prop := fnExactInfOfRow.holds Tryd.pinned (OpenSpec.ofChange fnExactInfOfSpec)

/-- ITS FALSE NEIGHBOUR: 'it returns false'. Refute it at one input. -/
def fnExactInfOfWrong : ChangeSpec := { name := "fnExactInfOf", vars := ["loop.example/g00672/impl.formSizes"], fn := fun _ => fun
  | [d1, d2, g1] => { results := [.lit (.bool false)], args := [d1, d2], vars := [g1] }
  | _ => none }
def FnExactInfOfWrongFalsely : Prop := fnExactInfOfRow.holds Tryd.pinned (OpenSpec.ofChange fnExactInfOfWrong)

/-- 'laws.FnExactGreatestOf': WHATEVER THE INPUT: true; the input reads as it did. -/
def fnExactGreatestOfSpec : ChangeSpec := { name := "fnExactGreatestOf", vars := ["loop.example/g00672/impl.formSizes"], fn := fun _ => fun
  | [d1, d2, g1] => { results := [.lit (.bool true)], args := [d1, d2], vars := [g1] }
  | _ => none }
def fnExactGreatestOfRow : OpenClaim := { program := "ytgedhfmahfcdpaadoor", sum := "763f44031be5207fa31adc52e856230de95f3d6e0bc8054e66363949ca7592cd", func := "loop.example/g00672/laws.FnExactGreatestOf", spec := "fnExactGreatestOf", named := ["loop.example/g00672/impl.formSizes"], apart := false, laid := [("loop.example/g00672/impl.formSizes", laid_loop_example_g00672_impl_formSizes)] }
def FnExactGreatestOfSaid : Prop := fnExactGreatestOfRow.holds Tryd.pinned (OpenSpec.ofChange fnExactGreatestOfSpec)

/-- ITS FALSE NEIGHBOUR: 'it returns false'. Refute it at one input. -/
def fnExactGreatestOfWrong : ChangeSpec := { name := "fnExactGreatestOf", vars := ["loop.example/g00672/impl.formSizes"], fn := fun _ => fun
  | [d1, d2, g1] => { results := [.lit (.bool false)], args := [d1, d2], vars := [g1] }
  | _ => none }
def FnExactGreatestOfWrongFalsely : Prop := fnExactGreatestOfRow.holds Tryd.pinned (OpenSpec.ofChange fnExactGreatestOfWrong)

/-- 'laws.FnExactLeastOf': WHATEVER THE INPUT: true; the input reads as it did. -/
def fnExactLeastOfSpec : ChangeSpec := { name := "fnExactLeastOf", vars := ["loop.example/g00672/impl.formSizes"], fn := fun _ => fun
  | [d1, d2, g1] => { results := [.lit (.bool true)], args := [d1, d2], vars := [g1] }
  | _ => none }
def fnExactLeastOfRow : OpenClaim := { program := "ytgedhfmahfcdpaadoor", sum := "763f44031be5207fa31adc52e856230de95f3d6e0bc8054e66363949ca7592cd", func := "loop.example/g00672/laws.FnExactLeastOf", spec := "fnExactLeastOf", named := ["loop.example/g00672/impl.formSizes"], apart := false, laid := [("loop.example/g00672/impl.formSizes", laid_loop_example_g00672_impl_formSizes)] }
def FnExactLeastOfSaid : Prop := fnExactLeastOfRow.holds Tryd.pinned (OpenSpec.ofChange fnExactLeastOfSpec)

/-- ITS FALSE NEIGHBOUR: 'it returns false'. Refute it at one input. -/
def fnExactLeastOfWrong : ChangeSpec := { name := "fnExactLeastOf", vars := ["loop.example/g00672/impl.formSizes"], fn := fun _ => fun
  | [d1, d2, g1] => { results := [.lit (.bool false)], args := [d1, d2], vars := [g1] }
  | _ => none }
def FnExactLeastOfWrongFalsely : Prop := fnExactLeastOfRow.holds Tryd.pinned (OpenSpec.ofChange fnExactLeastOfWrong)

/- THE SECOND FORM. 'bulk': how many values and letters a reading holds, each counted each time it is reached (what is shared counts as often as it is met; a slice's spare places count too). A statement '..UptoSaid' is the law's where the arguments, and the package variables that the reading takes, are together of bulk at most 1048576: NARROWER than '..Said'. Prove '..Said' where nothing that the law and all that it calls make is longer than what came in: it says more and counts as full. Else prove '..UptoSaid'. A law counts once. -/
mutual
def uptoBulk {H : Type} : DataW H → Nat
  | .lit (.string bytes) => bytes.length + 1
  | .lit _ => 1
  | .nil => 1
  | .ptr d => uptoBulk d + 1
  | .slice elems spare => uptoBulkAll elems + uptoBulkAll spare + 1
  | .agg parts => uptoBulkAll parts + 1
  | .iface _ d => uptoBulk d + 1
  | .map entries => uptoBulkEntries entries + 1
  | .held _ => 1
def uptoBulkAll {H : Type} : List (DataW H) → Nat
  | [] => 0
  | d :: r => uptoBulk d + uptoBulkAll r
def uptoBulkEntries {H : Type} : List (Lit × DataW H) → Nat
  | [] => 0
  | x :: r => uptoBulkEntry x + uptoBulkEntries r
def uptoBulkEntry {H : Type} : Lit × DataW H → Nat
  | (.string bytes, d) => bytes.length + uptoBulk d + 1
  | (_, d) => uptoBulk d + 1
 end
def uptoSmall : (H : Type) → List (DataW H) → Bool := fun _ ds => decide (uptoBulkAll ds ≤ 1048576)
def OpenSpec.upto (s : _root_.Go.ChangeSpec) : _root_.Go.OpenSpec := { _root_.Go.OpenSpec.ofChange s with cond := some uptoSmall }

/-- 'laws.FnExactFloatOk', WHERE WHAT IT READS IS OF BULK AT MOST 1048576: true; the input reads as it did. -/
def fnExactFloatOkUptoRow : OpenClaim := { program := "ytgedhfmahfcdpaadoor", sum := "763f44031be5207fa31adc52e856230de95f3d6e0bc8054e66363949ca7592cd", func := "loop.example/g00672/laws.FnExactFloatOk", spec := "fnExactFloatOk", named := ["loop.example/g00672/impl.formSizes"], apart := false, laid := [("loop.example/g00672/impl.formSizes", laid_loop_example_g00672_impl_formSizes)], narrowed := true }
def FnExactFloatOkUptoSaid : Prop := fnExactFloatOkUptoRow.holds Tryd.pinned (OpenSpec.upto fnExactFloatOkSpec)

/-- 'laws.FnExactClassOf', WHERE WHAT IT READS IS OF BULK AT MOST 1048576: true; the input reads as it did. -/
def fnExactClassOfUptoRow : OpenClaim := { program := "ytgedhfmahfcdpaadoor", sum := "763f44031be5207fa31adc52e856230de95f3d6e0bc8054e66363949ca7592cd", func := "loop.example/g00672/laws.FnExactClassOf", spec := "fnExactClassOf", named := ["loop.example/g00672/impl.formSizes"], apart := false, laid := [("loop.example/g00672/impl.formSizes", laid_loop_example_g00672_impl_formSizes)], narrowed := true }
def FnExactClassOfUptoSaid : Prop := fnExactClassOfUptoRow.holds Tryd.pinned (OpenSpec.upto fnExactClassOfSpec)

/-- 'laws.FnExactNaNOf', WHERE WHAT IT READS IS OF BULK AT MOST 1048576: true; the input reads as it did. -/
def fnExactNaNOfUptoRow : OpenClaim := { program := "ytgedhfmahfcdpaadoor", sum := "763f44031be5207fa31adc52e856230de95f3d6e0bc8054e66363949ca7592cd", func := "loop.example/g00672/laws.FnExactNaNOf", spec := "fnExactNaNOf", named := ["loop.example/g00672/impl.formSizes"], apart := false, laid := [("loop.example/g00672/impl.formSizes", laid_loop_example_g00672_impl_formSizes)], narrowed := true }
def FnExactNaNOfUptoSaid : Prop := fnExactNaNOfUptoRow.holds Tryd.pinned (OpenSpec.upto fnExactNaNOfSpec)

/-- 'laws.FnExactInfOf', WHERE WHAT IT READS IS OF BULK AT MOST 1048576: true; the input reads as it did. -/
def fnExactInfOfUptoRow : OpenClaim := { program := "ytgedhfmahfcdpaadoor", sum := "763f44031be5207fa31adc52e856230de95f3d6e0bc8054e66363949ca7592cd", func := "loop.example/g00672/laws.FnExactInfOf", spec := "fnExactInfOf", named := ["loop.example/g00672/impl.formSizes"], apart := false, laid := [("loop.example/g00672/impl.formSizes", laid_loop_example_g00672_impl_formSizes)], narrowed := true }
def FnExactInfOfUptoSaid : Prop := fnExactInfOfUptoRow.holds Tryd.pinned (OpenSpec.upto fnExactInfOfSpec)

/-- 'laws.FnExactGreatestOf', WHERE WHAT IT READS IS OF BULK AT MOST 1048576: true; the input reads as it did. -/
def fnExactGreatestOfUptoRow : OpenClaim := { program := "ytgedhfmahfcdpaadoor", sum := "763f44031be5207fa31adc52e856230de95f3d6e0bc8054e66363949ca7592cd", func := "loop.example/g00672/laws.FnExactGreatestOf", spec := "fnExactGreatestOf", named := ["loop.example/g00672/impl.formSizes"], apart := false, laid := [("loop.example/g00672/impl.formSizes", laid_loop_example_g00672_impl_formSizes)], narrowed := true }
def FnExactGreatestOfUptoSaid : Prop := fnExactGreatestOfUptoRow.holds Tryd.pinned (OpenSpec.upto fnExactGreatestOfSpec)

/-- 'laws.FnExactLeastOf', WHERE WHAT IT READS IS OF BULK AT MOST 1048576: true; the input reads as it did. -/
def fnExactLeastOfUptoRow : OpenClaim := { program := "ytgedhfmahfcdpaadoor", sum := "763f44031be5207fa31adc52e856230de95f3d6e0bc8054e66363949ca7592cd", func := "loop.example/g00672/laws.FnExactLeastOf", spec := "fnExactLeastOf", named := ["loop.example/g00672/impl.formSizes"], apart := false, laid := [("loop.example/g00672/impl.formSizes", laid_loop_example_g00672_impl_formSizes)], narrowed := true }
def FnExactLeastOfUptoSaid : Prop := fnExactLeastOfUptoRow.holds Tryd.pinned (OpenSpec.upto fnExactLeastOfSpec)

end Rows
end Go.Proofs.YtgedhfmahfcdpaaDoor
