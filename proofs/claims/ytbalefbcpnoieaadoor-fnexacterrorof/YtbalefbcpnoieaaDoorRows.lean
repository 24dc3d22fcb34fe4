/-
  NARROWER THAN 'FOR EVERY INPUT', by the rows' own cells (each row's printed sentence says how): FnExactTopOf: laid · FnExactDigitOf: laid · FnExactErrorOf: laid · FnExactBinOk: laid · FnExactBinMerge: laid.
  DERIVED. THE GIVEN ROWS OF THIS SEAT. 5 by the template 'for every input the law returns true; each argument reads behind the call as it read before'; 0 by the template 'total and deterministic' (their statements: YtbalefbcpnoieaaDoorTotals.lean).
  GIVEN WITH THE SEED: the statements are not yours to turn. If you find one false, say at which input.
  Laid BY PROGRAM, IN A SANDBOX (cutbox-rows.mjs): the forced cells as the released guide's own fill.sh prints them over the translation 0c719590fea947ff… (all of the seat's roots in one cut). By AI agents, Wed Nov 11 2026. No macro, syntax, notation, axiom, sorry.
-/
import Derived.Test.YtbalefbcpnoieaaDoorChecked
import GoSem.Claim
import GoSem.ClaimJoined
import GoSem.ClaimMapViews
import Derived.JoinedTies
import Derived.KernelRfl
namespace Go.Proofs.YtbalefbcpnoieaaDoor
/- THE CELL 'sum', in the pinned program and in every row, IS THE sha256 OF THE DUMP (.gsa) THAT YtbalefbcpnoieaaDoorProg.lean LOADS. Nothing in Lean hashes anything: it is a label: what it is worth is what the hold of that sum in a sandbox is worth. -/
noncomputable def Tryd.pinned : Pinned := { name := "ytbalefbcpnoieaadoor", sum := "0c719590fea947ff31ac0687f502f9aeb014792ced479d6b3b4a3b5fcc94db3e", checked := Tryd.checked }
namespace Rows
def none {H : Type} : Left H := { results := [], args := [] }

/- WHAT THE LISTED PACKAGE-LEVEL VARIABLES READ AS WHEN THE CALL BEGINS. Each datum BY PROGRAM (the guide's laid-datum.mjs) off the statement by which the dump's own 'gosem.cut.vars' lays the variable. In a bare row this is a premise. The card (YtbalefbcpnoieaaDoorCards.lean) ties it to the program's text. -/
def laid_loop_example_g00672_impl_formSizes {H : Type} : DataW H := .agg [.agg [.lit (.int .u64 0), .lit (.int .u64 0), .lit (.int .i64 0)], .agg [.lit (.int .u64 23), .lit (.int .u64 255), .lit (.int .i64 (-149))], .agg [.lit (.int .u64 52), .lit (.int .u64 2047), .lit (.int .i64 (-1074))]]

/-- 'laws.FnExactTopOf': WHATEVER THE INPUT: true; the input reads as it did. -/
def fnExactTopOfSpec : ChangeSpec := { name := "fnExactTopOf", vars := ["loop.example/g00672/impl.formSizes"], fn := fun _ => fun
  | [d1, d2, g1] => { results := [.lit (.bool true)], args := [d1, d2], vars := [g1] }
  | _ => none }
def fnExactTopOfRow : OpenClaim := { program := "ytbalefbcpnoieaadoor", sum := "0c719590fea947ff31ac0687f502f9aeb014792ced479d6b3b4a3b5fcc94db3e", func := "loop.example/g00672/laws.FnExactTopOf", spec := "fnExactTopOf", named := ["loop.example/g00672/impl.formSizes"], apart := false, laid := [("loop.example/g00672/impl.formSizes", laid_loop_example_g00672_impl_formSizes)] }
def FnExactTopOfSaid : Prop := fnExactTopOfRow.holds Tryd.pinned (OpenSpec.ofChange fnExactTopOfSpec)

/-- ITS FALSE NEIGHBOUR: 'it returns false'. Refute it at one input. -/
def fnExactTopOfWrong : ChangeSpec := { name := "fnExactTopOf", vars := ["loop.example/g00672/impl.formSizes"], fn := fun _ => fun
  | [d1, d2, g1] => { results := [.lit (.bool false)], args := [d1, d2], vars := [g1] }
  | _ => none }
def FnExactTopOfWrongFalsely : Prop := fnExactTopOfRow.holds Tryd.pinned (OpenSpec.ofChange fnExactTopOfWrong)

/-- 'laws.FnExactDigitOf': WHATEVER THE INPUT: true; the input reads as it did. -/
def fnExactDigitOfSpec : ChangeSpec := { name := "fnExactDigitOf", vars := ["loop.example/g00672/impl.formSizes"], fn := fun _ => fun
  | [d1, d2, d3, g1] => { results := [.lit (.bool true)], args := [d1, d2, d3], vars := [g1] }
  | _ => none }
def fnExactDigitOfRow : OpenClaim := { program := "ytbalefbcpnoieaadoor", sum := "0c719590fea947ff31ac0687f502f9aeb014792ced479d6b3b4a3b5fcc94db3e", func := "loop.example/g00672/laws.FnExactDigitOf", spec := "fnExactDigitOf", named := ["loop.example/g00672/impl.formSizes"], apart := false, laid := [("loop.example/g00672/impl.formSizes", laid_loop_example_g00672_impl_formSizes)] }
def FnExactDigitOfSaid : Prop := fnExactDigitOfRow.holds Tryd.pinned (OpenSpec.ofChange fnExactDigitOfSpec)

/-- ITS FALSE NEIGHBOUR: 'it returns false'. Refute it at one input. -/
def fnExactDigitOfWrong : ChangeSpec := { name := "fnExactDigitOf", vars := ["loop.example/g00672/impl.formSizes"], fn := fun _ => fun
  | [d1, d2, d3, g1] => { results := [.lit (.bool false)], args := [d1, d2, d3], vars := [g1] }
  | _ => none }
def FnExactDigitOfWrongFalsely : Prop := fnExactDigitOfRow.holds Tryd.pinned (OpenSpec.ofChange fnExactDigitOfWrong)

/-- 'laws.FnExactErrorOf': WHATEVER THE INPUT: true; the input reads as it did. -/
def fnExactErrorOfSpec : ChangeSpec := { name := "fnExactErrorOf", vars := ["loop.example/g00672/impl.formSizes"], fn := fun _ => fun
  | [d1, d2, d3, g1] => { results := [.lit (.bool true)], args := [d1, d2, d3], vars := [g1] }
  | _ => none }
def fnExactErrorOfRow : OpenClaim := { program := "ytbalefbcpnoieaadoor", sum := "0c719590fea947ff31ac0687f502f9aeb014792ced479d6b3b4a3b5fcc94db3e", func := "loop.example/g00672/laws.FnExactErrorOf", spec := "fnExactErrorOf", named := ["loop.example/g00672/impl.formSizes"], apart := false, laid := [("loop.example/g00672/impl.formSizes", laid_loop_example_g00672_impl_formSizes)] }
def FnExactErrorOfSaid : Prop := fnExactErrorOfRow.holds Tryd.pinned (OpenSpec.ofChange fnExactErrorOfSpec)

/-- ITS FALSE NEIGHBOUR: 'it returns false'. Refute it at one input. -/
def fnExactErrorOfWrong : ChangeSpec := { name := "fnExactErrorOf", vars := ["loop.example/g00672/impl.formSizes"], fn := fun _ => fun
  | [d1, d2, d3, g1] => { results := [.lit (.bool false)], args := [d1, d2, d3], vars := [g1] }
  | _ => none }
def FnExactErrorOfWrongFalsely : Prop := fnExactErrorOfRow.holds Tryd.pinned (OpenSpec.ofChange fnExactErrorOfWrong)

/-- 'laws.FnExactBinOk': WHATEVER THE INPUT: true; the input reads as it did. -/
def fnExactBinOkSpec : ChangeSpec := { name := "fnExactBinOk", vars := ["loop.example/g00672/impl.formSizes"], fn := fun _ => fun
  | [d, g1] => { results := [.lit (.bool true)], args := [d], vars := [g1] }
  | _ => none }
def fnExactBinOkRow : OpenClaim := { program := "ytbalefbcpnoieaadoor", sum := "0c719590fea947ff31ac0687f502f9aeb014792ced479d6b3b4a3b5fcc94db3e", func := "loop.example/g00672/laws.FnExactBinOk", spec := "fnExactBinOk", named := ["loop.example/g00672/impl.formSizes"], apart := false, laid := [("loop.example/g00672/impl.formSizes", laid_loop_example_g00672_impl_formSizes)] }
def FnExactBinOkSaid : Prop := fnExactBinOkRow.holds Tryd.pinned (OpenSpec.ofChange fnExactBinOkSpec)

/-- ITS FALSE NEIGHBOUR: 'it returns false'. Refute it at one input. -/
def fnExactBinOkWrong : ChangeSpec := { name := "fnExactBinOk", vars := ["loop.example/g00672/impl.formSizes"], fn := fun _ => fun
  | [d, g1] => { results := [.lit (.bool false)], args := [d], vars := [g1] }
  | _ => none }
def FnExactBinOkWrongFalsely : Prop := fnExactBinOkRow.holds Tryd.pinned (OpenSpec.ofChange fnExactBinOkWrong)

/-- 'laws.FnExactBinMerge': WHATEVER THE INPUT: true; the input reads as it did. -/
def fnExactBinMergeSpec : ChangeSpec := { name := "fnExactBinMerge", vars := ["loop.example/g00672/impl.formSizes"], fn := fun _ => fun
  | [d1, d2, g1] => { results := [.lit (.bool true)], args := [d1, d2], vars := [g1] }
  | _ => none }
def fnExactBinMergeRow : OpenClaim := { program := "ytbalefbcpnoieaadoor", sum := "0c719590fea947ff31ac0687f502f9aeb014792ced479d6b3b4a3b5fcc94db3e", func := "loop.example/g00672/laws.FnExactBinMerge", spec := "fnExactBinMerge", named := ["loop.example/g00672/impl.formSizes"], apart := false, laid := [("loop.example/g00672/impl.formSizes", laid_loop_example_g00672_impl_formSizes)] }
def FnExactBinMergeSaid : Prop := fnExactBinMergeRow.holds Tryd.pinned (OpenSpec.ofChange fnExactBinMergeSpec)

/-- ITS FALSE NEIGHBOUR: 'it returns false'. Refute it at one input. -/
def fnExactBinMergeWrong : ChangeSpec := { name := "fnExactBinMerge", vars := ["loop.example/g00672/impl.formSizes"], fn := fun _ => fun
  | [d1, d2, g1] => { results := [.lit (.bool false)], args := [d1, d2], vars := [g1] }
  | _ => none }
def FnExactBinMergeWrongFalsely : Prop := fnExactBinMergeRow.holds Tryd.pinned (OpenSpec.ofChange fnExactBinMergeWrong)

/- THE SECOND FORM. 'bulk': how many values and letters a reading holds, each counted each time it is reached (what is shared counts as often as it is met; a slice's spare places count too). A statement '..UptoSaid' is the law's where the arguments, and the package variables that the reading takes, are together of bulk at most 1048576: NARROWER than '..Said'. Prove '..Said' where nothing that the law and all that it calls make is longer than what came in: it says more and counts as full. Else prove '..UptoSaid'. A law counts once. -/
mutual
def uptoBulk {H : Type} : DataW H → Nat
  | .lit (.string bytes) => bytes.length + 1
  | .lit _ => 1
  | .nil => 1
  | .ptr d => uptoBulk d + 1
  | .slice elems spare => uptoBulkAll elems + uptoBulkAll spare + 1
  | .agg parts => uptoBulkAll parts + 1
  | .iface _ d => uptoBulk d + 1
  | .map entries => uptoBulkEntries entries + 1
  | .held _ => 1
def uptoBulkAll {H : Type} : List (DataW H) → Nat
  | [] => 0
  | d :: r => uptoBulk d + uptoBulkAll r
def uptoBulkEntries {H : Type} : List (Lit × DataW H) → Nat
  | [] => 0
  | x :: r => uptoBulkEntry x + uptoBulkEntries r
def uptoBulkEntry {H : Type} : Lit × DataW H → Nat
  | (.string bytes, d) => bytes.length + uptoBulk d + 1
  | (_, d) => uptoBulk d + 1
 end
def uptoSmall : (H : Type) → List (DataW H) → Bool := fun _ ds => decide (uptoBulkAll ds ≤ 1048576)
def OpenSpec.upto (s : _root_.Go.ChangeSpec) : _root_.Go.OpenSpec := { _root_.Go.OpenSpec.ofChange s with cond := some uptoSmall }

/-- 'laws.FnExactTopOf', WHERE WHAT IT READS IS OF BULK AT MOST 1048576: true; the input reads as it did. -/
def fnExactTopOfUptoRow : OpenClaim := { program := "ytbalefbcpnoieaadoor", sum := "0c719590fea947ff31ac0687f502f9aeb014792ced479d6b3b4a3b5fcc94db3e", func := "loop.example/g00672/laws.FnExactTopOf", spec := "fnExactTopOf", named := ["loop.example/g00672/impl.formSizes"], apart := false, laid := [("loop.example/g00672/impl.formSizes", laid_loop_example_g00672_impl_formSizes)], narrowed := true }
def FnExactTopOfUptoSaid : Prop := fnExactTopOfUptoRow.holds Tryd.pinned (OpenSpec.upto fnExactTopOfSpec)

/-- 'laws.FnExactDigitOf', WHERE WHAT IT READS IS OF BULK AT MOST 1048576: true; the input reads as it did. -/
def fnExactDigitOfUptoRow : OpenClaim := { program := "ytbalefbcpnoieaadoor", sum := "0c719590fea947ff31ac0687f502f9aeb014792ced479d6b3b4a3b5fcc94db3e", func := "loop.example/g00672/laws.FnExactDigitOf", spec := "fnExactDigitOf", named := ["loop.example/g00672/impl.formSizes"], apart := false, laid := [("loop.example/g00672/impl.formSizes", laid_loop_example_g00672_impl_formSizes)], narrowed := true }
def FnExactDigitOfUptoSaid : Prop := fnExactDigitOfUptoRow.holds Tryd.pinned (OpenSpec.upto fnExactDigitOfSpec)

/-- 'laws.FnExactErrorOf', WHERE WHAT IT READS IS OF BULK AT MOST 1048576: true; the input reads as it did. -/
def fnExactErrorOfUptoRow : OpenClaim := { program := "ytbalefbcpnoieaadoor", sum := "0c719590fea947ff31ac0687f502f9aeb014792ced479d6b3b4a3b5fcc94db3e", func := "loop.example/g00672/laws.FnExactErrorOf", spec := "fnExactErrorOf", named := ["loop.example/g00672/impl.formSizes"], apart := false, laid := [("loop.example/g00672/impl.formSizes", laid_loop_example_g00672_impl_formSizes)], narrowed := true }
def FnExactErrorOfUptoSaid : Prop := fnExactErrorOfUptoRow.holds Tryd.pinned (OpenSpec.upto fnExactErrorOfSpec)

/-- 'laws.FnExactBinOk', WHERE WHAT IT READS IS OF BULK AT MOST 1048576: true; the input reads as it did. -/
def fnExactBinOkUptoRow : OpenClaim := { program := "ytbalefbcpnoieaadoor", sum := "0c719590fea947ff31ac0687f502f9aeb014792ced479d6b3b4a3b5fcc94db3e", func := "loop.example/g00672/laws.FnExactBinOk", spec := "fnExactBinOk", named := ["loop.example/g00672/impl.formSizes"], apart := false, laid := [("loop.example/g00672/impl.formSizes", laid_loop_example_g00672_impl_formSizes)], narrowed := true }
def FnExactBinOkUptoSaid : Prop := fnExactBinOkUptoRow.holds Tryd.pinned (OpenSpec.upto fnExactBinOkSpec)

/-- 'laws.FnExactBinMerge', WHERE WHAT IT READS IS OF BULK AT MOST 1048576: true; the input reads as it did. -/
def fnExactBinMergeUptoRow : OpenClaim := { program := "ytbalefbcpnoieaadoor", sum := "0c719590fea947ff31ac0687f502f9aeb014792ced479d6b3b4a3b5fcc94db3e", func := "loop.example/g00672/laws.FnExactBinMerge", spec := "fnExactBinMerge", named := ["loop.example/g00672/impl.formSizes"], apart := false, laid := [("loop.example/g00672/impl.formSizes", laid_loop_example_g00672_impl_formSizes)], narrowed := true }
def FnExactBinMergeUptoSaid : Prop := fnExactBinMergeUptoRow.holds Tryd.pinned (OpenSpec.upto fnExactBinMergeSpec)

end Rows
end Go.Proofs.YtbalefbcpnoieaaDoor
