/-
  No cell of these rows narrows 'for every input' (looked for: loops, veiled, ifaces, maps, wideKeys, modest, calm, conditions, laid).
  DERIVED. THE GIVEN ROWS OF THIS SEAT. 10 by the template 'for every input the law returns true; each argument reads behind the call as it read before'; 0 by the template 'total and deterministic' (their statements: YtklpajphbkokcaaTotals.lean).
  GIVEN WITH THE SEED: the statements are not yours to turn. If you find one false, say at which input.
  Laid BY PROGRAM, IN A SANDBOX (cutbox-rows.mjs): the forced cells as the released guide's own fill.sh prints them over the translation 6949f858ccffddeb… (all of the seat's roots in one cut). By AI agents, Wed Nov 11 2026. No macro, syntax, notation, axiom, sorry.
-/
import Derived.Test.YtklpajphbkokcaaChecked
import GoSem.Claim
import GoSem.ClaimJoined
import GoSem.ClaimMapViews
import Derived.JoinedTies
import Derived.KernelRfl
namespace Go.Proofs.Ytklpajphbkokcaa
/- THE CELL 'sum', in the pinned program and in every row, IS THE sha256 OF THE DUMP (.gsa) THAT YtklpajphbkokcaaProg.lean LOADS. Nothing in Lean hashes anything: it is a label: what it is worth is what the hold of that sum in a sandbox is worth. -/
noncomputable def Try.pinned : Pinned := { name := "ytklpajphbkokcaa", sum := "6949f858ccffddeb5fbe2aa8fe52bb1a5769153998507d37ef9f95c2305a17ae", checked := Try.checked }
namespace Rows
def none {H : Type} : Left H := { results := [], args := [] }

/-- 'laws.FnExactTaskCount': WHATEVER THE INPUT: true; the input reads as it did. -/
def fnExactTaskCountSpec : ChangeSpec := { name := "fnExactTaskCount", fn := fun _ => fun
  | [d1, d2] => { results := [.lit (.bool true)], args := [d1, d2] }
  | _ => none }
def fnExactTaskCountRow : OpenClaim := { program := "ytklpajphbkokcaa", sum := "6949f858ccffddeb5fbe2aa8fe52bb1a5769153998507d37ef9f95c2305a17ae", func := "loop.example/g00672/laws.FnExactTaskCount", spec := "fnExactTaskCount", recurses := true, apart := false }
def FnExactTaskCountSaid : Prop := fnExactTaskCountRow.holds Try.pinned (OpenSpec.ofChange fnExactTaskCountSpec)

/-- ITS FALSE NEIGHBOUR: 'it returns false'. Refute it at one input. -/
def fnExactTaskCountWrong : ChangeSpec := { name := "fnExactTaskCount", fn := fun _ => fun
  | [d1, d2] => { results := [.lit (.bool false)], args := [d1, d2] }
  | _ => none }
def FnExactTaskCountWrongFalsely : Prop := fnExactTaskCountRow.holds Try.pinned (OpenSpec.ofChange fnExactTaskCountWrong)

/-- 'laws.FnTaskCount': WHATEVER THE INPUT: true; the input reads as it did. -/
def fnTaskCountSpec : ChangeSpec := { name := "fnTaskCount", fn := fun _ => fun
  | [d] => { results := [.lit (.bool true)], args := [d] }
  | _ => none }
def fnTaskCountRow : OpenClaim := { program := "ytklpajphbkokcaa", sum := "6949f858ccffddeb5fbe2aa8fe52bb1a5769153998507d37ef9f95c2305a17ae", func := "loop.example/g00672/laws.FnTaskCount", spec := "fnTaskCount", recurses := true, apart := false }
def FnTaskCountSaid : Prop := fnTaskCountRow.holds Try.pinned (OpenSpec.ofChange fnTaskCountSpec)

/-- ITS FALSE NEIGHBOUR: 'it returns false'. Refute it at one input. -/
def fnTaskCountWrong : ChangeSpec := { name := "fnTaskCount", fn := fun _ => fun
  | [d] => { results := [.lit (.bool false)], args := [d] }
  | _ => none }
def FnTaskCountWrongFalsely : Prop := fnTaskCountRow.holds Try.pinned (OpenSpec.ofChange fnTaskCountWrong)

/-- 'laws.FnExactBinNew': WHATEVER THE INPUT: true; the input reads as it did. -/
def fnExactBinNewSpec : ChangeSpec := { name := "fnExactBinNew", fn := fun _ => fun
  | [d1, d2] => { results := [.lit (.bool true)], args := [d1, d2] }
  | _ => none }
def fnExactBinNewRow : OpenClaim := { program := "ytklpajphbkokcaa", sum := "6949f858ccffddeb5fbe2aa8fe52bb1a5769153998507d37ef9f95c2305a17ae", func := "loop.example/g00672/laws.FnExactBinNew", spec := "fnExactBinNew", apart := false }
def FnExactBinNewSaid : Prop := fnExactBinNewRow.holds Try.pinned (OpenSpec.ofChange fnExactBinNewSpec)

/-- ITS FALSE NEIGHBOUR: 'it returns false'. Refute it at one input. -/
def fnExactBinNewWrong : ChangeSpec := { name := "fnExactBinNew", fn := fun _ => fun
  | [d1, d2] => { results := [.lit (.bool false)], args := [d1, d2] }
  | _ => none }
def FnExactBinNewWrongFalsely : Prop := fnExactBinNewRow.holds Try.pinned (OpenSpec.ofChange fnExactBinNewWrong)

/-- 'laws.FnExactMachineOk': WHATEVER THE INPUT: true; the input reads as it did. -/
def fnExactMachineOkSpec : ChangeSpec := { name := "fnExactMachineOk", fn := fun _ => fun
  | [d] => { results := [.lit (.bool true)], args := [d] }
  | _ => none }
def fnExactMachineOkRow : OpenClaim := { program := "ytklpajphbkokcaa", sum := "6949f858ccffddeb5fbe2aa8fe52bb1a5769153998507d37ef9f95c2305a17ae", func := "loop.example/g00672/laws.FnExactMachineOk", spec := "fnExactMachineOk", apart := false }
def FnExactMachineOkSaid : Prop := fnExactMachineOkRow.holds Try.pinned (OpenSpec.ofChange fnExactMachineOkSpec)

/-- ITS FALSE NEIGHBOUR: 'it returns false'. Refute it at one input. -/
def fnExactMachineOkWrong : ChangeSpec := { name := "fnExactMachineOk", fn := fun _ => fun
  | [d] => { results := [.lit (.bool false)], args := [d] }
  | _ => none }
def FnExactMachineOkWrongFalsely : Prop := fnExactMachineOkRow.holds Try.pinned (OpenSpec.ofChange fnExactMachineOkWrong)

/-- 'laws.FnExactHalted': WHATEVER THE INPUT: true; the input reads as it did. -/
def fnExactHaltedSpec : ChangeSpec := { name := "fnExactHalted", fn := fun _ => fun
  | [d] => { results := [.lit (.bool true)], args := [d] }
  | _ => none }
def fnExactHaltedRow : OpenClaim := { program := "ytklpajphbkokcaa", sum := "6949f858ccffddeb5fbe2aa8fe52bb1a5769153998507d37ef9f95c2305a17ae", func := "loop.example/g00672/laws.FnExactHalted", spec := "fnExactHalted", apart := false }
def FnExactHaltedSaid : Prop := fnExactHaltedRow.holds Try.pinned (OpenSpec.ofChange fnExactHaltedSpec)

/-- ITS FALSE NEIGHBOUR: 'it returns false'. Refute it at one input. -/
def fnExactHaltedWrong : ChangeSpec := { name := "fnExactHalted", fn := fun _ => fun
  | [d] => { results := [.lit (.bool false)], args := [d] }
  | _ => none }
def FnExactHaltedWrongFalsely : Prop := fnExactHaltedRow.holds Try.pinned (OpenSpec.ofChange fnExactHaltedWrong)

/-- 'laws.FnExactMachineNew': WHATEVER THE INPUT: true; the input reads as it did. -/
def fnExactMachineNewSpec : ChangeSpec := { name := "fnExactMachineNew", fn := fun _ => fun
  | [d1, d2, d3] => { results := [.lit (.bool true)], args := [d1, d2, d3] }
  | _ => none }
def fnExactMachineNewRow : OpenClaim := { program := "ytklpajphbkokcaa", sum := "6949f858ccffddeb5fbe2aa8fe52bb1a5769153998507d37ef9f95c2305a17ae", func := "loop.example/g00672/laws.FnExactMachineNew", spec := "fnExactMachineNew", apart := false }
def FnExactMachineNewSaid : Prop := fnExactMachineNewRow.holds Try.pinned (OpenSpec.ofChange fnExactMachineNewSpec)

/-- ITS FALSE NEIGHBOUR: 'it returns false'. Refute it at one input. -/
def fnExactMachineNewWrong : ChangeSpec := { name := "fnExactMachineNew", fn := fun _ => fun
  | [d1, d2, d3] => { results := [.lit (.bool false)], args := [d1, d2, d3] }
  | _ => none }
def FnExactMachineNewWrongFalsely : Prop := fnExactMachineNewRow.holds Try.pinned (OpenSpec.ofChange fnExactMachineNewWrong)

/-- 'laws.FnExactSharesOf': WHATEVER THE INPUT: true; the input reads as it did. -/
def fnExactSharesOfSpec : ChangeSpec := { name := "fnExactSharesOf", fn := fun _ => fun
  | [d1, d2] => { results := [.lit (.bool true)], args := [d1, d2] }
  | _ => none }
def fnExactSharesOfRow : OpenClaim := { program := "ytklpajphbkokcaa", sum := "6949f858ccffddeb5fbe2aa8fe52bb1a5769153998507d37ef9f95c2305a17ae", func := "loop.example/g00672/laws.FnExactSharesOf", spec := "fnExactSharesOf", apart := false }
def FnExactSharesOfSaid : Prop := fnExactSharesOfRow.holds Try.pinned (OpenSpec.ofChange fnExactSharesOfSpec)

/-- ITS FALSE NEIGHBOUR: 'it returns false'. Refute it at one input. -/
def fnExactSharesOfWrong : ChangeSpec := { name := "fnExactSharesOf", fn := fun _ => fun
  | [d1, d2] => { results := [.lit (.bool false)], args := [d1, d2] }
  | _ => none }
def FnExactSharesOfWrongFalsely : Prop := fnExactSharesOfRow.holds Try.pinned (OpenSpec.ofChange fnExactSharesOfWrong)

/-- 'laws.FnExactMachineStep': WHATEVER THE INPUT: true; the input reads as it did. -/
def fnExactMachineStepSpec : ChangeSpec := { name := "fnExactMachineStep", fn := fun _ => fun
  | [d1, d2] => { results := [.lit (.bool true)], args := [d1, d2] }
  | _ => none }
def fnExactMachineStepRow : OpenClaim := { program := "ytklpajphbkokcaa", sum := "6949f858ccffddeb5fbe2aa8fe52bb1a5769153998507d37ef9f95c2305a17ae", func := "loop.example/g00672/laws.FnExactMachineStep", spec := "fnExactMachineStep", apart := false }
def FnExactMachineStepSaid : Prop := fnExactMachineStepRow.holds Try.pinned (OpenSpec.ofChange fnExactMachineStepSpec)

/-- ITS FALSE NEIGHBOUR: 'it returns false'. Refute it at one input. -/
def fnExactMachineStepWrong : ChangeSpec := { name := "fnExactMachineStep", fn := fun _ => fun
  | [d1, d2] => { results := [.lit (.bool false)], args := [d1, d2] }
  | _ => none }
def FnExactMachineStepWrongFalsely : Prop := fnExactMachineStepRow.holds Try.pinned (OpenSpec.ofChange fnExactMachineStepWrong)

/-- 'laws.FnExactMachineRun': WHATEVER THE INPUT: true; the input reads as it did. -/
def fnExactMachineRunSpec : ChangeSpec := { name := "fnExactMachineRun", fn := fun _ => fun
  | [d1, d2] => { results := [.lit (.bool true)], args := [d1, d2] }
  | _ => none }
def fnExactMachineRunRow : OpenClaim := { program := "ytklpajphbkokcaa", sum := "6949f858ccffddeb5fbe2aa8fe52bb1a5769153998507d37ef9f95c2305a17ae", func := "loop.example/g00672/laws.FnExactMachineRun", spec := "fnExactMachineRun", apart := false }
def FnExactMachineRunSaid : Prop := fnExactMachineRunRow.holds Try.pinned (OpenSpec.ofChange fnExactMachineRunSpec)

/-- ITS FALSE NEIGHBOUR: 'it returns false'. Refute it at one input. -/
def fnExactMachineRunWrong : ChangeSpec := { name := "fnExactMachineRun", fn := fun _ => fun
  | [d1, d2] => { results := [.lit (.bool false)], args := [d1, d2] }
  | _ => none }
def FnExactMachineRunWrongFalsely : Prop := fnExactMachineRunRow.holds Try.pinned (OpenSpec.ofChange fnExactMachineRunWrong)

/-- 'laws.FnExactRoundRobin': WHATEVER THE INPUT: true; the input reads as it did. -/
def fnExactRoundRobinSpec : ChangeSpec := { name := "fnExactRoundRobin", fn := fun _ => fun
  | [d1, d2, d3] => { results := [.lit (.bool true)], args := [d1, d2, d3] }
  | _ => none }
def fnExactRoundRobinRow : OpenClaim := { program := "ytklpajphbkokcaa", sum := "6949f858ccffddeb5fbe2aa8fe52bb1a5769153998507d37ef9f95c2305a17ae", func := "loop.example/g00672/laws.FnExactRoundRobin", spec := "fnExactRoundRobin", apart := false }
def FnExactRoundRobinSaid : Prop := fnExactRoundRobinRow.holds Try.pinned (OpenSpec.ofChange fnExactRoundRobinSpec)

/-- ITS FALSE NEIGHBOUR: 'it returns false'. Refute it at one input. -/
def fnExactRoundRobinWrong : ChangeSpec := { name := "fnExactRoundRobin", fn := fun _ => fun
  | [d1, d2, d3] => { results := [.lit (.bool false)], args := [d1, d2, d3] }
  | _ => none }
def FnExactRoundRobinWrongFalsely : Prop := fnExactRoundRobinRow.holds Try.pinned (OpenSpec.ofChange fnExactRoundRobinWrong)

/- THE SECOND FORM. 'bulk': how many values and letters a reading holds, each counted each time it is reached (what is shared counts as often as it is met; a slice's spare places count too). A statement '..UptoSaid' is the law's where the arguments, and the package variables that the reading takes, are together of bulk at most 1048576: NARROWER than '..Said'. Prove '..Said' where nothing that the law and all that it calls make is longer than what came in: it says more and counts as full. Else prove '..UptoSaid'. A law counts once. -/
mutual
def uptoBulk {H : Type} : DataW H → Nat
  | .lit (.string bytes) => bytes.length + 1
  | .lit _ => 1
  | .nil => 1
  | .ptr d => uptoBulk d + 1
  | .slice elems spare => uptoBulkAll elems + uptoBulkAll spare + 1
  | .agg parts => uptoBulkAll parts + 1
  | .iface _ d => uptoBulk d + 1
  | .map entries => uptoBulkEntries entries + 1
  | .held _ => 1
def uptoBulkAll {H : Type} : List (DataW H) → Nat
  | [] => 0
  | d :: r => uptoBulk d + uptoBulkAll r
def uptoBulkEntries {H : Type} : List (Lit × DataW H) → Nat
  | [] => 0
  | x :: r => uptoBulkEntry x + uptoBulkEntries r
def uptoBulkEntry {H : Type} : Lit × DataW H → Nat
  | (.string bytes, d) => bytes.length + uptoBulk d + 1
  | (_, d) => uptoBulk d + 1
 end
def uptoSmall : (H : Type) → List (DataW H) → Bool := fun _ ds => decide (uptoBulkAll ds ≤ 1048576)
def OpenSpec.upto (s : _root_.Go.ChangeSpec) : _root_.Go.OpenSpec := { _root_.Go.OpenSpec.ofChange s with cond := some uptoSmall }

/-- 'laws.FnExactTaskCount', WHERE WHAT IT READS IS OF BULK AT MOST 1048576: true; the input reads as it did. -/
def fnExactTaskCountUptoRow : OpenClaim := { program := "ytklpajphbkokcaa", sum := "6949f858ccffddeb5fbe2aa8fe52bb1a5769153998507d37ef9f95c2305a17ae", func := "loop.example/g00672/laws.FnExactTaskCount", spec := "fnExactTaskCount", recurses := true, apart := false, narrowed := true }
def FnExactTaskCountUptoSaid : Prop := fnExactTaskCountUptoRow.holds Try.pinned (OpenSpec.upto fnExactTaskCountSpec)

/-- 'laws.FnTaskCount', WHERE WHAT IT READS IS OF BULK AT MOST 1048576: true; the input reads as it did. -/
def fnTaskCountUptoRow : OpenClaim := { program := "ytklpajphbkokcaa", sum := "6949f858ccffddeb5fbe2aa8fe52bb1a5769153998507d37ef9f95c2305a17ae", func := "loop.example/g00672/laws.FnTaskCount", spec := "fnTaskCount", recurses := true, apart := false, narrowed := true }
def FnTaskCountUptoSaid : Prop := fnTaskCountUptoRow.holds Try.pinned (OpenSpec.upto fnTaskCountSpec)

/-- 'laws.FnExactBinNew', WHERE WHAT IT READS IS OF BULK AT MOST 1048576: true; the input reads as it did. -/
def fnExactBinNewUptoRow : OpenClaim := { program := "ytklpajphbkokcaa", sum := "6949f858ccffddeb5fbe2aa8fe52bb1a5769153998507d37ef9f95c2305a17ae", func := "loop.example/g00672/laws.FnExactBinNew", spec := "fnExactBinNew", apart := false, narrowed := true }
def FnExactBinNewUptoSaid : Prop := fnExactBinNewUptoRow.holds Try.pinned (OpenSpec.upto fnExactBinNewSpec)

/-- 'laws.FnExactMachineOk', WHERE WHAT IT READS IS OF BULK AT MOST 1048576: true; the input reads as it did. -/
def fnExactMachineOkUptoRow : OpenClaim := { program := "ytklpajphbkokcaa", sum := "6949f858ccffddeb5fbe2aa8fe52bb1a5769153998507d37ef9f95c2305a17ae", func := "loop.example/g00672/laws.FnExactMachineOk", spec := "fnExactMachineOk", apart := false, narrowed := true }
def FnExactMachineOkUptoSaid : Prop := fnExactMachineOkUptoRow.holds Try.pinned (OpenSpec.upto fnExactMachineOkSpec)

/-- 'laws.FnExactHalted', WHERE WHAT IT READS IS OF BULK AT MOST 1048576: true; the input reads as it did. -/
def fnExactHaltedUptoRow : OpenClaim := { program := "ytklpajphbkokcaa", sum := "6949f858ccffddeb5fbe2aa8fe52bb1a5769153998507d37ef9f95c2305a17ae", func := "loop.example/g00672/laws.FnExactHalted", spec := "fnExactHalted", apart := false, narrowed := true }
def FnExactHaltedUptoSaid : Prop := fnExactHaltedUptoRow.holds Try.pinned (OpenSpec.upto fnExactHaltedSpec)

/-- 'laws.FnExactMachineNew', WHERE WHAT IT READS IS OF BULK AT MOST 1048576: true; the input reads as it did. -/
def fnExactMachineNewUptoRow : OpenClaim := { program := "ytklpajphbkokcaa", sum := "6949f858ccffddeb5fbe2aa8fe52bb1a5769153998507d37ef9f95c2305a17ae", func := "loop.example/g00672/laws.FnExactMachineNew", spec := "fnExactMachineNew", apart := false, narrowed := true }
def FnExactMachineNewUptoSaid : Prop := fnExactMachineNewUptoRow.holds Try.pinned (OpenSpec.upto fnExactMachineNewSpec)

/-- 'laws.FnExactSharesOf', WHERE WHAT IT READS IS OF BULK AT MOST 1048576: true; the input reads as it did. -/
def fnExactSharesOfUptoRow : OpenClaim := { program := "ytklpajphbkokcaa", sum := "6949f858ccffddeb5fbe2aa8fe52bb1a5769153998507d37ef9f95c2305a17ae", func := "loop.example/g00672/laws.FnExactSharesOf", spec := "fnExactSharesOf", apart := false, narrowed := true }
def FnExactSharesOfUptoSaid : Prop := fnExactSharesOfUptoRow.holds Try.pinned (OpenSpec.upto fnExactSharesOfSpec)

/-- 'laws.FnExactMachineStep', WHERE WHAT IT READS IS OF BULK AT MOST 1048576: true; the input reads as it did. -/
def fnExactMachineStepUptoRow : OpenClaim := { program := "ytklpajphbkokcaa", sum := "6949f858ccffddeb5fbe2aa8fe52bb1a5769153998507d37ef9f95c2305a17ae", func := "loop.example/g00672/laws.FnExactMachineStep", spec := "fnExactMachineStep", apart := false, narrowed := true }
def FnExactMachineStepUptoSaid : Prop := fnExactMachineStepUptoRow.holds Try.pinned (OpenSpec.upto fnExactMachineStepSpec)

/-- 'laws.FnExactMachineRun', WHERE WHAT IT READS IS OF BULK AT MOST 1048576: true; the input reads as it did. -/
def fnExactMachineRunUptoRow : OpenClaim := { program := "ytklpajphbkokcaa", sum := "6949f858ccffddeb5fbe2aa8fe52bb1a5769153998507d37ef9f95c2305a17ae", func := "loop.example/g00672/laws.FnExactMachineRun", spec := "fnExactMachineRun", apart := false, narrowed := true }
def FnExactMachineRunUptoSaid : Prop := fnExactMachineRunUptoRow.holds Try.pinned (OpenSpec.upto fnExactMachineRunSpec)

/-- 'laws.FnExactRoundRobin', WHERE WHAT IT READS IS OF BULK AT MOST 1048576: true; the input reads as it did. -/
def fnExactRoundRobinUptoRow : OpenClaim := { program := "ytklpajphbkokcaa", sum := "6949f858ccffddeb5fbe2aa8fe52bb1a5769153998507d37ef9f95c2305a17ae", func := "loop.example/g00672/laws.FnExactRoundRobin", spec := "fnExactRoundRobin", apart := false, narrowed := true }
def FnExactRoundRobinUptoSaid : Prop := fnExactRoundRobinUptoRow.holds Try.pinned (OpenSpec.upto fnExactRoundRobinSpec)

end Rows
end Go.Proofs.Ytklpajphbkokcaa
