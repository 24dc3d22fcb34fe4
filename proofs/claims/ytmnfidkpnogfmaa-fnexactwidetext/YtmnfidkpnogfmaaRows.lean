/-
  No cell of these rows narrows 'for every input' (looked for: loops, veiled, ifaces, maps, wideKeys, modest, calm, conditions, laid).
  DERIVED. THE GIVEN ROWS OF THIS SEAT. 10 by the template 'for every input the law returns true; each argument reads behind the call as it read before'; 0 by the template 'total and deterministic' (their statements: YtmnfidkpnogfmaaTotals.lean).
  GIVEN WITH THE SEED: the statements are not yours to turn. If you find one false, say at which input.
  Laid BY PROGRAM, IN A SANDBOX (cutbox-rows.mjs): the forced cells as the released guide's own fill.sh prints them over the translation 12d10c075b1b2dd7… (all of the seat's roots in one cut). By AI agents, Wed Nov 11 2026. No macro, syntax, notation, axiom, sorry.
-/
import Derived.Test.YtmnfidkpnogfmaaChecked
import GoSem.Claim
import GoSem.ClaimJoined
import GoSem.ClaimMapViews
import Derived.JoinedTies
import Derived.KernelRfl
namespace Go.Proofs.Ytmnfidkpnogfmaa
/- THE CELL 'sum', in the pinned program and in every row, IS THE sha256 OF THE DUMP (.gsa) THAT YtmnfidkpnogfmaaProg.lean LOADS. Nothing in Lean hashes anything: it is a label: what it is worth is what the hold of that sum in a sandbox is worth. -/
noncomputable def Try.pinned : Pinned := { name := "ytmnfidkpnogfmaa", sum := "12d10c075b1b2dd710e7b9f3520f29598505a47eca4eac2e9acebbe6c3712bb8", checked := Try.checked }
namespace Rows
def none {H : Type} : Left H := { results := [], args := [] }

/-- 'laws.FnExactTurned': WHATEVER THE INPUT: true; the input reads as it did. -/
def fnExactTurnedSpec : ChangeSpec := { name := "fnExactTurned", fn := fun _ => fun
  | [d] => { results := [.lit (.bool true)], args := [d] }
  | _ => none }
def fnExactTurnedRow : OpenClaim := { program := "ytmnfidkpnogfmaa", sum := "12d10c075b1b2dd710e7b9f3520f29598505a47eca4eac2e9acebbe6c3712bb8", func := "loop.example/g00672/laws.FnExactTurned", spec := "fnExactTurned", apart := false }
def FnExactTurnedSaid : Prop := fnExactTurnedRow.holds Try.pinned (OpenSpec.ofChange fnExactTurnedSpec)

/-- ITS FALSE NEIGHBOUR: 'it returns false'. Refute it at one input. -/
def fnExactTurnedWrong : ChangeSpec := { name := "fnExactTurned", fn := fun _ => fun
  | [d] => { results := [.lit (.bool false)], args := [d] }
  | _ => none }
def FnExactTurnedWrongFalsely : Prop := fnExactTurnedRow.holds Try.pinned (OpenSpec.ofChange fnExactTurnedWrong)

/-- 'laws.FnExactShuffled': WHATEVER THE INPUT: true; the input reads as it did. -/
def fnExactShuffledSpec : ChangeSpec := { name := "fnExactShuffled", fn := fun _ => fun
  | [d1, d2] => { results := [.lit (.bool true)], args := [d1, d2] }
  | _ => none }
def fnExactShuffledRow : OpenClaim := { program := "ytmnfidkpnogfmaa", sum := "12d10c075b1b2dd710e7b9f3520f29598505a47eca4eac2e9acebbe6c3712bb8", func := "loop.example/g00672/laws.FnExactShuffled", spec := "fnExactShuffled", unfollowed := true, recurses := true, apart := false }
def FnExactShuffledSaid : Prop := fnExactShuffledRow.holds Try.pinned (OpenSpec.ofChange fnExactShuffledSpec)

/-- ITS FALSE NEIGHBOUR: 'it returns false'. Refute it at one input. -/
def fnExactShuffledWrong : ChangeSpec := { name := "fnExactShuffled", fn := fun _ => fun
  | [d1, d2] => { results := [.lit (.bool false)], args := [d1, d2] }
  | _ => none }
def FnExactShuffledWrongFalsely : Prop := fnExactShuffledRow.holds Try.pinned (OpenSpec.ofChange fnExactShuffledWrong)

/-- 'laws.FnShuffled': WHATEVER THE INPUT: true; the input reads as it did. -/
def fnShuffledSpec : ChangeSpec := { name := "fnShuffled", fn := fun _ => fun
  | [d] => { results := [.lit (.bool true)], args := [d] }
  | _ => none }
def fnShuffledRow : OpenClaim := { program := "ytmnfidkpnogfmaa", sum := "12d10c075b1b2dd710e7b9f3520f29598505a47eca4eac2e9acebbe6c3712bb8", func := "loop.example/g00672/laws.FnShuffled", spec := "fnShuffled", unfollowed := true, recurses := true, apart := false }
def FnShuffledSaid : Prop := fnShuffledRow.holds Try.pinned (OpenSpec.ofChange fnShuffledSpec)

/-- ITS FALSE NEIGHBOUR: 'it returns false'. Refute it at one input. -/
def fnShuffledWrong : ChangeSpec := { name := "fnShuffled", fn := fun _ => fun
  | [d] => { results := [.lit (.bool false)], args := [d] }
  | _ => none }
def FnShuffledWrongFalsely : Prop := fnShuffledRow.holds Try.pinned (OpenSpec.ofChange fnShuffledWrong)

/-- 'laws.FnRound': WHATEVER THE INPUT: true; the input reads as it did. -/
def fnRoundSpec : ChangeSpec := { name := "fnRound", fn := fun _ => fun
  | [d] => { results := [.lit (.bool true)], args := [d] }
  | _ => none }
def fnRoundRow : OpenClaim := { program := "ytmnfidkpnogfmaa", sum := "12d10c075b1b2dd710e7b9f3520f29598505a47eca4eac2e9acebbe6c3712bb8", func := "loop.example/g00672/laws.FnRound", spec := "fnRound", recurses := true, apart := false }
def FnRoundSaid : Prop := fnRoundRow.holds Try.pinned (OpenSpec.ofChange fnRoundSpec)

/-- ITS FALSE NEIGHBOUR: 'it returns false'. Refute it at one input. -/
def fnRoundWrong : ChangeSpec := { name := "fnRound", fn := fun _ => fun
  | [d] => { results := [.lit (.bool false)], args := [d] }
  | _ => none }
def FnRoundWrongFalsely : Prop := fnRoundRow.holds Try.pinned (OpenSpec.ofChange fnRoundWrong)

/-- 'laws.FnExactBinNew': WHATEVER THE INPUT: true; the input reads as it did. -/
def fnExactBinNewSpec : ChangeSpec := { name := "fnExactBinNew", fn := fun _ => fun
  | [d1, d2] => { results := [.lit (.bool true)], args := [d1, d2] }
  | _ => none }
def fnExactBinNewRow : OpenClaim := { program := "ytmnfidkpnogfmaa", sum := "12d10c075b1b2dd710e7b9f3520f29598505a47eca4eac2e9acebbe6c3712bb8", func := "loop.example/g00672/laws.FnExactBinNew", spec := "fnExactBinNew", apart := false }
def FnExactBinNewSaid : Prop := fnExactBinNewRow.holds Try.pinned (OpenSpec.ofChange fnExactBinNewSpec)

/-- ITS FALSE NEIGHBOUR: 'it returns false'. Refute it at one input. -/
def fnExactBinNewWrong : ChangeSpec := { name := "fnExactBinNew", fn := fun _ => fun
  | [d1, d2] => { results := [.lit (.bool false)], args := [d1, d2] }
  | _ => none }
def FnExactBinNewWrongFalsely : Prop := fnExactBinNewRow.holds Try.pinned (OpenSpec.ofChange fnExactBinNewWrong)

/-- 'laws.FnExactWideText': WHATEVER THE INPUT: true; the input reads as it did. -/
def fnExactWideTextSpec : ChangeSpec := { name := "fnExactWideText", fn := fun _ => fun
  | [d] => { results := [.lit (.bool true)], args := [d] }
  | _ => none }
def fnExactWideTextRow : OpenClaim := { program := "ytmnfidkpnogfmaa", sum := "12d10c075b1b2dd710e7b9f3520f29598505a47eca4eac2e9acebbe6c3712bb8", func := "loop.example/g00672/laws.FnExactWideText", spec := "fnExactWideText", apart := false }
def FnExactWideTextSaid : Prop := fnExactWideTextRow.holds Try.pinned (OpenSpec.ofChange fnExactWideTextSpec)

/-- ITS FALSE NEIGHBOUR: 'it returns false'. Refute it at one input. -/
def fnExactWideTextWrong : ChangeSpec := { name := "fnExactWideText", fn := fun _ => fun
  | [d] => { results := [.lit (.bool false)], args := [d] }
  | _ => none }
def FnExactWideTextWrongFalsely : Prop := fnExactWideTextRow.holds Try.pinned (OpenSpec.ofChange fnExactWideTextWrong)

/-- 'laws.FnExactReadWide': WHATEVER THE INPUT: true; the input reads as it did. -/
def fnExactReadWideSpec : ChangeSpec := { name := "fnExactReadWide", fn := fun _ => fun
  | [d] => { results := [.lit (.bool true)], args := [d] }
  | _ => none }
def fnExactReadWideRow : OpenClaim := { program := "ytmnfidkpnogfmaa", sum := "12d10c075b1b2dd710e7b9f3520f29598505a47eca4eac2e9acebbe6c3712bb8", func := "loop.example/g00672/laws.FnExactReadWide", spec := "fnExactReadWide", apart := false }
def FnExactReadWideSaid : Prop := fnExactReadWideRow.holds Try.pinned (OpenSpec.ofChange fnExactReadWideSpec)

/-- ITS FALSE NEIGHBOUR: 'it returns false'. Refute it at one input. -/
def fnExactReadWideWrong : ChangeSpec := { name := "fnExactReadWide", fn := fun _ => fun
  | [d] => { results := [.lit (.bool false)], args := [d] }
  | _ => none }
def FnExactReadWideWrongFalsely : Prop := fnExactReadWideRow.holds Try.pinned (OpenSpec.ofChange fnExactReadWideWrong)

/-- 'laws.FnWideTexts': WHATEVER THE INPUT: true; the input reads as it did. -/
def fnWideTextsSpec : ChangeSpec := { name := "fnWideTexts", fn := fun _ => fun
  | [d] => { results := [.lit (.bool true)], args := [d] }
  | _ => none }
def fnWideTextsRow : OpenClaim := { program := "ytmnfidkpnogfmaa", sum := "12d10c075b1b2dd710e7b9f3520f29598505a47eca4eac2e9acebbe6c3712bb8", func := "loop.example/g00672/laws.FnWideTexts", spec := "fnWideTexts", apart := false }
def FnWideTextsSaid : Prop := fnWideTextsRow.holds Try.pinned (OpenSpec.ofChange fnWideTextsSpec)

/-- ITS FALSE NEIGHBOUR: 'it returns false'. Refute it at one input. -/
def fnWideTextsWrong : ChangeSpec := { name := "fnWideTexts", fn := fun _ => fun
  | [d] => { results := [.lit (.bool false)], args := [d] }
  | _ => none }
def FnWideTextsWrongFalsely : Prop := fnWideTextsRow.holds Try.pinned (OpenSpec.ofChange fnWideTextsWrong)

/-- 'laws.FnWideShifted': WHATEVER THE INPUT: true; the input reads as it did. -/
def fnWideShiftedSpec : ChangeSpec := { name := "fnWideShifted", fn := fun _ => fun
  | [d] => { results := [.lit (.bool true)], args := [d] }
  | _ => none }
def fnWideShiftedRow : OpenClaim := { program := "ytmnfidkpnogfmaa", sum := "12d10c075b1b2dd710e7b9f3520f29598505a47eca4eac2e9acebbe6c3712bb8", func := "loop.example/g00672/laws.FnWideShifted", spec := "fnWideShifted", apart := false }
def FnWideShiftedSaid : Prop := fnWideShiftedRow.holds Try.pinned (OpenSpec.ofChange fnWideShiftedSpec)

/-- ITS FALSE NEIGHBOUR: 'it returns false'. Refute it at one input. -/
def fnWideShiftedWrong : ChangeSpec := { name := "fnWideShifted", fn := fun _ => fun
  | [d] => { results := [.lit (.bool false)], args := [d] }
  | _ => none }
def FnWideShiftedWrongFalsely : Prop := fnWideShiftedRow.holds Try.pinned (OpenSpec.ofChange fnWideShiftedWrong)

/-- 'laws.FnWideOrder': WHATEVER THE INPUT: true; the input reads as it did. -/
def fnWideOrderSpec : ChangeSpec := { name := "fnWideOrder", fn := fun _ => fun
  | [d] => { results := [.lit (.bool true)], args := [d] }
  | _ => none }
def fnWideOrderRow : OpenClaim := { program := "ytmnfidkpnogfmaa", sum := "12d10c075b1b2dd710e7b9f3520f29598505a47eca4eac2e9acebbe6c3712bb8", func := "loop.example/g00672/laws.FnWideOrder", spec := "fnWideOrder", apart := false }
def FnWideOrderSaid : Prop := fnWideOrderRow.holds Try.pinned (OpenSpec.ofChange fnWideOrderSpec)

/-- ITS FALSE NEIGHBOUR: 'it returns false'. Refute it at one input. -/
def fnWideOrderWrong : ChangeSpec := { name := "fnWideOrder", fn := fun _ => fun
  | [d] => { results := [.lit (.bool false)], args := [d] }
  | _ => none }
def FnWideOrderWrongFalsely : Prop := fnWideOrderRow.holds Try.pinned (OpenSpec.ofChange fnWideOrderWrong)

/- THE SECOND FORM. 'bulk': how many values and letters a reading holds, each counted each time it is reached (what is shared counts as often as it is met; a slice's spare places count too). A statement '..UptoSaid' is the law's where the arguments, and the package variables that the reading takes, are together of bulk at most 1048576: NARROWER than '..Said'. Prove '..Said' where nothing that the law and all that it calls make is longer than what came in: it says more and counts as full. Else prove '..UptoSaid'. A law counts once. -/
mutual
def uptoBulk {H : Type} : DataW H → Nat
  | .lit (.string bytes) => bytes.length + 1
  | .lit _ => 1
  | .nil => 1
  | .ptr d => uptoBulk d + 1
  | .slice elems spare => uptoBulkAll elems + uptoBulkAll spare + 1
  | .agg parts => uptoBulkAll parts + 1
  | .iface _ d => uptoBulk d + 1
  | .map entries => uptoBulkEntries entries + 1
  | .held _ => 1
def uptoBulkAll {H : Type} : List (DataW H) → Nat
  | [] => 0
  | d :: r => uptoBulk d + uptoBulkAll r
def uptoBulkEntries {H : Type} : List (Lit × DataW H) → Nat
  | [] => 0
  | x :: r => uptoBulkEntry x + uptoBulkEntries r
def uptoBulkEntry {H : Type} : Lit × DataW H → Nat
  | (.string bytes, d) => bytes.length + uptoBulk d + 1
  | (_, d) => uptoBulk d + 1
 end
def uptoSmall : (H : Type) → List (DataW H) → Bool := fun _ ds => decide (uptoBulkAll ds ≤ 1048576)
def OpenSpec.upto (s : _root_.Go.ChangeSpec) : _root_.Go.OpenSpec := { _root_.Go.OpenSpec.ofChange s with cond := some uptoSmall }

/-- 'laws.FnExactTurned', WHERE WHAT IT READS IS OF BULK AT MOST 1048576: true; the input reads as it did. -/
def fnExactTurnedUptoRow : OpenClaim := { program := "ytmnfidkpnogfmaa", sum := "12d10c075b1b2dd710e7b9f3520f29598505a47eca4eac2e9acebbe6c3712bb8", func := "loop.example/g00672/laws.FnExactTurned", spec := "fnExactTurned", apart := false, narrowed := true }
def FnExactTurnedUptoSaid : Prop := fnExactTurnedUptoRow.holds Try.pinned (OpenSpec.upto fnExactTurnedSpec)

/-- 'laws.FnExactShuffled', WHERE WHAT IT READS IS OF BULK AT MOST 1048576: true; the input reads as it did. -/
def fnExactShuffledUptoRow : OpenClaim := { program := "ytmnfidkpnogfmaa", sum := "12d10c075b1b2dd710e7b9f3520f29598505a47eca4eac2e9acebbe6c3712bb8", func := "loop.example/g00672/laws.FnExactShuffled", spec := "fnExactShuffled", unfollowed := true, recurses := true, apart := false, narrowed := true }
def FnExactShuffledUptoSaid : Prop := fnExactShuffledUptoRow.holds Try.pinned (OpenSpec.upto fnExactShuffledSpec)

/-- 'laws.FnShuffled', WHERE WHAT IT READS IS OF BULK AT MOST 1048576: true; the input reads as it did. -/
def fnShuffledUptoRow : OpenClaim := { program := "ytmnfidkpnogfmaa", sum := "12d10c075b1b2dd710e7b9f3520f29598505a47eca4eac2e9acebbe6c3712bb8", func := "loop.example/g00672/laws.FnShuffled", spec := "fnShuffled", unfollowed := true, recurses := true, apart := false, narrowed := true }
def FnShuffledUptoSaid : Prop := fnShuffledUptoRow.holds Try.pinned (OpenSpec.upto fnShuffledSpec)

/-- 'laws.FnRound', WHERE WHAT IT READS IS OF BULK AT MOST 1048576: true; the input reads as it did. -/
def fnRoundUptoRow : OpenClaim := { program := "ytmnfidkpnogfmaa", sum := "12d10c075b1b2dd710e7b9f3520f29598505a47eca4eac2e9acebbe6c3712bb8", func := "loop.example/g00672/laws.FnRound", spec := "fnRound", recurses := true, apart := false, narrowed := true }
def FnRoundUptoSaid : Prop := fnRoundUptoRow.holds Try.pinned (OpenSpec.upto fnRoundSpec)

/-- 'laws.FnExactBinNew', WHERE WHAT IT READS IS OF BULK AT MOST 1048576: true; the input reads as it did. -/
def fnExactBinNewUptoRow : OpenClaim := { program := "ytmnfidkpnogfmaa", sum := "12d10c075b1b2dd710e7b9f3520f29598505a47eca4eac2e9acebbe6c3712bb8", func := "loop.example/g00672/laws.FnExactBinNew", spec := "fnExactBinNew", apart := false, narrowed := true }
def FnExactBinNewUptoSaid : Prop := fnExactBinNewUptoRow.holds Try.pinned (OpenSpec.upto fnExactBinNewSpec)

/-- 'laws.FnExactWideText', WHERE WHAT IT READS IS OF BULK AT MOST 1048576: true; the input reads as it did. -/
def fnExactWideTextUptoRow : OpenClaim := { program := "ytmnfidkpnogfmaa", sum := "12d10c075b1b2dd710e7b9f3520f29598505a47eca4eac2e9acebbe6c3712bb8", func := "loop.example/g00672/laws.FnExactWideText", spec := "fnExactWideText", apart := false, narrowed := true }
def FnExactWideTextUptoSaid : Prop := fnExactWideTextUptoRow.holds Try.pinned (OpenSpec.upto fnExactWideTextSpec)

/-- 'laws.FnExactReadWide', WHERE WHAT IT READS IS OF BULK AT MOST 1048576: true; the input reads as it did. -/
def fnExactReadWideUptoRow : OpenClaim := { program := "ytmnfidkpnogfmaa", sum := "12d10c075b1b2dd710e7b9f3520f29598505a47eca4eac2e9acebbe6c3712bb8", func := "loop.example/g00672/laws.FnExactReadWide", spec := "fnExactReadWide", apart := false, narrowed := true }
def FnExactReadWideUptoSaid : Prop := fnExactReadWideUptoRow.holds Try.pinned (OpenSpec.upto fnExactReadWideSpec)

/-- 'laws.FnWideTexts', WHERE WHAT IT READS IS OF BULK AT MOST 1048576: true; the input reads as it did. -/
def fnWideTextsUptoRow : OpenClaim := { program := "ytmnfidkpnogfmaa", sum := "12d10c075b1b2dd710e7b9f3520f29598505a47eca4eac2e9acebbe6c3712bb8", func := "loop.example/g00672/laws.FnWideTexts", spec := "fnWideTexts", apart := false, narrowed := true }
def FnWideTextsUptoSaid : Prop := fnWideTextsUptoRow.holds Try.pinned (OpenSpec.upto fnWideTextsSpec)

/-- 'laws.FnWideShifted', WHERE WHAT IT READS IS OF BULK AT MOST 1048576: true; the input reads as it did. -/
def fnWideShiftedUptoRow : OpenClaim := { program := "ytmnfidkpnogfmaa", sum := "12d10c075b1b2dd710e7b9f3520f29598505a47eca4eac2e9acebbe6c3712bb8", func := "loop.example/g00672/laws.FnWideShifted", spec := "fnWideShifted", apart := false, narrowed := true }
def FnWideShiftedUptoSaid : Prop := fnWideShiftedUptoRow.holds Try.pinned (OpenSpec.upto fnWideShiftedSpec)

/-- 'laws.FnWideOrder', WHERE WHAT IT READS IS OF BULK AT MOST 1048576: true; the input reads as it did. -/
def fnWideOrderUptoRow : OpenClaim := { program := "ytmnfidkpnogfmaa", sum := "12d10c075b1b2dd710e7b9f3520f29598505a47eca4eac2e9acebbe6c3712bb8", func := "loop.example/g00672/laws.FnWideOrder", spec := "fnWideOrder", apart := false, narrowed := true }
def FnWideOrderUptoSaid : Prop := fnWideOrderUptoRow.holds Try.pinned (OpenSpec.upto fnWideOrderSpec)

end Rows
end Go.Proofs.Ytmnfidkpnogfmaa
