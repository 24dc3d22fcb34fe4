/-
  No cell of these rows narrows 'for every input' (looked for: loops, veiled, ifaces, maps, wideKeys, modest, calm, conditions, laid).
  DERIVED. THE GIVEN ROWS OF THIS SEAT. 17 by the template 'for every input the law returns true; each argument reads behind the call as it read before'; 0 by the template 'total and deterministic' (their statements: YtlifpkdmcpjhpaaTotals.lean).
  GIVEN WITH THE SEED: the statements are not yours to turn. If you find one false, say at which input.
  Laid BY PROGRAM, IN A SANDBOX (cutbox-rows.mjs): the forced cells as the released guide's own fill.sh prints them over the translation cab461199c18517d… (all of the seat's roots in one cut). By AI agents, Wed Nov 11 2026. No macro, syntax, notation, axiom, sorry.
-/
import Derived.Test.YtlifpkdmcpjhpaaChecked
import GoSem.Claim
import GoSem.ClaimJoined
import GoSem.ClaimMapViews
import Derived.JoinedTies
import Derived.KernelRfl
namespace Go.Proofs.Ytlifpkdmcpjhpaa
/- THE CELL 'sum', in the pinned program and in every row, IS THE sha256 OF THE DUMP (.gsa) THAT YtlifpkdmcpjhpaaProg.lean LOADS. Nothing in Lean hashes anything: it is a label: what it is worth is what the hold of that sum in a sandbox is worth. -/
noncomputable def Try.pinned : Pinned := { name := "ytlifpkdmcpjhpaa", sum := "cab461199c18517d6a8460789bdac522a2cb4953cd8ca1fa1450b2305c3674cd", checked := Try.checked }
namespace Rows
def none {H : Type} : Left H := { results := [], args := [] }

/-- 'laws.FnWideAdd': WHATEVER THE INPUT: true; the input reads as it did. -/
def fnWideAddSpec : ChangeSpec := { name := "fnWideAdd", fn := fun _ => fun
  | [d] => { results := [.lit (.bool true)], args := [d] }
  | _ => none }
def fnWideAddRow : OpenClaim := { program := "ytlifpkdmcpjhpaa", sum := "cab461199c18517d6a8460789bdac522a2cb4953cd8ca1fa1450b2305c3674cd", func := "loop.example/g00672/laws.FnWideAdd", spec := "fnWideAdd", apart := false }
def FnWideAddSaid : Prop := fnWideAddRow.holds Try.pinned (OpenSpec.ofChange fnWideAddSpec)

/-- ITS FALSE NEIGHBOUR: 'it returns false'. Refute it at one input. -/
def fnWideAddWrong : ChangeSpec := { name := "fnWideAdd", fn := fun _ => fun
  | [d] => { results := [.lit (.bool false)], args := [d] }
  | _ => none }
def FnWideAddWrongFalsely : Prop := fnWideAddRow.holds Try.pinned (OpenSpec.ofChange fnWideAddWrong)

/-- 'laws.FnWideMul': WHATEVER THE INPUT: true; the input reads as it did. -/
def fnWideMulSpec : ChangeSpec := { name := "fnWideMul", fn := fun _ => fun
  | [d] => { results := [.lit (.bool true)], args := [d] }
  | _ => none }
def fnWideMulRow : OpenClaim := { program := "ytlifpkdmcpjhpaa", sum := "cab461199c18517d6a8460789bdac522a2cb4953cd8ca1fa1450b2305c3674cd", func := "loop.example/g00672/laws.FnWideMul", spec := "fnWideMul", apart := false }
def FnWideMulSaid : Prop := fnWideMulRow.holds Try.pinned (OpenSpec.ofChange fnWideMulSpec)

/-- ITS FALSE NEIGHBOUR: 'it returns false'. Refute it at one input. -/
def fnWideMulWrong : ChangeSpec := { name := "fnWideMul", fn := fun _ => fun
  | [d] => { results := [.lit (.bool false)], args := [d] }
  | _ => none }
def FnWideMulWrongFalsely : Prop := fnWideMulRow.holds Try.pinned (OpenSpec.ofChange fnWideMulWrong)

/-- 'laws.FnWideShifted': WHATEVER THE INPUT: true; the input reads as it did. -/
def fnWideShiftedSpec : ChangeSpec := { name := "fnWideShifted", fn := fun _ => fun
  | [d] => { results := [.lit (.bool true)], args := [d] }
  | _ => none }
def fnWideShiftedRow : OpenClaim := { program := "ytlifpkdmcpjhpaa", sum := "cab461199c18517d6a8460789bdac522a2cb4953cd8ca1fa1450b2305c3674cd", func := "loop.example/g00672/laws.FnWideShifted", spec := "fnWideShifted", apart := false }
def FnWideShiftedSaid : Prop := fnWideShiftedRow.holds Try.pinned (OpenSpec.ofChange fnWideShiftedSpec)

/-- ITS FALSE NEIGHBOUR: 'it returns false'. Refute it at one input. -/
def fnWideShiftedWrong : ChangeSpec := { name := "fnWideShifted", fn := fun _ => fun
  | [d] => { results := [.lit (.bool false)], args := [d] }
  | _ => none }
def FnWideShiftedWrongFalsely : Prop := fnWideShiftedRow.holds Try.pinned (OpenSpec.ofChange fnWideShiftedWrong)

/-- 'laws.FnWideOrder': WHATEVER THE INPUT: true; the input reads as it did. -/
def fnWideOrderSpec : ChangeSpec := { name := "fnWideOrder", fn := fun _ => fun
  | [d] => { results := [.lit (.bool true)], args := [d] }
  | _ => none }
def fnWideOrderRow : OpenClaim := { program := "ytlifpkdmcpjhpaa", sum := "cab461199c18517d6a8460789bdac522a2cb4953cd8ca1fa1450b2305c3674cd", func := "loop.example/g00672/laws.FnWideOrder", spec := "fnWideOrder", apart := false }
def FnWideOrderSaid : Prop := fnWideOrderRow.holds Try.pinned (OpenSpec.ofChange fnWideOrderSpec)

/-- ITS FALSE NEIGHBOUR: 'it returns false'. Refute it at one input. -/
def fnWideOrderWrong : ChangeSpec := { name := "fnWideOrder", fn := fun _ => fun
  | [d] => { results := [.lit (.bool false)], args := [d] }
  | _ => none }
def FnWideOrderWrongFalsely : Prop := fnWideOrderRow.holds Try.pinned (OpenSpec.ofChange fnWideOrderWrong)

/-- 'laws.FnWideTexts': WHATEVER THE INPUT: true; the input reads as it did. -/
def fnWideTextsSpec : ChangeSpec := { name := "fnWideTexts", fn := fun _ => fun
  | [d] => { results := [.lit (.bool true)], args := [d] }
  | _ => none }
def fnWideTextsRow : OpenClaim := { program := "ytlifpkdmcpjhpaa", sum := "cab461199c18517d6a8460789bdac522a2cb4953cd8ca1fa1450b2305c3674cd", func := "loop.example/g00672/laws.FnWideTexts", spec := "fnWideTexts", apart := false }
def FnWideTextsSaid : Prop := fnWideTextsRow.holds Try.pinned (OpenSpec.ofChange fnWideTextsSpec)

/-- ITS FALSE NEIGHBOUR: 'it returns false'. Refute it at one input. -/
def fnWideTextsWrong : ChangeSpec := { name := "fnWideTexts", fn := fun _ => fun
  | [d] => { results := [.lit (.bool false)], args := [d] }
  | _ => none }
def FnWideTextsWrongFalsely : Prop := fnWideTextsRow.holds Try.pinned (OpenSpec.ofChange fnWideTextsWrong)

/-- 'laws.FnWideSmall': WHATEVER THE INPUT: true; the input reads as it did. -/
def fnWideSmallSpec : ChangeSpec := { name := "fnWideSmall", fn := fun _ => fun
  | [d1, d2] => { results := [.lit (.bool true)], args := [d1, d2] }
  | _ => none }
def fnWideSmallRow : OpenClaim := { program := "ytlifpkdmcpjhpaa", sum := "cab461199c18517d6a8460789bdac522a2cb4953cd8ca1fa1450b2305c3674cd", func := "loop.example/g00672/laws.FnWideSmall", spec := "fnWideSmall", apart := false }
def FnWideSmallSaid : Prop := fnWideSmallRow.holds Try.pinned (OpenSpec.ofChange fnWideSmallSpec)

/-- ITS FALSE NEIGHBOUR: 'it returns false'. Refute it at one input. -/
def fnWideSmallWrong : ChangeSpec := { name := "fnWideSmall", fn := fun _ => fun
  | [d1, d2] => { results := [.lit (.bool false)], args := [d1, d2] }
  | _ => none }
def FnWideSmallWrongFalsely : Prop := fnWideSmallRow.holds Try.pinned (OpenSpec.ofChange fnWideSmallWrong)

/-- 'laws.FnExactWideOk': WHATEVER THE INPUT: true; the input reads as it did. -/
def fnExactWideOkSpec : ChangeSpec := { name := "fnExactWideOk", fn := fun _ => fun
  | [d] => { results := [.lit (.bool true)], args := [d] }
  | _ => none }
def fnExactWideOkRow : OpenClaim := { program := "ytlifpkdmcpjhpaa", sum := "cab461199c18517d6a8460789bdac522a2cb4953cd8ca1fa1450b2305c3674cd", func := "loop.example/g00672/laws.FnExactWideOk", spec := "fnExactWideOk", apart := false }
def FnExactWideOkSaid : Prop := fnExactWideOkRow.holds Try.pinned (OpenSpec.ofChange fnExactWideOkSpec)

/-- ITS FALSE NEIGHBOUR: 'it returns false'. Refute it at one input. -/
def fnExactWideOkWrong : ChangeSpec := { name := "fnExactWideOk", fn := fun _ => fun
  | [d] => { results := [.lit (.bool false)], args := [d] }
  | _ => none }
def FnExactWideOkWrongFalsely : Prop := fnExactWideOkRow.holds Try.pinned (OpenSpec.ofChange fnExactWideOkWrong)

/-- 'laws.FnExactWideOf': WHATEVER THE INPUT: true; the input reads as it did. -/
def fnExactWideOfSpec : ChangeSpec := { name := "fnExactWideOf", fn := fun _ => fun
  | [d] => { results := [.lit (.bool true)], args := [d] }
  | _ => none }
def fnExactWideOfRow : OpenClaim := { program := "ytlifpkdmcpjhpaa", sum := "cab461199c18517d6a8460789bdac522a2cb4953cd8ca1fa1450b2305c3674cd", func := "loop.example/g00672/laws.FnExactWideOf", spec := "fnExactWideOf", apart := false }
def FnExactWideOfSaid : Prop := fnExactWideOfRow.holds Try.pinned (OpenSpec.ofChange fnExactWideOfSpec)

/-- ITS FALSE NEIGHBOUR: 'it returns false'. Refute it at one input. -/
def fnExactWideOfWrong : ChangeSpec := { name := "fnExactWideOf", fn := fun _ => fun
  | [d] => { results := [.lit (.bool false)], args := [d] }
  | _ => none }
def FnExactWideOfWrongFalsely : Prop := fnExactWideOfRow.holds Try.pinned (OpenSpec.ofChange fnExactWideOfWrong)

/-- 'laws.FnExactWideSmall': WHATEVER THE INPUT: true; the input reads as it did. -/
def fnExactWideSmallSpec : ChangeSpec := { name := "fnExactWideSmall", fn := fun _ => fun
  | [d] => { results := [.lit (.bool true)], args := [d] }
  | _ => none }
def fnExactWideSmallRow : OpenClaim := { program := "ytlifpkdmcpjhpaa", sum := "cab461199c18517d6a8460789bdac522a2cb4953cd8ca1fa1450b2305c3674cd", func := "loop.example/g00672/laws.FnExactWideSmall", spec := "fnExactWideSmall", apart := false }
def FnExactWideSmallSaid : Prop := fnExactWideSmallRow.holds Try.pinned (OpenSpec.ofChange fnExactWideSmallSpec)

/-- ITS FALSE NEIGHBOUR: 'it returns false'. Refute it at one input. -/
def fnExactWideSmallWrong : ChangeSpec := { name := "fnExactWideSmall", fn := fun _ => fun
  | [d] => { results := [.lit (.bool false)], args := [d] }
  | _ => none }
def FnExactWideSmallWrongFalsely : Prop := fnExactWideSmallRow.holds Try.pinned (OpenSpec.ofChange fnExactWideSmallWrong)

/-- 'laws.FnExactWideAdd': WHATEVER THE INPUT: true; the input reads as it did. -/
def fnExactWideAddSpec : ChangeSpec := { name := "fnExactWideAdd", fn := fun _ => fun
  | [d1, d2] => { results := [.lit (.bool true)], args := [d1, d2] }
  | _ => none }
def fnExactWideAddRow : OpenClaim := { program := "ytlifpkdmcpjhpaa", sum := "cab461199c18517d6a8460789bdac522a2cb4953cd8ca1fa1450b2305c3674cd", func := "loop.example/g00672/laws.FnExactWideAdd", spec := "fnExactWideAdd", apart := false }
def FnExactWideAddSaid : Prop := fnExactWideAddRow.holds Try.pinned (OpenSpec.ofChange fnExactWideAddSpec)

/-- ITS FALSE NEIGHBOUR: 'it returns false'. Refute it at one input. -/
def fnExactWideAddWrong : ChangeSpec := { name := "fnExactWideAdd", fn := fun _ => fun
  | [d1, d2] => { results := [.lit (.bool false)], args := [d1, d2] }
  | _ => none }
def FnExactWideAddWrongFalsely : Prop := fnExactWideAddRow.holds Try.pinned (OpenSpec.ofChange fnExactWideAddWrong)

/-- 'laws.FnExactWideMul': WHATEVER THE INPUT: true; the input reads as it did. -/
def fnExactWideMulSpec : ChangeSpec := { name := "fnExactWideMul", fn := fun _ => fun
  | [d1, d2] => { results := [.lit (.bool true)], args := [d1, d2] }
  | _ => none }
def fnExactWideMulRow : OpenClaim := { program := "ytlifpkdmcpjhpaa", sum := "cab461199c18517d6a8460789bdac522a2cb4953cd8ca1fa1450b2305c3674cd", func := "loop.example/g00672/laws.FnExactWideMul", spec := "fnExactWideMul", apart := false }
def FnExactWideMulSaid : Prop := fnExactWideMulRow.holds Try.pinned (OpenSpec.ofChange fnExactWideMulSpec)

/-- ITS FALSE NEIGHBOUR: 'it returns false'. Refute it at one input. -/
def fnExactWideMulWrong : ChangeSpec := { name := "fnExactWideMul", fn := fun _ => fun
  | [d1, d2] => { results := [.lit (.bool false)], args := [d1, d2] }
  | _ => none }
def FnExactWideMulWrongFalsely : Prop := fnExactWideMulRow.holds Try.pinned (OpenSpec.ofChange fnExactWideMulWrong)

/-- 'laws.FnExactWideNegated': WHATEVER THE INPUT: true; the input reads as it did. -/
def fnExactWideNegatedSpec : ChangeSpec := { name := "fnExactWideNegated", fn := fun _ => fun
  | [d] => { results := [.lit (.bool true)], args := [d] }
  | _ => none }
def fnExactWideNegatedRow : OpenClaim := { program := "ytlifpkdmcpjhpaa", sum := "cab461199c18517d6a8460789bdac522a2cb4953cd8ca1fa1450b2305c3674cd", func := "loop.example/g00672/laws.FnExactWideNegated", spec := "fnExactWideNegated", apart := false }
def FnExactWideNegatedSaid : Prop := fnExactWideNegatedRow.holds Try.pinned (OpenSpec.ofChange fnExactWideNegatedSpec)

/-- ITS FALSE NEIGHBOUR: 'it returns false'. Refute it at one input. -/
def fnExactWideNegatedWrong : ChangeSpec := { name := "fnExactWideNegated", fn := fun _ => fun
  | [d] => { results := [.lit (.bool false)], args := [d] }
  | _ => none }
def FnExactWideNegatedWrongFalsely : Prop := fnExactWideNegatedRow.holds Try.pinned (OpenSpec.ofChange fnExactWideNegatedWrong)

/-- 'laws.FnExactWideShifted': WHATEVER THE INPUT: true; the input reads as it did. -/
def fnExactWideShiftedSpec : ChangeSpec := { name := "fnExactWideShifted", fn := fun _ => fun
  | [d1, d2] => { results := [.lit (.bool true)], args := [d1, d2] }
  | _ => none }
def fnExactWideShiftedRow : OpenClaim := { program := "ytlifpkdmcpjhpaa", sum := "cab461199c18517d6a8460789bdac522a2cb4953cd8ca1fa1450b2305c3674cd", func := "loop.example/g00672/laws.FnExactWideShifted", spec := "fnExactWideShifted", apart := false }
def FnExactWideShiftedSaid : Prop := fnExactWideShiftedRow.holds Try.pinned (OpenSpec.ofChange fnExactWideShiftedSpec)

/-- ITS FALSE NEIGHBOUR: 'it returns false'. Refute it at one input. -/
def fnExactWideShiftedWrong : ChangeSpec := { name := "fnExactWideShifted", fn := fun _ => fun
  | [d1, d2] => { results := [.lit (.bool false)], args := [d1, d2] }
  | _ => none }
def FnExactWideShiftedWrongFalsely : Prop := fnExactWideShiftedRow.holds Try.pinned (OpenSpec.ofChange fnExactWideShiftedWrong)

/-- 'laws.FnExactWideCmp': WHATEVER THE INPUT: true; the input reads as it did. -/
def fnExactWideCmpSpec : ChangeSpec := { name := "fnExactWideCmp", fn := fun _ => fun
  | [d1, d2] => { results := [.lit (.bool true)], args := [d1, d2] }
  | _ => none }
def fnExactWideCmpRow : OpenClaim := { program := "ytlifpkdmcpjhpaa", sum := "cab461199c18517d6a8460789bdac522a2cb4953cd8ca1fa1450b2305c3674cd", func := "loop.example/g00672/laws.FnExactWideCmp", spec := "fnExactWideCmp", apart := false }
def FnExactWideCmpSaid : Prop := fnExactWideCmpRow.holds Try.pinned (OpenSpec.ofChange fnExactWideCmpSpec)

/-- ITS FALSE NEIGHBOUR: 'it returns false'. Refute it at one input. -/
def fnExactWideCmpWrong : ChangeSpec := { name := "fnExactWideCmp", fn := fun _ => fun
  | [d1, d2] => { results := [.lit (.bool false)], args := [d1, d2] }
  | _ => none }
def FnExactWideCmpWrongFalsely : Prop := fnExactWideCmpRow.holds Try.pinned (OpenSpec.ofChange fnExactWideCmpWrong)

/-- 'laws.FnExactBitLen': WHATEVER THE INPUT: true; the input reads as it did. -/
def fnExactBitLenSpec : ChangeSpec := { name := "fnExactBitLen", fn := fun _ => fun
  | [d] => { results := [.lit (.bool true)], args := [d] }
  | _ => none }
def fnExactBitLenRow : OpenClaim := { program := "ytlifpkdmcpjhpaa", sum := "cab461199c18517d6a8460789bdac522a2cb4953cd8ca1fa1450b2305c3674cd", func := "loop.example/g00672/laws.FnExactBitLen", spec := "fnExactBitLen", apart := false }
def FnExactBitLenSaid : Prop := fnExactBitLenRow.holds Try.pinned (OpenSpec.ofChange fnExactBitLenSpec)

/-- ITS FALSE NEIGHBOUR: 'it returns false'. Refute it at one input. -/
def fnExactBitLenWrong : ChangeSpec := { name := "fnExactBitLen", fn := fun _ => fun
  | [d] => { results := [.lit (.bool false)], args := [d] }
  | _ => none }
def FnExactBitLenWrongFalsely : Prop := fnExactBitLenRow.holds Try.pinned (OpenSpec.ofChange fnExactBitLenWrong)

/-- 'laws.FnExactWideText': WHATEVER THE INPUT: true; the input reads as it did. -/
def fnExactWideTextSpec : ChangeSpec := { name := "fnExactWideText", fn := fun _ => fun
  | [d] => { results := [.lit (.bool true)], args := [d] }
  | _ => none }
def fnExactWideTextRow : OpenClaim := { program := "ytlifpkdmcpjhpaa", sum := "cab461199c18517d6a8460789bdac522a2cb4953cd8ca1fa1450b2305c3674cd", func := "loop.example/g00672/laws.FnExactWideText", spec := "fnExactWideText", apart := false }
def FnExactWideTextSaid : Prop := fnExactWideTextRow.holds Try.pinned (OpenSpec.ofChange fnExactWideTextSpec)

/-- ITS FALSE NEIGHBOUR: 'it returns false'. Refute it at one input. -/
def fnExactWideTextWrong : ChangeSpec := { name := "fnExactWideText", fn := fun _ => fun
  | [d] => { results := [.lit (.bool false)], args := [d] }
  | _ => none }
def FnExactWideTextWrongFalsely : Prop := fnExactWideTextRow.holds Try.pinned (OpenSpec.ofChange fnExactWideTextWrong)

/-- 'laws.FnExactReadWide': WHATEVER THE INPUT: true; the input reads as it did. -/
def fnExactReadWideSpec : ChangeSpec := { name := "fnExactReadWide", fn := fun _ => fun
  | [d] => { results := [.lit (.bool true)], args := [d] }
  | _ => none }
def fnExactReadWideRow : OpenClaim := { program := "ytlifpkdmcpjhpaa", sum := "cab461199c18517d6a8460789bdac522a2cb4953cd8ca1fa1450b2305c3674cd", func := "loop.example/g00672/laws.FnExactReadWide", spec := "fnExactReadWide", apart := false }
def FnExactReadWideSaid : Prop := fnExactReadWideRow.holds Try.pinned (OpenSpec.ofChange fnExactReadWideSpec)

/-- ITS FALSE NEIGHBOUR: 'it returns false'. Refute it at one input. -/
def fnExactReadWideWrong : ChangeSpec := { name := "fnExactReadWide", fn := fun _ => fun
  | [d] => { results := [.lit (.bool false)], args := [d] }
  | _ => none }
def FnExactReadWideWrongFalsely : Prop := fnExactReadWideRow.holds Try.pinned (OpenSpec.ofChange fnExactReadWideWrong)

/- THE SECOND FORM. 'bulk': how many values and letters a reading holds, each counted each time it is reached (what is shared counts as often as it is met; a slice's spare places count too). A statement '..UptoSaid' is the law's where the arguments, and the package variables that the reading takes, are together of bulk at most 1048576: NARROWER than '..Said'. Prove '..Said' where nothing that the law and all that it calls make is longer than what came in: it says more and counts as full. Else prove '..UptoSaid'. A law counts once. -/
mutual
def uptoBulk {H : Type} : DataW H → Nat
  | .lit (.string bytes) => bytes.length + 1
  | .lit _ => 1
  | .nil => 1
  | .ptr d => uptoBulk d + 1
  | .slice elems spare => uptoBulkAll elems + uptoBulkAll spare + 1
  | .agg parts => uptoBulkAll parts + 1
  | .iface _ d => uptoBulk d + 1
  | .map entries => uptoBulkEntries entries + 1
  | .held _ => 1
def uptoBulkAll {H : Type} : List (DataW H) → Nat
  | [] => 0
  | d :: r => uptoBulk d + uptoBulkAll r
def uptoBulkEntries {H : Type} : List (Lit × DataW H) → Nat
  | [] => 0
  | x :: r => uptoBulkEntry x + uptoBulkEntries r
def uptoBulkEntry {H : Type} : Lit × DataW H → Nat
  | (.string bytes, d) => bytes.length + uptoBulk d + 1
  | (_, d) => uptoBulk d + 1
 end
def uptoSmall : (H : Type) → List (DataW H) → Bool := fun _ ds => decide (uptoBulkAll ds ≤ 1048576)
def OpenSpec.upto (s : _root_.Go.ChangeSpec) : _root_.Go.OpenSpec := { _root_.Go.OpenSpec.ofChange s with cond := some uptoSmall }

/-- 'laws.FnWideAdd', WHERE WHAT IT READS IS OF BULK AT MOST 1048576: true; the input reads as it did. -/
def fnWideAddUptoRow : OpenClaim := { program := "ytlifpkdmcpjhpaa", sum := "cab461199c18517d6a8460789bdac522a2cb4953cd8ca1fa1450b2305c3674cd", func := "loop.example/g00672/laws.FnWideAdd", spec := "fnWideAdd", apart := false, narrowed := true }
def FnWideAddUptoSaid : Prop := fnWideAddUptoRow.holds Try.pinned (OpenSpec.upto fnWideAddSpec)

/-- 'laws.FnWideMul', WHERE WHAT IT READS IS OF BULK AT MOST 1048576: true; the input reads as it did. -/
def fnWideMulUptoRow : OpenClaim := { program := "ytlifpkdmcpjhpaa", sum := "cab461199c18517d6a8460789bdac522a2cb4953cd8ca1fa1450b2305c3674cd", func := "loop.example/g00672/laws.FnWideMul", spec := "fnWideMul", apart := false, narrowed := true }
def FnWideMulUptoSaid : Prop := fnWideMulUptoRow.holds Try.pinned (OpenSpec.upto fnWideMulSpec)

/-- 'laws.FnWideShifted', WHERE WHAT IT READS IS OF BULK AT MOST 1048576: true; the input reads as it did. -/
def fnWideShiftedUptoRow : OpenClaim := { program := "ytlifpkdmcpjhpaa", sum := "cab461199c18517d6a8460789bdac522a2cb4953cd8ca1fa1450b2305c3674cd", func := "loop.example/g00672/laws.FnWideShifted", spec := "fnWideShifted", apart := false, narrowed := true }
def FnWideShiftedUptoSaid : Prop := fnWideShiftedUptoRow.holds Try.pinned (OpenSpec.upto fnWideShiftedSpec)

/-- 'laws.FnWideOrder', WHERE WHAT IT READS IS OF BULK AT MOST 1048576: true; the input reads as it did. -/
def fnWideOrderUptoRow : OpenClaim := { program := "ytlifpkdmcpjhpaa", sum := "cab461199c18517d6a8460789bdac522a2cb4953cd8ca1fa1450b2305c3674cd", func := "loop.example/g00672/laws.FnWideOrder", spec := "fnWideOrder", apart := false, narrowed := true }
def FnWideOrderUptoSaid : Prop := fnWideOrderUptoRow.holds Try.pinned (OpenSpec.upto fnWideOrderSpec)

/-- 'laws.FnWideTexts', WHERE WHAT IT READS IS OF BULK AT MOST 1048576: true; the input reads as it did. -/
def fnWideTextsUptoRow : OpenClaim := { program := "ytlifpkdmcpjhpaa", sum := "cab461199c18517d6a8460789bdac522a2cb4953cd8ca1fa1450b2305c3674cd", func := "loop.example/g00672/laws.FnWideTexts", spec := "fnWideTexts", apart := false, narrowed := true }
def FnWideTextsUptoSaid : Prop := fnWideTextsUptoRow.holds Try.pinned (OpenSpec.upto fnWideTextsSpec)

/-- 'laws.FnWideSmall', WHERE WHAT IT READS IS OF BULK AT MOST 1048576: true; the input reads as it did. -/
def fnWideSmallUptoRow : OpenClaim := { program := "ytlifpkdmcpjhpaa", sum := "cab461199c18517d6a8460789bdac522a2cb4953cd8ca1fa1450b2305c3674cd", func := "loop.example/g00672/laws.FnWideSmall", spec := "fnWideSmall", apart := false, narrowed := true }
def FnWideSmallUptoSaid : Prop := fnWideSmallUptoRow.holds Try.pinned (OpenSpec.upto fnWideSmallSpec)

/-- 'laws.FnExactWideOk', WHERE WHAT IT READS IS OF BULK AT MOST 1048576: true; the input reads as it did. -/
def fnExactWideOkUptoRow : OpenClaim := { program := "ytlifpkdmcpjhpaa", sum := "cab461199c18517d6a8460789bdac522a2cb4953cd8ca1fa1450b2305c3674cd", func := "loop.example/g00672/laws.FnExactWideOk", spec := "fnExactWideOk", apart := false, narrowed := true }
def FnExactWideOkUptoSaid : Prop := fnExactWideOkUptoRow.holds Try.pinned (OpenSpec.upto fnExactWideOkSpec)

/-- 'laws.FnExactWideOf', WHERE WHAT IT READS IS OF BULK AT MOST 1048576: true; the input reads as it did. -/
def fnExactWideOfUptoRow : OpenClaim := { program := "ytlifpkdmcpjhpaa", sum := "cab461199c18517d6a8460789bdac522a2cb4953cd8ca1fa1450b2305c3674cd", func := "loop.example/g00672/laws.FnExactWideOf", spec := "fnExactWideOf", apart := false, narrowed := true }
def FnExactWideOfUptoSaid : Prop := fnExactWideOfUptoRow.holds Try.pinned (OpenSpec.upto fnExactWideOfSpec)

/-- 'laws.FnExactWideSmall', WHERE WHAT IT READS IS OF BULK AT MOST 1048576: true; the input reads as it did. -/
def fnExactWideSmallUptoRow : OpenClaim := { program := "ytlifpkdmcpjhpaa", sum := "cab461199c18517d6a8460789bdac522a2cb4953cd8ca1fa1450b2305c3674cd", func := "loop.example/g00672/laws.FnExactWideSmall", spec := "fnExactWideSmall", apart := false, narrowed := true }
def FnExactWideSmallUptoSaid : Prop := fnExactWideSmallUptoRow.holds Try.pinned (OpenSpec.upto fnExactWideSmallSpec)

/-- 'laws.FnExactWideAdd', WHERE WHAT IT READS IS OF BULK AT MOST 1048576: true; the input reads as it did. -/
def fnExactWideAddUptoRow : OpenClaim := { program := "ytlifpkdmcpjhpaa", sum := "cab461199c18517d6a8460789bdac522a2cb4953cd8ca1fa1450b2305c3674cd", func := "loop.example/g00672/laws.FnExactWideAdd", spec := "fnExactWideAdd", apart := false, narrowed := true }
def FnExactWideAddUptoSaid : Prop := fnExactWideAddUptoRow.holds Try.pinned (OpenSpec.upto fnExactWideAddSpec)

/-- 'laws.FnExactWideMul', WHERE WHAT IT READS IS OF BULK AT MOST 1048576: true; the input reads as it did. -/
def fnExactWideMulUptoRow : OpenClaim := { program := "ytlifpkdmcpjhpaa", sum := "cab461199c18517d6a8460789bdac522a2cb4953cd8ca1fa1450b2305c3674cd", func := "loop.example/g00672/laws.FnExactWideMul", spec := "fnExactWideMul", apart := false, narrowed := true }
def FnExactWideMulUptoSaid : Prop := fnExactWideMulUptoRow.holds Try.pinned (OpenSpec.upto fnExactWideMulSpec)

/-- 'laws.FnExactWideNegated', WHERE WHAT IT READS IS OF BULK AT MOST 1048576: true; the input reads as it did. -/
def fnExactWideNegatedUptoRow : OpenClaim := { program := "ytlifpkdmcpjhpaa", sum := "cab461199c18517d6a8460789bdac522a2cb4953cd8ca1fa1450b2305c3674cd", func := "loop.example/g00672/laws.FnExactWideNegated", spec := "fnExactWideNegated", apart := false, narrowed := true }
def FnExactWideNegatedUptoSaid : Prop := fnExactWideNegatedUptoRow.holds Try.pinned (OpenSpec.upto fnExactWideNegatedSpec)

/-- 'laws.FnExactWideShifted', WHERE WHAT IT READS IS OF BULK AT MOST 1048576: true; the input reads as it did. -/
def fnExactWideShiftedUptoRow : OpenClaim := { program := "ytlifpkdmcpjhpaa", sum := "cab461199c18517d6a8460789bdac522a2cb4953cd8ca1fa1450b2305c3674cd", func := "loop.example/g00672/laws.FnExactWideShifted", spec := "fnExactWideShifted", apart := false, narrowed := true }
def FnExactWideShiftedUptoSaid : Prop := fnExactWideShiftedUptoRow.holds Try.pinned (OpenSpec.upto fnExactWideShiftedSpec)

/-- 'laws.FnExactWideCmp', WHERE WHAT IT READS IS OF BULK AT MOST 1048576: true; the input reads as it did. -/
def fnExactWideCmpUptoRow : OpenClaim := { program := "ytlifpkdmcpjhpaa", sum := "cab461199c18517d6a8460789bdac522a2cb4953cd8ca1fa1450b2305c3674cd", func := "loop.example/g00672/laws.FnExactWideCmp", spec := "fnExactWideCmp", apart := false, narrowed := true }
def FnExactWideCmpUptoSaid : Prop := fnExactWideCmpUptoRow.holds Try.pinned (OpenSpec.upto fnExactWideCmpSpec)

/-- 'laws.FnExactBitLen', WHERE WHAT IT READS IS OF BULK AT MOST 1048576: true; the input reads as it did. -/
def fnExactBitLenUptoRow : OpenClaim := { program := "ytlifpkdmcpjhpaa", sum := "cab461199c18517d6a8460789bdac522a2cb4953cd8ca1fa1450b2305c3674cd", func := "loop.example/g00672/laws.FnExactBitLen", spec := "fnExactBitLen", apart := false, narrowed := true }
def FnExactBitLenUptoSaid : Prop := fnExactBitLenUptoRow.holds Try.pinned (OpenSpec.upto fnExactBitLenSpec)

/-- 'laws.FnExactWideText', WHERE WHAT IT READS IS OF BULK AT MOST 1048576: true; the input reads as it did. -/
def fnExactWideTextUptoRow : OpenClaim := { program := "ytlifpkdmcpjhpaa", sum := "cab461199c18517d6a8460789bdac522a2cb4953cd8ca1fa1450b2305c3674cd", func := "loop.example/g00672/laws.FnExactWideText", spec := "fnExactWideText", apart := false, narrowed := true }
def FnExactWideTextUptoSaid : Prop := fnExactWideTextUptoRow.holds Try.pinned (OpenSpec.upto fnExactWideTextSpec)

/-- 'laws.FnExactReadWide', WHERE WHAT IT READS IS OF BULK AT MOST 1048576: true; the input reads as it did. -/
def fnExactReadWideUptoRow : OpenClaim := { program := "ytlifpkdmcpjhpaa", sum := "cab461199c18517d6a8460789bdac522a2cb4953cd8ca1fa1450b2305c3674cd", func := "loop.example/g00672/laws.FnExactReadWide", spec := "fnExactReadWide", apart := false, narrowed := true }
def FnExactReadWideUptoSaid : Prop := fnExactReadWideUptoRow.holds Try.pinned (OpenSpec.upto fnExactReadWideSpec)

end Rows
end Go.Proofs.Ytlifpkdmcpjhpaa
