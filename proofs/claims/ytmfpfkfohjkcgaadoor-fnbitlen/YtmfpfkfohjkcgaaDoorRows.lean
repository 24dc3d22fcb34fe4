/-
  NARROWER THAN 'FOR EVERY INPUT', by the rows' own cells (each row's printed sentence says how): FnParts: laid · FnFromParts: laid · FnExactBinOk: laid · FnExactBinMerge: laid · FnExactBinRound: laid · FnBitLen: laid.
  DERIVED. THE GIVEN ROWS OF THIS SEAT. 6 by the template 'for every input the law returns true; each argument reads behind the call as it read before'; 0 by the template 'total and deterministic' (their statements: YtmfpfkfohjkcgaaDoorTotals.lean).
  GIVEN WITH THE SEED: the statements are not yours to turn. If you find one false, say at which input.
  Laid BY PROGRAM, IN A SANDBOX (cutbox-rows.mjs): the forced cells as the released guide's own fill.sh prints them over the translation c142714fce5217be… (all of the seat's roots in one cut). By AI agents, Wed Nov 11 2026. No macro, syntax, notation, axiom, sorry.
-/
import Derived.Test.YtmfpfkfohjkcgaaDoorChecked
import GoSem.Claim
import GoSem.ClaimJoined
import GoSem.ClaimMapViews
import Derived.JoinedTies
import Derived.KernelRfl
namespace Go.Proofs.YtmfpfkfohjkcgaaDoor
/- THE CELL 'sum', in the pinned program and in every row, IS THE sha256 OF THE DUMP (.gsa) THAT YtmfpfkfohjkcgaaDoorProg.lean LOADS. Nothing in Lean hashes anything: it is a label: what it is worth is what the hold of that sum in a sandbox is worth. -/
noncomputable def Tryd.pinned : Pinned := { name := "ytmfpfkfohjkcgaadoor", sum := "c142714fce5217beb016722e6c2038ccd6170ee14b501bb3864250b553c3219f", checked := Tryd.checked }
namespace Rows
def none {H : Type} : Left H := { results := [], args := [] }

/- WHAT THE LISTED PACKAGE-LEVEL VARIABLES READ AS WHEN THE CALL BEGINS. Each datum BY PROGRAM (the guide's laid-datum.mjs) off the statement by which the dump's own 'gosem.cut.vars' lays the variable. In a bare row this is a premise. The card (YtmfpfkfohjkcgaaDoorCards.lean) ties it to the program's text. -/
def laid_math_bits_deBruijn64tab {H : Type} : DataW H := .agg [.lit (.int .u8 0), .lit (.int .u8 1), .lit (.int .u8 56), .lit (.int .u8 2), .lit (.int .u8 57), .lit (.int .u8 49), .lit (.int .u8 28), .lit (.int .u8 3), .lit (.int .u8 61), .lit (.int .u8 58), .lit (.int .u8 42), .lit (.int .u8 50), .lit (.int .u8 38), .lit (.int .u8 29), .lit (.int .u8 17), .lit (.int .u8 4), .lit (.int .u8 62), .lit (.int .u8 47), .lit (.int .u8 59), .lit (.int .u8 36), .lit (.int .u8 45), .lit (.int .u8 43), .lit (.int .u8 51), .lit (.int .u8 22), .lit (.int .u8 53), .lit (.int .u8 39), .lit (.int .u8 33), .lit (.int .u8 30), .lit (.int .u8 24), .lit (.int .u8 18), .lit (.int .u8 12), .lit (.int .u8 5), .lit (.int .u8 63), .lit (.int .u8 55), .lit (.int .u8 48), .lit (.int .u8 27), .lit (.int .u8 60), .lit (.int .u8 41), .lit (.int .u8 37), .lit (.int .u8 16), .lit (.int .u8 46), .lit (.int .u8 35), .lit (.int .u8 44), .lit (.int .u8 21), .lit (.int .u8 52), .lit (.int .u8 32), .lit (.int .u8 23), .lit (.int .u8 11), .lit (.int .u8 54), .lit (.int .u8 26), .lit (.int .u8 40), .lit (.int .u8 15), .lit (.int .u8 34), .lit (.int .u8 20), .lit (.int .u8 31), .lit (.int .u8 10), .lit (.int .u8 25), .lit (.int .u8 14), .lit (.int .u8 19), .lit (.int .u8 9), .lit (.int .u8 13), .lit (.int .u8 8), .lit (.int .u8 7), .lit (.int .u8 6)]
def laid_loop_example_g00672_impl_formSizes {H : Type} : DataW H := .agg [.agg [.lit (.int .u64 0), .lit (.int .u64 0), .lit (.int .i64 0)], .agg [.lit (.int .u64 23), .lit (.int .u64 255), .lit (.int .i64 (-149))], .agg [.lit (.int .u64 52), .lit (.int .u64 2047), .lit (.int .i64 (-1074))]]
def laid_math_bits_deBruijn32tab {H : Type} : DataW H := .agg [.lit (.int .u8 0), .lit (.int .u8 1), .lit (.int .u8 28), .lit (.int .u8 2), .lit (.int .u8 29), .lit (.int .u8 14), .lit (.int .u8 24), .lit (.int .u8 3), .lit (.int .u8 30), .lit (.int .u8 22), .lit (.int .u8 20), .lit (.int .u8 15), .lit (.int .u8 25), .lit (.int .u8 17), .lit (.int .u8 4), .lit (.int .u8 8), .lit (.int .u8 31), .lit (.int .u8 27), .lit (.int .u8 13), .lit (.int .u8 23), .lit (.int .u8 21), .lit (.int .u8 19), .lit (.int .u8 16), .lit (.int .u8 7), .lit (.int .u8 26), .lit (.int .u8 12), .lit (.int .u8 18), .lit (.int .u8 6), .lit (.int .u8 11), .lit (.int .u8 5), .lit (.int .u8 10), .lit (.int .u8 9)]

/-- 'laws.FnParts': WHATEVER THE INPUT: true; the input reads as it did. -/
def fnPartsSpec : ChangeSpec := { name := "fnParts", vars := ["loop.example/g00672/impl.formSizes"], fn := fun _ => fun
  | [d, g1] => { results := [.lit (.bool true)], args := [d], vars := [g1] }
  | _ => none }
def fnPartsRow : OpenClaim := { program := "ytmfpfkfohjkcgaadoor", sum := "c142714fce5217beb016722e6c2038ccd6170ee14b501bb3864250b553c3219f", func := "loop.example/g00672/laws.FnParts", spec := "fnParts", named := ["loop.example/g00672/impl.formSizes", "math/bits.deBruijn64tab"], apart := false, laid := [("math/bits.deBruijn64tab", laid_math_bits_deBruijn64tab), ("loop.example/g00672/impl.formSizes", laid_loop_example_g00672_impl_formSizes)] }
def FnPartsSaid : Prop := fnPartsRow.holds Tryd.pinned (OpenSpec.ofChange fnPartsSpec)

/-- ITS FALSE NEIGHBOUR: 'it returns false'. Refute it at one input. -/
def fnPartsWrong : ChangeSpec := { name := "fnParts", vars := ["loop.example/g00672/impl.formSizes"], fn := fun _ => fun
  | [d, g1] => { results := [.lit (.bool false)], args := [d], vars := [g1] }
  | _ => none }
def FnPartsWrongFalsely : Prop := fnPartsRow.holds Tryd.pinned (OpenSpec.ofChange fnPartsWrong)

/-- 'laws.FnFromParts': WHATEVER THE INPUT: true; the input reads as it did. -/
def fnFromPartsSpec : ChangeSpec := { name := "fnFromParts", vars := ["loop.example/g00672/impl.formSizes"], fn := fun _ => fun
  | [d, g1] => { results := [.lit (.bool true)], args := [d], vars := [g1] }
  | _ => none }
def fnFromPartsRow : OpenClaim := { program := "ytmfpfkfohjkcgaadoor", sum := "c142714fce5217beb016722e6c2038ccd6170ee14b501bb3864250b553c3219f", func := "loop.example/g00672/laws.FnFromParts", spec := "fnFromParts", named := ["loop.example/g00672/impl.formSizes", "math/bits.deBruijn64tab"], apart := false, laid := [("math/bits.deBruijn64tab", laid_math_bits_deBruijn64tab), ("loop.example/g00672/impl.formSizes", laid_loop_example_g00672_impl_formSizes)] }
def FnFromPartsSaid : Prop := fnFromPartsRow.holds Tryd.pinned (OpenSpec.ofChange fnFromPartsSpec)

/-- ITS FALSE NEIGHBOUR: 'it returns false'. Refute it at one input. -/
def fnFromPartsWrong : ChangeSpec := { name := "fnFromParts", vars := ["loop.example/g00672/impl.formSizes"], fn := fun _ => fun
  | [d, g1] => { results := [.lit (.bool false)], args := [d], vars := [g1] }
  | _ => none }
def FnFromPartsWrongFalsely : Prop := fnFromPartsRow.holds Tryd.pinned (OpenSpec.ofChange fnFromPartsWrong)

/-- 'laws.FnExactBinOk': WHATEVER THE INPUT: true; the input reads as it did. -/
def fnExactBinOkSpec : ChangeSpec := { name := "fnExactBinOk", vars := ["loop.example/g00672/impl.formSizes"], fn := fun _ => fun
  | [d, g1] => { results := [.lit (.bool true)], args := [d], vars := [g1] }
  | _ => none }
def fnExactBinOkRow : OpenClaim := { program := "ytmfpfkfohjkcgaadoor", sum := "c142714fce5217beb016722e6c2038ccd6170ee14b501bb3864250b553c3219f", func := "loop.example/g00672/laws.FnExactBinOk", spec := "fnExactBinOk", named := ["loop.example/g00672/impl.formSizes"], apart := false, laid := [("loop.example/g00672/impl.formSizes", laid_loop_example_g00672_impl_formSizes)] }
def FnExactBinOkSaid : Prop := fnExactBinOkRow.holds Tryd.pinned (OpenSpec.ofChange fnExactBinOkSpec)

/-- ITS FALSE NEIGHBOUR: 'it returns false'. Refute it at one input. -/
def fnExactBinOkWrong : ChangeSpec := { name := "fnExactBinOk", vars := ["loop.example/g00672/impl.formSizes"], fn := fun _ => fun
  | [d, g1] => { results := [.lit (.bool false)], args := [d], vars := [g1] }
  | _ => none }
def FnExactBinOkWrongFalsely : Prop := fnExactBinOkRow.holds Tryd.pinned (OpenSpec.ofChange fnExactBinOkWrong)

/-- 'laws.FnExactBinMerge': WHATEVER THE INPUT: true; the input reads as it did. -/
def fnExactBinMergeSpec : ChangeSpec := { name := "fnExactBinMerge", vars := ["loop.example/g00672/impl.formSizes"], fn := fun _ => fun
  | [d1, d2, g1] => { results := [.lit (.bool true)], args := [d1, d2], vars := [g1] }
  | _ => none }
def fnExactBinMergeRow : OpenClaim := { program := "ytmfpfkfohjkcgaadoor", sum := "c142714fce5217beb016722e6c2038ccd6170ee14b501bb3864250b553c3219f", func := "loop.example/g00672/laws.FnExactBinMerge", spec := "fnExactBinMerge", named := ["loop.example/g00672/impl.formSizes"], apart := false, laid := [("loop.example/g00672/impl.formSizes", laid_loop_example_g00672_impl_formSizes)] }
def FnExactBinMergeSaid : Prop := fnExactBinMergeRow.holds Tryd.pinned (OpenSpec.ofChange fnExactBinMergeSpec)

/-- ITS FALSE NEIGHBOUR: 'it returns false'. Refute it at one input. -/
def fnExactBinMergeWrong : ChangeSpec := { name := "fnExactBinMerge", vars := ["loop.example/g00672/impl.formSizes"], fn := fun _ => fun
  | [d1, d2, g1] => { results := [.lit (.bool false)], args := [d1, d2], vars := [g1] }
  | _ => none }
def FnExactBinMergeWrongFalsely : Prop := fnExactBinMergeRow.holds Tryd.pinned (OpenSpec.ofChange fnExactBinMergeWrong)

/-- 'laws.FnExactBinRound': WHATEVER THE INPUT: true; the input reads as it did. -/
def fnExactBinRoundSpec : ChangeSpec := { name := "fnExactBinRound", vars := ["loop.example/g00672/impl.formSizes"], fn := fun _ => fun
  | [d1, d2, g1] => { results := [.lit (.bool true)], args := [d1, d2], vars := [g1] }
  | _ => none }
def fnExactBinRoundRow : OpenClaim := { program := "ytmfpfkfohjkcgaadoor", sum := "c142714fce5217beb016722e6c2038ccd6170ee14b501bb3864250b553c3219f", func := "loop.example/g00672/laws.FnExactBinRound", spec := "fnExactBinRound", unfollowed := true, recurses := true, named := ["loop.example/g00672/impl.formSizes", "math/bits.deBruijn32tab", "math/bits.deBruijn64tab"], apart := false, laid := [("math/bits.deBruijn32tab", laid_math_bits_deBruijn32tab), ("math/bits.deBruijn64tab", laid_math_bits_deBruijn64tab), ("loop.example/g00672/impl.formSizes", laid_loop_example_g00672_impl_formSizes)] }
def FnExactBinRoundSaid : Prop := fnExactBinRoundRow.holds Tryd.pinned (OpenSpec.ofChange fnExactBinRoundSpec)

/-- ITS FALSE NEIGHBOUR: 'it returns false'. Refute it at one input. -/
def fnExactBinRoundWrong : ChangeSpec := { name := "fnExactBinRound", vars := ["loop.example/g00672/impl.formSizes"], fn := fun _ => fun
  | [d1, d2, g1] => { results := [.lit (.bool false)], args := [d1, d2], vars := [g1] }
  | _ => none }
def FnExactBinRoundWrongFalsely : Prop := fnExactBinRoundRow.holds Tryd.pinned (OpenSpec.ofChange fnExactBinRoundWrong)

/-- 'laws.FnBitLen': WHATEVER THE INPUT: true; the input reads as it did. -/
def fnBitLenSpec : ChangeSpec := { name := "fnBitLen", fn := fun _ => fun
  | [d] => { results := [.lit (.bool true)], args := [d] }
  | _ => none }
def fnBitLenRow : OpenClaim := { program := "ytmfpfkfohjkcgaadoor", sum := "c142714fce5217beb016722e6c2038ccd6170ee14b501bb3864250b553c3219f", func := "loop.example/g00672/laws.FnBitLen", spec := "fnBitLen", named := ["math/bits.deBruijn32tab"], apart := false, laid := [("math/bits.deBruijn32tab", laid_math_bits_deBruijn32tab)] }
def FnBitLenSaid : Prop := fnBitLenRow.holds Tryd.pinned (OpenSpec.ofChange fnBitLenSpec)

/-- ITS FALSE NEIGHBOUR: 'it returns false'. Refute it at one input. -/
def fnBitLenWrong : ChangeSpec := { name := "fnBitLen", fn := fun _ => fun
  | [d] => { results := [.lit (.bool false)], args := [d] }
  | _ => none }
def FnBitLenWrongFalsely : Prop := fnBitLenRow.holds Tryd.pinned (OpenSpec.ofChange fnBitLenWrong)

/- THE SECOND FORM. 'bulk': how many values and letters a reading holds, each counted each time it is reached (what is shared counts as often as it is met; a slice's spare places count too). A statement '..UptoSaid' is the law's where the arguments, and the package variables that the reading takes, are together of bulk at most 1048576: NARROWER than '..Said'. Prove '..Said' where nothing that the law and all that it calls make is longer than what came in: it says more and counts as full. Else prove '..UptoSaid'. A law counts once. -/
mutual
def uptoBulk {H : Type} : DataW H → Nat
  | .lit (.string bytes) => bytes.length + 1
  | .lit _ => 1
  | .nil => 1
  | .ptr d => uptoBulk d + 1
  | .slice elems spare => uptoBulkAll elems + uptoBulkAll spare + 1
  | .agg parts => uptoBulkAll parts + 1
  | .iface _ d => uptoBulk d + 1
  | .map entries => uptoBulkEntries entries + 1
  | .held _ => 1
def uptoBulkAll {H : Type} : List (DataW H) → Nat
  | [] => 0
  | d :: r => uptoBulk d + uptoBulkAll r
def uptoBulkEntries {H : Type} : List (Lit × DataW H) → Nat
  | [] => 0
  | x :: r => uptoBulkEntry x + uptoBulkEntries r
def uptoBulkEntry {H : Type} : Lit × DataW H → Nat
  | (.string bytes, d) => bytes.length + uptoBulk d + 1
  | (_, d) => uptoBulk d + 1
 end
def uptoSmall : (H : Type) → List (DataW H) → Bool := fun _ ds => decide (uptoBulkAll ds ≤ 1048576)
def OpenSpec.upto (s : _root_.Go.ChangeSpec) : _root_.Go.OpenSpec := { _root_.Go.OpenSpec.ofChange s with cond := some uptoSmall }

/-- 'laws.FnParts', WHERE WHAT IT READS IS OF BULK AT MOST 1048576: true; the input reads as it did. -/
def fnPartsUptoRow : OpenClaim := { program := "ytmfpfkfohjkcgaadoor", sum := "c142714fce5217beb016722e6c2038ccd6170ee14b501bb3864250b553c3219f", func := "loop.example/g00672/laws.FnParts", spec := "fnParts", named := ["loop.example/g00672/impl.formSizes", "math/bits.deBruijn64tab"], apart := false, laid := [("math/bits.deBruijn64tab", laid_math_bits_deBruijn64tab), ("loop.example/g00672/impl.formSizes", laid_loop_example_g00672_impl_formSizes)], narrowed := true }
def FnPartsUptoSaid : Prop := fnPartsUptoRow.holds Tryd.pinned (OpenSpec.upto fnPartsSpec)

/-- 'laws.FnFromParts', WHERE WHAT IT READS IS OF BULK AT MOST 1048576: true; the input reads as it did. -/
def fnFromPartsUptoRow : OpenClaim := { program := "ytmfpfkfohjkcgaadoor", sum := "c142714fce5217beb016722e6c2038ccd6170ee14b501bb3864250b553c3219f", func := "loop.example/g00672/laws.FnFromParts", spec := "fnFromParts", named := ["loop.example/g00672/impl.formSizes", "math/bits.deBruijn64tab"], apart := false, laid := [("math/bits.deBruijn64tab", laid_math_bits_deBruijn64tab), ("loop.example/g00672/impl.formSizes", laid_loop_example_g00672_impl_formSizes)], narrowed := true }
def FnFromPartsUptoSaid : Prop := fnFromPartsUptoRow.holds Tryd.pinned (OpenSpec.upto fnFromPartsSpec)

/-- 'laws.FnExactBinOk', WHERE WHAT IT READS IS OF BULK AT MOST 1048576: true; the input reads as it did. -/
def fnExactBinOkUptoRow : OpenClaim := { program := "ytmfpfkfohjkcgaadoor", sum := "c142714fce5217beb016722e6c2038ccd6170ee14b501bb3864250b553c3219f", func := "loop.example/g00672/laws.FnExactBinOk", spec := "fnExactBinOk", named := ["loop.example/g00672/impl.formSizes"], apart := false, laid := [("loop.example/g00672/impl.formSizes", laid_loop_example_g00672_impl_formSizes)], narrowed := true }
def FnExactBinOkUptoSaid : Prop := fnExactBinOkUptoRow.holds Tryd.pinned (OpenSpec.upto fnExactBinOkSpec)

/-- 'laws.FnExactBinMerge', WHERE WHAT IT READS IS OF BULK AT MOST 1048576: true; the input reads as it did. -/
def fnExactBinMergeUptoRow : OpenClaim := { program := "ytmfpfkfohjkcgaadoor", sum := "c142714fce5217beb016722e6c2038ccd6170ee14b501bb3864250b553c3219f", func := "loop.example/g00672/laws.FnExactBinMerge", spec := "fnExactBinMerge", named := ["loop.example/g00672/impl.formSizes"], apart := false, laid := [("loop.example/g00672/impl.formSizes", laid_loop_example_g00672_impl_formSizes)], narrowed := true }
def FnExactBinMergeUptoSaid : Prop := fnExactBinMergeUptoRow.holds Tryd.pinned (OpenSpec.upto fnExactBinMergeSpec)

/-- 'laws.FnExactBinRound', WHERE WHAT IT READS IS OF BULK AT MOST 1048576: true; the input reads as it did. -/
def fnExactBinRoundUptoRow : OpenClaim := { program := "ytmfpfkfohjkcgaadoor", sum := "c142714fce5217beb016722e6c2038ccd6170ee14b501bb3864250b553c3219f", func := "loop.example/g00672/laws.FnExactBinRound", spec := "fnExactBinRound", unfollowed := true, recurses := true, named := ["loop.example/g00672/impl.formSizes", "math/bits.deBruijn32tab", "math/bits.deBruijn64tab"], apart := false, laid := [("math/bits.deBruijn32tab", laid_math_bits_deBruijn32tab), ("math/bits.deBruijn64tab", laid_math_bits_deBruijn64tab), ("loop.example/g00672/impl.formSizes", laid_loop_example_g00672_impl_formSizes)], narrowed := true }
def FnExactBinRoundUptoSaid : Prop := fnExactBinRoundUptoRow.holds Tryd.pinned (OpenSpec.upto fnExactBinRoundSpec)

/-- 'laws.FnBitLen', WHERE WHAT IT READS IS OF BULK AT MOST 1048576: true; the input reads as it did. -/
def fnBitLenUptoRow : OpenClaim := { program := "ytmfpfkfohjkcgaadoor", sum := "c142714fce5217beb016722e6c2038ccd6170ee14b501bb3864250b553c3219f", func := "loop.example/g00672/laws.FnBitLen", spec := "fnBitLen", named := ["math/bits.deBruijn32tab"], apart := false, laid := [("math/bits.deBruijn32tab", laid_math_bits_deBruijn32tab)], narrowed := true }
def FnBitLenUptoSaid : Prop := fnBitLenUptoRow.holds Tryd.pinned (OpenSpec.upto fnBitLenSpec)

end Rows
end Go.Proofs.YtmfpfkfohjkcgaaDoor
