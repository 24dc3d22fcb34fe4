/-
  NARROWER THAN 'FOR EVERY INPUT', by the rows' own cells (each row's printed sentence says how): FnExactFloatInt: ifaces, laid · FnInts: ifaces, laid · FnExactDot: ifaces, laid · FnAccTurned: ifaces, laid · FnAccMerged: ifaces, laid · FnAccMerges: laid · FnAccNegated: laid · FnAccOnce: ifaces, laid · FnAccRound: laid · FnSumRounded: ifaces, laid · FnSumOdd: ifaces, laid · FnDotOnes: ifaces, laid · FnAbs: ifaces, laid.
  DERIVED. THE GIVEN ROWS OF THIS SEAT. 13 by the template 'for every input the law returns true; each argument reads behind the call as it read before'; 0 by the template 'total and deterministic' (their statements: YtkfjmcdniohljaaGreatDoorTotals.lean).
  GIVEN WITH THE SEED: the statements are not yours to turn. If you find one false, say at which input.
  Laid BY PROGRAM, IN A SANDBOX (cutbox-rows.mjs): the forced cells as the released guide's own fill.sh prints them over the translation 3128b4cc96854266… (all of the seat's roots in one cut). By AI agents, Wed Nov 11 2026. No macro, syntax, notation, axiom, sorry.
-/
import Derived.Test.YtkfjmcdniohljaaGreatDoorChecked
import GoSem.Claim
import GoSem.ClaimJoined
import GoSem.ClaimMapViews
import Derived.JoinedTies
import Derived.KernelRfl
namespace Go.Proofs.YtkfjmcdniohljaaGreatDoor
/- THE CELL 'sum', in the pinned program and in every row, IS THE sha256 OF THE DUMP (.gsa) THAT YtkfjmcdniohljaaGreatDoorProg.lean LOADS. Nothing in Lean hashes anything: it is a label: what it is worth is what the hold of that sum in a sandbox is worth. -/
noncomputable def Tryz.pinned : Pinned := { name := "ytkfjmcdniohljaagreatdoor", sum := "3128b4cc96854266e9cd2cf4072785a494b3d3a08d588c91ce27ec56c148642f", checked := Tryz.checked }
namespace Rows
def none {H : Type} : Left H := { results := [], args := [] }

/- WHAT THE LISTED PACKAGE-LEVEL VARIABLES READ AS WHEN THE CALL BEGINS. Each datum BY PROGRAM (the guide's laid-datum.mjs) off the statement by which the dump's own 'gosem.cut.vars' lays the variable. In a bare row this is a premise. The card (YtkfjmcdniohljaaGreatDoorCards.lean) ties it to the program's text. -/
def laid_math_bits_deBruijn32tab {H : Type} : DataW H := .agg [.lit (.int .u8 0), .lit (.int .u8 1), .lit (.int .u8 28), .lit (.int .u8 2), .lit (.int .u8 29), .lit (.int .u8 14), .lit (.int .u8 24), .lit (.int .u8 3), .lit (.int .u8 30), .lit (.int .u8 22), .lit (.int .u8 20), .lit (.int .u8 15), .lit (.int .u8 25), .lit (.int .u8 17), .lit (.int .u8 4), .lit (.int .u8 8), .lit (.int .u8 31), .lit (.int .u8 27), .lit (.int .u8 13), .lit (.int .u8 23), .lit (.int .u8 21), .lit (.int .u8 19), .lit (.int .u8 16), .lit (.int .u8 7), .lit (.int .u8 26), .lit (.int .u8 12), .lit (.int .u8 18), .lit (.int .u8 6), .lit (.int .u8 11), .lit (.int .u8 5), .lit (.int .u8 10), .lit (.int .u8 9)]
def laid_math_bits_deBruijn64tab {H : Type} : DataW H := .agg [.lit (.int .u8 0), .lit (.int .u8 1), .lit (.int .u8 56), .lit (.int .u8 2), .lit (.int .u8 57), .lit (.int .u8 49), .lit (.int .u8 28), .lit (.int .u8 3), .lit (.int .u8 61), .lit (.int .u8 58), .lit (.int .u8 42), .lit (.int .u8 50), .lit (.int .u8 38), .lit (.int .u8 29), .lit (.int .u8 17), .lit (.int .u8 4), .lit (.int .u8 62), .lit (.int .u8 47), .lit (.int .u8 59), .lit (.int .u8 36), .lit (.int .u8 45), .lit (.int .u8 43), .lit (.int .u8 51), .lit (.int .u8 22), .lit (.int .u8 53), .lit (.int .u8 39), .lit (.int .u8 33), .lit (.int .u8 30), .lit (.int .u8 24), .lit (.int .u8 18), .lit (.int .u8 12), .lit (.int .u8 5), .lit (.int .u8 63), .lit (.int .u8 55), .lit (.int .u8 48), .lit (.int .u8 27), .lit (.int .u8 60), .lit (.int .u8 41), .lit (.int .u8 37), .lit (.int .u8 16), .lit (.int .u8 46), .lit (.int .u8 35), .lit (.int .u8 44), .lit (.int .u8 21), .lit (.int .u8 52), .lit (.int .u8 32), .lit (.int .u8 23), .lit (.int .u8 11), .lit (.int .u8 54), .lit (.int .u8 26), .lit (.int .u8 40), .lit (.int .u8 15), .lit (.int .u8 34), .lit (.int .u8 20), .lit (.int .u8 31), .lit (.int .u8 10), .lit (.int .u8 25), .lit (.int .u8 14), .lit (.int .u8 19), .lit (.int .u8 9), .lit (.int .u8 13), .lit (.int .u8 8), .lit (.int .u8 7), .lit (.int .u8 6)]
def laid_errors_errorType {H : Type} : DataW H := .iface "internal/reflectlite.rtype" (.agg [.ptr (.lit (.string [101, 114, 114, 111, 114]))])
def laid_loop_example_g00672_impl_formSizes {H : Type} : DataW H := .agg [.agg [.lit (.int .u64 0), .lit (.int .u64 0), .lit (.int .i64 0)], .agg [.lit (.int .u64 23), .lit (.int .u64 255), .lit (.int .i64 (-149))], .agg [.lit (.int .u64 52), .lit (.int .u64 2047), .lit (.int .i64 (-1074))]]
def laid_loop_example_g00672_impl_errQuiet {H : Type} : DataW H := .iface "*errors.errorString" (.ptr (.agg [.lit (.string [111, 110, 101, 32, 105, 115, 32, 97, 32, 113, 117, 105, 101, 116, 32, 78, 97, 78])]))

/-- 'laws.FnExactFloatInt': WHATEVER THE INPUT: true; the input reads as it did. -/
def fnExactFloatIntSpec : ChangeSpec := { name := "fnExactFloatInt", vars := ["loop.example/g00672/impl.formSizes", "loop.example/g00672/impl.errQuiet"], fn := fun _ => fun
  | [d1, d2, d3, g1, g2] => { results := [.lit (.bool true)], args := [d1, d2, d3], vars := [g1, g2] }
  | _ => none }
def fnExactFloatIntRow : OpenClaim := { program := "ytkfjmcdniohljaagreatdoor", sum := "3128b4cc96854266e9cd2cf4072785a494b3d3a08d588c91ce27ec56c148642f", func := "loop.example/g00672/laws.FnExactFloatInt", spec := "fnExactFloatInt", inPlace := ["internal/reflectlite.ValueOf", "(internal/reflectlite.Value).Type", "(internal/reflectlite.Value).IsNil", "internal/reflectlite.TypeOf", "(internal/reflectlite.Value).Elem", "(internal/reflectlite.Value).Set"], unfollowed := true, recurses := true, named := ["loop.example/g00672/impl.formSizes", "loop.example/g00672/impl.errQuiet", "math/bits.deBruijn32tab", "errors.errorType", "math/bits.deBruijn64tab"], ifaces := true, apart := false, laid := [("math/bits.deBruijn32tab", laid_math_bits_deBruijn32tab), ("math/bits.deBruijn64tab", laid_math_bits_deBruijn64tab), ("errors.errorType", laid_errors_errorType), ("loop.example/g00672/impl.formSizes", laid_loop_example_g00672_impl_formSizes), ("loop.example/g00672/impl.errQuiet", laid_loop_example_g00672_impl_errQuiet)] }
def FnExactFloatIntSaid : Prop := fnExactFloatIntRow.holds Tryz.pinned (OpenSpec.ofChange fnExactFloatIntSpec)

/-- ITS FALSE NEIGHBOUR: 'it returns false'. Refute it at one input. -/
def fnExactFloatIntWrong : ChangeSpec := { name := "fnExactFloatInt", vars := ["loop.example/g00672/impl.formSizes", "loop.example/g00672/impl.errQuiet"], fn := fun _ => fun
  | [d1, d2, d3, g1, g2] => { results := [.lit (.bool false)], args := [d1, d2, d3], vars := [g1, g2] }
  | _ => none }
def FnExactFloatIntWrongFalsely : Prop := fnExactFloatIntRow.holds Tryz.pinned (OpenSpec.ofChange fnExactFloatIntWrong)

/-- 'laws.FnInts': WHATEVER THE INPUT: true; the input reads as it did. -/
def fnIntsSpec : ChangeSpec := { name := "fnInts", vars := ["loop.example/g00672/impl.formSizes", "loop.example/g00672/impl.errQuiet"], fn := fun _ => fun
  | [d, g1, g2] => { results := [.lit (.bool true)], args := [d], vars := [g1, g2] }
  | _ => none }
def fnIntsRow : OpenClaim := { program := "ytkfjmcdniohljaagreatdoor", sum := "3128b4cc96854266e9cd2cf4072785a494b3d3a08d588c91ce27ec56c148642f", func := "loop.example/g00672/laws.FnInts", spec := "fnInts", inPlace := ["internal/reflectlite.ValueOf", "(internal/reflectlite.Value).Type", "(internal/reflectlite.Value).IsNil", "internal/reflectlite.TypeOf", "(internal/reflectlite.Value).Elem", "(internal/reflectlite.Value).Set"], unfollowed := true, recurses := true, named := ["loop.example/g00672/impl.formSizes", "loop.example/g00672/impl.errQuiet", "math/bits.deBruijn32tab", "errors.errorType", "math/bits.deBruijn64tab"], ifaces := true, apart := false, laid := [("math/bits.deBruijn32tab", laid_math_bits_deBruijn32tab), ("math/bits.deBruijn64tab", laid_math_bits_deBruijn64tab), ("errors.errorType", laid_errors_errorType), ("loop.example/g00672/impl.formSizes", laid_loop_example_g00672_impl_formSizes), ("loop.example/g00672/impl.errQuiet", laid_loop_example_g00672_impl_errQuiet)] }
def FnIntsSaid : Prop := fnIntsRow.holds Tryz.pinned (OpenSpec.ofChange fnIntsSpec)

/-- ITS FALSE NEIGHBOUR: 'it returns false'. Refute it at one input. -/
def fnIntsWrong : ChangeSpec := { name := "fnInts", vars := ["loop.example/g00672/impl.formSizes", "loop.example/g00672/impl.errQuiet"], fn := fun _ => fun
  | [d, g1, g2] => { results := [.lit (.bool false)], args := [d], vars := [g1, g2] }
  | _ => none }
def FnIntsWrongFalsely : Prop := fnIntsRow.holds Tryz.pinned (OpenSpec.ofChange fnIntsWrong)

/-- 'laws.FnExactDot': WHATEVER THE INPUT: true; the input reads as it did. -/
def fnExactDotSpec : ChangeSpec := { name := "fnExactDot", vars := ["loop.example/g00672/impl.formSizes", "loop.example/g00672/impl.errQuiet"], fn := fun _ => fun
  | [d1, d2, d3, d4, g1, g2] => { results := [.lit (.bool true)], args := [d1, d2, d3, d4], vars := [g1, g2] }
  | _ => none }
def fnExactDotRow : OpenClaim := { program := "ytkfjmcdniohljaagreatdoor", sum := "3128b4cc96854266e9cd2cf4072785a494b3d3a08d588c91ce27ec56c148642f", func := "loop.example/g00672/laws.FnExactDot", spec := "fnExactDot", inPlace := ["internal/reflectlite.ValueOf", "(internal/reflectlite.Value).Type", "(internal/reflectlite.Value).IsNil", "internal/reflectlite.TypeOf", "(internal/reflectlite.Value).Elem", "(internal/reflectlite.Value).Set"], unfollowed := true, recurses := true, named := ["loop.example/g00672/impl.formSizes", "math/bits.deBruijn32tab", "math/bits.deBruijn64tab", "loop.example/g00672/impl.errQuiet", "errors.errorType"], ifaces := true, apart := false, laid := [("math/bits.deBruijn32tab", laid_math_bits_deBruijn32tab), ("math/bits.deBruijn64tab", laid_math_bits_deBruijn64tab), ("errors.errorType", laid_errors_errorType), ("loop.example/g00672/impl.formSizes", laid_loop_example_g00672_impl_formSizes), ("loop.example/g00672/impl.errQuiet", laid_loop_example_g00672_impl_errQuiet)] }
def FnExactDotSaid : Prop := fnExactDotRow.holds Tryz.pinned (OpenSpec.ofChange fnExactDotSpec)

/-- ITS FALSE NEIGHBOUR: 'it returns false'. Refute it at one input. -/
def fnExactDotWrong : ChangeSpec := { name := "fnExactDot", vars := ["loop.example/g00672/impl.formSizes", "loop.example/g00672/impl.errQuiet"], fn := fun _ => fun
  | [d1, d2, d3, d4, g1, g2] => { results := [.lit (.bool false)], args := [d1, d2, d3, d4], vars := [g1, g2] }
  | _ => none }
def FnExactDotWrongFalsely : Prop := fnExactDotRow.holds Tryz.pinned (OpenSpec.ofChange fnExactDotWrong)

/-- 'laws.FnAccTurned': WHATEVER THE INPUT: true; the input reads as it did. -/
def fnAccTurnedSpec : ChangeSpec := { name := "fnAccTurned", vars := ["loop.example/g00672/impl.formSizes", "loop.example/g00672/impl.errQuiet"], fn := fun _ => fun
  | [d1, d2, g1, g2] => { results := [.lit (.bool true)], args := [d1, d2], vars := [g1, g2] }
  | _ => none }
def fnAccTurnedRow : OpenClaim := { program := "ytkfjmcdniohljaagreatdoor", sum := "3128b4cc96854266e9cd2cf4072785a494b3d3a08d588c91ce27ec56c148642f", func := "loop.example/g00672/laws.FnAccTurned", spec := "fnAccTurned", inPlace := ["internal/reflectlite.ValueOf", "(internal/reflectlite.Value).Type", "(internal/reflectlite.Value).IsNil", "internal/reflectlite.TypeOf", "(internal/reflectlite.Value).Elem", "(internal/reflectlite.Value).Set"], unfollowed := true, recurses := true, named := ["loop.example/g00672/impl.formSizes", "loop.example/g00672/impl.errQuiet", "errors.errorType"], ifaces := true, apart := false, laid := [("errors.errorType", laid_errors_errorType), ("loop.example/g00672/impl.formSizes", laid_loop_example_g00672_impl_formSizes), ("loop.example/g00672/impl.errQuiet", laid_loop_example_g00672_impl_errQuiet)] }
def FnAccTurnedSaid : Prop := fnAccTurnedRow.holds Tryz.pinned (OpenSpec.ofChange fnAccTurnedSpec)

/-- ITS FALSE NEIGHBOUR: 'it returns false'. Refute it at one input. -/
def fnAccTurnedWrong : ChangeSpec := { name := "fnAccTurned", vars := ["loop.example/g00672/impl.formSizes", "loop.example/g00672/impl.errQuiet"], fn := fun _ => fun
  | [d1, d2, g1, g2] => { results := [.lit (.bool false)], args := [d1, d2], vars := [g1, g2] }
  | _ => none }
def FnAccTurnedWrongFalsely : Prop := fnAccTurnedRow.holds Tryz.pinned (OpenSpec.ofChange fnAccTurnedWrong)

/-- 'laws.FnAccMerged': WHATEVER THE INPUT: true; the input reads as it did. -/
def fnAccMergedSpec : ChangeSpec := { name := "fnAccMerged", vars := ["loop.example/g00672/impl.formSizes", "loop.example/g00672/impl.errQuiet"], fn := fun _ => fun
  | [d1, d2, g1, g2] => { results := [.lit (.bool true)], args := [d1, d2], vars := [g1, g2] }
  | _ => none }
def fnAccMergedRow : OpenClaim := { program := "ytkfjmcdniohljaagreatdoor", sum := "3128b4cc96854266e9cd2cf4072785a494b3d3a08d588c91ce27ec56c148642f", func := "loop.example/g00672/laws.FnAccMerged", spec := "fnAccMerged", inPlace := ["internal/reflectlite.ValueOf", "(internal/reflectlite.Value).Type", "(internal/reflectlite.Value).IsNil", "internal/reflectlite.TypeOf", "(internal/reflectlite.Value).Elem", "(internal/reflectlite.Value).Set"], unfollowed := true, recurses := true, named := ["loop.example/g00672/impl.formSizes", "loop.example/g00672/impl.errQuiet", "errors.errorType"], ifaces := true, apart := false, laid := [("errors.errorType", laid_errors_errorType), ("loop.example/g00672/impl.formSizes", laid_loop_example_g00672_impl_formSizes), ("loop.example/g00672/impl.errQuiet", laid_loop_example_g00672_impl_errQuiet)] }
def FnAccMergedSaid : Prop := fnAccMergedRow.holds Tryz.pinned (OpenSpec.ofChange fnAccMergedSpec)

/-- ITS FALSE NEIGHBOUR: 'it returns false'. Refute it at one input. -/
def fnAccMergedWrong : ChangeSpec := { name := "fnAccMerged", vars := ["loop.example/g00672/impl.formSizes", "loop.example/g00672/impl.errQuiet"], fn := fun _ => fun
  | [d1, d2, g1, g2] => { results := [.lit (.bool false)], args := [d1, d2], vars := [g1, g2] }
  | _ => none }
def FnAccMergedWrongFalsely : Prop := fnAccMergedRow.holds Tryz.pinned (OpenSpec.ofChange fnAccMergedWrong)

/-- 'laws.FnAccMerges': WHATEVER THE INPUT: true; the input reads as it did. -/
def fnAccMergesSpec : ChangeSpec := { name := "fnAccMerges", vars := ["loop.example/g00672/impl.formSizes"], fn := fun _ => fun
  | [d1, d2, g1] => { results := [.lit (.bool true)], args := [d1, d2], vars := [g1] }
  | _ => none }
def fnAccMergesRow : OpenClaim := { program := "ytkfjmcdniohljaagreatdoor", sum := "3128b4cc96854266e9cd2cf4072785a494b3d3a08d588c91ce27ec56c148642f", func := "loop.example/g00672/laws.FnAccMerges", spec := "fnAccMerges", named := ["loop.example/g00672/impl.formSizes"], apart := false, laid := [("loop.example/g00672/impl.formSizes", laid_loop_example_g00672_impl_formSizes)] }
def FnAccMergesSaid : Prop := fnAccMergesRow.holds Tryz.pinned (OpenSpec.ofChange fnAccMergesSpec)

/-- ITS FALSE NEIGHBOUR: 'it returns false'. Refute it at one input. -/
def fnAccMergesWrong : ChangeSpec := { name := "fnAccMerges", vars := ["loop.example/g00672/impl.formSizes"], fn := fun _ => fun
  | [d1, d2, g1] => { results := [.lit (.bool false)], args := [d1, d2], vars := [g1] }
  | _ => none }
def FnAccMergesWrongFalsely : Prop := fnAccMergesRow.holds Tryz.pinned (OpenSpec.ofChange fnAccMergesWrong)

/-- 'laws.FnAccNegated': WHATEVER THE INPUT: true; the input reads as it did. -/
def fnAccNegatedSpec : ChangeSpec := { name := "fnAccNegated", vars := ["loop.example/g00672/impl.formSizes"], fn := fun _ => fun
  | [d, g1] => { results := [.lit (.bool true)], args := [d], vars := [g1] }
  | _ => none }
def fnAccNegatedRow : OpenClaim := { program := "ytkfjmcdniohljaagreatdoor", sum := "3128b4cc96854266e9cd2cf4072785a494b3d3a08d588c91ce27ec56c148642f", func := "loop.example/g00672/laws.FnAccNegated", spec := "fnAccNegated", unfollowed := true, recurses := true, named := ["loop.example/g00672/impl.formSizes", "math/bits.deBruijn32tab", "math/bits.deBruijn64tab"], apart := false, laid := [("math/bits.deBruijn32tab", laid_math_bits_deBruijn32tab), ("math/bits.deBruijn64tab", laid_math_bits_deBruijn64tab), ("loop.example/g00672/impl.formSizes", laid_loop_example_g00672_impl_formSizes)] }
def FnAccNegatedSaid : Prop := fnAccNegatedRow.holds Tryz.pinned (OpenSpec.ofChange fnAccNegatedSpec)

/-- ITS FALSE NEIGHBOUR: 'it returns false'. Refute it at one input. -/
def fnAccNegatedWrong : ChangeSpec := { name := "fnAccNegated", vars := ["loop.example/g00672/impl.formSizes"], fn := fun _ => fun
  | [d, g1] => { results := [.lit (.bool false)], args := [d], vars := [g1] }
  | _ => none }
def FnAccNegatedWrongFalsely : Prop := fnAccNegatedRow.holds Tryz.pinned (OpenSpec.ofChange fnAccNegatedWrong)

/-- 'laws.FnAccOnce': WHATEVER THE INPUT: true; the input reads as it did. -/
def fnAccOnceSpec : ChangeSpec := { name := "fnAccOnce", vars := ["loop.example/g00672/impl.formSizes", "loop.example/g00672/impl.errQuiet"], fn := fun _ => fun
  | [d, g1, g2] => { results := [.lit (.bool true)], args := [d], vars := [g1, g2] }
  | _ => none }
def fnAccOnceRow : OpenClaim := { program := "ytkfjmcdniohljaagreatdoor", sum := "3128b4cc96854266e9cd2cf4072785a494b3d3a08d588c91ce27ec56c148642f", func := "loop.example/g00672/laws.FnAccOnce", spec := "fnAccOnce", inPlace := ["internal/reflectlite.ValueOf", "(internal/reflectlite.Value).Type", "(internal/reflectlite.Value).IsNil", "internal/reflectlite.TypeOf", "(internal/reflectlite.Value).Elem", "(internal/reflectlite.Value).Set"], unfollowed := true, recurses := true, named := ["loop.example/g00672/impl.formSizes", "loop.example/g00672/impl.errQuiet", "errors.errorType", "math/bits.deBruijn32tab", "math/bits.deBruijn64tab"], ifaces := true, apart := false, laid := [("math/bits.deBruijn32tab", laid_math_bits_deBruijn32tab), ("math/bits.deBruijn64tab", laid_math_bits_deBruijn64tab), ("errors.errorType", laid_errors_errorType), ("loop.example/g00672/impl.formSizes", laid_loop_example_g00672_impl_formSizes), ("loop.example/g00672/impl.errQuiet", laid_loop_example_g00672_impl_errQuiet)] }
def FnAccOnceSaid : Prop := fnAccOnceRow.holds Tryz.pinned (OpenSpec.ofChange fnAccOnceSpec)

/-- ITS FALSE NEIGHBOUR: 'it returns false'. Refute it at one input. -/
def fnAccOnceWrong : ChangeSpec := { name := "fnAccOnce", vars := ["loop.example/g00672/impl.formSizes", "loop.example/g00672/impl.errQuiet"], fn := fun _ => fun
  | [d, g1, g2] => { results := [.lit (.bool false)], args := [d], vars := [g1, g2] }
  | _ => none }
def FnAccOnceWrongFalsely : Prop := fnAccOnceRow.holds Tryz.pinned (OpenSpec.ofChange fnAccOnceWrong)

/-- 'laws.FnAccRound': WHATEVER THE INPUT: true; the input reads as it did. -/
def fnAccRoundSpec : ChangeSpec := { name := "fnAccRound", vars := ["loop.example/g00672/impl.formSizes"], fn := fun _ => fun
  | [d, g1] => { results := [.lit (.bool true)], args := [d], vars := [g1] }
  | _ => none }
def fnAccRoundRow : OpenClaim := { program := "ytkfjmcdniohljaagreatdoor", sum := "3128b4cc96854266e9cd2cf4072785a494b3d3a08d588c91ce27ec56c148642f", func := "loop.example/g00672/laws.FnAccRound", spec := "fnAccRound", unfollowed := true, recurses := true, named := ["loop.example/g00672/impl.formSizes", "math/bits.deBruijn32tab", "math/bits.deBruijn64tab"], apart := false, laid := [("math/bits.deBruijn32tab", laid_math_bits_deBruijn32tab), ("math/bits.deBruijn64tab", laid_math_bits_deBruijn64tab), ("loop.example/g00672/impl.formSizes", laid_loop_example_g00672_impl_formSizes)] }
def FnAccRoundSaid : Prop := fnAccRoundRow.holds Tryz.pinned (OpenSpec.ofChange fnAccRoundSpec)

/-- ITS FALSE NEIGHBOUR: 'it returns false'. Refute it at one input. -/
def fnAccRoundWrong : ChangeSpec := { name := "fnAccRound", vars := ["loop.example/g00672/impl.formSizes"], fn := fun _ => fun
  | [d, g1] => { results := [.lit (.bool false)], args := [d], vars := [g1] }
  | _ => none }
def FnAccRoundWrongFalsely : Prop := fnAccRoundRow.holds Tryz.pinned (OpenSpec.ofChange fnAccRoundWrong)

/-- 'laws.FnSumRounded': WHATEVER THE INPUT: true; the input reads as it did. -/
def fnSumRoundedSpec : ChangeSpec := { name := "fnSumRounded", vars := ["loop.example/g00672/impl.formSizes", "loop.example/g00672/impl.errQuiet"], fn := fun _ => fun
  | [d, g1, g2] => { results := [.lit (.bool true)], args := [d], vars := [g1, g2] }
  | _ => none }
def fnSumRoundedRow : OpenClaim := { program := "ytkfjmcdniohljaagreatdoor", sum := "3128b4cc96854266e9cd2cf4072785a494b3d3a08d588c91ce27ec56c148642f", func := "loop.example/g00672/laws.FnSumRounded", spec := "fnSumRounded", inPlace := ["internal/reflectlite.ValueOf", "(internal/reflectlite.Value).Type", "(internal/reflectlite.Value).IsNil", "internal/reflectlite.TypeOf", "(internal/reflectlite.Value).Elem", "(internal/reflectlite.Value).Set"], unfollowed := true, recurses := true, named := ["loop.example/g00672/impl.formSizes", "math/bits.deBruijn32tab", "math/bits.deBruijn64tab", "loop.example/g00672/impl.errQuiet", "errors.errorType"], ifaces := true, apart := false, laid := [("math/bits.deBruijn32tab", laid_math_bits_deBruijn32tab), ("math/bits.deBruijn64tab", laid_math_bits_deBruijn64tab), ("errors.errorType", laid_errors_errorType), ("loop.example/g00672/impl.formSizes", laid_loop_example_g00672_impl_formSizes), ("loop.example/g00672/impl.errQuiet", laid_loop_example_g00672_impl_errQuiet)] }
def FnSumRoundedSaid : Prop := fnSumRoundedRow.holds Tryz.pinned (OpenSpec.ofChange fnSumRoundedSpec)

/-- ITS FALSE NEIGHBOUR: 'it returns false'. Refute it at one input. -/
def fnSumRoundedWrong : ChangeSpec := { name := "fnSumRounded", vars := ["loop.example/g00672/impl.formSizes", "loop.example/g00672/impl.errQuiet"], fn := fun _ => fun
  | [d, g1, g2] => { results := [.lit (.bool false)], args := [d], vars := [g1, g2] }
  | _ => none }
def FnSumRoundedWrongFalsely : Prop := fnSumRoundedRow.holds Tryz.pinned (OpenSpec.ofChange fnSumRoundedWrong)

/-- 'laws.FnSumOdd': WHATEVER THE INPUT: true; the input reads as it did. -/
def fnSumOddSpec : ChangeSpec := { name := "fnSumOdd", vars := ["loop.example/g00672/impl.formSizes", "loop.example/g00672/impl.errQuiet"], fn := fun _ => fun
  | [d, g1, g2] => { results := [.lit (.bool true)], args := [d], vars := [g1, g2] }
  | _ => none }
def fnSumOddRow : OpenClaim := { program := "ytkfjmcdniohljaagreatdoor", sum := "3128b4cc96854266e9cd2cf4072785a494b3d3a08d588c91ce27ec56c148642f", func := "loop.example/g00672/laws.FnSumOdd", spec := "fnSumOdd", inPlace := ["internal/reflectlite.ValueOf", "(internal/reflectlite.Value).Type", "(internal/reflectlite.Value).IsNil", "internal/reflectlite.TypeOf", "(internal/reflectlite.Value).Elem", "(internal/reflectlite.Value).Set"], unfollowed := true, recurses := true, named := ["loop.example/g00672/impl.formSizes", "math/bits.deBruijn32tab", "math/bits.deBruijn64tab", "loop.example/g00672/impl.errQuiet", "errors.errorType"], ifaces := true, apart := false, laid := [("math/bits.deBruijn32tab", laid_math_bits_deBruijn32tab), ("math/bits.deBruijn64tab", laid_math_bits_deBruijn64tab), ("errors.errorType", laid_errors_errorType), ("loop.example/g00672/impl.formSizes", laid_loop_example_g00672_impl_formSizes), ("loop.example/g00672/impl.errQuiet", laid_loop_example_g00672_impl_errQuiet)] }
def FnSumOddSaid : Prop := fnSumOddRow.holds Tryz.pinned (OpenSpec.ofChange fnSumOddSpec)

/-- ITS FALSE NEIGHBOUR: 'it returns false'. Refute it at one input. -/
def fnSumOddWrong : ChangeSpec := { name := "fnSumOdd", vars := ["loop.example/g00672/impl.formSizes", "loop.example/g00672/impl.errQuiet"], fn := fun _ => fun
  | [d, g1, g2] => { results := [.lit (.bool false)], args := [d], vars := [g1, g2] }
  | _ => none }
def FnSumOddWrongFalsely : Prop := fnSumOddRow.holds Tryz.pinned (OpenSpec.ofChange fnSumOddWrong)

/-- 'laws.FnDotOnes': WHATEVER THE INPUT: true; the input reads as it did. -/
def fnDotOnesSpec : ChangeSpec := { name := "fnDotOnes", vars := ["loop.example/g00672/impl.formSizes", "loop.example/g00672/impl.errQuiet"], fn := fun _ => fun
  | [d, g1, g2] => { results := [.lit (.bool true)], args := [d], vars := [g1, g2] }
  | _ => none }
def fnDotOnesRow : OpenClaim := { program := "ytkfjmcdniohljaagreatdoor", sum := "3128b4cc96854266e9cd2cf4072785a494b3d3a08d588c91ce27ec56c148642f", func := "loop.example/g00672/laws.FnDotOnes", spec := "fnDotOnes", inPlace := ["internal/reflectlite.ValueOf", "(internal/reflectlite.Value).Type", "(internal/reflectlite.Value).IsNil", "internal/reflectlite.TypeOf", "(internal/reflectlite.Value).Elem", "(internal/reflectlite.Value).Set"], unfollowed := true, recurses := true, named := ["loop.example/g00672/impl.formSizes", "math/bits.deBruijn32tab", "math/bits.deBruijn64tab", "loop.example/g00672/impl.errQuiet", "errors.errorType"], ifaces := true, apart := false, laid := [("math/bits.deBruijn32tab", laid_math_bits_deBruijn32tab), ("math/bits.deBruijn64tab", laid_math_bits_deBruijn64tab), ("errors.errorType", laid_errors_errorType), ("loop.example/g00672/impl.formSizes", laid_loop_example_g00672_impl_formSizes), ("loop.example/g00672/impl.errQuiet", laid_loop_example_g00672_impl_errQuiet)] }
def FnDotOnesSaid : Prop := fnDotOnesRow.holds Tryz.pinned (OpenSpec.ofChange fnDotOnesSpec)

/-- ITS FALSE NEIGHBOUR: 'it returns false'. Refute it at one input. -/
def fnDotOnesWrong : ChangeSpec := { name := "fnDotOnes", vars := ["loop.example/g00672/impl.formSizes", "loop.example/g00672/impl.errQuiet"], fn := fun _ => fun
  | [d, g1, g2] => { results := [.lit (.bool false)], args := [d], vars := [g1, g2] }
  | _ => none }
def FnDotOnesWrongFalsely : Prop := fnDotOnesRow.holds Tryz.pinned (OpenSpec.ofChange fnDotOnesWrong)

/-- 'laws.FnAbs': WHATEVER THE INPUT: true; the input reads as it did. -/
def fnAbsSpec : ChangeSpec := { name := "fnAbs", vars := ["loop.example/g00672/impl.formSizes", "loop.example/g00672/impl.errQuiet"], fn := fun _ => fun
  | [d, g1, g2] => { results := [.lit (.bool true)], args := [d], vars := [g1, g2] }
  | _ => none }
def fnAbsRow : OpenClaim := { program := "ytkfjmcdniohljaagreatdoor", sum := "3128b4cc96854266e9cd2cf4072785a494b3d3a08d588c91ce27ec56c148642f", func := "loop.example/g00672/laws.FnAbs", spec := "fnAbs", inPlace := ["internal/reflectlite.ValueOf", "(internal/reflectlite.Value).Type", "(internal/reflectlite.Value).IsNil", "internal/reflectlite.TypeOf", "(internal/reflectlite.Value).Elem", "(internal/reflectlite.Value).Set"], unfollowed := true, recurses := true, named := ["loop.example/g00672/impl.formSizes", "math/bits.deBruijn32tab", "math/bits.deBruijn64tab", "loop.example/g00672/impl.errQuiet", "errors.errorType"], ifaces := true, apart := false, laid := [("math/bits.deBruijn32tab", laid_math_bits_deBruijn32tab), ("math/bits.deBruijn64tab", laid_math_bits_deBruijn64tab), ("errors.errorType", laid_errors_errorType), ("loop.example/g00672/impl.formSizes", laid_loop_example_g00672_impl_formSizes), ("loop.example/g00672/impl.errQuiet", laid_loop_example_g00672_impl_errQuiet)] }
def FnAbsSaid : Prop := fnAbsRow.holds Tryz.pinned (OpenSpec.ofChange fnAbsSpec)

/-- ITS FALSE NEIGHBOUR: 'it returns false'. Refute it at one input. -/
def fnAbsWrong : ChangeSpec := { name := "fnAbs", vars := ["loop.example/g00672/impl.formSizes", "loop.example/g00672/impl.errQuiet"], fn := fun _ => fun
  | [d, g1, g2] => { results := [.lit (.bool false)], args := [d], vars := [g1, g2] }
  | _ => none }
def FnAbsWrongFalsely : Prop := fnAbsRow.holds Tryz.pinned (OpenSpec.ofChange fnAbsWrong)

/- THE SECOND FORM. 'bulk': how many values and letters a reading holds, each counted each time it is reached (what is shared counts as often as it is met; a slice's spare places count too). A statement '..UptoSaid' is the law's where the arguments, and the package variables that the reading takes, are together of bulk at most 1048576: NARROWER than '..Said'. Prove '..Said' where nothing that the law and all that it calls make is longer than what came in: it says more and counts as full. Else prove '..UptoSaid'. A law counts once. -/
mutual
def uptoBulk {H : Type} : DataW H → Nat
  | .lit (.string bytes) => bytes.length + 1
  | .lit _ => 1
  | .nil => 1
  | .ptr d => uptoBulk d + 1
  | .slice elems spare => uptoBulkAll elems + uptoBulkAll spare + 1
  | .agg parts => uptoBulkAll parts + 1
  | .iface _ d => uptoBulk d + 1
  | .map entries => uptoBulkEntries entries + 1
  | .held _ => 1
def uptoBulkAll {H : Type} : List (DataW H) → Nat
  | [] => 0
  | d :: r => uptoBulk d + uptoBulkAll r
def uptoBulkEntries {H : Type} : List (Lit × DataW H) → Nat
  | [] => 0
  | x :: r => uptoBulkEntry x + uptoBulkEntries r
def uptoBulkEntry {H : Type} : Lit × DataW H → Nat
  | (.string bytes, d) => bytes.length + uptoBulk d + 1
  | (_, d) => uptoBulk d + 1
 end
def uptoSmall : (H : Type) → List (DataW H) → Bool := fun _ ds => decide (uptoBulkAll ds ≤ 1048576)
def OpenSpec.upto (s : _root_.Go.ChangeSpec) : _root_.Go.OpenSpec := { _root_.Go.OpenSpec.ofChange s with cond := some uptoSmall }

/-- 'laws.FnExactFloatInt', WHERE WHAT IT READS IS OF BULK AT MOST 1048576: true; the input reads as it did. -/
def fnExactFloatIntUptoRow : OpenClaim := { program := "ytkfjmcdniohljaagreatdoor", sum := "3128b4cc96854266e9cd2cf4072785a494b3d3a08d588c91ce27ec56c148642f", func := "loop.example/g00672/laws.FnExactFloatInt", spec := "fnExactFloatInt", inPlace := ["internal/reflectlite.ValueOf", "(internal/reflectlite.Value).Type", "(internal/reflectlite.Value).IsNil", "internal/reflectlite.TypeOf", "(internal/reflectlite.Value).Elem", "(internal/reflectlite.Value).Set"], unfollowed := true, recurses := true, named := ["loop.example/g00672/impl.formSizes", "loop.example/g00672/impl.errQuiet", "math/bits.deBruijn32tab", "errors.errorType", "math/bits.deBruijn64tab"], ifaces := true, apart := false, laid := [("math/bits.deBruijn32tab", laid_math_bits_deBruijn32tab), ("math/bits.deBruijn64tab", laid_math_bits_deBruijn64tab), ("errors.errorType", laid_errors_errorType), ("loop.example/g00672/impl.formSizes", laid_loop_example_g00672_impl_formSizes), ("loop.example/g00672/impl.errQuiet", laid_loop_example_g00672_impl_errQuiet)], narrowed := true }
def FnExactFloatIntUptoSaid : Prop := fnExactFloatIntUptoRow.holds Tryz.pinned (OpenSpec.upto fnExactFloatIntSpec)

/-- 'laws.FnInts', WHERE WHAT IT READS IS OF BULK AT MOST 1048576: true; the input reads as it did. -/
def fnIntsUptoRow : OpenClaim := { program := "ytkfjmcdniohljaagreatdoor", sum := "3128b4cc96854266e9cd2cf4072785a494b3d3a08d588c91ce27ec56c148642f", func := "loop.example/g00672/laws.FnInts", spec := "fnInts", inPlace := ["internal/reflectlite.ValueOf", "(internal/reflectlite.Value).Type", "(internal/reflectlite.Value).IsNil", "internal/reflectlite.TypeOf", "(internal/reflectlite.Value).Elem", "(internal/reflectlite.Value).Set"], unfollowed := true, recurses := true, named := ["loop.example/g00672/impl.formSizes", "loop.example/g00672/impl.errQuiet", "math/bits.deBruijn32tab", "errors.errorType", "math/bits.deBruijn64tab"], ifaces := true, apart := false, laid := [("math/bits.deBruijn32tab", laid_math_bits_deBruijn32tab), ("math/bits.deBruijn64tab", laid_math_bits_deBruijn64tab), ("errors.errorType", laid_errors_errorType), ("loop.example/g00672/impl.formSizes", laid_loop_example_g00672_impl_formSizes), ("loop.example/g00672/impl.errQuiet", laid_loop_example_g00672_impl_errQuiet)], narrowed := true }
def FnIntsUptoSaid : Prop := fnIntsUptoRow.holds Tryz.pinned (OpenSpec.upto fnIntsSpec)

/-- 'laws.FnExactDot', WHERE WHAT IT READS IS OF BULK AT MOST 1048576: true; the input reads as it did. -/
def fnExactDotUptoRow : OpenClaim := { program := "ytkfjmcdniohljaagreatdoor", sum := "3128b4cc96854266e9cd2cf4072785a494b3d3a08d588c91ce27ec56c148642f", func := "loop.example/g00672/laws.FnExactDot", spec := "fnExactDot", inPlace := ["internal/reflectlite.ValueOf", "(internal/reflectlite.Value).Type", "(internal/reflectlite.Value).IsNil", "internal/reflectlite.TypeOf", "(internal/reflectlite.Value).Elem", "(internal/reflectlite.Value).Set"], unfollowed := true, recurses := true, named := ["loop.example/g00672/impl.formSizes", "math/bits.deBruijn32tab", "math/bits.deBruijn64tab", "loop.example/g00672/impl.errQuiet", "errors.errorType"], ifaces := true, apart := false, laid := [("math/bits.deBruijn32tab", laid_math_bits_deBruijn32tab), ("math/bits.deBruijn64tab", laid_math_bits_deBruijn64tab), ("errors.errorType", laid_errors_errorType), ("loop.example/g00672/impl.formSizes", laid_loop_example_g00672_impl_formSizes), ("loop.example/g00672/impl.errQuiet", laid_loop_example_g00672_impl_errQuiet)], narrowed := true }
def FnExactDotUptoSaid : Prop := fnExactDotUptoRow.holds Tryz.pinned (OpenSpec.upto fnExactDotSpec)

/-- 'laws.FnAccTurned', WHERE WHAT IT READS IS OF BULK AT MOST 1048576: true; the input reads as it did. -/
def fnAccTurnedUptoRow : OpenClaim := { program := "ytkfjmcdniohljaagreatdoor", sum := "3128b4cc96854266e9cd2cf4072785a494b3d3a08d588c91ce27ec56c148642f", func := "loop.example/g00672/laws.FnAccTurned", spec := "fnAccTurned", inPlace := ["internal/reflectlite.ValueOf", "(internal/reflectlite.Value).Type", "(internal/reflectlite.Value).IsNil", "internal/reflectlite.TypeOf", "(internal/reflectlite.Value).Elem", "(internal/reflectlite.Value).Set"], unfollowed := true, recurses := true, named := ["loop.example/g00672/impl.formSizes", "loop.example/g00672/impl.errQuiet", "errors.errorType"], ifaces := true, apart := false, laid := [("errors.errorType", laid_errors_errorType), ("loop.example/g00672/impl.formSizes", laid_loop_example_g00672_impl_formSizes), ("loop.example/g00672/impl.errQuiet", laid_loop_example_g00672_impl_errQuiet)], narrowed := true }
def FnAccTurnedUptoSaid : Prop := fnAccTurnedUptoRow.holds Tryz.pinned (OpenSpec.upto fnAccTurnedSpec)

/-- 'laws.FnAccMerged', WHERE WHAT IT READS IS OF BULK AT MOST 1048576: true; the input reads as it did. -/
def fnAccMergedUptoRow : OpenClaim := { program := "ytkfjmcdniohljaagreatdoor", sum := "3128b4cc96854266e9cd2cf4072785a494b3d3a08d588c91ce27ec56c148642f", func := "loop.example/g00672/laws.FnAccMerged", spec := "fnAccMerged", inPlace := ["internal/reflectlite.ValueOf", "(internal/reflectlite.Value).Type", "(internal/reflectlite.Value).IsNil", "internal/reflectlite.TypeOf", "(internal/reflectlite.Value).Elem", "(internal/reflectlite.Value).Set"], unfollowed := true, recurses := true, named := ["loop.example/g00672/impl.formSizes", "loop.example/g00672/impl.errQuiet", "errors.errorType"], ifaces := true, apart := false, laid := [("errors.errorType", laid_errors_errorType), ("loop.example/g00672/impl.formSizes", laid_loop_example_g00672_impl_formSizes), ("loop.example/g00672/impl.errQuiet", laid_loop_example_g00672_impl_errQuiet)], narrowed := true }
def FnAccMergedUptoSaid : Prop := fnAccMergedUptoRow.holds Tryz.pinned (OpenSpec.upto fnAccMergedSpec)

/-- 'laws.FnAccMerges', WHERE WHAT IT READS IS OF BULK AT MOST 1048576: true; the input reads as it did. -/
def fnAccMergesUptoRow : OpenClaim := { program := "ytkfjmcdniohljaagreatdoor", sum := "3128b4cc96854266e9cd2cf4072785a494b3d3a08d588c91ce27ec56c148642f", func := "loop.example/g00672/laws.FnAccMerges", spec := "fnAccMerges", named := ["loop.example/g00672/impl.formSizes"], apart := false, laid := [("loop.example/g00672/impl.formSizes", laid_loop_example_g00672_impl_formSizes)], narrowed := true }
def FnAccMergesUptoSaid : Prop := fnAccMergesUptoRow.holds Tryz.pinned (OpenSpec.upto fnAccMergesSpec)

/-- 'laws.FnAccNegated', WHERE WHAT IT READS IS OF BULK AT MOST 1048576: true; the input reads as it did. -/
def fnAccNegatedUptoRow : OpenClaim := { program := "ytkfjmcdniohljaagreatdoor", sum := "3128b4cc96854266e9cd2cf4072785a494b3d3a08d588c91ce27ec56c148642f", func := "loop.example/g00672/laws.FnAccNegated", spec := "fnAccNegated", unfollowed := true, recurses := true, named := ["loop.example/g00672/impl.formSizes", "math/bits.deBruijn32tab", "math/bits.deBruijn64tab"], apart := false, laid := [("math/bits.deBruijn32tab", laid_math_bits_deBruijn32tab), ("math/bits.deBruijn64tab", laid_math_bits_deBruijn64tab), ("loop.example/g00672/impl.formSizes", laid_loop_example_g00672_impl_formSizes)], narrowed := true }
def FnAccNegatedUptoSaid : Prop := fnAccNegatedUptoRow.holds Tryz.pinned (OpenSpec.upto fnAccNegatedSpec)

/-- 'laws.FnAccOnce', WHERE WHAT IT READS IS OF BULK AT MOST 1048576: true; the input reads as it did. -/
def fnAccOnceUptoRow : OpenClaim := { program := "ytkfjmcdniohljaagreatdoor", sum := "3128b4cc96854266e9cd2cf4072785a494b3d3a08d588c91ce27ec56c148642f", func := "loop.example/g00672/laws.FnAccOnce", spec := "fnAccOnce", inPlace := ["internal/reflectlite.ValueOf", "(internal/reflectlite.Value).Type", "(internal/reflectlite.Value).IsNil", "internal/reflectlite.TypeOf", "(internal/reflectlite.Value).Elem", "(internal/reflectlite.Value).Set"], unfollowed := true, recurses := true, named := ["loop.example/g00672/impl.formSizes", "loop.example/g00672/impl.errQuiet", "errors.errorType", "math/bits.deBruijn32tab", "math/bits.deBruijn64tab"], ifaces := true, apart := false, laid := [("math/bits.deBruijn32tab", laid_math_bits_deBruijn32tab), ("math/bits.deBruijn64tab", laid_math_bits_deBruijn64tab), ("errors.errorType", laid_errors_errorType), ("loop.example/g00672/impl.formSizes", laid_loop_example_g00672_impl_formSizes), ("loop.example/g00672/impl.errQuiet", laid_loop_example_g00672_impl_errQuiet)], narrowed := true }
def FnAccOnceUptoSaid : Prop := fnAccOnceUptoRow.holds Tryz.pinned (OpenSpec.upto fnAccOnceSpec)

/-- 'laws.FnAccRound', WHERE WHAT IT READS IS OF BULK AT MOST 1048576: true; the input reads as it did. -/
def fnAccRoundUptoRow : OpenClaim := { program := "ytkfjmcdniohljaagreatdoor", sum := "3128b4cc96854266e9cd2cf4072785a494b3d3a08d588c91ce27ec56c148642f", func := "loop.example/g00672/laws.FnAccRound", spec := "fnAccRound", unfollowed := true, recurses := true, named := ["loop.example/g00672/impl.formSizes", "math/bits.deBruijn32tab", "math/bits.deBruijn64tab"], apart := false, laid := [("math/bits.deBruijn32tab", laid_math_bits_deBruijn32tab), ("math/bits.deBruijn64tab", laid_math_bits_deBruijn64tab), ("loop.example/g00672/impl.formSizes", laid_loop_example_g00672_impl_formSizes)], narrowed := true }
def FnAccRoundUptoSaid : Prop := fnAccRoundUptoRow.holds Tryz.pinned (OpenSpec.upto fnAccRoundSpec)

/-- 'laws.FnSumRounded', WHERE WHAT IT READS IS OF BULK AT MOST 1048576: true; the input reads as it did. -/
def fnSumRoundedUptoRow : OpenClaim := { program := "ytkfjmcdniohljaagreatdoor", sum := "3128b4cc96854266e9cd2cf4072785a494b3d3a08d588c91ce27ec56c148642f", func := "loop.example/g00672/laws.FnSumRounded", spec := "fnSumRounded", inPlace := ["internal/reflectlite.ValueOf", "(internal/reflectlite.Value).Type", "(internal/reflectlite.Value).IsNil", "internal/reflectlite.TypeOf", "(internal/reflectlite.Value).Elem", "(internal/reflectlite.Value).Set"], unfollowed := true, recurses := true, named := ["loop.example/g00672/impl.formSizes", "math/bits.deBruijn32tab", "math/bits.deBruijn64tab", "loop.example/g00672/impl.errQuiet", "errors.errorType"], ifaces := true, apart := false, laid := [("math/bits.deBruijn32tab", laid_math_bits_deBruijn32tab), ("math/bits.deBruijn64tab", laid_math_bits_deBruijn64tab), ("errors.errorType", laid_errors_errorType), ("loop.example/g00672/impl.formSizes", laid_loop_example_g00672_impl_formSizes), ("loop.example/g00672/impl.errQuiet", laid_loop_example_g00672_impl_errQuiet)], narrowed := true }
def FnSumRoundedUptoSaid : Prop := fnSumRoundedUptoRow.holds Tryz.pinned (OpenSpec.upto fnSumRoundedSpec)

/-- 'laws.FnSumOdd', WHERE WHAT IT READS IS OF BULK AT MOST 1048576: true; the input reads as it did. -/
def fnSumOddUptoRow : OpenClaim := { program := "ytkfjmcdniohljaagreatdoor", sum := "3128b4cc96854266e9cd2cf4072785a494b3d3a08d588c91ce27ec56c148642f", func := "loop.example/g00672/laws.FnSumOdd", spec := "fnSumOdd", inPlace := ["internal/reflectlite.ValueOf", "(internal/reflectlite.Value).Type", "(internal/reflectlite.Value).IsNil", "internal/reflectlite.TypeOf", "(internal/reflectlite.Value).Elem", "(internal/reflectlite.Value).Set"], unfollowed := true, recurses := true, named := ["loop.example/g00672/impl.formSizes", "math/bits.deBruijn32tab", "math/bits.deBruijn64tab", "loop.example/g00672/impl.errQuiet", "errors.errorType"], ifaces := true, apart := false, laid := [("math/bits.deBruijn32tab", laid_math_bits_deBruijn32tab), ("math/bits.deBruijn64tab", laid_math_bits_deBruijn64tab), ("errors.errorType", laid_errors_errorType), ("loop.example/g00672/impl.formSizes", laid_loop_example_g00672_impl_formSizes), ("loop.example/g00672/impl.errQuiet", laid_loop_example_g00672_impl_errQuiet)], narrowed := true }
def FnSumOddUptoSaid : Prop := fnSumOddUptoRow.holds Tryz.pinned (OpenSpec.upto fnSumOddSpec)

/-- 'laws.FnDotOnes', WHERE WHAT IT READS IS OF BULK AT MOST 1048576: true; the input reads as it did. -/
def fnDotOnesUptoRow : OpenClaim := { program := "ytkfjmcdniohljaagreatdoor", sum := "3128b4cc96854266e9cd2cf4072785a494b3d3a08d588c91ce27ec56c148642f", func := "loop.example/g00672/laws.FnDotOnes", spec := "fnDotOnes", inPlace := ["internal/reflectlite.ValueOf", "(internal/reflectlite.Value).Type", "(internal/reflectlite.Value).IsNil", "internal/reflectlite.TypeOf", "(internal/reflectlite.Value).Elem", "(internal/reflectlite.Value).Set"], unfollowed := true, recurses := true, named := ["loop.example/g00672/impl.formSizes", "math/bits.deBruijn32tab", "math/bits.deBruijn64tab", "loop.example/g00672/impl.errQuiet", "errors.errorType"], ifaces := true, apart := false, laid := [("math/bits.deBruijn32tab", laid_math_bits_deBruijn32tab), ("math/bits.deBruijn64tab", laid_math_bits_deBruijn64tab), ("errors.errorType", laid_errors_errorType), ("loop.example/g00672/impl.formSizes", laid_loop_example_g00672_impl_formSizes), ("loop.example/g00672/impl.errQuiet", laid_loop_example_g00672_impl_errQuiet)], narrowed := true }
def FnDotOnesUptoSaid : Prop := fnDotOnesUptoRow.holds Tryz.pinned (OpenSpec.upto fnDotOnesSpec)

/-- 'laws.FnAbs', WHERE WHAT IT READS IS OF BULK AT MOST 1048576: true; the input reads as it did. -/
def fnAbsUptoRow : OpenClaim := { program := "ytkfjmcdniohljaagreatdoor", sum := "3128b4cc96854266e9cd2cf4072785a494b3d3a08d588c91ce27ec56c148642f", func := "loop.example/g00672/laws.FnAbs", spec := "fnAbs", inPlace := ["internal/reflectlite.ValueOf", "(internal/reflectlite.Value).Type", "(internal/reflectlite.Value).IsNil", "internal/reflectlite.TypeOf", "(internal/reflectlite.Value).Elem", "(internal/reflectlite.Value).Set"], unfollowed := true, recurses := true, named := ["loop.example/g00672/impl.formSizes", "math/bits.deBruijn32tab", "math/bits.deBruijn64tab", "loop.example/g00672/impl.errQuiet", "errors.errorType"], ifaces := true, apart := false, laid := [("math/bits.deBruijn32tab", laid_math_bits_deBruijn32tab), ("math/bits.deBruijn64tab", laid_math_bits_deBruijn64tab), ("errors.errorType", laid_errors_errorType), ("loop.example/g00672/impl.formSizes", laid_loop_example_g00672_impl_formSizes), ("loop.example/g00672/impl.errQuiet", laid_loop_example_g00672_impl_errQuiet)], narrowed := true }
def FnAbsUptoSaid : Prop := fnAbsUptoRow.holds Tryz.pinned (OpenSpec.upto fnAbsSpec)

end Rows
end Go.Proofs.YtkfjmcdniohljaaGreatDoor
