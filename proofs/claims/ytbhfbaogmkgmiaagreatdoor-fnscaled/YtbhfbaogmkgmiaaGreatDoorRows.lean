/-
  NARROWER THAN 'FOR EVERY INPUT', by the rows' own cells (each row's printed sentence says how): FnModes: laid · FnBracket: laid · FnNearest: laid · FnAddRounded: ifaces, laid · FnAddTurned: ifaces, laid · FnMulRounded: ifaces, laid · FnNearSub: ifaces, laid · FnScaled: ifaces, laid · FnSplit: ifaces, laid · FnFma: ifaces, laid · FnInts: ifaces, laid · FnExactFloatFma: ifaces, laid.
  DERIVED. THE GIVEN ROWS OF THIS SEAT. 12 by the template 'for every input the law returns true; each argument reads behind the call as it read before'; 0 by the template 'total and deterministic' (their statements: YtbhfbaogmkgmiaaGreatDoorTotals.lean).
  GIVEN WITH THE SEED: the statements are not yours to turn. If you find one false, say at which input.
  Laid BY PROGRAM, IN A SANDBOX (cutbox-rows.mjs): the forced cells as the released guide's own fill.sh prints them over the translation 44de51316ae43bd8… (all of the seat's roots in one cut). By AI agents, Wed Nov 11 2026. No macro, syntax, notation, axiom, sorry.
-/
import Derived.Test.YtbhfbaogmkgmiaaGreatDoorChecked
import GoSem.Claim
import GoSem.ClaimJoined
import GoSem.ClaimMapViews
import Derived.JoinedTies
import Derived.KernelRfl
namespace Go.Proofs.YtbhfbaogmkgmiaaGreatDoor
/- THE CELL 'sum', in the pinned program and in every row, IS THE sha256 OF THE DUMP (.gsa) THAT YtbhfbaogmkgmiaaGreatDoorProg.lean LOADS. Nothing in Lean hashes anything: it is a label: what it is worth is what the hold of that sum in a sandbox is worth. -/
noncomputable def Tryz.pinned : Pinned := { name := "ytbhfbaogmkgmiaagreatdoor", sum := "44de51316ae43bd852b03e682c08a26de7fbe057ca3bab147506c99173b11340", checked := Tryz.checked }
namespace Rows
def none {H : Type} : Left H := { results := [], args := [] }

/- WHAT THE LISTED PACKAGE-LEVEL VARIABLES READ AS WHEN THE CALL BEGINS. Each datum BY PROGRAM (the guide's laid-datum.mjs) off the statement by which the dump's own 'gosem.cut.vars' lays the variable. In a bare row this is a premise. The card (YtbhfbaogmkgmiaaGreatDoorCards.lean) ties it to the program's text. -/
def laid_math_bits_deBruijn32tab {H : Type} : DataW H := .agg [.lit (.int .u8 0), .lit (.int .u8 1), .lit (.int .u8 28), .lit (.int .u8 2), .lit (.int .u8 29), .lit (.int .u8 14), .lit (.int .u8 24), .lit (.int .u8 3), .lit (.int .u8 30), .lit (.int .u8 22), .lit (.int .u8 20), .lit (.int .u8 15), .lit (.int .u8 25), .lit (.int .u8 17), .lit (.int .u8 4), .lit (.int .u8 8), .lit (.int .u8 31), .lit (.int .u8 27), .lit (.int .u8 13), .lit (.int .u8 23), .lit (.int .u8 21), .lit (.int .u8 19), .lit (.int .u8 16), .lit (.int .u8 7), .lit (.int .u8 26), .lit (.int .u8 12), .lit (.int .u8 18), .lit (.int .u8 6), .lit (.int .u8 11), .lit (.int .u8 5), .lit (.int .u8 10), .lit (.int .u8 9)]
def laid_math_bits_deBruijn64tab {H : Type} : DataW H := .agg [.lit (.int .u8 0), .lit (.int .u8 1), .lit (.int .u8 56), .lit (.int .u8 2), .lit (.int .u8 57), .lit (.int .u8 49), .lit (.int .u8 28), .lit (.int .u8 3), .lit (.int .u8 61), .lit (.int .u8 58), .lit (.int .u8 42), .lit (.int .u8 50), .lit (.int .u8 38), .lit (.int .u8 29), .lit (.int .u8 17), .lit (.int .u8 4), .lit (.int .u8 62), .lit (.int .u8 47), .lit (.int .u8 59), .lit (.int .u8 36), .lit (.int .u8 45), .lit (.int .u8 43), .lit (.int .u8 51), .lit (.int .u8 22), .lit (.int .u8 53), .lit (.int .u8 39), .lit (.int .u8 33), .lit (.int .u8 30), .lit (.int .u8 24), .lit (.int .u8 18), .lit (.int .u8 12), .lit (.int .u8 5), .lit (.int .u8 63), .lit (.int .u8 55), .lit (.int .u8 48), .lit (.int .u8 27), .lit (.int .u8 60), .lit (.int .u8 41), .lit (.int .u8 37), .lit (.int .u8 16), .lit (.int .u8 46), .lit (.int .u8 35), .lit (.int .u8 44), .lit (.int .u8 21), .lit (.int .u8 52), .lit (.int .u8 32), .lit (.int .u8 23), .lit (.int .u8 11), .lit (.int .u8 54), .lit (.int .u8 26), .lit (.int .u8 40), .lit (.int .u8 15), .lit (.int .u8 34), .lit (.int .u8 20), .lit (.int .u8 31), .lit (.int .u8 10), .lit (.int .u8 25), .lit (.int .u8 14), .lit (.int .u8 19), .lit (.int .u8 9), .lit (.int .u8 13), .lit (.int .u8 8), .lit (.int .u8 7), .lit (.int .u8 6)]
def laid_loop_example_g00672_impl_formSizes {H : Type} : DataW H := .agg [.agg [.lit (.int .u64 0), .lit (.int .u64 0), .lit (.int .i64 0)], .agg [.lit (.int .u64 23), .lit (.int .u64 255), .lit (.int .i64 (-149))], .agg [.lit (.int .u64 52), .lit (.int .u64 2047), .lit (.int .i64 (-1074))]]
def laid_errors_errorType {H : Type} : DataW H := .iface "internal/reflectlite.rtype" (.agg [.ptr (.lit (.string [101, 114, 114, 111, 114]))])
def laid_loop_example_g00672_impl_errQuiet {H : Type} : DataW H := .iface "*errors.errorString" (.ptr (.agg [.lit (.string [111, 110, 101, 32, 105, 115, 32, 97, 32, 113, 117, 105, 101, 116, 32, 78, 97, 78])]))

/-- 'laws.FnModes': WHATEVER THE INPUT: true; the input reads as it did. -/
def fnModesSpec : ChangeSpec := { name := "fnModes", vars := ["loop.example/g00672/impl.formSizes"], fn := fun _ => fun
  | [d, g1] => { results := [.lit (.bool true)], args := [d], vars := [g1] }
  | _ => none }
def fnModesRow : OpenClaim := { program := "ytbhfbaogmkgmiaagreatdoor", sum := "44de51316ae43bd852b03e682c08a26de7fbe057ca3bab147506c99173b11340", func := "loop.example/g00672/laws.FnModes", spec := "fnModes", unfollowed := true, recurses := true, named := ["loop.example/g00672/impl.formSizes", "math/bits.deBruijn32tab", "math/bits.deBruijn64tab"], apart := false, laid := [("math/bits.deBruijn32tab", laid_math_bits_deBruijn32tab), ("math/bits.deBruijn64tab", laid_math_bits_deBruijn64tab), ("loop.example/g00672/impl.formSizes", laid_loop_example_g00672_impl_formSizes)] }
def FnModesSaid : Prop := fnModesRow.holds Tryz.pinned (OpenSpec.ofChange fnModesSpec)

/-- ITS FALSE NEIGHBOUR: 'it returns false'. Refute it at one input. -/
def fnModesWrong : ChangeSpec := { name := "fnModes", vars := ["loop.example/g00672/impl.formSizes"], fn := fun _ => fun
  | [d, g1] => { results := [.lit (.bool false)], args := [d], vars := [g1] }
  | _ => none }
def FnModesWrongFalsely : Prop := fnModesRow.holds Tryz.pinned (OpenSpec.ofChange fnModesWrong)

/-- 'laws.FnBracket': WHATEVER THE INPUT: true; the input reads as it did. -/
def fnBracketSpec : ChangeSpec := { name := "fnBracket", vars := ["loop.example/g00672/impl.formSizes"], fn := fun _ => fun
  | [d, g1] => { results := [.lit (.bool true)], args := [d], vars := [g1] }
  | _ => none }
def fnBracketRow : OpenClaim := { program := "ytbhfbaogmkgmiaagreatdoor", sum := "44de51316ae43bd852b03e682c08a26de7fbe057ca3bab147506c99173b11340", func := "loop.example/g00672/laws.FnBracket", spec := "fnBracket", unfollowed := true, recurses := true, named := ["loop.example/g00672/impl.formSizes", "math/bits.deBruijn32tab", "math/bits.deBruijn64tab"], apart := false, laid := [("math/bits.deBruijn32tab", laid_math_bits_deBruijn32tab), ("math/bits.deBruijn64tab", laid_math_bits_deBruijn64tab), ("loop.example/g00672/impl.formSizes", laid_loop_example_g00672_impl_formSizes)] }
def FnBracketSaid : Prop := fnBracketRow.holds Tryz.pinned (OpenSpec.ofChange fnBracketSpec)

/-- ITS FALSE NEIGHBOUR: 'it returns false'. Refute it at one input. -/
def fnBracketWrong : ChangeSpec := { name := "fnBracket", vars := ["loop.example/g00672/impl.formSizes"], fn := fun _ => fun
  | [d, g1] => { results := [.lit (.bool false)], args := [d], vars := [g1] }
  | _ => none }
def FnBracketWrongFalsely : Prop := fnBracketRow.holds Tryz.pinned (OpenSpec.ofChange fnBracketWrong)

/-- 'laws.FnNearest': WHATEVER THE INPUT: true; the input reads as it did. -/
def fnNearestSpec : ChangeSpec := { name := "fnNearest", vars := ["loop.example/g00672/impl.formSizes"], fn := fun _ => fun
  | [d, g1] => { results := [.lit (.bool true)], args := [d], vars := [g1] }
  | _ => none }
def fnNearestRow : OpenClaim := { program := "ytbhfbaogmkgmiaagreatdoor", sum := "44de51316ae43bd852b03e682c08a26de7fbe057ca3bab147506c99173b11340", func := "loop.example/g00672/laws.FnNearest", spec := "fnNearest", unfollowed := true, recurses := true, named := ["loop.example/g00672/impl.formSizes", "math/bits.deBruijn32tab", "math/bits.deBruijn64tab"], apart := false, laid := [("math/bits.deBruijn32tab", laid_math_bits_deBruijn32tab), ("math/bits.deBruijn64tab", laid_math_bits_deBruijn64tab), ("loop.example/g00672/impl.formSizes", laid_loop_example_g00672_impl_formSizes)] }
def FnNearestSaid : Prop := fnNearestRow.holds Tryz.pinned (OpenSpec.ofChange fnNearestSpec)

/-- ITS FALSE NEIGHBOUR: 'it returns false'. Refute it at one input. -/
def fnNearestWrong : ChangeSpec := { name := "fnNearest", vars := ["loop.example/g00672/impl.formSizes"], fn := fun _ => fun
  | [d, g1] => { results := [.lit (.bool false)], args := [d], vars := [g1] }
  | _ => none }
def FnNearestWrongFalsely : Prop := fnNearestRow.holds Tryz.pinned (OpenSpec.ofChange fnNearestWrong)

/-- 'laws.FnAddRounded': WHATEVER THE INPUT: true; the input reads as it did. -/
def fnAddRoundedSpec : ChangeSpec := { name := "fnAddRounded", vars := ["loop.example/g00672/impl.formSizes", "loop.example/g00672/impl.errQuiet"], fn := fun _ => fun
  | [d, g1, g2] => { results := [.lit (.bool true)], args := [d], vars := [g1, g2] }
  | _ => none }
def fnAddRoundedRow : OpenClaim := { program := "ytbhfbaogmkgmiaagreatdoor", sum := "44de51316ae43bd852b03e682c08a26de7fbe057ca3bab147506c99173b11340", func := "loop.example/g00672/laws.FnAddRounded", spec := "fnAddRounded", inPlace := ["internal/reflectlite.ValueOf", "(internal/reflectlite.Value).Type", "(internal/reflectlite.Value).IsNil", "internal/reflectlite.TypeOf", "(internal/reflectlite.Value).Elem", "(internal/reflectlite.Value).Set"], unfollowed := true, recurses := true, named := ["loop.example/g00672/impl.formSizes", "loop.example/g00672/impl.errQuiet", "errors.errorType", "math/bits.deBruijn32tab", "math/bits.deBruijn64tab"], ifaces := true, apart := false, laid := [("math/bits.deBruijn32tab", laid_math_bits_deBruijn32tab), ("math/bits.deBruijn64tab", laid_math_bits_deBruijn64tab), ("errors.errorType", laid_errors_errorType), ("loop.example/g00672/impl.formSizes", laid_loop_example_g00672_impl_formSizes), ("loop.example/g00672/impl.errQuiet", laid_loop_example_g00672_impl_errQuiet)] }
def FnAddRoundedSaid : Prop := fnAddRoundedRow.holds Tryz.pinned (OpenSpec.ofChange fnAddRoundedSpec)

/-- ITS FALSE NEIGHBOUR: 'it returns false'. Refute it at one input. -/
def fnAddRoundedWrong : ChangeSpec := { name := "fnAddRounded", vars := ["loop.example/g00672/impl.formSizes", "loop.example/g00672/impl.errQuiet"], fn := fun _ => fun
  | [d, g1, g2] => { results := [.lit (.bool false)], args := [d], vars := [g1, g2] }
  | _ => none }
def FnAddRoundedWrongFalsely : Prop := fnAddRoundedRow.holds Tryz.pinned (OpenSpec.ofChange fnAddRoundedWrong)

/-- 'laws.FnAddTurned': WHATEVER THE INPUT: true; the input reads as it did. -/
def fnAddTurnedSpec : ChangeSpec := { name := "fnAddTurned", vars := ["loop.example/g00672/impl.formSizes", "loop.example/g00672/impl.errQuiet"], fn := fun _ => fun
  | [d, g1, g2] => { results := [.lit (.bool true)], args := [d], vars := [g1, g2] }
  | _ => none }
def fnAddTurnedRow : OpenClaim := { program := "ytbhfbaogmkgmiaagreatdoor", sum := "44de51316ae43bd852b03e682c08a26de7fbe057ca3bab147506c99173b11340", func := "loop.example/g00672/laws.FnAddTurned", spec := "fnAddTurned", inPlace := ["internal/reflectlite.ValueOf", "(internal/reflectlite.Value).Type", "(internal/reflectlite.Value).IsNil", "internal/reflectlite.TypeOf", "(internal/reflectlite.Value).Elem", "(internal/reflectlite.Value).Set"], unfollowed := true, recurses := true, named := ["loop.example/g00672/impl.formSizes", "loop.example/g00672/impl.errQuiet", "errors.errorType", "math/bits.deBruijn32tab", "math/bits.deBruijn64tab"], ifaces := true, apart := false, laid := [("math/bits.deBruijn32tab", laid_math_bits_deBruijn32tab), ("math/bits.deBruijn64tab", laid_math_bits_deBruijn64tab), ("errors.errorType", laid_errors_errorType), ("loop.example/g00672/impl.formSizes", laid_loop_example_g00672_impl_formSizes), ("loop.example/g00672/impl.errQuiet", laid_loop_example_g00672_impl_errQuiet)] }
def FnAddTurnedSaid : Prop := fnAddTurnedRow.holds Tryz.pinned (OpenSpec.ofChange fnAddTurnedSpec)

/-- ITS FALSE NEIGHBOUR: 'it returns false'. Refute it at one input. -/
def fnAddTurnedWrong : ChangeSpec := { name := "fnAddTurned", vars := ["loop.example/g00672/impl.formSizes", "loop.example/g00672/impl.errQuiet"], fn := fun _ => fun
  | [d, g1, g2] => { results := [.lit (.bool false)], args := [d], vars := [g1, g2] }
  | _ => none }
def FnAddTurnedWrongFalsely : Prop := fnAddTurnedRow.holds Tryz.pinned (OpenSpec.ofChange fnAddTurnedWrong)

/-- 'laws.FnMulRounded': WHATEVER THE INPUT: true; the input reads as it did. -/
def fnMulRoundedSpec : ChangeSpec := { name := "fnMulRounded", vars := ["loop.example/g00672/impl.formSizes", "loop.example/g00672/impl.errQuiet"], fn := fun _ => fun
  | [d, g1, g2] => { results := [.lit (.bool true)], args := [d], vars := [g1, g2] }
  | _ => none }
def fnMulRoundedRow : OpenClaim := { program := "ytbhfbaogmkgmiaagreatdoor", sum := "44de51316ae43bd852b03e682c08a26de7fbe057ca3bab147506c99173b11340", func := "loop.example/g00672/laws.FnMulRounded", spec := "fnMulRounded", inPlace := ["internal/reflectlite.ValueOf", "(internal/reflectlite.Value).Type", "(internal/reflectlite.Value).IsNil", "internal/reflectlite.TypeOf", "(internal/reflectlite.Value).Elem", "(internal/reflectlite.Value).Set"], unfollowed := true, recurses := true, named := ["loop.example/g00672/impl.formSizes", "loop.example/g00672/impl.errQuiet", "errors.errorType", "math/bits.deBruijn32tab", "math/bits.deBruijn64tab"], ifaces := true, apart := false, laid := [("math/bits.deBruijn32tab", laid_math_bits_deBruijn32tab), ("math/bits.deBruijn64tab", laid_math_bits_deBruijn64tab), ("errors.errorType", laid_errors_errorType), ("loop.example/g00672/impl.formSizes", laid_loop_example_g00672_impl_formSizes), ("loop.example/g00672/impl.errQuiet", laid_loop_example_g00672_impl_errQuiet)] }
def FnMulRoundedSaid : Prop := fnMulRoundedRow.holds Tryz.pinned (OpenSpec.ofChange fnMulRoundedSpec)

/-- ITS FALSE NEIGHBOUR: 'it returns false'. Refute it at one input. -/
def fnMulRoundedWrong : ChangeSpec := { name := "fnMulRounded", vars := ["loop.example/g00672/impl.formSizes", "loop.example/g00672/impl.errQuiet"], fn := fun _ => fun
  | [d, g1, g2] => { results := [.lit (.bool false)], args := [d], vars := [g1, g2] }
  | _ => none }
def FnMulRoundedWrongFalsely : Prop := fnMulRoundedRow.holds Tryz.pinned (OpenSpec.ofChange fnMulRoundedWrong)

/-- 'laws.FnNearSub': WHATEVER THE INPUT: true; the input reads as it did. -/
def fnNearSubSpec : ChangeSpec := { name := "fnNearSub", vars := ["loop.example/g00672/impl.formSizes", "loop.example/g00672/impl.errQuiet"], fn := fun _ => fun
  | [d, g1, g2] => { results := [.lit (.bool true)], args := [d], vars := [g1, g2] }
  | _ => none }
def fnNearSubRow : OpenClaim := { program := "ytbhfbaogmkgmiaagreatdoor", sum := "44de51316ae43bd852b03e682c08a26de7fbe057ca3bab147506c99173b11340", func := "loop.example/g00672/laws.FnNearSub", spec := "fnNearSub", inPlace := ["internal/reflectlite.ValueOf", "(internal/reflectlite.Value).Type", "(internal/reflectlite.Value).IsNil", "internal/reflectlite.TypeOf", "(internal/reflectlite.Value).Elem", "(internal/reflectlite.Value).Set"], unfollowed := true, recurses := true, named := ["loop.example/g00672/impl.formSizes", "loop.example/g00672/impl.errQuiet", "errors.errorType", "math/bits.deBruijn32tab", "math/bits.deBruijn64tab"], ifaces := true, apart := false, laid := [("math/bits.deBruijn32tab", laid_math_bits_deBruijn32tab), ("math/bits.deBruijn64tab", laid_math_bits_deBruijn64tab), ("errors.errorType", laid_errors_errorType), ("loop.example/g00672/impl.formSizes", laid_loop_example_g00672_impl_formSizes), ("loop.example/g00672/impl.errQuiet", laid_loop_example_g00672_impl_errQuiet)] }
def FnNearSubSaid : Prop := fnNearSubRow.holds Tryz.pinned (OpenSpec.ofChange fnNearSubSpec)

/-- ITS FALSE NEIGHBOUR: 'it returns false'. Refute it at one input. -/
def fnNearSubWrong : ChangeSpec := { name := "fnNearSub", vars := ["loop.example/g00672/impl.formSizes", "loop.example/g00672/impl.errQuiet"], fn := fun _ => fun
  | [d, g1, g2] => { results := [.lit (.bool false)], args := [d], vars := [g1, g2] }
  | _ => none }
def FnNearSubWrongFalsely : Prop := fnNearSubRow.holds Tryz.pinned (OpenSpec.ofChange fnNearSubWrong)

/-- 'laws.FnScaled': WHATEVER THE INPUT: true; the input reads as it did. -/
def fnScaledSpec : ChangeSpec := { name := "fnScaled", vars := ["loop.example/g00672/impl.formSizes", "loop.example/g00672/impl.errQuiet"], fn := fun _ => fun
  | [d, g1, g2] => { results := [.lit (.bool true)], args := [d], vars := [g1, g2] }
  | _ => none }
def fnScaledRow : OpenClaim := { program := "ytbhfbaogmkgmiaagreatdoor", sum := "44de51316ae43bd852b03e682c08a26de7fbe057ca3bab147506c99173b11340", func := "loop.example/g00672/laws.FnScaled", spec := "fnScaled", inPlace := ["internal/reflectlite.ValueOf", "(internal/reflectlite.Value).Type", "(internal/reflectlite.Value).IsNil", "internal/reflectlite.TypeOf", "(internal/reflectlite.Value).Elem", "(internal/reflectlite.Value).Set"], unfollowed := true, recurses := true, named := ["loop.example/g00672/impl.formSizes", "loop.example/g00672/impl.errQuiet", "errors.errorType", "math/bits.deBruijn32tab", "math/bits.deBruijn64tab"], ifaces := true, apart := false, laid := [("math/bits.deBruijn32tab", laid_math_bits_deBruijn32tab), ("math/bits.deBruijn64tab", laid_math_bits_deBruijn64tab), ("errors.errorType", laid_errors_errorType), ("loop.example/g00672/impl.formSizes", laid_loop_example_g00672_impl_formSizes), ("loop.example/g00672/impl.errQuiet", laid_loop_example_g00672_impl_errQuiet)] }
def FnScaledSaid : Prop := fnScaledRow.holds Tryz.pinned (OpenSpec.ofChange fnScaledSpec)

/-- ITS FALSE NEIGHBOUR: 'it returns false'. Refute it at one input. -/
def fnScaledWrong : ChangeSpec := { name := "fnScaled", vars := ["loop.example/g00672/impl.formSizes", "loop.example/g00672/impl.errQuiet"], fn := fun _ => fun
  | [d, g1, g2] => { results := [.lit (.bool false)], args := [d], vars := [g1, g2] }
  | _ => none }
def FnScaledWrongFalsely : Prop := fnScaledRow.holds Tryz.pinned (OpenSpec.ofChange fnScaledWrong)

/-- 'laws.FnSplit': WHATEVER THE INPUT: true; the input reads as it did. -/
def fnSplitSpec : ChangeSpec := { name := "fnSplit", vars := ["loop.example/g00672/impl.formSizes", "loop.example/g00672/impl.errQuiet"], fn := fun _ => fun
  | [d, g1, g2] => { results := [.lit (.bool true)], args := [d], vars := [g1, g2] }
  | _ => none }
def fnSplitRow : OpenClaim := { program := "ytbhfbaogmkgmiaagreatdoor", sum := "44de51316ae43bd852b03e682c08a26de7fbe057ca3bab147506c99173b11340", func := "loop.example/g00672/laws.FnSplit", spec := "fnSplit", inPlace := ["internal/reflectlite.ValueOf", "(internal/reflectlite.Value).Type", "(internal/reflectlite.Value).IsNil", "internal/reflectlite.TypeOf", "(internal/reflectlite.Value).Elem", "(internal/reflectlite.Value).Set"], unfollowed := true, recurses := true, named := ["loop.example/g00672/impl.formSizes", "math/bits.deBruijn64tab", "math/bits.deBruijn32tab", "loop.example/g00672/impl.errQuiet", "errors.errorType"], ifaces := true, apart := false, laid := [("math/bits.deBruijn32tab", laid_math_bits_deBruijn32tab), ("math/bits.deBruijn64tab", laid_math_bits_deBruijn64tab), ("errors.errorType", laid_errors_errorType), ("loop.example/g00672/impl.formSizes", laid_loop_example_g00672_impl_formSizes), ("loop.example/g00672/impl.errQuiet", laid_loop_example_g00672_impl_errQuiet)] }
def FnSplitSaid : Prop := fnSplitRow.holds Tryz.pinned (OpenSpec.ofChange fnSplitSpec)

/-- ITS FALSE NEIGHBOUR: 'it returns false'. Refute it at one input. -/
def fnSplitWrong : ChangeSpec := { name := "fnSplit", vars := ["loop.example/g00672/impl.formSizes", "loop.example/g00672/impl.errQuiet"], fn := fun _ => fun
  | [d, g1, g2] => { results := [.lit (.bool false)], args := [d], vars := [g1, g2] }
  | _ => none }
def FnSplitWrongFalsely : Prop := fnSplitRow.holds Tryz.pinned (OpenSpec.ofChange fnSplitWrong)

/-- 'laws.FnFma': WHATEVER THE INPUT: true; the input reads as it did. -/
def fnFmaSpec : ChangeSpec := { name := "fnFma", vars := ["loop.example/g00672/impl.formSizes", "loop.example/g00672/impl.errQuiet"], fn := fun _ => fun
  | [d, g1, g2] => { results := [.lit (.bool true)], args := [d], vars := [g1, g2] }
  | _ => none }
def fnFmaRow : OpenClaim := { program := "ytbhfbaogmkgmiaagreatdoor", sum := "44de51316ae43bd852b03e682c08a26de7fbe057ca3bab147506c99173b11340", func := "loop.example/g00672/laws.FnFma", spec := "fnFma", inPlace := ["internal/reflectlite.ValueOf", "(internal/reflectlite.Value).Type", "(internal/reflectlite.Value).IsNil", "internal/reflectlite.TypeOf", "(internal/reflectlite.Value).Elem", "(internal/reflectlite.Value).Set"], unfollowed := true, recurses := true, named := ["loop.example/g00672/impl.formSizes", "loop.example/g00672/impl.errQuiet", "errors.errorType", "math/bits.deBruijn32tab", "math/bits.deBruijn64tab"], ifaces := true, apart := false, laid := [("math/bits.deBruijn32tab", laid_math_bits_deBruijn32tab), ("math/bits.deBruijn64tab", laid_math_bits_deBruijn64tab), ("errors.errorType", laid_errors_errorType), ("loop.example/g00672/impl.formSizes", laid_loop_example_g00672_impl_formSizes), ("loop.example/g00672/impl.errQuiet", laid_loop_example_g00672_impl_errQuiet)] }
def FnFmaSaid : Prop := fnFmaRow.holds Tryz.pinned (OpenSpec.ofChange fnFmaSpec)

/-- ITS FALSE NEIGHBOUR: 'it returns false'. Refute it at one input. -/
def fnFmaWrong : ChangeSpec := { name := "fnFma", vars := ["loop.example/g00672/impl.formSizes", "loop.example/g00672/impl.errQuiet"], fn := fun _ => fun
  | [d, g1, g2] => { results := [.lit (.bool false)], args := [d], vars := [g1, g2] }
  | _ => none }
def FnFmaWrongFalsely : Prop := fnFmaRow.holds Tryz.pinned (OpenSpec.ofChange fnFmaWrong)

/-- 'laws.FnInts': WHATEVER THE INPUT: true; the input reads as it did. -/
def fnIntsSpec : ChangeSpec := { name := "fnInts", vars := ["loop.example/g00672/impl.formSizes", "loop.example/g00672/impl.errQuiet"], fn := fun _ => fun
  | [d, g1, g2] => { results := [.lit (.bool true)], args := [d], vars := [g1, g2] }
  | _ => none }
def fnIntsRow : OpenClaim := { program := "ytbhfbaogmkgmiaagreatdoor", sum := "44de51316ae43bd852b03e682c08a26de7fbe057ca3bab147506c99173b11340", func := "loop.example/g00672/laws.FnInts", spec := "fnInts", inPlace := ["internal/reflectlite.ValueOf", "(internal/reflectlite.Value).Type", "(internal/reflectlite.Value).IsNil", "internal/reflectlite.TypeOf", "(internal/reflectlite.Value).Elem", "(internal/reflectlite.Value).Set"], unfollowed := true, recurses := true, named := ["loop.example/g00672/impl.formSizes", "loop.example/g00672/impl.errQuiet", "math/bits.deBruijn32tab", "errors.errorType", "math/bits.deBruijn64tab"], ifaces := true, apart := false, laid := [("math/bits.deBruijn32tab", laid_math_bits_deBruijn32tab), ("math/bits.deBruijn64tab", laid_math_bits_deBruijn64tab), ("errors.errorType", laid_errors_errorType), ("loop.example/g00672/impl.formSizes", laid_loop_example_g00672_impl_formSizes), ("loop.example/g00672/impl.errQuiet", laid_loop_example_g00672_impl_errQuiet)] }
def FnIntsSaid : Prop := fnIntsRow.holds Tryz.pinned (OpenSpec.ofChange fnIntsSpec)

/-- ITS FALSE NEIGHBOUR: 'it returns false'. Refute it at one input. -/
def fnIntsWrong : ChangeSpec := { name := "fnInts", vars := ["loop.example/g00672/impl.formSizes", "loop.example/g00672/impl.errQuiet"], fn := fun _ => fun
  | [d, g1, g2] => { results := [.lit (.bool false)], args := [d], vars := [g1, g2] }
  | _ => none }
def FnIntsWrongFalsely : Prop := fnIntsRow.holds Tryz.pinned (OpenSpec.ofChange fnIntsWrong)

/-- 'laws.FnExactFloatFma': WHATEVER THE INPUT: true; the input reads as it did. -/
def fnExactFloatFmaSpec : ChangeSpec := { name := "fnExactFloatFma", vars := ["loop.example/g00672/impl.formSizes", "loop.example/g00672/impl.errQuiet"], fn := fun _ => fun
  | [d1, d2, d3, d4, d5, g1, g2] => { results := [.lit (.bool true)], args := [d1, d2, d3, d4, d5], vars := [g1, g2] }
  | _ => none }
def fnExactFloatFmaRow : OpenClaim := { program := "ytbhfbaogmkgmiaagreatdoor", sum := "44de51316ae43bd852b03e682c08a26de7fbe057ca3bab147506c99173b11340", func := "loop.example/g00672/laws.FnExactFloatFma", spec := "fnExactFloatFma", inPlace := ["internal/reflectlite.ValueOf", "(internal/reflectlite.Value).Type", "(internal/reflectlite.Value).IsNil", "internal/reflectlite.TypeOf", "(internal/reflectlite.Value).Elem", "(internal/reflectlite.Value).Set"], unfollowed := true, recurses := true, named := ["loop.example/g00672/impl.formSizes", "loop.example/g00672/impl.errQuiet", "errors.errorType", "math/bits.deBruijn32tab", "math/bits.deBruijn64tab"], ifaces := true, apart := false, laid := [("math/bits.deBruijn32tab", laid_math_bits_deBruijn32tab), ("math/bits.deBruijn64tab", laid_math_bits_deBruijn64tab), ("errors.errorType", laid_errors_errorType), ("loop.example/g00672/impl.formSizes", laid_loop_example_g00672_impl_formSizes), ("loop.example/g00672/impl.errQuiet", laid_loop_example_g00672_impl_errQuiet)] }
def FnExactFloatFmaSaid : Prop := fnExactFloatFmaRow.holds Tryz.pinned (OpenSpec.ofChange fnExactFloatFmaSpec)

/-- ITS FALSE NEIGHBOUR: 'it returns false'. Refute it at one input. -/
def fnExactFloatFmaWrong : ChangeSpec := { name := "fnExactFloatFma", vars := ["loop.example/g00672/impl.formSizes", "loop.example/g00672/impl.errQuiet"], fn := fun _ => fun
  | [d1, d2, d3, d4, d5, g1, g2] => { results := [.lit (.bool false)], args := [d1, d2, d3, d4, d5], vars := [g1, g2] }
  | _ => none }
def FnExactFloatFmaWrongFalsely : Prop := fnExactFloatFmaRow.holds Tryz.pinned (OpenSpec.ofChange fnExactFloatFmaWrong)

/- THE SECOND FORM. 'bulk': how many values and letters a reading holds, each counted each time it is reached (what is shared counts as often as it is met; a slice's spare places count too). A statement '..UptoSaid' is the law's where the arguments, and the package variables that the reading takes, are together of bulk at most 1048576: NARROWER than '..Said'. Prove '..Said' where nothing that the law and all that it calls make is longer than what came in: it says more and counts as full. Else prove '..UptoSaid'. A law counts once. -/
mutual
def uptoBulk {H : Type} : DataW H → Nat
  | .lit (.string bytes) => bytes.length + 1
  | .lit _ => 1
  | .nil => 1
  | .ptr d => uptoBulk d + 1
  | .slice elems spare => uptoBulkAll elems + uptoBulkAll spare + 1
  | .agg parts => uptoBulkAll parts + 1
  | .iface _ d => uptoBulk d + 1
  | .map entries => uptoBulkEntries entries + 1
  | .held _ => 1
def uptoBulkAll {H : Type} : List (DataW H) → Nat
  | [] => 0
  | d :: r => uptoBulk d + uptoBulkAll r
def uptoBulkEntries {H : Type} : List (Lit × DataW H) → Nat
  | [] => 0
  | x :: r => uptoBulkEntry x + uptoBulkEntries r
def uptoBulkEntry {H : Type} : Lit × DataW H → Nat
  | (.string bytes, d) => bytes.length + uptoBulk d + 1
  | (_, d) => uptoBulk d + 1
 end
def uptoSmall : (H : Type) → List (DataW H) → Bool := fun _ ds => decide (uptoBulkAll ds ≤ 1048576)
def OpenSpec.upto (s : _root_.Go.ChangeSpec) : _root_.Go.OpenSpec := { _root_.Go.OpenSpec.ofChange s with cond := some uptoSmall }

/-- 'laws.FnModes', WHERE WHAT IT READS IS OF BULK AT MOST 1048576: true; the input reads as it did. -/
def fnModesUptoRow : OpenClaim := { program := "ytbhfbaogmkgmiaagreatdoor", sum := "44de51316ae43bd852b03e682c08a26de7fbe057ca3bab147506c99173b11340", func := "loop.example/g00672/laws.FnModes", spec := "fnModes", unfollowed := true, recurses := true, named := ["loop.example/g00672/impl.formSizes", "math/bits.deBruijn32tab", "math/bits.deBruijn64tab"], apart := false, laid := [("math/bits.deBruijn32tab", laid_math_bits_deBruijn32tab), ("math/bits.deBruijn64tab", laid_math_bits_deBruijn64tab), ("loop.example/g00672/impl.formSizes", laid_loop_example_g00672_impl_formSizes)], narrowed := true }
def FnModesUptoSaid : Prop := fnModesUptoRow.holds Tryz.pinned (OpenSpec.upto fnModesSpec)

/-- 'laws.FnBracket', WHERE WHAT IT READS IS OF BULK AT MOST 1048576: true; the input reads as it did. -/
def fnBracketUptoRow : OpenClaim := { program := "ytbhfbaogmkgmiaagreatdoor", sum := "44de51316ae43bd852b03e682c08a26de7fbe057ca3bab147506c99173b11340", func := "loop.example/g00672/laws.FnBracket", spec := "fnBracket", unfollowed := true, recurses := true, named := ["loop.example/g00672/impl.formSizes", "math/bits.deBruijn32tab", "math/bits.deBruijn64tab"], apart := false, laid := [("math/bits.deBruijn32tab", laid_math_bits_deBruijn32tab), ("math/bits.deBruijn64tab", laid_math_bits_deBruijn64tab), ("loop.example/g00672/impl.formSizes", laid_loop_example_g00672_impl_formSizes)], narrowed := true }
def FnBracketUptoSaid : Prop := fnBracketUptoRow.holds Tryz.pinned (OpenSpec.upto fnBracketSpec)

/-- 'laws.FnNearest', WHERE WHAT IT READS IS OF BULK AT MOST 1048576: true; the input reads as it did. -/
def fnNearestUptoRow : OpenClaim := { program := "ytbhfbaogmkgmiaagreatdoor", sum := "44de51316ae43bd852b03e682c08a26de7fbe057ca3bab147506c99173b11340", func := "loop.example/g00672/laws.FnNearest", spec := "fnNearest", unfollowed := true, recurses := true, named := ["loop.example/g00672/impl.formSizes", "math/bits.deBruijn32tab", "math/bits.deBruijn64tab"], apart := false, laid := [("math/bits.deBruijn32tab", laid_math_bits_deBruijn32tab), ("math/bits.deBruijn64tab", laid_math_bits_deBruijn64tab), ("loop.example/g00672/impl.formSizes", laid_loop_example_g00672_impl_formSizes)], narrowed := true }
def FnNearestUptoSaid : Prop := fnNearestUptoRow.holds Tryz.pinned (OpenSpec.upto fnNearestSpec)

/-- 'laws.FnAddRounded', WHERE WHAT IT READS IS OF BULK AT MOST 1048576: true; the input reads as it did. -/
def fnAddRoundedUptoRow : OpenClaim := { program := "ytbhfbaogmkgmiaagreatdoor", sum := "44de51316ae43bd852b03e682c08a26de7fbe057ca3bab147506c99173b11340", func := "loop.example/g00672/laws.FnAddRounded", spec := "fnAddRounded", inPlace := ["internal/reflectlite.ValueOf", "(internal/reflectlite.Value).Type", "(internal/reflectlite.Value).IsNil", "internal/reflectlite.TypeOf", "(internal/reflectlite.Value).Elem", "(internal/reflectlite.Value).Set"], unfollowed := true, recurses := true, named := ["loop.example/g00672/impl.formSizes", "loop.example/g00672/impl.errQuiet", "errors.errorType", "math/bits.deBruijn32tab", "math/bits.deBruijn64tab"], ifaces := true, apart := false, laid := [("math/bits.deBruijn32tab", laid_math_bits_deBruijn32tab), ("math/bits.deBruijn64tab", laid_math_bits_deBruijn64tab), ("errors.errorType", laid_errors_errorType), ("loop.example/g00672/impl.formSizes", laid_loop_example_g00672_impl_formSizes), ("loop.example/g00672/impl.errQuiet", laid_loop_example_g00672_impl_errQuiet)], narrowed := true }
def FnAddRoundedUptoSaid : Prop := fnAddRoundedUptoRow.holds Tryz.pinned (OpenSpec.upto fnAddRoundedSpec)

/-- 'laws.FnAddTurned', WHERE WHAT IT READS IS OF BULK AT MOST 1048576: true; the input reads as it did. -/
def fnAddTurnedUptoRow : OpenClaim := { program := "ytbhfbaogmkgmiaagreatdoor", sum := "44de51316ae43bd852b03e682c08a26de7fbe057ca3bab147506c99173b11340", func := "loop.example/g00672/laws.FnAddTurned", spec := "fnAddTurned", inPlace := ["internal/reflectlite.ValueOf", "(internal/reflectlite.Value).Type", "(internal/reflectlite.Value).IsNil", "internal/reflectlite.TypeOf", "(internal/reflectlite.Value).Elem", "(internal/reflectlite.Value).Set"], unfollowed := true, recurses := true, named := ["loop.example/g00672/impl.formSizes", "loop.example/g00672/impl.errQuiet", "errors.errorType", "math/bits.deBruijn32tab", "math/bits.deBruijn64tab"], ifaces := true, apart := false, laid := [("math/bits.deBruijn32tab", laid_math_bits_deBruijn32tab), ("math/bits.deBruijn64tab", laid_math_bits_deBruijn64tab), ("errors.errorType", laid_errors_errorType), ("loop.example/g00672/impl.formSizes", laid_loop_example_g00672_impl_formSizes), ("loop.example/g00672/impl.errQuiet", laid_loop_example_g00672_impl_errQuiet)], narrowed := true }
def FnAddTurnedUptoSaid : Prop := fnAddTurnedUptoRow.holds Tryz.pinned (OpenSpec.upto fnAddTurnedSpec)

/-- 'laws.FnMulRounded', WHERE WHAT IT READS IS OF BULK AT MOST 1048576: true; the input reads as it did. -/
def fnMulRoundedUptoRow : OpenClaim := { program := "ytbhfbaogmkgmiaagreatdoor", sum := "44de51316ae43bd852b03e682c08a26de7fbe057ca3bab147506c99173b11340", func := "loop.example/g00672/laws.FnMulRounded", spec := "fnMulRounded", inPlace := ["internal/reflectlite.ValueOf", "(internal/reflectlite.Value).Type", "(internal/reflectlite.Value).IsNil", "internal/reflectlite.TypeOf", "(internal/reflectlite.Value).Elem", "(internal/reflectlite.Value).Set"], unfollowed := true, recurses := true, named := ["loop.example/g00672/impl.formSizes", "loop.example/g00672/impl.errQuiet", "errors.errorType", "math/bits.deBruijn32tab", "math/bits.deBruijn64tab"], ifaces := true, apart := false, laid := [("math/bits.deBruijn32tab", laid_math_bits_deBruijn32tab), ("math/bits.deBruijn64tab", laid_math_bits_deBruijn64tab), ("errors.errorType", laid_errors_errorType), ("loop.example/g00672/impl.formSizes", laid_loop_example_g00672_impl_formSizes), ("loop.example/g00672/impl.errQuiet", laid_loop_example_g00672_impl_errQuiet)], narrowed := true }
def FnMulRoundedUptoSaid : Prop := fnMulRoundedUptoRow.holds Tryz.pinned (OpenSpec.upto fnMulRoundedSpec)

/-- 'laws.FnNearSub', WHERE WHAT IT READS IS OF BULK AT MOST 1048576: true; the input reads as it did. -/
def fnNearSubUptoRow : OpenClaim := { program := "ytbhfbaogmkgmiaagreatdoor", sum := "44de51316ae43bd852b03e682c08a26de7fbe057ca3bab147506c99173b11340", func := "loop.example/g00672/laws.FnNearSub", spec := "fnNearSub", inPlace := ["internal/reflectlite.ValueOf", "(internal/reflectlite.Value).Type", "(internal/reflectlite.Value).IsNil", "internal/reflectlite.TypeOf", "(internal/reflectlite.Value).Elem", "(internal/reflectlite.Value).Set"], unfollowed := true, recurses := true, named := ["loop.example/g00672/impl.formSizes", "loop.example/g00672/impl.errQuiet", "errors.errorType", "math/bits.deBruijn32tab", "math/bits.deBruijn64tab"], ifaces := true, apart := false, laid := [("math/bits.deBruijn32tab", laid_math_bits_deBruijn32tab), ("math/bits.deBruijn64tab", laid_math_bits_deBruijn64tab), ("errors.errorType", laid_errors_errorType), ("loop.example/g00672/impl.formSizes", laid_loop_example_g00672_impl_formSizes), ("loop.example/g00672/impl.errQuiet", laid_loop_example_g00672_impl_errQuiet)], narrowed := true }
def FnNearSubUptoSaid : Prop := fnNearSubUptoRow.holds Tryz.pinned (OpenSpec.upto fnNearSubSpec)

/-- 'laws.FnScaled', WHERE WHAT IT READS IS OF BULK AT MOST 1048576: true; the input reads as it did. -/
def fnScaledUptoRow : OpenClaim := { program := "ytbhfbaogmkgmiaagreatdoor", sum := "44de51316ae43bd852b03e682c08a26de7fbe057ca3bab147506c99173b11340", func := "loop.example/g00672/laws.FnScaled", spec := "fnScaled", inPlace := ["internal/reflectlite.ValueOf", "(internal/reflectlite.Value).Type", "(internal/reflectlite.Value).IsNil", "internal/reflectlite.TypeOf", "(internal/reflectlite.Value).Elem", "(internal/reflectlite.Value).Set"], unfollowed := true, recurses := true, named := ["loop.example/g00672/impl.formSizes", "loop.example/g00672/impl.errQuiet", "errors.errorType", "math/bits.deBruijn32tab", "math/bits.deBruijn64tab"], ifaces := true, apart := false, laid := [("math/bits.deBruijn32tab", laid_math_bits_deBruijn32tab), ("math/bits.deBruijn64tab", laid_math_bits_deBruijn64tab), ("errors.errorType", laid_errors_errorType), ("loop.example/g00672/impl.formSizes", laid_loop_example_g00672_impl_formSizes), ("loop.example/g00672/impl.errQuiet", laid_loop_example_g00672_impl_errQuiet)], narrowed := true }
def FnScaledUptoSaid : Prop := fnScaledUptoRow.holds Tryz.pinned (OpenSpec.upto fnScaledSpec)

/-- 'laws.FnSplit', WHERE WHAT IT READS IS OF BULK AT MOST 1048576: true; the input reads as it did. -/
def fnSplitUptoRow : OpenClaim := { program := "ytbhfbaogmkgmiaagreatdoor", sum := "44de51316ae43bd852b03e682c08a26de7fbe057ca3bab147506c99173b11340", func := "loop.example/g00672/laws.FnSplit", spec := "fnSplit", inPlace := ["internal/reflectlite.ValueOf", "(internal/reflectlite.Value).Type", "(internal/reflectlite.Value).IsNil", "internal/reflectlite.TypeOf", "(internal/reflectlite.Value).Elem", "(internal/reflectlite.Value).Set"], unfollowed := true, recurses := true, named := ["loop.example/g00672/impl.formSizes", "math/bits.deBruijn64tab", "math/bits.deBruijn32tab", "loop.example/g00672/impl.errQuiet", "errors.errorType"], ifaces := true, apart := false, laid := [("math/bits.deBruijn32tab", laid_math_bits_deBruijn32tab), ("math/bits.deBruijn64tab", laid_math_bits_deBruijn64tab), ("errors.errorType", laid_errors_errorType), ("loop.example/g00672/impl.formSizes", laid_loop_example_g00672_impl_formSizes), ("loop.example/g00672/impl.errQuiet", laid_loop_example_g00672_impl_errQuiet)], narrowed := true }
def FnSplitUptoSaid : Prop := fnSplitUptoRow.holds Tryz.pinned (OpenSpec.upto fnSplitSpec)

/-- 'laws.FnFma', WHERE WHAT IT READS IS OF BULK AT MOST 1048576: true; the input reads as it did. -/
def fnFmaUptoRow : OpenClaim := { program := "ytbhfbaogmkgmiaagreatdoor", sum := "44de51316ae43bd852b03e682c08a26de7fbe057ca3bab147506c99173b11340", func := "loop.example/g00672/laws.FnFma", spec := "fnFma", inPlace := ["internal/reflectlite.ValueOf", "(internal/reflectlite.Value).Type", "(internal/reflectlite.Value).IsNil", "internal/reflectlite.TypeOf", "(internal/reflectlite.Value).Elem", "(internal/reflectlite.Value).Set"], unfollowed := true, recurses := true, named := ["loop.example/g00672/impl.formSizes", "loop.example/g00672/impl.errQuiet", "errors.errorType", "math/bits.deBruijn32tab", "math/bits.deBruijn64tab"], ifaces := true, apart := false, laid := [("math/bits.deBruijn32tab", laid_math_bits_deBruijn32tab), ("math/bits.deBruijn64tab", laid_math_bits_deBruijn64tab), ("errors.errorType", laid_errors_errorType), ("loop.example/g00672/impl.formSizes", laid_loop_example_g00672_impl_formSizes), ("loop.example/g00672/impl.errQuiet", laid_loop_example_g00672_impl_errQuiet)], narrowed := true }
def FnFmaUptoSaid : Prop := fnFmaUptoRow.holds Tryz.pinned (OpenSpec.upto fnFmaSpec)

/-- 'laws.FnInts', WHERE WHAT IT READS IS OF BULK AT MOST 1048576: true; the input reads as it did. -/
def fnIntsUptoRow : OpenClaim := { program := "ytbhfbaogmkgmiaagreatdoor", sum := "44de51316ae43bd852b03e682c08a26de7fbe057ca3bab147506c99173b11340", func := "loop.example/g00672/laws.FnInts", spec := "fnInts", inPlace := ["internal/reflectlite.ValueOf", "(internal/reflectlite.Value).Type", "(internal/reflectlite.Value).IsNil", "internal/reflectlite.TypeOf", "(internal/reflectlite.Value).Elem", "(internal/reflectlite.Value).Set"], unfollowed := true, recurses := true, named := ["loop.example/g00672/impl.formSizes", "loop.example/g00672/impl.errQuiet", "math/bits.deBruijn32tab", "errors.errorType", "math/bits.deBruijn64tab"], ifaces := true, apart := false, laid := [("math/bits.deBruijn32tab", laid_math_bits_deBruijn32tab), ("math/bits.deBruijn64tab", laid_math_bits_deBruijn64tab), ("errors.errorType", laid_errors_errorType), ("loop.example/g00672/impl.formSizes", laid_loop_example_g00672_impl_formSizes), ("loop.example/g00672/impl.errQuiet", laid_loop_example_g00672_impl_errQuiet)], narrowed := true }
def FnIntsUptoSaid : Prop := fnIntsUptoRow.holds Tryz.pinned (OpenSpec.upto fnIntsSpec)

/-- 'laws.FnExactFloatFma', WHERE WHAT IT READS IS OF BULK AT MOST 1048576: true; the input reads as it did. -/
def fnExactFloatFmaUptoRow : OpenClaim := { program := "ytbhfbaogmkgmiaagreatdoor", sum := "44de51316ae43bd852b03e682c08a26de7fbe057ca3bab147506c99173b11340", func := "loop.example/g00672/laws.FnExactFloatFma", spec := "fnExactFloatFma", inPlace := ["internal/reflectlite.ValueOf", "(internal/reflectlite.Value).Type", "(internal/reflectlite.Value).IsNil", "internal/reflectlite.TypeOf", "(internal/reflectlite.Value).Elem", "(internal/reflectlite.Value).Set"], unfollowed := true, recurses := true, named := ["loop.example/g00672/impl.formSizes", "loop.example/g00672/impl.errQuiet", "errors.errorType", "math/bits.deBruijn32tab", "math/bits.deBruijn64tab"], ifaces := true, apart := false, laid := [("math/bits.deBruijn32tab", laid_math_bits_deBruijn32tab), ("math/bits.deBruijn64tab", laid_math_bits_deBruijn64tab), ("errors.errorType", laid_errors_errorType), ("loop.example/g00672/impl.formSizes", laid_loop_example_g00672_impl_formSizes), ("loop.example/g00672/impl.errQuiet", laid_loop_example_g00672_impl_errQuiet)], narrowed := true }
def FnExactFloatFmaUptoSaid : Prop := fnExactFloatFmaUptoRow.holds Tryz.pinned (OpenSpec.upto fnExactFloatFmaSpec)

end Rows
end Go.Proofs.YtbhfbaogmkgmiaaGreatDoor
