/-
  NARROWER THAN 'FOR EVERY INPUT', by the rows' own cells (each row's printed sentence says how): FnNearSub: ifaces, laid · FnFma: ifaces, laid · FnInts: ifaces, laid · FnExactFloatFma: ifaces, laid · FnExactFloatInt: ifaces, laid · FnExactAugAdd: ifaces, laid · FnExactAugSub: ifaces, laid · FnExactAugMul: ifaces, laid · FnAugAdd: ifaces, laid · FnAugMul: ifaces, laid · FnAugHead: ifaces, laid · FnExactDot: ifaces, laid.
  DERIVED. THE GIVEN ROWS OF THIS SEAT. 12 by the template 'for every input the law returns true; each argument reads behind the call as it read before'; 0 by the template 'total and deterministic' (their statements: YtmcflggionkhlaaGreatDoorTotals.lean).
  GIVEN WITH THE SEED: the statements are not yours to turn. If you find one false, say at which input.
  Laid BY PROGRAM, IN A SANDBOX (cutbox-rows.mjs): the forced cells as the released guide's own fill.sh prints them over the translation fa02751f51d5a6f6… (all of the seat's roots in one cut). By AI agents, Wed Nov 11 2026. No macro, syntax, notation, axiom, sorry.
-/
import Derived.Test.YtmcflggionkhlaaGreatDoorChecked
import GoSem.Claim
import GoSem.ClaimJoined
import GoSem.ClaimMapViews
import Derived.JoinedTies
import Derived.KernelRfl
namespace Go.Proofs.YtmcflggionkhlaaGreatDoor
/- THE CELL 'sum', in the pinned program and in every row, IS THE sha256 OF THE DUMP (.gsa) THAT YtmcflggionkhlaaGreatDoorProg.lean LOADS. Nothing in Lean hashes anything: it is a label: what it is worth is what the hold of that sum in a sandbox is worth. -/
noncomputable def Tryz.pinned : Pinned := { name := "ytmcflggionkhlaagreatdoor", sum := "fa02751f51d5a6f68ce4718d5b780e2a3f525f5324aab168175bed38db12f23e", checked := Tryz.checked }
namespace Rows
def none {H : Type} : Left H := { results := [], args := [] }

/- WHAT THE LISTED PACKAGE-LEVEL VARIABLES READ AS WHEN THE CALL BEGINS. Each datum BY PROGRAM (the guide's laid-datum.mjs) off the statement by which the dump's own 'gosem.cut.vars' lays the variable. In a bare row this is a premise. The card (YtmcflggionkhlaaGreatDoorCards.lean) ties it to the program's text. -/
def laid_math_bits_deBruijn32tab {H : Type} : DataW H := .agg [.lit (.int .u8 0), .lit (.int .u8 1), .lit (.int .u8 28), .lit (.int .u8 2), .lit (.int .u8 29), .lit (.int .u8 14), .lit (.int .u8 24), .lit (.int .u8 3), .lit (.int .u8 30), .lit (.int .u8 22), .lit (.int .u8 20), .lit (.int .u8 15), .lit (.int .u8 25), .lit (.int .u8 17), .lit (.int .u8 4), .lit (.int .u8 8), .lit (.int .u8 31), .lit (.int .u8 27), .lit (.int .u8 13), .lit (.int .u8 23), .lit (.int .u8 21), .lit (.int .u8 19), .lit (.int .u8 16), .lit (.int .u8 7), .lit (.int .u8 26), .lit (.int .u8 12), .lit (.int .u8 18), .lit (.int .u8 6), .lit (.int .u8 11), .lit (.int .u8 5), .lit (.int .u8 10), .lit (.int .u8 9)]
def laid_math_bits_deBruijn64tab {H : Type} : DataW H := .agg [.lit (.int .u8 0), .lit (.int .u8 1), .lit (.int .u8 56), .lit (.int .u8 2), .lit (.int .u8 57), .lit (.int .u8 49), .lit (.int .u8 28), .lit (.int .u8 3), .lit (.int .u8 61), .lit (.int .u8 58), .lit (.int .u8 42), .lit (.int .u8 50), .lit (.int .u8 38), .lit (.int .u8 29), .lit (.int .u8 17), .lit (.int .u8 4), .lit (.int .u8 62), .lit (.int .u8 47), .lit (.int .u8 59), .lit (.int .u8 36), .lit (.int .u8 45), .lit (.int .u8 43), .lit (.int .u8 51), .lit (.int .u8 22), .lit (.int .u8 53), .lit (.int .u8 39), .lit (.int .u8 33), .lit (.int .u8 30), .lit (.int .u8 24), .lit (.int .u8 18), .lit (.int .u8 12), .lit (.int .u8 5), .lit (.int .u8 63), .lit (.int .u8 55), .lit (.int .u8 48), .lit (.int .u8 27), .lit (.int .u8 60), .lit (.int .u8 41), .lit (.int .u8 37), .lit (.int .u8 16), .lit (.int .u8 46), .lit (.int .u8 35), .lit (.int .u8 44), .lit (.int .u8 21), .lit (.int .u8 52), .lit (.int .u8 32), .lit (.int .u8 23), .lit (.int .u8 11), .lit (.int .u8 54), .lit (.int .u8 26), .lit (.int .u8 40), .lit (.int .u8 15), .lit (.int .u8 34), .lit (.int .u8 20), .lit (.int .u8 31), .lit (.int .u8 10), .lit (.int .u8 25), .lit (.int .u8 14), .lit (.int .u8 19), .lit (.int .u8 9), .lit (.int .u8 13), .lit (.int .u8 8), .lit (.int .u8 7), .lit (.int .u8 6)]
def laid_errors_errorType {H : Type} : DataW H := .iface "internal/reflectlite.rtype" (.agg [.ptr (.lit (.string [101, 114, 114, 111, 114]))])
def laid_loop_example_g00672_impl_formSizes {H : Type} : DataW H := .agg [.agg [.lit (.int .u64 0), .lit (.int .u64 0), .lit (.int .i64 0)], .agg [.lit (.int .u64 23), .lit (.int .u64 255), .lit (.int .i64 (-149))], .agg [.lit (.int .u64 52), .lit (.int .u64 2047), .lit (.int .i64 (-1074))]]
def laid_loop_example_g00672_impl_errQuiet {H : Type} : DataW H := .iface "*errors.errorString" (.ptr (.agg [.lit (.string [111, 110, 101, 32, 105, 115, 32, 97, 32, 113, 117, 105, 101, 116, 32, 78, 97, 78])]))

/-- 'laws.FnNearSub': WHATEVER THE INPUT: true; the input reads as it did. -/
def fnNearSubSpec : ChangeSpec := { name := "fnNearSub", vars := ["loop.example/g00672/impl.formSizes", "loop.example/g00672/impl.errQuiet"], fn := fun _ => fun
  | [d, g1, g2] => { results := [.lit (.bool true)], args := [d], vars := [g1, g2] }
  | _ => none }
def fnNearSubRow : OpenClaim := { program := "ytmcflggionkhlaagreatdoor", sum := "fa02751f51d5a6f68ce4718d5b780e2a3f525f5324aab168175bed38db12f23e", func := "loop.example/g00672/laws.FnNearSub", spec := "fnNearSub", inPlace := ["internal/reflectlite.ValueOf", "(internal/reflectlite.Value).Type", "(internal/reflectlite.Value).IsNil", "internal/reflectlite.TypeOf", "(internal/reflectlite.Value).Elem", "(internal/reflectlite.Value).Set"], unfollowed := true, recurses := true, named := ["loop.example/g00672/impl.formSizes", "loop.example/g00672/impl.errQuiet", "errors.errorType", "math/bits.deBruijn32tab", "math/bits.deBruijn64tab"], ifaces := true, apart := false, laid := [("math/bits.deBruijn32tab", laid_math_bits_deBruijn32tab), ("math/bits.deBruijn64tab", laid_math_bits_deBruijn64tab), ("errors.errorType", laid_errors_errorType), ("loop.example/g00672/impl.formSizes", laid_loop_example_g00672_impl_formSizes), ("loop.example/g00672/impl.errQuiet", laid_loop_example_g00672_impl_errQuiet)] }
def FnNearSubSaid : Prop := fnNearSubRow.holds Tryz.pinned (OpenSpec.ofChange fnNearSubSpec)

/-- ITS FALSE NEIGHBOUR: 'it returns false'. Refute it at one input. -/
def fnNearSubWrong : ChangeSpec := { name := "fnNearSub", vars := ["loop.example/g00672/impl.formSizes", "loop.example/g00672/impl.errQuiet"], fn := fun _ => fun
  | [d, g1, g2] => { results := [.lit (.bool false)], args := [d], vars := [g1, g2] }
  | _ => none }
def FnNearSubWrongFalsely : Prop := fnNearSubRow.holds Tryz.pinned (OpenSpec.ofChange fnNearSubWrong)

/-- 'laws.FnFma': WHATEVER THE INPUT: true; the input reads as it did. -/
def fnFmaSpec : ChangeSpec := { name := "fnFma", vars := ["loop.example/g00672/impl.formSizes", "loop.example/g00672/impl.errQuiet"], fn := fun _ => fun
  | [d, g1, g2] => { results := [.lit (.bool true)], args := [d], vars := [g1, g2] }
  | _ => none }
def fnFmaRow : OpenClaim := { program := "ytmcflggionkhlaagreatdoor", sum := "fa02751f51d5a6f68ce4718d5b780e2a3f525f5324aab168175bed38db12f23e", func := "loop.example/g00672/laws.FnFma", spec := "fnFma", inPlace := ["internal/reflectlite.ValueOf", "(internal/reflectlite.Value).Type", "(internal/reflectlite.Value).IsNil", "internal/reflectlite.TypeOf", "(internal/reflectlite.Value).Elem", "(internal/reflectlite.Value).Set"], unfollowed := true, recurses := true, named := ["loop.example/g00672/impl.formSizes", "loop.example/g00672/impl.errQuiet", "errors.errorType", "math/bits.deBruijn32tab", "math/bits.deBruijn64tab"], ifaces := true, apart := false, laid := [("math/bits.deBruijn32tab", laid_math_bits_deBruijn32tab), ("math/bits.deBruijn64tab", laid_math_bits_deBruijn64tab), ("errors.errorType", laid_errors_errorType), ("loop.example/g00672/impl.formSizes", laid_loop_example_g00672_impl_formSizes), ("loop.example/g00672/impl.errQuiet", laid_loop_example_g00672_impl_errQuiet)] }
def FnFmaSaid : Prop := fnFmaRow.holds Tryz.pinned (OpenSpec.ofChange fnFmaSpec)

/-- ITS FALSE NEIGHBOUR: 'it returns false'. Refute it at one input. -/
def fnFmaWrong : ChangeSpec := { name := "fnFma", vars := ["loop.example/g00672/impl.formSizes", "loop.example/g00672/impl.errQuiet"], fn := fun _ => fun
  | [d, g1, g2] => { results := [.lit (.bool false)], args := [d], vars := [g1, g2] }
  | _ => none }
def FnFmaWrongFalsely : Prop := fnFmaRow.holds Tryz.pinned (OpenSpec.ofChange fnFmaWrong)

/-- 'laws.FnInts': WHATEVER THE INPUT: true; the input reads as it did. -/
def fnIntsSpec : ChangeSpec := { name := "fnInts", vars := ["loop.example/g00672/impl.formSizes", "loop.example/g00672/impl.errQuiet"], fn := fun _ => fun
  | [d, g1, g2] => { results := [.lit (.bool true)], args := [d], vars := [g1, g2] }
  | _ => none }
def fnIntsRow : OpenClaim := { program := "ytmcflggionkhlaagreatdoor", sum := "fa02751f51d5a6f68ce4718d5b780e2a3f525f5324aab168175bed38db12f23e", func := "loop.example/g00672/laws.FnInts", spec := "fnInts", inPlace := ["internal/reflectlite.ValueOf", "(internal/reflectlite.Value).Type", "(internal/reflectlite.Value).IsNil", "internal/reflectlite.TypeOf", "(internal/reflectlite.Value).Elem", "(internal/reflectlite.Value).Set"], unfollowed := true, recurses := true, named := ["loop.example/g00672/impl.formSizes", "loop.example/g00672/impl.errQuiet", "math/bits.deBruijn32tab", "errors.errorType", "math/bits.deBruijn64tab"], ifaces := true, apart := false, laid := [("math/bits.deBruijn32tab", laid_math_bits_deBruijn32tab), ("math/bits.deBruijn64tab", laid_math_bits_deBruijn64tab), ("errors.errorType", laid_errors_errorType), ("loop.example/g00672/impl.formSizes", laid_loop_example_g00672_impl_formSizes), ("loop.example/g00672/impl.errQuiet", laid_loop_example_g00672_impl_errQuiet)] }
def FnIntsSaid : Prop := fnIntsRow.holds Tryz.pinned (OpenSpec.ofChange fnIntsSpec)

/-- ITS FALSE NEIGHBOUR: 'it returns false'. Refute it at one input. -/
def fnIntsWrong : ChangeSpec := { name := "fnInts", vars := ["loop.example/g00672/impl.formSizes", "loop.example/g00672/impl.errQuiet"], fn := fun _ => fun
  | [d, g1, g2] => { results := [.lit (.bool false)], args := [d], vars := [g1, g2] }
  | _ => none }
def FnIntsWrongFalsely : Prop := fnIntsRow.holds Tryz.pinned (OpenSpec.ofChange fnIntsWrong)

/-- 'laws.FnExactFloatFma': WHATEVER THE INPUT: true; the input reads as it did. -/
def fnExactFloatFmaSpec : ChangeSpec := { name := "fnExactFloatFma", vars := ["loop.example/g00672/impl.formSizes", "loop.example/g00672/impl.errQuiet"], fn := fun _ => fun
  | [d1, d2, d3, d4, d5, g1, g2] => { results := [.lit (.bool true)], args := [d1, d2, d3, d4, d5], vars := [g1, g2] }
  | _ => none }
def fnExactFloatFmaRow : OpenClaim := { program := "ytmcflggionkhlaagreatdoor", sum := "fa02751f51d5a6f68ce4718d5b780e2a3f525f5324aab168175bed38db12f23e", func := "loop.example/g00672/laws.FnExactFloatFma", spec := "fnExactFloatFma", inPlace := ["internal/reflectlite.ValueOf", "(internal/reflectlite.Value).Type", "(internal/reflectlite.Value).IsNil", "internal/reflectlite.TypeOf", "(internal/reflectlite.Value).Elem", "(internal/reflectlite.Value).Set"], unfollowed := true, recurses := true, named := ["loop.example/g00672/impl.formSizes", "loop.example/g00672/impl.errQuiet", "errors.errorType", "math/bits.deBruijn32tab", "math/bits.deBruijn64tab"], ifaces := true, apart := false, laid := [("math/bits.deBruijn32tab", laid_math_bits_deBruijn32tab), ("math/bits.deBruijn64tab", laid_math_bits_deBruijn64tab), ("errors.errorType", laid_errors_errorType), ("loop.example/g00672/impl.formSizes", laid_loop_example_g00672_impl_formSizes), ("loop.example/g00672/impl.errQuiet", laid_loop_example_g00672_impl_errQuiet)] }
def FnExactFloatFmaSaid : Prop := fnExactFloatFmaRow.holds Tryz.pinned (OpenSpec.ofChange fnExactFloatFmaSpec)

/-- ITS FALSE NEIGHBOUR: 'it returns false'. Refute it at one input. -/
def fnExactFloatFmaWrong : ChangeSpec := { name := "fnExactFloatFma", vars := ["loop.example/g00672/impl.formSizes", "loop.example/g00672/impl.errQuiet"], fn := fun _ => fun
  | [d1, d2, d3, d4, d5, g1, g2] => { results := [.lit (.bool false)], args := [d1, d2, d3, d4, d5], vars := [g1, g2] }
  | _ => none }
def FnExactFloatFmaWrongFalsely : Prop := fnExactFloatFmaRow.holds Tryz.pinned (OpenSpec.ofChange fnExactFloatFmaWrong)

/-- 'laws.FnExactFloatInt': WHATEVER THE INPUT: true; the input reads as it did. -/
def fnExactFloatIntSpec : ChangeSpec := { name := "fnExactFloatInt", vars := ["loop.example/g00672/impl.formSizes", "loop.example/g00672/impl.errQuiet"], fn := fun _ => fun
  | [d1, d2, d3, g1, g2] => { results := [.lit (.bool true)], args := [d1, d2, d3], vars := [g1, g2] }
  | _ => none }
def fnExactFloatIntRow : OpenClaim := { program := "ytmcflggionkhlaagreatdoor", sum := "fa02751f51d5a6f68ce4718d5b780e2a3f525f5324aab168175bed38db12f23e", func := "loop.example/g00672/laws.FnExactFloatInt", spec := "fnExactFloatInt", inPlace := ["internal/reflectlite.ValueOf", "(internal/reflectlite.Value).Type", "(internal/reflectlite.Value).IsNil", "internal/reflectlite.TypeOf", "(internal/reflectlite.Value).Elem", "(internal/reflectlite.Value).Set"], unfollowed := true, recurses := true, named := ["loop.example/g00672/impl.formSizes", "loop.example/g00672/impl.errQuiet", "math/bits.deBruijn32tab", "errors.errorType", "math/bits.deBruijn64tab"], ifaces := true, apart := false, laid := [("math/bits.deBruijn32tab", laid_math_bits_deBruijn32tab), ("math/bits.deBruijn64tab", laid_math_bits_deBruijn64tab), ("errors.errorType", laid_errors_errorType), ("loop.example/g00672/impl.formSizes", laid_loop_example_g00672_impl_formSizes), ("loop.example/g00672/impl.errQuiet", laid_loop_example_g00672_impl_errQuiet)] }
def FnExactFloatIntSaid : Prop := fnExactFloatIntRow.holds Tryz.pinned (OpenSpec.ofChange fnExactFloatIntSpec)

/-- ITS FALSE NEIGHBOUR: 'it returns false'. Refute it at one input. -/
def fnExactFloatIntWrong : ChangeSpec := { name := "fnExactFloatInt", vars := ["loop.example/g00672/impl.formSizes", "loop.example/g00672/impl.errQuiet"], fn := fun _ => fun
  | [d1, d2, d3, g1, g2] => { results := [.lit (.bool false)], args := [d1, d2, d3], vars := [g1, g2] }
  | _ => none }
def FnExactFloatIntWrongFalsely : Prop := fnExactFloatIntRow.holds Tryz.pinned (OpenSpec.ofChange fnExactFloatIntWrong)

/-- 'laws.FnExactAugAdd': WHATEVER THE INPUT: true; the input reads as it did. -/
def fnExactAugAddSpec : ChangeSpec := { name := "fnExactAugAdd", vars := ["loop.example/g00672/impl.formSizes", "loop.example/g00672/impl.errQuiet"], fn := fun _ => fun
  | [d1, d2, d3, g1, g2] => { results := [.lit (.bool true)], args := [d1, d2, d3], vars := [g1, g2] }
  | _ => none }
def fnExactAugAddRow : OpenClaim := { program := "ytmcflggionkhlaagreatdoor", sum := "fa02751f51d5a6f68ce4718d5b780e2a3f525f5324aab168175bed38db12f23e", func := "loop.example/g00672/laws.FnExactAugAdd", spec := "fnExactAugAdd", inPlace := ["internal/reflectlite.ValueOf", "(internal/reflectlite.Value).Type", "(internal/reflectlite.Value).IsNil", "internal/reflectlite.TypeOf", "(internal/reflectlite.Value).Elem", "(internal/reflectlite.Value).Set"], unfollowed := true, recurses := true, named := ["loop.example/g00672/impl.formSizes", "loop.example/g00672/impl.errQuiet", "errors.errorType", "math/bits.deBruijn32tab", "math/bits.deBruijn64tab"], ifaces := true, apart := false, laid := [("math/bits.deBruijn32tab", laid_math_bits_deBruijn32tab), ("math/bits.deBruijn64tab", laid_math_bits_deBruijn64tab), ("errors.errorType", laid_errors_errorType), ("loop.example/g00672/impl.formSizes", laid_loop_example_g00672_impl_formSizes), ("loop.example/g00672/impl.errQuiet", laid_loop_example_g00672_impl_errQuiet)] }
def FnExactAugAddSaid : Prop := fnExactAugAddRow.holds Tryz.pinned (OpenSpec.ofChange fnExactAugAddSpec)

/-- ITS FALSE NEIGHBOUR: 'it returns false'. Refute it at one input. -/
def fnExactAugAddWrong : ChangeSpec := { name := "fnExactAugAdd", vars := ["loop.example/g00672/impl.formSizes", "loop.example/g00672/impl.errQuiet"], fn := fun _ => fun
  | [d1, d2, d3, g1, g2] => { results := [.lit (.bool false)], args := [d1, d2, d3], vars := [g1, g2] }
  | _ => none }
def FnExactAugAddWrongFalsely : Prop := fnExactAugAddRow.holds Tryz.pinned (OpenSpec.ofChange fnExactAugAddWrong)

/-- 'laws.FnExactAugSub': WHATEVER THE INPUT: true; the input reads as it did. -/
def fnExactAugSubSpec : ChangeSpec := { name := "fnExactAugSub", vars := ["loop.example/g00672/impl.formSizes", "loop.example/g00672/impl.errQuiet"], fn := fun _ => fun
  | [d1, d2, d3, g1, g2] => { results := [.lit (.bool true)], args := [d1, d2, d3], vars := [g1, g2] }
  | _ => none }
def fnExactAugSubRow : OpenClaim := { program := "ytmcflggionkhlaagreatdoor", sum := "fa02751f51d5a6f68ce4718d5b780e2a3f525f5324aab168175bed38db12f23e", func := "loop.example/g00672/laws.FnExactAugSub", spec := "fnExactAugSub", inPlace := ["internal/reflectlite.ValueOf", "(internal/reflectlite.Value).Type", "(internal/reflectlite.Value).IsNil", "internal/reflectlite.TypeOf", "(internal/reflectlite.Value).Elem", "(internal/reflectlite.Value).Set"], unfollowed := true, recurses := true, named := ["loop.example/g00672/impl.formSizes", "loop.example/g00672/impl.errQuiet", "errors.errorType", "math/bits.deBruijn32tab", "math/bits.deBruijn64tab"], ifaces := true, apart := false, laid := [("math/bits.deBruijn32tab", laid_math_bits_deBruijn32tab), ("math/bits.deBruijn64tab", laid_math_bits_deBruijn64tab), ("errors.errorType", laid_errors_errorType), ("loop.example/g00672/impl.formSizes", laid_loop_example_g00672_impl_formSizes), ("loop.example/g00672/impl.errQuiet", laid_loop_example_g00672_impl_errQuiet)] }
def FnExactAugSubSaid : Prop := fnExactAugSubRow.holds Tryz.pinned (OpenSpec.ofChange fnExactAugSubSpec)

/-- ITS FALSE NEIGHBOUR: 'it returns false'. Refute it at one input. -/
def fnExactAugSubWrong : ChangeSpec := { name := "fnExactAugSub", vars := ["loop.example/g00672/impl.formSizes", "loop.example/g00672/impl.errQuiet"], fn := fun _ => fun
  | [d1, d2, d3, g1, g2] => { results := [.lit (.bool false)], args := [d1, d2, d3], vars := [g1, g2] }
  | _ => none }
def FnExactAugSubWrongFalsely : Prop := fnExactAugSubRow.holds Tryz.pinned (OpenSpec.ofChange fnExactAugSubWrong)

/-- 'laws.FnExactAugMul': WHATEVER THE INPUT: true; the input reads as it did. -/
def fnExactAugMulSpec : ChangeSpec := { name := "fnExactAugMul", vars := ["loop.example/g00672/impl.formSizes", "loop.example/g00672/impl.errQuiet"], fn := fun _ => fun
  | [d1, d2, d3, g1, g2] => { results := [.lit (.bool true)], args := [d1, d2, d3], vars := [g1, g2] }
  | _ => none }
def fnExactAugMulRow : OpenClaim := { program := "ytmcflggionkhlaagreatdoor", sum := "fa02751f51d5a6f68ce4718d5b780e2a3f525f5324aab168175bed38db12f23e", func := "loop.example/g00672/laws.FnExactAugMul", spec := "fnExactAugMul", inPlace := ["internal/reflectlite.ValueOf", "(internal/reflectlite.Value).Type", "(internal/reflectlite.Value).IsNil", "internal/reflectlite.TypeOf", "(internal/reflectlite.Value).Elem", "(internal/reflectlite.Value).Set"], unfollowed := true, recurses := true, named := ["loop.example/g00672/impl.formSizes", "loop.example/g00672/impl.errQuiet", "errors.errorType", "math/bits.deBruijn32tab", "math/bits.deBruijn64tab"], ifaces := true, apart := false, laid := [("math/bits.deBruijn32tab", laid_math_bits_deBruijn32tab), ("math/bits.deBruijn64tab", laid_math_bits_deBruijn64tab), ("errors.errorType", laid_errors_errorType), ("loop.example/g00672/impl.formSizes", laid_loop_example_g00672_impl_formSizes), ("loop.example/g00672/impl.errQuiet", laid_loop_example_g00672_impl_errQuiet)] }
def FnExactAugMulSaid : Prop := fnExactAugMulRow.holds Tryz.pinned (OpenSpec.ofChange fnExactAugMulSpec)

/-- ITS FALSE NEIGHBOUR: 'it returns false'. Refute it at one input. -/
def fnExactAugMulWrong : ChangeSpec := { name := "fnExactAugMul", vars := ["loop.example/g00672/impl.formSizes", "loop.example/g00672/impl.errQuiet"], fn := fun _ => fun
  | [d1, d2, d3, g1, g2] => { results := [.lit (.bool false)], args := [d1, d2, d3], vars := [g1, g2] }
  | _ => none }
def FnExactAugMulWrongFalsely : Prop := fnExactAugMulRow.holds Tryz.pinned (OpenSpec.ofChange fnExactAugMulWrong)

/-- 'laws.FnAugAdd': WHATEVER THE INPUT: true; the input reads as it did. -/
def fnAugAddSpec : ChangeSpec := { name := "fnAugAdd", vars := ["loop.example/g00672/impl.formSizes", "loop.example/g00672/impl.errQuiet"], fn := fun _ => fun
  | [d, g1, g2] => { results := [.lit (.bool true)], args := [d], vars := [g1, g2] }
  | _ => none }
def fnAugAddRow : OpenClaim := { program := "ytmcflggionkhlaagreatdoor", sum := "fa02751f51d5a6f68ce4718d5b780e2a3f525f5324aab168175bed38db12f23e", func := "loop.example/g00672/laws.FnAugAdd", spec := "fnAugAdd", inPlace := ["internal/reflectlite.ValueOf", "(internal/reflectlite.Value).Type", "(internal/reflectlite.Value).IsNil", "internal/reflectlite.TypeOf", "(internal/reflectlite.Value).Elem", "(internal/reflectlite.Value).Set"], unfollowed := true, recurses := true, named := ["loop.example/g00672/impl.formSizes", "loop.example/g00672/impl.errQuiet", "errors.errorType", "math/bits.deBruijn32tab", "math/bits.deBruijn64tab"], ifaces := true, apart := false, laid := [("math/bits.deBruijn32tab", laid_math_bits_deBruijn32tab), ("math/bits.deBruijn64tab", laid_math_bits_deBruijn64tab), ("errors.errorType", laid_errors_errorType), ("loop.example/g00672/impl.formSizes", laid_loop_example_g00672_impl_formSizes), ("loop.example/g00672/impl.errQuiet", laid_loop_example_g00672_impl_errQuiet)] }
def FnAugAddSaid : Prop := fnAugAddRow.holds Tryz.pinned (OpenSpec.ofChange fnAugAddSpec)

/-- ITS FALSE NEIGHBOUR: 'it returns false'. Refute it at one input. -/
def fnAugAddWrong : ChangeSpec := { name := "fnAugAdd", vars := ["loop.example/g00672/impl.formSizes", "loop.example/g00672/impl.errQuiet"], fn := fun _ => fun
  | [d, g1, g2] => { results := [.lit (.bool false)], args := [d], vars := [g1, g2] }
  | _ => none }
def FnAugAddWrongFalsely : Prop := fnAugAddRow.holds Tryz.pinned (OpenSpec.ofChange fnAugAddWrong)

/-- 'laws.FnAugMul': WHATEVER THE INPUT: true; the input reads as it did. -/
def fnAugMulSpec : ChangeSpec := { name := "fnAugMul", vars := ["loop.example/g00672/impl.formSizes", "loop.example/g00672/impl.errQuiet"], fn := fun _ => fun
  | [d, g1, g2] => { results := [.lit (.bool true)], args := [d], vars := [g1, g2] }
  | _ => none }
def fnAugMulRow : OpenClaim := { program := "ytmcflggionkhlaagreatdoor", sum := "fa02751f51d5a6f68ce4718d5b780e2a3f525f5324aab168175bed38db12f23e", func := "loop.example/g00672/laws.FnAugMul", spec := "fnAugMul", inPlace := ["internal/reflectlite.ValueOf", "(internal/reflectlite.Value).Type", "(internal/reflectlite.Value).IsNil", "internal/reflectlite.TypeOf", "(internal/reflectlite.Value).Elem", "(internal/reflectlite.Value).Set"], unfollowed := true, recurses := true, named := ["loop.example/g00672/impl.formSizes", "loop.example/g00672/impl.errQuiet", "errors.errorType", "math/bits.deBruijn32tab", "math/bits.deBruijn64tab"], ifaces := true, apart := false, laid := [("math/bits.deBruijn32tab", laid_math_bits_deBruijn32tab), ("math/bits.deBruijn64tab", laid_math_bits_deBruijn64tab), ("errors.errorType", laid_errors_errorType), ("loop.example/g00672/impl.formSizes", laid_loop_example_g00672_impl_formSizes), ("loop.example/g00672/impl.errQuiet", laid_loop_example_g00672_impl_errQuiet)] }
def FnAugMulSaid : Prop := fnAugMulRow.holds Tryz.pinned (OpenSpec.ofChange fnAugMulSpec)

/-- ITS FALSE NEIGHBOUR: 'it returns false'. Refute it at one input. -/
def fnAugMulWrong : ChangeSpec := { name := "fnAugMul", vars := ["loop.example/g00672/impl.formSizes", "loop.example/g00672/impl.errQuiet"], fn := fun _ => fun
  | [d, g1, g2] => { results := [.lit (.bool false)], args := [d], vars := [g1, g2] }
  | _ => none }
def FnAugMulWrongFalsely : Prop := fnAugMulRow.holds Tryz.pinned (OpenSpec.ofChange fnAugMulWrong)

/-- 'laws.FnAugHead': WHATEVER THE INPUT: true; the input reads as it did. -/
def fnAugHeadSpec : ChangeSpec := { name := "fnAugHead", vars := ["loop.example/g00672/impl.formSizes", "loop.example/g00672/impl.errQuiet"], fn := fun _ => fun
  | [d, g1, g2] => { results := [.lit (.bool true)], args := [d], vars := [g1, g2] }
  | _ => none }
def fnAugHeadRow : OpenClaim := { program := "ytmcflggionkhlaagreatdoor", sum := "fa02751f51d5a6f68ce4718d5b780e2a3f525f5324aab168175bed38db12f23e", func := "loop.example/g00672/laws.FnAugHead", spec := "fnAugHead", inPlace := ["internal/reflectlite.ValueOf", "(internal/reflectlite.Value).Type", "(internal/reflectlite.Value).IsNil", "internal/reflectlite.TypeOf", "(internal/reflectlite.Value).Elem", "(internal/reflectlite.Value).Set"], unfollowed := true, recurses := true, named := ["loop.example/g00672/impl.formSizes", "loop.example/g00672/impl.errQuiet", "errors.errorType", "math/bits.deBruijn32tab", "math/bits.deBruijn64tab"], ifaces := true, apart := false, laid := [("math/bits.deBruijn32tab", laid_math_bits_deBruijn32tab), ("math/bits.deBruijn64tab", laid_math_bits_deBruijn64tab), ("errors.errorType", laid_errors_errorType), ("loop.example/g00672/impl.formSizes", laid_loop_example_g00672_impl_formSizes), ("loop.example/g00672/impl.errQuiet", laid_loop_example_g00672_impl_errQuiet)] }
def FnAugHeadSaid : Prop := fnAugHeadRow.holds Tryz.pinned (OpenSpec.ofChange fnAugHeadSpec)

/-- ITS FALSE NEIGHBOUR: 'it returns false'. Refute it at one input. -/
def fnAugHeadWrong : ChangeSpec := { name := "fnAugHead", vars := ["loop.example/g00672/impl.formSizes", "loop.example/g00672/impl.errQuiet"], fn := fun _ => fun
  | [d, g1, g2] => { results := [.lit (.bool false)], args := [d], vars := [g1, g2] }
  | _ => none }
def FnAugHeadWrongFalsely : Prop := fnAugHeadRow.holds Tryz.pinned (OpenSpec.ofChange fnAugHeadWrong)

/-- 'laws.FnExactDot': WHATEVER THE INPUT: true; the input reads as it did. -/
def fnExactDotSpec : ChangeSpec := { name := "fnExactDot", vars := ["loop.example/g00672/impl.formSizes", "loop.example/g00672/impl.errQuiet"], fn := fun _ => fun
  | [d1, d2, d3, d4, g1, g2] => { results := [.lit (.bool true)], args := [d1, d2, d3, d4], vars := [g1, g2] }
  | _ => none }
def fnExactDotRow : OpenClaim := { program := "ytmcflggionkhlaagreatdoor", sum := "fa02751f51d5a6f68ce4718d5b780e2a3f525f5324aab168175bed38db12f23e", func := "loop.example/g00672/laws.FnExactDot", spec := "fnExactDot", inPlace := ["internal/reflectlite.ValueOf", "(internal/reflectlite.Value).Type", "(internal/reflectlite.Value).IsNil", "internal/reflectlite.TypeOf", "(internal/reflectlite.Value).Elem", "(internal/reflectlite.Value).Set"], unfollowed := true, recurses := true, named := ["loop.example/g00672/impl.formSizes", "math/bits.deBruijn32tab", "math/bits.deBruijn64tab", "loop.example/g00672/impl.errQuiet", "errors.errorType"], ifaces := true, apart := false, laid := [("math/bits.deBruijn32tab", laid_math_bits_deBruijn32tab), ("math/bits.deBruijn64tab", laid_math_bits_deBruijn64tab), ("errors.errorType", laid_errors_errorType), ("loop.example/g00672/impl.formSizes", laid_loop_example_g00672_impl_formSizes), ("loop.example/g00672/impl.errQuiet", laid_loop_example_g00672_impl_errQuiet)] }
def FnExactDotSaid : Prop := fnExactDotRow.holds Tryz.pinned (OpenSpec.ofChange fnExactDotSpec)

/-- ITS FALSE NEIGHBOUR: 'it returns false'. Refute it at one input. -/
def fnExactDotWrong : ChangeSpec := { name := "fnExactDot", vars := ["loop.example/g00672/impl.formSizes", "loop.example/g00672/impl.errQuiet"], fn := fun _ => fun
  | [d1, d2, d3, d4, g1, g2] => { results := [.lit (.bool false)], args := [d1, d2, d3, d4], vars := [g1, g2] }
  | _ => none }
def FnExactDotWrongFalsely : Prop := fnExactDotRow.holds Tryz.pinned (OpenSpec.ofChange fnExactDotWrong)

/- THE SECOND FORM. 'bulk': how many values and letters a reading holds, each counted each time it is reached (what is shared counts as often as it is met; a slice's spare places count too). A statement '..UptoSaid' is the law's where the arguments, and the package variables that the reading takes, are together of bulk at most 1048576: NARROWER than '..Said'. Prove '..Said' where nothing that the law and all that it calls make is longer than what came in: it says more and counts as full. Else prove '..UptoSaid'. A law counts once. -/
mutual
def uptoBulk {H : Type} : DataW H → Nat
  | .lit (.string bytes) => bytes.length + 1
  | .lit _ => 1
  | .nil => 1
  | .ptr d => uptoBulk d + 1
  | .slice elems spare => uptoBulkAll elems + uptoBulkAll spare + 1
  | .agg parts => uptoBulkAll parts + 1
  | .iface _ d => uptoBulk d + 1
  | .map entries => uptoBulkEntries entries + 1
  | .held _ => 1
def uptoBulkAll {H : Type} : List (DataW H) → Nat
  | [] => 0
  | d :: r => uptoBulk d + uptoBulkAll r
def uptoBulkEntries {H : Type} : List (Lit × DataW H) → Nat
  | [] => 0
  | x :: r => uptoBulkEntry x + uptoBulkEntries r
def uptoBulkEntry {H : Type} : Lit × DataW H → Nat
  | (.string bytes, d) => bytes.length + uptoBulk d + 1
  | (_, d) => uptoBulk d + 1
 end
def uptoSmall : (H : Type) → List (DataW H) → Bool := fun _ ds => decide (uptoBulkAll ds ≤ 1048576)
def OpenSpec.upto (s : _root_.Go.ChangeSpec) : _root_.Go.OpenSpec := { _root_.Go.OpenSpec.ofChange s with cond := some uptoSmall }

/-- 'laws.FnNearSub', WHERE WHAT IT READS IS OF BULK AT MOST 1048576: true; the input reads as it did. -/
def fnNearSubUptoRow : OpenClaim := { program := "ytmcflggionkhlaagreatdoor", sum := "fa02751f51d5a6f68ce4718d5b780e2a3f525f5324aab168175bed38db12f23e", func := "loop.example/g00672/laws.FnNearSub", spec := "fnNearSub", inPlace := ["internal/reflectlite.ValueOf", "(internal/reflectlite.Value).Type", "(internal/reflectlite.Value).IsNil", "internal/reflectlite.TypeOf", "(internal/reflectlite.Value).Elem", "(internal/reflectlite.Value).Set"], unfollowed := true, recurses := true, named := ["loop.example/g00672/impl.formSizes", "loop.example/g00672/impl.errQuiet", "errors.errorType", "math/bits.deBruijn32tab", "math/bits.deBruijn64tab"], ifaces := true, apart := false, laid := [("math/bits.deBruijn32tab", laid_math_bits_deBruijn32tab), ("math/bits.deBruijn64tab", laid_math_bits_deBruijn64tab), ("errors.errorType", laid_errors_errorType), ("loop.example/g00672/impl.formSizes", laid_loop_example_g00672_impl_formSizes), ("loop.example/g00672/impl.errQuiet", laid_loop_example_g00672_impl_errQuiet)], narrowed := true }
def FnNearSubUptoSaid : Prop := fnNearSubUptoRow.holds Tryz.pinned (OpenSpec.upto fnNearSubSpec)

/-- 'laws.FnFma', WHERE WHAT IT READS IS OF BULK AT MOST 1048576: true; the input reads as it did. -/
def fnFmaUptoRow : OpenClaim := { program := "ytmcflggionkhlaagreatdoor", sum := "fa02751f51d5a6f68ce4718d5b780e2a3f525f5324aab168175bed38db12f23e", func := "loop.example/g00672/laws.FnFma", spec := "fnFma", inPlace := ["internal/reflectlite.ValueOf", "(internal/reflectlite.Value).Type", "(internal/reflectlite.Value).IsNil", "internal/reflectlite.TypeOf", "(internal/reflectlite.Value).Elem", "(internal/reflectlite.Value).Set"], unfollowed := true, recurses := true, named := ["loop.example/g00672/impl.formSizes", "loop.example/g00672/impl.errQuiet", "errors.errorType", "math/bits.deBruijn32tab", "math/bits.deBruijn64tab"], ifaces := true, apart := false, laid := [("math/bits.deBruijn32tab", laid_math_bits_deBruijn32tab), ("math/bits.deBruijn64tab", laid_math_bits_deBruijn64tab), ("errors.errorType", laid_errors_errorType), ("loop.example/g00672/impl.formSizes", laid_loop_example_g00672_impl_formSizes), ("loop.example/g00672/impl.errQuiet", laid_loop_example_g00672_impl_errQuiet)], narrowed := true }
def FnFmaUptoSaid : Prop := fnFmaUptoRow.holds Tryz.pinned (OpenSpec.upto fnFmaSpec)

/-- 'laws.FnInts', WHERE WHAT IT READS IS OF BULK AT MOST 1048576: true; the input reads as it did. -/
def fnIntsUptoRow : OpenClaim := { program := "ytmcflggionkhlaagreatdoor", sum := "fa02751f51d5a6f68ce4718d5b780e2a3f525f5324aab168175bed38db12f23e", func := "loop.example/g00672/laws.FnInts", spec := "fnInts", inPlace := ["internal/reflectlite.ValueOf", "(internal/reflectlite.Value).Type", "(internal/reflectlite.Value).IsNil", "internal/reflectlite.TypeOf", "(internal/reflectlite.Value).Elem", "(internal/reflectlite.Value).Set"], unfollowed := true, recurses := true, named := ["loop.example/g00672/impl.formSizes", "loop.example/g00672/impl.errQuiet", "math/bits.deBruijn32tab", "errors.errorType", "math/bits.deBruijn64tab"], ifaces := true, apart := false, laid := [("math/bits.deBruijn32tab", laid_math_bits_deBruijn32tab), ("math/bits.deBruijn64tab", laid_math_bits_deBruijn64tab), ("errors.errorType", laid_errors_errorType), ("loop.example/g00672/impl.formSizes", laid_loop_example_g00672_impl_formSizes), ("loop.example/g00672/impl.errQuiet", laid_loop_example_g00672_impl_errQuiet)], narrowed := true }
def FnIntsUptoSaid : Prop := fnIntsUptoRow.holds Tryz.pinned (OpenSpec.upto fnIntsSpec)

/-- 'laws.FnExactFloatFma', WHERE WHAT IT READS IS OF BULK AT MOST 1048576: true; the input reads as it did. -/
def fnExactFloatFmaUptoRow : OpenClaim := { program := "ytmcflggionkhlaagreatdoor", sum := "fa02751f51d5a6f68ce4718d5b780e2a3f525f5324aab168175bed38db12f23e", func := "loop.example/g00672/laws.FnExactFloatFma", spec := "fnExactFloatFma", inPlace := ["internal/reflectlite.ValueOf", "(internal/reflectlite.Value).Type", "(internal/reflectlite.Value).IsNil", "internal/reflectlite.TypeOf", "(internal/reflectlite.Value).Elem", "(internal/reflectlite.Value).Set"], unfollowed := true, recurses := true, named := ["loop.example/g00672/impl.formSizes", "loop.example/g00672/impl.errQuiet", "errors.errorType", "math/bits.deBruijn32tab", "math/bits.deBruijn64tab"], ifaces := true, apart := false, laid := [("math/bits.deBruijn32tab", laid_math_bits_deBruijn32tab), ("math/bits.deBruijn64tab", laid_math_bits_deBruijn64tab), ("errors.errorType", laid_errors_errorType), ("loop.example/g00672/impl.formSizes", laid_loop_example_g00672_impl_formSizes), ("loop.example/g00672/impl.errQuiet", laid_loop_example_g00672_impl_errQuiet)], narrowed := true }
def FnExactFloatFmaUptoSaid : Prop := fnExactFloatFmaUptoRow.holds Tryz.pinned (OpenSpec.upto fnExactFloatFmaSpec)

/-- 'laws.FnExactFloatInt', WHERE WHAT IT READS IS OF BULK AT MOST 1048576: true; the input reads as it did. -/
def fnExactFloatIntUptoRow : OpenClaim := { program := "ytmcflggionkhlaagreatdoor", sum := "fa02751f51d5a6f68ce4718d5b780e2a3f525f5324aab168175bed38db12f23e", func := "loop.example/g00672/laws.FnExactFloatInt", spec := "fnExactFloatInt", inPlace := ["internal/reflectlite.ValueOf", "(internal/reflectlite.Value).Type", "(internal/reflectlite.Value).IsNil", "internal/reflectlite.TypeOf", "(internal/reflectlite.Value).Elem", "(internal/reflectlite.Value).Set"], unfollowed := true, recurses := true, named := ["loop.example/g00672/impl.formSizes", "loop.example/g00672/impl.errQuiet", "math/bits.deBruijn32tab", "errors.errorType", "math/bits.deBruijn64tab"], ifaces := true, apart := false, laid := [("math/bits.deBruijn32tab", laid_math_bits_deBruijn32tab), ("math/bits.deBruijn64tab", laid_math_bits_deBruijn64tab), ("errors.errorType", laid_errors_errorType), ("loop.example/g00672/impl.formSizes", laid_loop_example_g00672_impl_formSizes), ("loop.example/g00672/impl.errQuiet", laid_loop_example_g00672_impl_errQuiet)], narrowed := true }
def FnExactFloatIntUptoSaid : Prop := fnExactFloatIntUptoRow.holds Tryz.pinned (OpenSpec.upto fnExactFloatIntSpec)

/-- 'laws.FnExactAugAdd', WHERE WHAT IT READS IS OF BULK AT MOST 1048576: true; the input reads as it did. -/
def fnExactAugAddUptoRow : OpenClaim := { program := "ytmcflggionkhlaagreatdoor", sum := "fa02751f51d5a6f68ce4718d5b780e2a3f525f5324aab168175bed38db12f23e", func := "loop.example/g00672/laws.FnExactAugAdd", spec := "fnExactAugAdd", inPlace := ["internal/reflectlite.ValueOf", "(internal/reflectlite.Value).Type", "(internal/reflectlite.Value).IsNil", "internal/reflectlite.TypeOf", "(internal/reflectlite.Value).Elem", "(internal/reflectlite.Value).Set"], unfollowed := true, recurses := true, named := ["loop.example/g00672/impl.formSizes", "loop.example/g00672/impl.errQuiet", "errors.errorType", "math/bits.deBruijn32tab", "math/bits.deBruijn64tab"], ifaces := true, apart := false, laid := [("math/bits.deBruijn32tab", laid_math_bits_deBruijn32tab), ("math/bits.deBruijn64tab", laid_math_bits_deBruijn64tab), ("errors.errorType", laid_errors_errorType), ("loop.example/g00672/impl.formSizes", laid_loop_example_g00672_impl_formSizes), ("loop.example/g00672/impl.errQuiet", laid_loop_example_g00672_impl_errQuiet)], narrowed := true }
def FnExactAugAddUptoSaid : Prop := fnExactAugAddUptoRow.holds Tryz.pinned (OpenSpec.upto fnExactAugAddSpec)

/-- 'laws.FnExactAugSub', WHERE WHAT IT READS IS OF BULK AT MOST 1048576: true; the input reads as it did. -/
def fnExactAugSubUptoRow : OpenClaim := { program := "ytmcflggionkhlaagreatdoor", sum := "fa02751f51d5a6f68ce4718d5b780e2a3f525f5324aab168175bed38db12f23e", func := "loop.example/g00672/laws.FnExactAugSub", spec := "fnExactAugSub", inPlace := ["internal/reflectlite.ValueOf", "(internal/reflectlite.Value).Type", "(internal/reflectlite.Value).IsNil", "internal/reflectlite.TypeOf", "(internal/reflectlite.Value).Elem", "(internal/reflectlite.Value).Set"], unfollowed := true, recurses := true, named := ["loop.example/g00672/impl.formSizes", "loop.example/g00672/impl.errQuiet", "errors.errorType", "math/bits.deBruijn32tab", "math/bits.deBruijn64tab"], ifaces := true, apart := false, laid := [("math/bits.deBruijn32tab", laid_math_bits_deBruijn32tab), ("math/bits.deBruijn64tab", laid_math_bits_deBruijn64tab), ("errors.errorType", laid_errors_errorType), ("loop.example/g00672/impl.formSizes", laid_loop_example_g00672_impl_formSizes), ("loop.example/g00672/impl.errQuiet", laid_loop_example_g00672_impl_errQuiet)], narrowed := true }
def FnExactAugSubUptoSaid : Prop := fnExactAugSubUptoRow.holds Tryz.pinned (OpenSpec.upto fnExactAugSubSpec)

/-- 'laws.FnExactAugMul', WHERE WHAT IT READS IS OF BULK AT MOST 1048576: true; the input reads as it did. -/
def fnExactAugMulUptoRow : OpenClaim := { program := "ytmcflggionkhlaagreatdoor", sum := "fa02751f51d5a6f68ce4718d5b780e2a3f525f5324aab168175bed38db12f23e", func := "loop.example/g00672/laws.FnExactAugMul", spec := "fnExactAugMul", inPlace := ["internal/reflectlite.ValueOf", "(internal/reflectlite.Value).Type", "(internal/reflectlite.Value).IsNil", "internal/reflectlite.TypeOf", "(internal/reflectlite.Value).Elem", "(internal/reflectlite.Value).Set"], unfollowed := true, recurses := true, named := ["loop.example/g00672/impl.formSizes", "loop.example/g00672/impl.errQuiet", "errors.errorType", "math/bits.deBruijn32tab", "math/bits.deBruijn64tab"], ifaces := true, apart := false, laid := [("math/bits.deBruijn32tab", laid_math_bits_deBruijn32tab), ("math/bits.deBruijn64tab", laid_math_bits_deBruijn64tab), ("errors.errorType", laid_errors_errorType), ("loop.example/g00672/impl.formSizes", laid_loop_example_g00672_impl_formSizes), ("loop.example/g00672/impl.errQuiet", laid_loop_example_g00672_impl_errQuiet)], narrowed := true }
def FnExactAugMulUptoSaid : Prop := fnExactAugMulUptoRow.holds Tryz.pinned (OpenSpec.upto fnExactAugMulSpec)

/-- 'laws.FnAugAdd', WHERE WHAT IT READS IS OF BULK AT MOST 1048576: true; the input reads as it did. -/
def fnAugAddUptoRow : OpenClaim := { program := "ytmcflggionkhlaagreatdoor", sum := "fa02751f51d5a6f68ce4718d5b780e2a3f525f5324aab168175bed38db12f23e", func := "loop.example/g00672/laws.FnAugAdd", spec := "fnAugAdd", inPlace := ["internal/reflectlite.ValueOf", "(internal/reflectlite.Value).Type", "(internal/reflectlite.Value).IsNil", "internal/reflectlite.TypeOf", "(internal/reflectlite.Value).Elem", "(internal/reflectlite.Value).Set"], unfollowed := true, recurses := true, named := ["loop.example/g00672/impl.formSizes", "loop.example/g00672/impl.errQuiet", "errors.errorType", "math/bits.deBruijn32tab", "math/bits.deBruijn64tab"], ifaces := true, apart := false, laid := [("math/bits.deBruijn32tab", laid_math_bits_deBruijn32tab), ("math/bits.deBruijn64tab", laid_math_bits_deBruijn64tab), ("errors.errorType", laid_errors_errorType), ("loop.example/g00672/impl.formSizes", laid_loop_example_g00672_impl_formSizes), ("loop.example/g00672/impl.errQuiet", laid_loop_example_g00672_impl_errQuiet)], narrowed := true }
def FnAugAddUptoSaid : Prop := fnAugAddUptoRow.holds Tryz.pinned (OpenSpec.upto fnAugAddSpec)

/-- 'laws.FnAugMul', WHERE WHAT IT READS IS OF BULK AT MOST 1048576: true; the input reads as it did. -/
def fnAugMulUptoRow : OpenClaim := { program := "ytmcflggionkhlaagreatdoor", sum := "fa02751f51d5a6f68ce4718d5b780e2a3f525f5324aab168175bed38db12f23e", func := "loop.example/g00672/laws.FnAugMul", spec := "fnAugMul", inPlace := ["internal/reflectlite.ValueOf", "(internal/reflectlite.Value).Type", "(internal/reflectlite.Value).IsNil", "internal/reflectlite.TypeOf", "(internal/reflectlite.Value).Elem", "(internal/reflectlite.Value).Set"], unfollowed := true, recurses := true, named := ["loop.example/g00672/impl.formSizes", "loop.example/g00672/impl.errQuiet", "errors.errorType", "math/bits.deBruijn32tab", "math/bits.deBruijn64tab"], ifaces := true, apart := false, laid := [("math/bits.deBruijn32tab", laid_math_bits_deBruijn32tab), ("math/bits.deBruijn64tab", laid_math_bits_deBruijn64tab), ("errors.errorType", laid_errors_errorType), ("loop.example/g00672/impl.formSizes", laid_loop_example_g00672_impl_formSizes), ("loop.example/g00672/impl.errQuiet", laid_loop_example_g00672_impl_errQuiet)], narrowed := true }
def FnAugMulUptoSaid : Prop := fnAugMulUptoRow.holds Tryz.pinned (OpenSpec.upto fnAugMulSpec)

/-- 'laws.FnAugHead', WHERE WHAT IT READS IS OF BULK AT MOST 1048576: true; the input reads as it did. -/
def fnAugHeadUptoRow : OpenClaim := { program := "ytmcflggionkhlaagreatdoor", sum := "fa02751f51d5a6f68ce4718d5b780e2a3f525f5324aab168175bed38db12f23e", func := "loop.example/g00672/laws.FnAugHead", spec := "fnAugHead", inPlace := ["internal/reflectlite.ValueOf", "(internal/reflectlite.Value).Type", "(internal/reflectlite.Value).IsNil", "internal/reflectlite.TypeOf", "(internal/reflectlite.Value).Elem", "(internal/reflectlite.Value).Set"], unfollowed := true, recurses := true, named := ["loop.example/g00672/impl.formSizes", "loop.example/g00672/impl.errQuiet", "errors.errorType", "math/bits.deBruijn32tab", "math/bits.deBruijn64tab"], ifaces := true, apart := false, laid := [("math/bits.deBruijn32tab", laid_math_bits_deBruijn32tab), ("math/bits.deBruijn64tab", laid_math_bits_deBruijn64tab), ("errors.errorType", laid_errors_errorType), ("loop.example/g00672/impl.formSizes", laid_loop_example_g00672_impl_formSizes), ("loop.example/g00672/impl.errQuiet", laid_loop_example_g00672_impl_errQuiet)], narrowed := true }
def FnAugHeadUptoSaid : Prop := fnAugHeadUptoRow.holds Tryz.pinned (OpenSpec.upto fnAugHeadSpec)

/-- 'laws.FnExactDot', WHERE WHAT IT READS IS OF BULK AT MOST 1048576: true; the input reads as it did. -/
def fnExactDotUptoRow : OpenClaim := { program := "ytmcflggionkhlaagreatdoor", sum := "fa02751f51d5a6f68ce4718d5b780e2a3f525f5324aab168175bed38db12f23e", func := "loop.example/g00672/laws.FnExactDot", spec := "fnExactDot", inPlace := ["internal/reflectlite.ValueOf", "(internal/reflectlite.Value).Type", "(internal/reflectlite.Value).IsNil", "internal/reflectlite.TypeOf", "(internal/reflectlite.Value).Elem", "(internal/reflectlite.Value).Set"], unfollowed := true, recurses := true, named := ["loop.example/g00672/impl.formSizes", "math/bits.deBruijn32tab", "math/bits.deBruijn64tab", "loop.example/g00672/impl.errQuiet", "errors.errorType"], ifaces := true, apart := false, laid := [("math/bits.deBruijn32tab", laid_math_bits_deBruijn32tab), ("math/bits.deBruijn64tab", laid_math_bits_deBruijn64tab), ("errors.errorType", laid_errors_errorType), ("loop.example/g00672/impl.formSizes", laid_loop_example_g00672_impl_formSizes), ("loop.example/g00672/impl.errQuiet", laid_loop_example_g00672_impl_errQuiet)], narrowed := true }
def FnExactDotUptoSaid : Prop := fnExactDotUptoRow.holds Tryz.pinned (OpenSpec.upto fnExactDotSpec)

end Rows
end Go.Proofs.YtmcflggionkhlaaGreatDoor
