/-
  NARROWER THAN 'FOR EVERY INPUT', by the rows' own cells (each row's printed sentence says how): FnExactAccMul: ifaces, laid · FnExactSumOf: ifaces, laid · FnExactSumAbs: ifaces, laid · FnExactDot: ifaces, laid · FnExactSumSquare: ifaces, laid · FnExactFloatMul: ifaces, laid · FnExactFloatScaled: ifaces, laid · FnExactFloatAdd: ifaces, laid · FnExactFloatSub: ifaces, laid · FnExactFloatFma: ifaces, laid · FnExactFloatInt: ifaces, laid · FnExactAugAdd: ifaces, laid.
  DERIVED. THE GIVEN ROWS OF THIS SEAT. 12 by the template 'for every input the law returns true; each argument reads behind the call as it read before'; 0 by the template 'total and deterministic' (their statements: YtnliofakkkjpoaaGreatDoorTotals.lean).
  GIVEN WITH THE SEED: the statements are not yours to turn. If you find one false, say at which input.
  Laid BY PROGRAM, IN A SANDBOX (cutbox-rows.mjs): the forced cells as the released guide's own fill.sh prints them over the translation f769bf9c810ef2db… (all of the seat's roots in one cut). By AI agents, Wed Nov 11 2026. No macro, syntax, notation, axiom, sorry.
-/
import Derived.Test.YtnliofakkkjpoaaGreatDoorChecked
import GoSem.Claim
import GoSem.ClaimJoined
import GoSem.ClaimMapViews
import Derived.JoinedTies
import Derived.KernelRfl
namespace Go.Proofs.YtnliofakkkjpoaaGreatDoor
/- THE CELL 'sum', in the pinned program and in every row, IS THE sha256 OF THE DUMP (.gsa) THAT YtnliofakkkjpoaaGreatDoorProg.lean LOADS. Nothing in Lean hashes anything: it is a label: what it is worth is what the hold of that sum in a sandbox is worth. -/
noncomputable def Tryz.pinned : Pinned := { name := "ytnliofakkkjpoaagreatdoor", sum := "f769bf9c810ef2dba629265760e789832bbd5ce862895b0b426867e8e81d500a", checked := Tryz.checked }
namespace Rows
def none {H : Type} : Left H := { results := [], args := [] }

/- WHAT THE LISTED PACKAGE-LEVEL VARIABLES READ AS WHEN THE CALL BEGINS. Each datum BY PROGRAM (the guide's laid-datum.mjs) off the statement by which the dump's own 'gosem.cut.vars' lays the variable. In a bare row this is a premise. The card (YtnliofakkkjpoaaGreatDoorCards.lean) ties it to the program's text. -/
def laid_errors_errorType {H : Type} : DataW H := .iface "internal/reflectlite.rtype" (.agg [.ptr (.lit (.string [101, 114, 114, 111, 114]))])
def laid_loop_example_g00672_impl_formSizes {H : Type} : DataW H := .agg [.agg [.lit (.int .u64 0), .lit (.int .u64 0), .lit (.int .i64 0)], .agg [.lit (.int .u64 23), .lit (.int .u64 255), .lit (.int .i64 (-149))], .agg [.lit (.int .u64 52), .lit (.int .u64 2047), .lit (.int .i64 (-1074))]]
def laid_loop_example_g00672_impl_errQuiet {H : Type} : DataW H := .iface "*errors.errorString" (.ptr (.agg [.lit (.string [111, 110, 101, 32, 105, 115, 32, 97, 32, 113, 117, 105, 101, 116, 32, 78, 97, 78])]))
def laid_math_bits_deBruijn32tab {H : Type} : DataW H := .agg [.lit (.int .u8 0), .lit (.int .u8 1), .lit (.int .u8 28), .lit (.int .u8 2), .lit (.int .u8 29), .lit (.int .u8 14), .lit (.int .u8 24), .lit (.int .u8 3), .lit (.int .u8 30), .lit (.int .u8 22), .lit (.int .u8 20), .lit (.int .u8 15), .lit (.int .u8 25), .lit (.int .u8 17), .lit (.int .u8 4), .lit (.int .u8 8), .lit (.int .u8 31), .lit (.int .u8 27), .lit (.int .u8 13), .lit (.int .u8 23), .lit (.int .u8 21), .lit (.int .u8 19), .lit (.int .u8 16), .lit (.int .u8 7), .lit (.int .u8 26), .lit (.int .u8 12), .lit (.int .u8 18), .lit (.int .u8 6), .lit (.int .u8 11), .lit (.int .u8 5), .lit (.int .u8 10), .lit (.int .u8 9)]
def laid_math_bits_deBruijn64tab {H : Type} : DataW H := .agg [.lit (.int .u8 0), .lit (.int .u8 1), .lit (.int .u8 56), .lit (.int .u8 2), .lit (.int .u8 57), .lit (.int .u8 49), .lit (.int .u8 28), .lit (.int .u8 3), .lit (.int .u8 61), .lit (.int .u8 58), .lit (.int .u8 42), .lit (.int .u8 50), .lit (.int .u8 38), .lit (.int .u8 29), .lit (.int .u8 17), .lit (.int .u8 4), .lit (.int .u8 62), .lit (.int .u8 47), .lit (.int .u8 59), .lit (.int .u8 36), .lit (.int .u8 45), .lit (.int .u8 43), .lit (.int .u8 51), .lit (.int .u8 22), .lit (.int .u8 53), .lit (.int .u8 39), .lit (.int .u8 33), .lit (.int .u8 30), .lit (.int .u8 24), .lit (.int .u8 18), .lit (.int .u8 12), .lit (.int .u8 5), .lit (.int .u8 63), .lit (.int .u8 55), .lit (.int .u8 48), .lit (.int .u8 27), .lit (.int .u8 60), .lit (.int .u8 41), .lit (.int .u8 37), .lit (.int .u8 16), .lit (.int .u8 46), .lit (.int .u8 35), .lit (.int .u8 44), .lit (.int .u8 21), .lit (.int .u8 52), .lit (.int .u8 32), .lit (.int .u8 23), .lit (.int .u8 11), .lit (.int .u8 54), .lit (.int .u8 26), .lit (.int .u8 40), .lit (.int .u8 15), .lit (.int .u8 34), .lit (.int .u8 20), .lit (.int .u8 31), .lit (.int .u8 10), .lit (.int .u8 25), .lit (.int .u8 14), .lit (.int .u8 19), .lit (.int .u8 9), .lit (.int .u8 13), .lit (.int .u8 8), .lit (.int .u8 7), .lit (.int .u8 6)]

/-- 'laws.FnExactAccMul': WHATEVER THE INPUT: true; the input reads as it did. -/
def fnExactAccMulSpec : ChangeSpec := { name := "fnExactAccMul", vars := ["loop.example/g00672/impl.formSizes", "loop.example/g00672/impl.errQuiet"], fn := fun _ => fun
  | [d1, d2, d3, g1, g2] => { results := [.lit (.bool true)], args := [d1, d2, d3], vars := [g1, g2] }
  | _ => none }
def fnExactAccMulRow : OpenClaim := { program := "ytnliofakkkjpoaagreatdoor", sum := "f769bf9c810ef2dba629265760e789832bbd5ce862895b0b426867e8e81d500a", func := "loop.example/g00672/laws.FnExactAccMul", spec := "fnExactAccMul", inPlace := ["internal/reflectlite.ValueOf", "(internal/reflectlite.Value).Type", "(internal/reflectlite.Value).IsNil", "internal/reflectlite.TypeOf", "(internal/reflectlite.Value).Elem", "(internal/reflectlite.Value).Set"], unfollowed := true, recurses := true, named := ["loop.example/g00672/impl.formSizes", "loop.example/g00672/impl.errQuiet", "errors.errorType"], ifaces := true, apart := false, laid := [("errors.errorType", laid_errors_errorType), ("loop.example/g00672/impl.formSizes", laid_loop_example_g00672_impl_formSizes), ("loop.example/g00672/impl.errQuiet", laid_loop_example_g00672_impl_errQuiet)] }
def FnExactAccMulSaid : Prop := fnExactAccMulRow.holds Tryz.pinned (OpenSpec.ofChange fnExactAccMulSpec)

/-- ITS FALSE NEIGHBOUR: 'it returns false'. Refute it at one input. -/
def fnExactAccMulWrong : ChangeSpec := { name := "fnExactAccMul", vars := ["loop.example/g00672/impl.formSizes", "loop.example/g00672/impl.errQuiet"], fn := fun _ => fun
  | [d1, d2, d3, g1, g2] => { results := [.lit (.bool false)], args := [d1, d2, d3], vars := [g1, g2] }
  | _ => none }
def FnExactAccMulWrongFalsely : Prop := fnExactAccMulRow.holds Tryz.pinned (OpenSpec.ofChange fnExactAccMulWrong)

/-- 'laws.FnExactSumOf': WHATEVER THE INPUT: true; the input reads as it did. -/
def fnExactSumOfSpec : ChangeSpec := { name := "fnExactSumOf", vars := ["loop.example/g00672/impl.formSizes", "loop.example/g00672/impl.errQuiet"], fn := fun _ => fun
  | [d1, d2, d3, g1, g2] => { results := [.lit (.bool true)], args := [d1, d2, d3], vars := [g1, g2] }
  | _ => none }
def fnExactSumOfRow : OpenClaim := { program := "ytnliofakkkjpoaagreatdoor", sum := "f769bf9c810ef2dba629265760e789832bbd5ce862895b0b426867e8e81d500a", func := "loop.example/g00672/laws.FnExactSumOf", spec := "fnExactSumOf", inPlace := ["internal/reflectlite.ValueOf", "(internal/reflectlite.Value).Type", "(internal/reflectlite.Value).IsNil", "internal/reflectlite.TypeOf", "(internal/reflectlite.Value).Elem", "(internal/reflectlite.Value).Set"], unfollowed := true, recurses := true, named := ["loop.example/g00672/impl.formSizes", "math/bits.deBruijn32tab", "math/bits.deBruijn64tab", "loop.example/g00672/impl.errQuiet", "errors.errorType"], ifaces := true, apart := false, laid := [("math/bits.deBruijn32tab", laid_math_bits_deBruijn32tab), ("math/bits.deBruijn64tab", laid_math_bits_deBruijn64tab), ("errors.errorType", laid_errors_errorType), ("loop.example/g00672/impl.formSizes", laid_loop_example_g00672_impl_formSizes), ("loop.example/g00672/impl.errQuiet", laid_loop_example_g00672_impl_errQuiet)] }
def FnExactSumOfSaid : Prop := fnExactSumOfRow.holds Tryz.pinned (OpenSpec.ofChange fnExactSumOfSpec)

/-- ITS FALSE NEIGHBOUR: 'it returns false'. Refute it at one input. -/
def fnExactSumOfWrong : ChangeSpec := { name := "fnExactSumOf", vars := ["loop.example/g00672/impl.formSizes", "loop.example/g00672/impl.errQuiet"], fn := fun _ => fun
  | [d1, d2, d3, g1, g2] => { results := [.lit (.bool false)], args := [d1, d2, d3], vars := [g1, g2] }
  | _ => none }
def FnExactSumOfWrongFalsely : Prop := fnExactSumOfRow.holds Tryz.pinned (OpenSpec.ofChange fnExactSumOfWrong)

/-- 'laws.FnExactSumAbs': WHATEVER THE INPUT: true; the input reads as it did. -/
def fnExactSumAbsSpec : ChangeSpec := { name := "fnExactSumAbs", vars := ["loop.example/g00672/impl.formSizes", "loop.example/g00672/impl.errQuiet"], fn := fun _ => fun
  | [d1, d2, d3, g1, g2] => { results := [.lit (.bool true)], args := [d1, d2, d3], vars := [g1, g2] }
  | _ => none }
def fnExactSumAbsRow : OpenClaim := { program := "ytnliofakkkjpoaagreatdoor", sum := "f769bf9c810ef2dba629265760e789832bbd5ce862895b0b426867e8e81d500a", func := "loop.example/g00672/laws.FnExactSumAbs", spec := "fnExactSumAbs", inPlace := ["internal/reflectlite.ValueOf", "(internal/reflectlite.Value).Type", "(internal/reflectlite.Value).IsNil", "internal/reflectlite.TypeOf", "(internal/reflectlite.Value).Elem", "(internal/reflectlite.Value).Set"], unfollowed := true, recurses := true, named := ["loop.example/g00672/impl.formSizes", "math/bits.deBruijn32tab", "math/bits.deBruijn64tab", "loop.example/g00672/impl.errQuiet", "errors.errorType"], ifaces := true, apart := false, laid := [("math/bits.deBruijn32tab", laid_math_bits_deBruijn32tab), ("math/bits.deBruijn64tab", laid_math_bits_deBruijn64tab), ("errors.errorType", laid_errors_errorType), ("loop.example/g00672/impl.formSizes", laid_loop_example_g00672_impl_formSizes), ("loop.example/g00672/impl.errQuiet", laid_loop_example_g00672_impl_errQuiet)] }
def FnExactSumAbsSaid : Prop := fnExactSumAbsRow.holds Tryz.pinned (OpenSpec.ofChange fnExactSumAbsSpec)

/-- ITS FALSE NEIGHBOUR: 'it returns false'. Refute it at one input. -/
def fnExactSumAbsWrong : ChangeSpec := { name := "fnExactSumAbs", vars := ["loop.example/g00672/impl.formSizes", "loop.example/g00672/impl.errQuiet"], fn := fun _ => fun
  | [d1, d2, d3, g1, g2] => { results := [.lit (.bool false)], args := [d1, d2, d3], vars := [g1, g2] }
  | _ => none }
def FnExactSumAbsWrongFalsely : Prop := fnExactSumAbsRow.holds Tryz.pinned (OpenSpec.ofChange fnExactSumAbsWrong)

/-- 'laws.FnExactDot': WHATEVER THE INPUT: true; the input reads as it did. -/
def fnExactDotSpec : ChangeSpec := { name := "fnExactDot", vars := ["loop.example/g00672/impl.formSizes", "loop.example/g00672/impl.errQuiet"], fn := fun _ => fun
  | [d1, d2, d3, d4, g1, g2] => { results := [.lit (.bool true)], args := [d1, d2, d3, d4], vars := [g1, g2] }
  | _ => none }
def fnExactDotRow : OpenClaim := { program := "ytnliofakkkjpoaagreatdoor", sum := "f769bf9c810ef2dba629265760e789832bbd5ce862895b0b426867e8e81d500a", func := "loop.example/g00672/laws.FnExactDot", spec := "fnExactDot", inPlace := ["internal/reflectlite.ValueOf", "(internal/reflectlite.Value).Type", "(internal/reflectlite.Value).IsNil", "internal/reflectlite.TypeOf", "(internal/reflectlite.Value).Elem", "(internal/reflectlite.Value).Set"], unfollowed := true, recurses := true, named := ["loop.example/g00672/impl.formSizes", "math/bits.deBruijn32tab", "math/bits.deBruijn64tab", "loop.example/g00672/impl.errQuiet", "errors.errorType"], ifaces := true, apart := false, laid := [("math/bits.deBruijn32tab", laid_math_bits_deBruijn32tab), ("math/bits.deBruijn64tab", laid_math_bits_deBruijn64tab), ("errors.errorType", laid_errors_errorType), ("loop.example/g00672/impl.formSizes", laid_loop_example_g00672_impl_formSizes), ("loop.example/g00672/impl.errQuiet", laid_loop_example_g00672_impl_errQuiet)] }
def FnExactDotSaid : Prop := fnExactDotRow.holds Tryz.pinned (OpenSpec.ofChange fnExactDotSpec)

/-- ITS FALSE NEIGHBOUR: 'it returns false'. Refute it at one input. -/
def fnExactDotWrong : ChangeSpec := { name := "fnExactDot", vars := ["loop.example/g00672/impl.formSizes", "loop.example/g00672/impl.errQuiet"], fn := fun _ => fun
  | [d1, d2, d3, d4, g1, g2] => { results := [.lit (.bool false)], args := [d1, d2, d3, d4], vars := [g1, g2] }
  | _ => none }
def FnExactDotWrongFalsely : Prop := fnExactDotRow.holds Tryz.pinned (OpenSpec.ofChange fnExactDotWrong)

/-- 'laws.FnExactSumSquare': WHATEVER THE INPUT: true; the input reads as it did. -/
def fnExactSumSquareSpec : ChangeSpec := { name := "fnExactSumSquare", vars := ["loop.example/g00672/impl.formSizes", "loop.example/g00672/impl.errQuiet"], fn := fun _ => fun
  | [d1, d2, d3, g1, g2] => { results := [.lit (.bool true)], args := [d1, d2, d3], vars := [g1, g2] }
  | _ => none }
def fnExactSumSquareRow : OpenClaim := { program := "ytnliofakkkjpoaagreatdoor", sum := "f769bf9c810ef2dba629265760e789832bbd5ce862895b0b426867e8e81d500a", func := "loop.example/g00672/laws.FnExactSumSquare", spec := "fnExactSumSquare", inPlace := ["internal/reflectlite.ValueOf", "(internal/reflectlite.Value).Type", "(internal/reflectlite.Value).IsNil", "internal/reflectlite.TypeOf", "(internal/reflectlite.Value).Elem", "(internal/reflectlite.Value).Set"], unfollowed := true, recurses := true, named := ["loop.example/g00672/impl.formSizes", "math/bits.deBruijn32tab", "math/bits.deBruijn64tab", "loop.example/g00672/impl.errQuiet", "errors.errorType"], ifaces := true, apart := false, laid := [("math/bits.deBruijn32tab", laid_math_bits_deBruijn32tab), ("math/bits.deBruijn64tab", laid_math_bits_deBruijn64tab), ("errors.errorType", laid_errors_errorType), ("loop.example/g00672/impl.formSizes", laid_loop_example_g00672_impl_formSizes), ("loop.example/g00672/impl.errQuiet", laid_loop_example_g00672_impl_errQuiet)] }
def FnExactSumSquareSaid : Prop := fnExactSumSquareRow.holds Tryz.pinned (OpenSpec.ofChange fnExactSumSquareSpec)

/-- ITS FALSE NEIGHBOUR: 'it returns false'. Refute it at one input. -/
def fnExactSumSquareWrong : ChangeSpec := { name := "fnExactSumSquare", vars := ["loop.example/g00672/impl.formSizes", "loop.example/g00672/impl.errQuiet"], fn := fun _ => fun
  | [d1, d2, d3, g1, g2] => { results := [.lit (.bool false)], args := [d1, d2, d3], vars := [g1, g2] }
  | _ => none }
def FnExactSumSquareWrongFalsely : Prop := fnExactSumSquareRow.holds Tryz.pinned (OpenSpec.ofChange fnExactSumSquareWrong)

/-- 'laws.FnExactFloatMul': WHATEVER THE INPUT: true; the input reads as it did. -/
def fnExactFloatMulSpec : ChangeSpec := { name := "fnExactFloatMul", vars := ["loop.example/g00672/impl.formSizes", "loop.example/g00672/impl.errQuiet"], fn := fun _ => fun
  | [d1, d2, d3, d4, g1, g2] => { results := [.lit (.bool true)], args := [d1, d2, d3, d4], vars := [g1, g2] }
  | _ => none }
def fnExactFloatMulRow : OpenClaim := { program := "ytnliofakkkjpoaagreatdoor", sum := "f769bf9c810ef2dba629265760e789832bbd5ce862895b0b426867e8e81d500a", func := "loop.example/g00672/laws.FnExactFloatMul", spec := "fnExactFloatMul", inPlace := ["internal/reflectlite.ValueOf", "(internal/reflectlite.Value).Type", "(internal/reflectlite.Value).IsNil", "internal/reflectlite.TypeOf", "(internal/reflectlite.Value).Elem", "(internal/reflectlite.Value).Set"], unfollowed := true, recurses := true, named := ["loop.example/g00672/impl.formSizes", "loop.example/g00672/impl.errQuiet", "errors.errorType", "math/bits.deBruijn32tab", "math/bits.deBruijn64tab"], ifaces := true, apart := false, laid := [("math/bits.deBruijn32tab", laid_math_bits_deBruijn32tab), ("math/bits.deBruijn64tab", laid_math_bits_deBruijn64tab), ("errors.errorType", laid_errors_errorType), ("loop.example/g00672/impl.formSizes", laid_loop_example_g00672_impl_formSizes), ("loop.example/g00672/impl.errQuiet", laid_loop_example_g00672_impl_errQuiet)] }
def FnExactFloatMulSaid : Prop := fnExactFloatMulRow.holds Tryz.pinned (OpenSpec.ofChange fnExactFloatMulSpec)

/-- ITS FALSE NEIGHBOUR: 'it returns false'. Refute it at one input. -/
def fnExactFloatMulWrong : ChangeSpec := { name := "fnExactFloatMul", vars := ["loop.example/g00672/impl.formSizes", "loop.example/g00672/impl.errQuiet"], fn := fun _ => fun
  | [d1, d2, d3, d4, g1, g2] => { results := [.lit (.bool false)], args := [d1, d2, d3, d4], vars := [g1, g2] }
  | _ => none }
def FnExactFloatMulWrongFalsely : Prop := fnExactFloatMulRow.holds Tryz.pinned (OpenSpec.ofChange fnExactFloatMulWrong)

/-- 'laws.FnExactFloatScaled': WHATEVER THE INPUT: true; the input reads as it did. -/
def fnExactFloatScaledSpec : ChangeSpec := { name := "fnExactFloatScaled", vars := ["loop.example/g00672/impl.formSizes", "loop.example/g00672/impl.errQuiet"], fn := fun _ => fun
  | [d1, d2, d3, d4, g1, g2] => { results := [.lit (.bool true)], args := [d1, d2, d3, d4], vars := [g1, g2] }
  | _ => none }
def fnExactFloatScaledRow : OpenClaim := { program := "ytnliofakkkjpoaagreatdoor", sum := "f769bf9c810ef2dba629265760e789832bbd5ce862895b0b426867e8e81d500a", func := "loop.example/g00672/laws.FnExactFloatScaled", spec := "fnExactFloatScaled", inPlace := ["internal/reflectlite.ValueOf", "(internal/reflectlite.Value).Type", "(internal/reflectlite.Value).IsNil", "internal/reflectlite.TypeOf", "(internal/reflectlite.Value).Elem", "(internal/reflectlite.Value).Set"], unfollowed := true, recurses := true, named := ["loop.example/g00672/impl.formSizes", "loop.example/g00672/impl.errQuiet", "errors.errorType", "math/bits.deBruijn32tab", "math/bits.deBruijn64tab"], ifaces := true, apart := false, laid := [("math/bits.deBruijn32tab", laid_math_bits_deBruijn32tab), ("math/bits.deBruijn64tab", laid_math_bits_deBruijn64tab), ("errors.errorType", laid_errors_errorType), ("loop.example/g00672/impl.formSizes", laid_loop_example_g00672_impl_formSizes), ("loop.example/g00672/impl.errQuiet", laid_loop_example_g00672_impl_errQuiet)] }
def FnExactFloatScaledSaid : Prop := fnExactFloatScaledRow.holds Tryz.pinned (OpenSpec.ofChange fnExactFloatScaledSpec)

/-- ITS FALSE NEIGHBOUR: 'it returns false'. Refute it at one input. -/
def fnExactFloatScaledWrong : ChangeSpec := { name := "fnExactFloatScaled", vars := ["loop.example/g00672/impl.formSizes", "loop.example/g00672/impl.errQuiet"], fn := fun _ => fun
  | [d1, d2, d3, d4, g1, g2] => { results := [.lit (.bool false)], args := [d1, d2, d3, d4], vars := [g1, g2] }
  | _ => none }
def FnExactFloatScaledWrongFalsely : Prop := fnExactFloatScaledRow.holds Tryz.pinned (OpenSpec.ofChange fnExactFloatScaledWrong)

/-- 'laws.FnExactFloatAdd': WHATEVER THE INPUT: true; the input reads as it did. -/
def fnExactFloatAddSpec : ChangeSpec := { name := "fnExactFloatAdd", vars := ["loop.example/g00672/impl.formSizes", "loop.example/g00672/impl.errQuiet"], fn := fun _ => fun
  | [d1, d2, d3, d4, g1, g2] => { results := [.lit (.bool true)], args := [d1, d2, d3, d4], vars := [g1, g2] }
  | _ => none }
def fnExactFloatAddRow : OpenClaim := { program := "ytnliofakkkjpoaagreatdoor", sum := "f769bf9c810ef2dba629265760e789832bbd5ce862895b0b426867e8e81d500a", func := "loop.example/g00672/laws.FnExactFloatAdd", spec := "fnExactFloatAdd", inPlace := ["internal/reflectlite.ValueOf", "(internal/reflectlite.Value).Type", "(internal/reflectlite.Value).IsNil", "internal/reflectlite.TypeOf", "(internal/reflectlite.Value).Elem", "(internal/reflectlite.Value).Set"], unfollowed := true, recurses := true, named := ["loop.example/g00672/impl.formSizes", "loop.example/g00672/impl.errQuiet", "errors.errorType", "math/bits.deBruijn32tab", "math/bits.deBruijn64tab"], ifaces := true, apart := false, laid := [("math/bits.deBruijn32tab", laid_math_bits_deBruijn32tab), ("math/bits.deBruijn64tab", laid_math_bits_deBruijn64tab), ("errors.errorType", laid_errors_errorType), ("loop.example/g00672/impl.formSizes", laid_loop_example_g00672_impl_formSizes), ("loop.example/g00672/impl.errQuiet", laid_loop_example_g00672_impl_errQuiet)] }
def FnExactFloatAddSaid : Prop := fnExactFloatAddRow.holds Tryz.pinned (OpenSpec.ofChange fnExactFloatAddSpec)

/-- ITS FALSE NEIGHBOUR: 'it returns false'. Refute it at one input. -/
def fnExactFloatAddWrong : ChangeSpec := { name := "fnExactFloatAdd", vars := ["loop.example/g00672/impl.formSizes", "loop.example/g00672/impl.errQuiet"], fn := fun _ => fun
  | [d1, d2, d3, d4, g1, g2] => { results := [.lit (.bool false)], args := [d1, d2, d3, d4], vars := [g1, g2] }
  | _ => none }
def FnExactFloatAddWrongFalsely : Prop := fnExactFloatAddRow.holds Tryz.pinned (OpenSpec.ofChange fnExactFloatAddWrong)

/-- 'laws.FnExactFloatSub': WHATEVER THE INPUT: true; the input reads as it did. -/
def fnExactFloatSubSpec : ChangeSpec := { name := "fnExactFloatSub", vars := ["loop.example/g00672/impl.formSizes", "loop.example/g00672/impl.errQuiet"], fn := fun _ => fun
  | [d1, d2, d3, d4, g1, g2] => { results := [.lit (.bool true)], args := [d1, d2, d3, d4], vars := [g1, g2] }
  | _ => none }
def fnExactFloatSubRow : OpenClaim := { program := "ytnliofakkkjpoaagreatdoor", sum := "f769bf9c810ef2dba629265760e789832bbd5ce862895b0b426867e8e81d500a", func := "loop.example/g00672/laws.FnExactFloatSub", spec := "fnExactFloatSub", inPlace := ["internal/reflectlite.ValueOf", "(internal/reflectlite.Value).Type", "(internal/reflectlite.Value).IsNil", "internal/reflectlite.TypeOf", "(internal/reflectlite.Value).Elem", "(internal/reflectlite.Value).Set"], unfollowed := true, recurses := true, named := ["loop.example/g00672/impl.formSizes", "loop.example/g00672/impl.errQuiet", "errors.errorType", "math/bits.deBruijn32tab", "math/bits.deBruijn64tab"], ifaces := true, apart := false, laid := [("math/bits.deBruijn32tab", laid_math_bits_deBruijn32tab), ("math/bits.deBruijn64tab", laid_math_bits_deBruijn64tab), ("errors.errorType", laid_errors_errorType), ("loop.example/g00672/impl.formSizes", laid_loop_example_g00672_impl_formSizes), ("loop.example/g00672/impl.errQuiet", laid_loop_example_g00672_impl_errQuiet)] }
def FnExactFloatSubSaid : Prop := fnExactFloatSubRow.holds Tryz.pinned (OpenSpec.ofChange fnExactFloatSubSpec)

/-- ITS FALSE NEIGHBOUR: 'it returns false'. Refute it at one input. -/
def fnExactFloatSubWrong : ChangeSpec := { name := "fnExactFloatSub", vars := ["loop.example/g00672/impl.formSizes", "loop.example/g00672/impl.errQuiet"], fn := fun _ => fun
  | [d1, d2, d3, d4, g1, g2] => { results := [.lit (.bool false)], args := [d1, d2, d3, d4], vars := [g1, g2] }
  | _ => none }
def FnExactFloatSubWrongFalsely : Prop := fnExactFloatSubRow.holds Tryz.pinned (OpenSpec.ofChange fnExactFloatSubWrong)

/-- 'laws.FnExactFloatFma': WHATEVER THE INPUT: true; the input reads as it did. -/
def fnExactFloatFmaSpec : ChangeSpec := { name := "fnExactFloatFma", vars := ["loop.example/g00672/impl.formSizes", "loop.example/g00672/impl.errQuiet"], fn := fun _ => fun
  | [d1, d2, d3, d4, d5, g1, g2] => { results := [.lit (.bool true)], args := [d1, d2, d3, d4, d5], vars := [g1, g2] }
  | _ => none }
def fnExactFloatFmaRow : OpenClaim := { program := "ytnliofakkkjpoaagreatdoor", sum := "f769bf9c810ef2dba629265760e789832bbd5ce862895b0b426867e8e81d500a", func := "loop.example/g00672/laws.FnExactFloatFma", spec := "fnExactFloatFma", inPlace := ["internal/reflectlite.ValueOf", "(internal/reflectlite.Value).Type", "(internal/reflectlite.Value).IsNil", "internal/reflectlite.TypeOf", "(internal/reflectlite.Value).Elem", "(internal/reflectlite.Value).Set"], unfollowed := true, recurses := true, named := ["loop.example/g00672/impl.formSizes", "loop.example/g00672/impl.errQuiet", "errors.errorType", "math/bits.deBruijn32tab", "math/bits.deBruijn64tab"], ifaces := true, apart := false, laid := [("math/bits.deBruijn32tab", laid_math_bits_deBruijn32tab), ("math/bits.deBruijn64tab", laid_math_bits_deBruijn64tab), ("errors.errorType", laid_errors_errorType), ("loop.example/g00672/impl.formSizes", laid_loop_example_g00672_impl_formSizes), ("loop.example/g00672/impl.errQuiet", laid_loop_example_g00672_impl_errQuiet)] }
def FnExactFloatFmaSaid : Prop := fnExactFloatFmaRow.holds Tryz.pinned (OpenSpec.ofChange fnExactFloatFmaSpec)

/-- ITS FALSE NEIGHBOUR: 'it returns false'. Refute it at one input. -/
def fnExactFloatFmaWrong : ChangeSpec := { name := "fnExactFloatFma", vars := ["loop.example/g00672/impl.formSizes", "loop.example/g00672/impl.errQuiet"], fn := fun _ => fun
  | [d1, d2, d3, d4, d5, g1, g2] => { results := [.lit (.bool false)], args := [d1, d2, d3, d4, d5], vars := [g1, g2] }
  | _ => none }
def FnExactFloatFmaWrongFalsely : Prop := fnExactFloatFmaRow.holds Tryz.pinned (OpenSpec.ofChange fnExactFloatFmaWrong)

/-- 'laws.FnExactFloatInt': WHATEVER THE INPUT: true; the input reads as it did. -/
def fnExactFloatIntSpec : ChangeSpec := { name := "fnExactFloatInt", vars := ["loop.example/g00672/impl.formSizes", "loop.example/g00672/impl.errQuiet"], fn := fun _ => fun
  | [d1, d2, d3, g1, g2] => { results := [.lit (.bool true)], args := [d1, d2, d3], vars := [g1, g2] }
  | _ => none }
def fnExactFloatIntRow : OpenClaim := { program := "ytnliofakkkjpoaagreatdoor", sum := "f769bf9c810ef2dba629265760e789832bbd5ce862895b0b426867e8e81d500a", func := "loop.example/g00672/laws.FnExactFloatInt", spec := "fnExactFloatInt", inPlace := ["internal/reflectlite.ValueOf", "(internal/reflectlite.Value).Type", "(internal/reflectlite.Value).IsNil", "internal/reflectlite.TypeOf", "(internal/reflectlite.Value).Elem", "(internal/reflectlite.Value).Set"], unfollowed := true, recurses := true, named := ["loop.example/g00672/impl.formSizes", "loop.example/g00672/impl.errQuiet", "math/bits.deBruijn32tab", "errors.errorType", "math/bits.deBruijn64tab"], ifaces := true, apart := false, laid := [("math/bits.deBruijn32tab", laid_math_bits_deBruijn32tab), ("math/bits.deBruijn64tab", laid_math_bits_deBruijn64tab), ("errors.errorType", laid_errors_errorType), ("loop.example/g00672/impl.formSizes", laid_loop_example_g00672_impl_formSizes), ("loop.example/g00672/impl.errQuiet", laid_loop_example_g00672_impl_errQuiet)] }
def FnExactFloatIntSaid : Prop := fnExactFloatIntRow.holds Tryz.pinned (OpenSpec.ofChange fnExactFloatIntSpec)

/-- ITS FALSE NEIGHBOUR: 'it returns false'. Refute it at one input. -/
def fnExactFloatIntWrong : ChangeSpec := { name := "fnExactFloatInt", vars := ["loop.example/g00672/impl.formSizes", "loop.example/g00672/impl.errQuiet"], fn := fun _ => fun
  | [d1, d2, d3, g1, g2] => { results := [.lit (.bool false)], args := [d1, d2, d3], vars := [g1, g2] }
  | _ => none }
def FnExactFloatIntWrongFalsely : Prop := fnExactFloatIntRow.holds Tryz.pinned (OpenSpec.ofChange fnExactFloatIntWrong)

/-- 'laws.FnExactAugAdd': WHATEVER THE INPUT: true; the input reads as it did. -/
def fnExactAugAddSpec : ChangeSpec := { name := "fnExactAugAdd", vars := ["loop.example/g00672/impl.formSizes", "loop.example/g00672/impl.errQuiet"], fn := fun _ => fun
  | [d1, d2, d3, g1, g2] => { results := [.lit (.bool true)], args := [d1, d2, d3], vars := [g1, g2] }
  | _ => none }
def fnExactAugAddRow : OpenClaim := { program := "ytnliofakkkjpoaagreatdoor", sum := "f769bf9c810ef2dba629265760e789832bbd5ce862895b0b426867e8e81d500a", func := "loop.example/g00672/laws.FnExactAugAdd", spec := "fnExactAugAdd", inPlace := ["internal/reflectlite.ValueOf", "(internal/reflectlite.Value).Type", "(internal/reflectlite.Value).IsNil", "internal/reflectlite.TypeOf", "(internal/reflectlite.Value).Elem", "(internal/reflectlite.Value).Set"], unfollowed := true, recurses := true, named := ["loop.example/g00672/impl.formSizes", "loop.example/g00672/impl.errQuiet", "errors.errorType", "math/bits.deBruijn32tab", "math/bits.deBruijn64tab"], ifaces := true, apart := false, laid := [("math/bits.deBruijn32tab", laid_math_bits_deBruijn32tab), ("math/bits.deBruijn64tab", laid_math_bits_deBruijn64tab), ("errors.errorType", laid_errors_errorType), ("loop.example/g00672/impl.formSizes", laid_loop_example_g00672_impl_formSizes), ("loop.example/g00672/impl.errQuiet", laid_loop_example_g00672_impl_errQuiet)] }
def FnExactAugAddSaid : Prop := fnExactAugAddRow.holds Tryz.pinned (OpenSpec.ofChange fnExactAugAddSpec)

/-- ITS FALSE NEIGHBOUR: 'it returns false'. Refute it at one input. -/
def fnExactAugAddWrong : ChangeSpec := { name := "fnExactAugAdd", vars := ["loop.example/g00672/impl.formSizes", "loop.example/g00672/impl.errQuiet"], fn := fun _ => fun
  | [d1, d2, d3, g1, g2] => { results := [.lit (.bool false)], args := [d1, d2, d3], vars := [g1, g2] }
  | _ => none }
def FnExactAugAddWrongFalsely : Prop := fnExactAugAddRow.holds Tryz.pinned (OpenSpec.ofChange fnExactAugAddWrong)

/- THE SECOND FORM. 'bulk': how many values and letters a reading holds, each counted each time it is reached (what is shared counts as often as it is met; a slice's spare places count too). A statement '..UptoSaid' is the law's where the arguments, and the package variables that the reading takes, are together of bulk at most 1048576: NARROWER than '..Said'. Prove '..Said' where nothing that the law and all that it calls make is longer than what came in: it says more and counts as full. Else prove '..UptoSaid'. A law counts once. -/
mutual
def uptoBulk {H : Type} : DataW H → Nat
  | .lit (.string bytes) => bytes.length + 1
  | .lit _ => 1
  | .nil => 1
  | .ptr d => uptoBulk d + 1
  | .slice elems spare => uptoBulkAll elems + uptoBulkAll spare + 1
  | .agg parts => uptoBulkAll parts + 1
  | .iface _ d => uptoBulk d + 1
  | .map entries => uptoBulkEntries entries + 1
  | .held _ => 1
def uptoBulkAll {H : Type} : List (DataW H) → Nat
  | [] => 0
  | d :: r => uptoBulk d + uptoBulkAll r
def uptoBulkEntries {H : Type} : List (Lit × DataW H) → Nat
  | [] => 0
  | x :: r => uptoBulkEntry x + uptoBulkEntries r
def uptoBulkEntry {H : Type} : Lit × DataW H → Nat
  | (.string bytes, d) => bytes.length + uptoBulk d + 1
  | (_, d) => uptoBulk d + 1
 end
def uptoSmall : (H : Type) → List (DataW H) → Bool := fun _ ds => decide (uptoBulkAll ds ≤ 1048576)
def OpenSpec.upto (s : _root_.Go.ChangeSpec) : _root_.Go.OpenSpec := { _root_.Go.OpenSpec.ofChange s with cond := some uptoSmall }

/-- 'laws.FnExactAccMul', WHERE WHAT IT READS IS OF BULK AT MOST 1048576: true; the input reads as it did. -/
def fnExactAccMulUptoRow : OpenClaim := { program := "ytnliofakkkjpoaagreatdoor", sum := "f769bf9c810ef2dba629265760e789832bbd5ce862895b0b426867e8e81d500a", func := "loop.example/g00672/laws.FnExactAccMul", spec := "fnExactAccMul", inPlace := ["internal/reflectlite.ValueOf", "(internal/reflectlite.Value).Type", "(internal/reflectlite.Value).IsNil", "internal/reflectlite.TypeOf", "(internal/reflectlite.Value).Elem", "(internal/reflectlite.Value).Set"], unfollowed := true, recurses := true, named := ["loop.example/g00672/impl.formSizes", "loop.example/g00672/impl.errQuiet", "errors.errorType"], ifaces := true, apart := false, laid := [("errors.errorType", laid_errors_errorType), ("loop.example/g00672/impl.formSizes", laid_loop_example_g00672_impl_formSizes), ("loop.example/g00672/impl.errQuiet", laid_loop_example_g00672_impl_errQuiet)], narrowed := true }
def FnExactAccMulUptoSaid : Prop := fnExactAccMulUptoRow.holds Tryz.pinned (OpenSpec.upto fnExactAccMulSpec)

/-- 'laws.FnExactSumOf', WHERE WHAT IT READS IS OF BULK AT MOST 1048576: true; the input reads as it did. -/
def fnExactSumOfUptoRow : OpenClaim := { program := "ytnliofakkkjpoaagreatdoor", sum := "f769bf9c810ef2dba629265760e789832bbd5ce862895b0b426867e8e81d500a", func := "loop.example/g00672/laws.FnExactSumOf", spec := "fnExactSumOf", inPlace := ["internal/reflectlite.ValueOf", "(internal/reflectlite.Value).Type", "(internal/reflectlite.Value).IsNil", "internal/reflectlite.TypeOf", "(internal/reflectlite.Value).Elem", "(internal/reflectlite.Value).Set"], unfollowed := true, recurses := true, named := ["loop.example/g00672/impl.formSizes", "math/bits.deBruijn32tab", "math/bits.deBruijn64tab", "loop.example/g00672/impl.errQuiet", "errors.errorType"], ifaces := true, apart := false, laid := [("math/bits.deBruijn32tab", laid_math_bits_deBruijn32tab), ("math/bits.deBruijn64tab", laid_math_bits_deBruijn64tab), ("errors.errorType", laid_errors_errorType), ("loop.example/g00672/impl.formSizes", laid_loop_example_g00672_impl_formSizes), ("loop.example/g00672/impl.errQuiet", laid_loop_example_g00672_impl_errQuiet)], narrowed := true }
def FnExactSumOfUptoSaid : Prop := fnExactSumOfUptoRow.holds Tryz.pinned (OpenSpec.upto fnExactSumOfSpec)

/-- 'laws.FnExactSumAbs', WHERE WHAT IT READS IS OF BULK AT MOST 1048576: true; the input reads as it did. -/
def fnExactSumAbsUptoRow : OpenClaim := { program := "ytnliofakkkjpoaagreatdoor", sum := "f769bf9c810ef2dba629265760e789832bbd5ce862895b0b426867e8e81d500a", func := "loop.example/g00672/laws.FnExactSumAbs", spec := "fnExactSumAbs", inPlace := ["internal/reflectlite.ValueOf", "(internal/reflectlite.Value).Type", "(internal/reflectlite.Value).IsNil", "internal/reflectlite.TypeOf", "(internal/reflectlite.Value).Elem", "(internal/reflectlite.Value).Set"], unfollowed := true, recurses := true, named := ["loop.example/g00672/impl.formSizes", "math/bits.deBruijn32tab", "math/bits.deBruijn64tab", "loop.example/g00672/impl.errQuiet", "errors.errorType"], ifaces := true, apart := false, laid := [("math/bits.deBruijn32tab", laid_math_bits_deBruijn32tab), ("math/bits.deBruijn64tab", laid_math_bits_deBruijn64tab), ("errors.errorType", laid_errors_errorType), ("loop.example/g00672/impl.formSizes", laid_loop_example_g00672_impl_formSizes), ("loop.example/g00672/impl.errQuiet", laid_loop_example_g00672_impl_errQuiet)], narrowed := true }
def FnExactSumAbsUptoSaid : Prop := fnExactSumAbsUptoRow.holds Tryz.pinned (OpenSpec.upto fnExactSumAbsSpec)

/-- 'laws.FnExactDot', WHERE WHAT IT READS IS OF BULK AT MOST 1048576: true; the input reads as it did. -/
def fnExactDotUptoRow : OpenClaim := { program := "ytnliofakkkjpoaagreatdoor", sum := "f769bf9c810ef2dba629265760e789832bbd5ce862895b0b426867e8e81d500a", func := "loop.example/g00672/laws.FnExactDot", spec := "fnExactDot", inPlace := ["internal/reflectlite.ValueOf", "(internal/reflectlite.Value).Type", "(internal/reflectlite.Value).IsNil", "internal/reflectlite.TypeOf", "(internal/reflectlite.Value).Elem", "(internal/reflectlite.Value).Set"], unfollowed := true, recurses := true, named := ["loop.example/g00672/impl.formSizes", "math/bits.deBruijn32tab", "math/bits.deBruijn64tab", "loop.example/g00672/impl.errQuiet", "errors.errorType"], ifaces := true, apart := false, laid := [("math/bits.deBruijn32tab", laid_math_bits_deBruijn32tab), ("math/bits.deBruijn64tab", laid_math_bits_deBruijn64tab), ("errors.errorType", laid_errors_errorType), ("loop.example/g00672/impl.formSizes", laid_loop_example_g00672_impl_formSizes), ("loop.example/g00672/impl.errQuiet", laid_loop_example_g00672_impl_errQuiet)], narrowed := true }
def FnExactDotUptoSaid : Prop := fnExactDotUptoRow.holds Tryz.pinned (OpenSpec.upto fnExactDotSpec)

/-- 'laws.FnExactSumSquare', WHERE WHAT IT READS IS OF BULK AT MOST 1048576: true; the input reads as it did. -/
def fnExactSumSquareUptoRow : OpenClaim := { program := "ytnliofakkkjpoaagreatdoor", sum := "f769bf9c810ef2dba629265760e789832bbd5ce862895b0b426867e8e81d500a", func := "loop.example/g00672/laws.FnExactSumSquare", spec := "fnExactSumSquare", inPlace := ["internal/reflectlite.ValueOf", "(internal/reflectlite.Value).Type", "(internal/reflectlite.Value).IsNil", "internal/reflectlite.TypeOf", "(internal/reflectlite.Value).Elem", "(internal/reflectlite.Value).Set"], unfollowed := true, recurses := true, named := ["loop.example/g00672/impl.formSizes", "math/bits.deBruijn32tab", "math/bits.deBruijn64tab", "loop.example/g00672/impl.errQuiet", "errors.errorType"], ifaces := true, apart := false, laid := [("math/bits.deBruijn32tab", laid_math_bits_deBruijn32tab), ("math/bits.deBruijn64tab", laid_math_bits_deBruijn64tab), ("errors.errorType", laid_errors_errorType), ("loop.example/g00672/impl.formSizes", laid_loop_example_g00672_impl_formSizes), ("loop.example/g00672/impl.errQuiet", laid_loop_example_g00672_impl_errQuiet)], narrowed := true }
def FnExactSumSquareUptoSaid : Prop := fnExactSumSquareUptoRow.holds Tryz.pinned (OpenSpec.upto fnExactSumSquareSpec)

/-- 'laws.FnExactFloatMul', WHERE WHAT IT READS IS OF BULK AT MOST 1048576: true; the input reads as it did. -/
def fnExactFloatMulUptoRow : OpenClaim := { program := "ytnliofakkkjpoaagreatdoor", sum := "f769bf9c810ef2dba629265760e789832bbd5ce862895b0b426867e8e81d500a", func := "loop.example/g00672/laws.FnExactFloatMul", spec := "fnExactFloatMul", inPlace := ["internal/reflectlite.ValueOf", "(internal/reflectlite.Value).Type", "(internal/reflectlite.Value).IsNil", "internal/reflectlite.TypeOf", "(internal/reflectlite.Value).Elem", "(internal/reflectlite.Value).Set"], unfollowed := true, recurses := true, named := ["loop.example/g00672/impl.formSizes", "loop.example/g00672/impl.errQuiet", "errors.errorType", "math/bits.deBruijn32tab", "math/bits.deBruijn64tab"], ifaces := true, apart := false, laid := [("math/bits.deBruijn32tab", laid_math_bits_deBruijn32tab), ("math/bits.deBruijn64tab", laid_math_bits_deBruijn64tab), ("errors.errorType", laid_errors_errorType), ("loop.example/g00672/impl.formSizes", laid_loop_example_g00672_impl_formSizes), ("loop.example/g00672/impl.errQuiet", laid_loop_example_g00672_impl_errQuiet)], narrowed := true }
def FnExactFloatMulUptoSaid : Prop := fnExactFloatMulUptoRow.holds Tryz.pinned (OpenSpec.upto fnExactFloatMulSpec)

/-- 'laws.FnExactFloatScaled', WHERE WHAT IT READS IS OF BULK AT MOST 1048576: true; the input reads as it did. -/
def fnExactFloatScaledUptoRow : OpenClaim := { program := "ytnliofakkkjpoaagreatdoor", sum := "f769bf9c810ef2dba629265760e789832bbd5ce862895b0b426867e8e81d500a", func := "loop.example/g00672/laws.FnExactFloatScaled", spec := "fnExactFloatScaled", inPlace := ["internal/reflectlite.ValueOf", "(internal/reflectlite.Value).Type", "(internal/reflectlite.Value).IsNil", "internal/reflectlite.TypeOf", "(internal/reflectlite.Value).Elem", "(internal/reflectlite.Value).Set"], unfollowed := true, recurses := true, named := ["loop.example/g00672/impl.formSizes", "loop.example/g00672/impl.errQuiet", "errors.errorType", "math/bits.deBruijn32tab", "math/bits.deBruijn64tab"], ifaces := true, apart := false, laid := [("math/bits.deBruijn32tab", laid_math_bits_deBruijn32tab), ("math/bits.deBruijn64tab", laid_math_bits_deBruijn64tab), ("errors.errorType", laid_errors_errorType), ("loop.example/g00672/impl.formSizes", laid_loop_example_g00672_impl_formSizes), ("loop.example/g00672/impl.errQuiet", laid_loop_example_g00672_impl_errQuiet)], narrowed := true }
def FnExactFloatScaledUptoSaid : Prop := fnExactFloatScaledUptoRow.holds Tryz.pinned (OpenSpec.upto fnExactFloatScaledSpec)

/-- 'laws.FnExactFloatAdd', WHERE WHAT IT READS IS OF BULK AT MOST 1048576: true; the input reads as it did. -/
def fnExactFloatAddUptoRow : OpenClaim := { program := "ytnliofakkkjpoaagreatdoor", sum := "f769bf9c810ef2dba629265760e789832bbd5ce862895b0b426867e8e81d500a", func := "loop.example/g00672/laws.FnExactFloatAdd", spec := "fnExactFloatAdd", inPlace := ["internal/reflectlite.ValueOf", "(internal/reflectlite.Value).Type", "(internal/reflectlite.Value).IsNil", "internal/reflectlite.TypeOf", "(internal/reflectlite.Value).Elem", "(internal/reflectlite.Value).Set"], unfollowed := true, recurses := true, named := ["loop.example/g00672/impl.formSizes", "loop.example/g00672/impl.errQuiet", "errors.errorType", "math/bits.deBruijn32tab", "math/bits.deBruijn64tab"], ifaces := true, apart := false, laid := [("math/bits.deBruijn32tab", laid_math_bits_deBruijn32tab), ("math/bits.deBruijn64tab", laid_math_bits_deBruijn64tab), ("errors.errorType", laid_errors_errorType), ("loop.example/g00672/impl.formSizes", laid_loop_example_g00672_impl_formSizes), ("loop.example/g00672/impl.errQuiet", laid_loop_example_g00672_impl_errQuiet)], narrowed := true }
def FnExactFloatAddUptoSaid : Prop := fnExactFloatAddUptoRow.holds Tryz.pinned (OpenSpec.upto fnExactFloatAddSpec)

/-- 'laws.FnExactFloatSub', WHERE WHAT IT READS IS OF BULK AT MOST 1048576: true; the input reads as it did. -/
def fnExactFloatSubUptoRow : OpenClaim := { program := "ytnliofakkkjpoaagreatdoor", sum := "f769bf9c810ef2dba629265760e789832bbd5ce862895b0b426867e8e81d500a", func := "loop.example/g00672/laws.FnExactFloatSub", spec := "fnExactFloatSub", inPlace := ["internal/reflectlite.ValueOf", "(internal/reflectlite.Value).Type", "(internal/reflectlite.Value).IsNil", "internal/reflectlite.TypeOf", "(internal/reflectlite.Value).Elem", "(internal/reflectlite.Value).Set"], unfollowed := true, recurses := true, named := ["loop.example/g00672/impl.formSizes", "loop.example/g00672/impl.errQuiet", "errors.errorType", "math/bits.deBruijn32tab", "math/bits.deBruijn64tab"], ifaces := true, apart := false, laid := [("math/bits.deBruijn32tab", laid_math_bits_deBruijn32tab), ("math/bits.deBruijn64tab", laid_math_bits_deBruijn64tab), ("errors.errorType", laid_errors_errorType), ("loop.example/g00672/impl.formSizes", laid_loop_example_g00672_impl_formSizes), ("loop.example/g00672/impl.errQuiet", laid_loop_example_g00672_impl_errQuiet)], narrowed := true }
def FnExactFloatSubUptoSaid : Prop := fnExactFloatSubUptoRow.holds Tryz.pinned (OpenSpec.upto fnExactFloatSubSpec)

/-- 'laws.FnExactFloatFma', WHERE WHAT IT READS IS OF BULK AT MOST 1048576: true; the input reads as it did. -/
def fnExactFloatFmaUptoRow : OpenClaim := { program := "ytnliofakkkjpoaagreatdoor", sum := "f769bf9c810ef2dba629265760e789832bbd5ce862895b0b426867e8e81d500a", func := "loop.example/g00672/laws.FnExactFloatFma", spec := "fnExactFloatFma", inPlace := ["internal/reflectlite.ValueOf", "(internal/reflectlite.Value).Type", "(internal/reflectlite.Value).IsNil", "internal/reflectlite.TypeOf", "(internal/reflectlite.Value).Elem", "(internal/reflectlite.Value).Set"], unfollowed := true, recurses := true, named := ["loop.example/g00672/impl.formSizes", "loop.example/g00672/impl.errQuiet", "errors.errorType", "math/bits.deBruijn32tab", "math/bits.deBruijn64tab"], ifaces := true, apart := false, laid := [("math/bits.deBruijn32tab", laid_math_bits_deBruijn32tab), ("math/bits.deBruijn64tab", laid_math_bits_deBruijn64tab), ("errors.errorType", laid_errors_errorType), ("loop.example/g00672/impl.formSizes", laid_loop_example_g00672_impl_formSizes), ("loop.example/g00672/impl.errQuiet", laid_loop_example_g00672_impl_errQuiet)], narrowed := true }
def FnExactFloatFmaUptoSaid : Prop := fnExactFloatFmaUptoRow.holds Tryz.pinned (OpenSpec.upto fnExactFloatFmaSpec)

/-- 'laws.FnExactFloatInt', WHERE WHAT IT READS IS OF BULK AT MOST 1048576: true; the input reads as it did. -/
def fnExactFloatIntUptoRow : OpenClaim := { program := "ytnliofakkkjpoaagreatdoor", sum := "f769bf9c810ef2dba629265760e789832bbd5ce862895b0b426867e8e81d500a", func := "loop.example/g00672/laws.FnExactFloatInt", spec := "fnExactFloatInt", inPlace := ["internal/reflectlite.ValueOf", "(internal/reflectlite.Value).Type", "(internal/reflectlite.Value).IsNil", "internal/reflectlite.TypeOf", "(internal/reflectlite.Value).Elem", "(internal/reflectlite.Value).Set"], unfollowed := true, recurses := true, named := ["loop.example/g00672/impl.formSizes", "loop.example/g00672/impl.errQuiet", "math/bits.deBruijn32tab", "errors.errorType", "math/bits.deBruijn64tab"], ifaces := true, apart := false, laid := [("math/bits.deBruijn32tab", laid_math_bits_deBruijn32tab), ("math/bits.deBruijn64tab", laid_math_bits_deBruijn64tab), ("errors.errorType", laid_errors_errorType), ("loop.example/g00672/impl.formSizes", laid_loop_example_g00672_impl_formSizes), ("loop.example/g00672/impl.errQuiet", laid_loop_example_g00672_impl_errQuiet)], narrowed := true }
def FnExactFloatIntUptoSaid : Prop := fnExactFloatIntUptoRow.holds Tryz.pinned (OpenSpec.upto fnExactFloatIntSpec)

/-- 'laws.FnExactAugAdd', WHERE WHAT IT READS IS OF BULK AT MOST 1048576: true; the input reads as it did. -/
def fnExactAugAddUptoRow : OpenClaim := { program := "ytnliofakkkjpoaagreatdoor", sum := "f769bf9c810ef2dba629265760e789832bbd5ce862895b0b426867e8e81d500a", func := "loop.example/g00672/laws.FnExactAugAdd", spec := "fnExactAugAdd", inPlace := ["internal/reflectlite.ValueOf", "(internal/reflectlite.Value).Type", "(internal/reflectlite.Value).IsNil", "internal/reflectlite.TypeOf", "(internal/reflectlite.Value).Elem", "(internal/reflectlite.Value).Set"], unfollowed := true, recurses := true, named := ["loop.example/g00672/impl.formSizes", "loop.example/g00672/impl.errQuiet", "errors.errorType", "math/bits.deBruijn32tab", "math/bits.deBruijn64tab"], ifaces := true, apart := false, laid := [("math/bits.deBruijn32tab", laid_math_bits_deBruijn32tab), ("math/bits.deBruijn64tab", laid_math_bits_deBruijn64tab), ("errors.errorType", laid_errors_errorType), ("loop.example/g00672/impl.formSizes", laid_loop_example_g00672_impl_formSizes), ("loop.example/g00672/impl.errQuiet", laid_loop_example_g00672_impl_errQuiet)], narrowed := true }
def FnExactAugAddUptoSaid : Prop := fnExactAugAddUptoRow.holds Tryz.pinned (OpenSpec.upto fnExactAugAddSpec)

end Rows
end Go.Proofs.YtnliofakkkjpoaaGreatDoor
