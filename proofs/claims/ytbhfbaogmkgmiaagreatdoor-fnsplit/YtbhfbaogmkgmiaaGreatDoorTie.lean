/-
  DERIVED. GIVEN WITH THE SEED: THE PROGRAM's TIES (one call each: nine closed facts by the kernel) AND EACH ROW's TIE, after the 31st guide's Derived/Test/Toyas{Tie, Card}.lean. No idea stands in it: it is a product of the set-up. Laid BY PROGRAM, IN A SANDBOX (cutbox-door.mjs). By AI agents, Wed Nov 11 2026. No macro, syntax, notation, axiom, sorry.
-/
import Derived.Test.YtbhfbaogmkgmiaaGreatDoorRows
import Derived.LaidByTextLater
import Derived.SevenTiedAt
import Derived.LaidSub
import Derived.LaidOnce
namespace Go.Proofs.YtbhfbaogmkgmiaaGreatDoor
open Go
set_option maxRecDepth 100000
theorem seatTie1 : Tryz.prog.laidByTextLater [("math/bits.deBruijn32tab", Rows.laid_math_bits_deBruijn32tab), ("math/bits.deBruijn64tab", Rows.laid_math_bits_deBruijn64tab), ("errors.errorType", Rows.laid_errors_errorType), ("loop.example/g00672/impl.formSizes", Rows.laid_loop_example_g00672_impl_formSizes), ("loop.example/g00672/impl.errQuiet", Rows.laid_loop_example_g00672_impl_errQuiet)] [.data, .data, .handle, .data, .sentinel] true :=
  Program.laidByTextLater_by_one 53 8 65 (by kernel_rfl) (by kernel_rfl) (by kernel_rfl) (by kernel_rfl) (by kernel_rfl) (by kernel_rfl) (fun _ _ => by kernel_rfl)
theorem noOwnUnsafe : Tryz.pinned.checked.prog.headLifts.contains "ownunsafe" = false := by kernel_rfl
theorem tie : Tryz.prog.laidByTextLater [("math/bits.deBruijn32tab", Rows.laid_math_bits_deBruijn32tab), ("math/bits.deBruijn64tab", Rows.laid_math_bits_deBruijn64tab), ("loop.example/g00672/impl.formSizes", Rows.laid_loop_example_g00672_impl_formSizes)] [.data, .data, .data] true :=
  Program.laidByTextLater.sub seatTie1 ["math/bits.deBruijn32tab", "math/bits.deBruijn64tab", "loop.example/g00672/impl.formSizes"] (by kernel_rfl) (by kernel_rfl)
theorem fnModes_row_tie : Rows.fnModesRow.laidByTextAt .later Tryz.pinned [.data, .data, .data] true :=
  OpenClaim.laidByTextAt_later rfl rfl tie noOwnUnsafe
theorem fnBracket_row_tie : Rows.fnBracketRow.laidByTextAt .later Tryz.pinned [.data, .data, .data] true :=
  OpenClaim.laidByTextAt_later rfl rfl tie noOwnUnsafe
theorem fnNearest_row_tie : Rows.fnNearestRow.laidByTextAt .later Tryz.pinned [.data, .data, .data] true :=
  OpenClaim.laidByTextAt_later rfl rfl tie noOwnUnsafe
theorem tie2 : Tryz.prog.laidByTextLater [("math/bits.deBruijn32tab", Rows.laid_math_bits_deBruijn32tab), ("math/bits.deBruijn64tab", Rows.laid_math_bits_deBruijn64tab), ("errors.errorType", Rows.laid_errors_errorType), ("loop.example/g00672/impl.formSizes", Rows.laid_loop_example_g00672_impl_formSizes), ("loop.example/g00672/impl.errQuiet", Rows.laid_loop_example_g00672_impl_errQuiet)] [.data, .data, .handle, .data, .sentinel] true :=
  Program.laidByTextLater.sub seatTie1 ["math/bits.deBruijn32tab", "math/bits.deBruijn64tab", "errors.errorType", "loop.example/g00672/impl.formSizes", "loop.example/g00672/impl.errQuiet"] (by kernel_rfl) (by kernel_rfl)
theorem fnAddRounded_row_tie : Rows.fnAddRoundedRow.laidByTextAt .later Tryz.pinned [.data, .data, .handle, .data, .sentinel] true :=
  OpenClaim.laidByTextAt_later rfl rfl tie2 noOwnUnsafe
theorem fnAddTurned_row_tie : Rows.fnAddTurnedRow.laidByTextAt .later Tryz.pinned [.data, .data, .handle, .data, .sentinel] true :=
  OpenClaim.laidByTextAt_later rfl rfl tie2 noOwnUnsafe
theorem fnMulRounded_row_tie : Rows.fnMulRoundedRow.laidByTextAt .later Tryz.pinned [.data, .data, .handle, .data, .sentinel] true :=
  OpenClaim.laidByTextAt_later rfl rfl tie2 noOwnUnsafe
theorem fnNearSub_row_tie : Rows.fnNearSubRow.laidByTextAt .later Tryz.pinned [.data, .data, .handle, .data, .sentinel] true :=
  OpenClaim.laidByTextAt_later rfl rfl tie2 noOwnUnsafe
theorem fnScaled_row_tie : Rows.fnScaledRow.laidByTextAt .later Tryz.pinned [.data, .data, .handle, .data, .sentinel] true :=
  OpenClaim.laidByTextAt_later rfl rfl tie2 noOwnUnsafe
theorem fnSplit_row_tie : Rows.fnSplitRow.laidByTextAt .later Tryz.pinned [.data, .data, .handle, .data, .sentinel] true :=
  OpenClaim.laidByTextAt_later rfl rfl tie2 noOwnUnsafe
theorem fnFma_row_tie : Rows.fnFmaRow.laidByTextAt .later Tryz.pinned [.data, .data, .handle, .data, .sentinel] true :=
  OpenClaim.laidByTextAt_later rfl rfl tie2 noOwnUnsafe
theorem fnInts_row_tie : Rows.fnIntsRow.laidByTextAt .later Tryz.pinned [.data, .data, .handle, .data, .sentinel] true :=
  OpenClaim.laidByTextAt_later rfl rfl tie2 noOwnUnsafe
theorem fnExactFloatFma_row_tie : Rows.fnExactFloatFmaRow.laidByTextAt .later Tryz.pinned [.data, .data, .handle, .data, .sentinel] true :=
  OpenClaim.laidByTextAt_later rfl rfl tie2 noOwnUnsafe
theorem fnModesUpto_row_tie : Rows.fnModesUptoRow.laidByTextAt .later Tryz.pinned [.data, .data, .data] true :=
  OpenClaim.laidByTextAt_later rfl rfl tie noOwnUnsafe
theorem fnBracketUpto_row_tie : Rows.fnBracketUptoRow.laidByTextAt .later Tryz.pinned [.data, .data, .data] true :=
  OpenClaim.laidByTextAt_later rfl rfl tie noOwnUnsafe
theorem fnNearestUpto_row_tie : Rows.fnNearestUptoRow.laidByTextAt .later Tryz.pinned [.data, .data, .data] true :=
  OpenClaim.laidByTextAt_later rfl rfl tie noOwnUnsafe
theorem fnAddRoundedUpto_row_tie : Rows.fnAddRoundedUptoRow.laidByTextAt .later Tryz.pinned [.data, .data, .handle, .data, .sentinel] true :=
  OpenClaim.laidByTextAt_later rfl rfl tie2 noOwnUnsafe
theorem fnAddTurnedUpto_row_tie : Rows.fnAddTurnedUptoRow.laidByTextAt .later Tryz.pinned [.data, .data, .handle, .data, .sentinel] true :=
  OpenClaim.laidByTextAt_later rfl rfl tie2 noOwnUnsafe
theorem fnMulRoundedUpto_row_tie : Rows.fnMulRoundedUptoRow.laidByTextAt .later Tryz.pinned [.data, .data, .handle, .data, .sentinel] true :=
  OpenClaim.laidByTextAt_later rfl rfl tie2 noOwnUnsafe
theorem fnNearSubUpto_row_tie : Rows.fnNearSubUptoRow.laidByTextAt .later Tryz.pinned [.data, .data, .handle, .data, .sentinel] true :=
  OpenClaim.laidByTextAt_later rfl rfl tie2 noOwnUnsafe
theorem fnScaledUpto_row_tie : Rows.fnScaledUptoRow.laidByTextAt .later Tryz.pinned [.data, .data, .handle, .data, .sentinel] true :=
  OpenClaim.laidByTextAt_later rfl rfl tie2 noOwnUnsafe
theorem fnSplitUpto_row_tie : Rows.fnSplitUptoRow.laidByTextAt .later Tryz.pinned [.data, .data, .handle, .data, .sentinel] true :=
  OpenClaim.laidByTextAt_later rfl rfl tie2 noOwnUnsafe
theorem fnFmaUpto_row_tie : Rows.fnFmaUptoRow.laidByTextAt .later Tryz.pinned [.data, .data, .handle, .data, .sentinel] true :=
  OpenClaim.laidByTextAt_later rfl rfl tie2 noOwnUnsafe
theorem fnIntsUpto_row_tie : Rows.fnIntsUptoRow.laidByTextAt .later Tryz.pinned [.data, .data, .handle, .data, .sentinel] true :=
  OpenClaim.laidByTextAt_later rfl rfl tie2 noOwnUnsafe
theorem fnExactFloatFmaUpto_row_tie : Rows.fnExactFloatFmaUptoRow.laidByTextAt .later Tryz.pinned [.data, .data, .handle, .data, .sentinel] true :=
  OpenClaim.laidByTextAt_later rfl rfl tie2 noOwnUnsafe
end Go.Proofs.YtbhfbaogmkgmiaaGreatDoor
