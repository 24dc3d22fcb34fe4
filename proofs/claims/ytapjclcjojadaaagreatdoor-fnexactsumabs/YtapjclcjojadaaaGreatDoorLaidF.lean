/-
  The package's variables, as the row's list tells them: the tables of math/bits, the formats' sizes, the error for a quiet NaN, package errors' handle of the type error.
-/
import Derived.Test.YtapjclcjojadaaaGreatDoorLaidE
import Derived.Test.YtapjclcjojadaaaGreatDoorG25
import Derived.Test.YtapjclcjojadaaaGreatDoorNO
namespace Go.Proofs.YtapjclcjojadaaaGreatDoor
set_option linter.unusedVariables false
set_option linter.unusedSimpArgs false
namespace Ld
open Go.RowKit Go.Deep Go.ChangeShapes Go.WideShapes Go.ChangeAt Go.Joins
set_option maxRecDepth 100000 in
theorem all3 {W : World} (h : laidMetH Tryz.prog [("math/bits.deBruijn32tab", Rows.laid_math_bits_deBruijn32tab), ("math/bits.deBruijn64tab", Rows.laid_math_bits_deBruijn64tab), ("errors.errorType", Rows.laid_errors_errorType), ("loop.example/g00672/impl.formSizes", Rows.laid_loop_example_g00672_impl_formSizes), ("loop.example/g00672/impl.errQuiet", Rows.laid_loop_example_g00672_impl_errQuiet)] W) : EX3 W := by
  have h' : laidMet Tryz.prog [("math/bits.deBruijn32tab", Rows.laid_math_bits_deBruijn32tab), ("math/bits.deBruijn64tab", Rows.laid_math_bits_deBruijn64tab), ("loop.example/g00672/impl.formSizes", Rows.laid_loop_example_g00672_impl_formSizes), ("loop.example/g00672/impl.errQuiet", Rows.laid_loop_example_g00672_impl_errQuiet)] W ∧ handlesMet Tryz.prog [("errors.errorType", Rows.laid_errors_errorType)] W := h
  have h1 := h'.1.filter (fun x => x.1 == "loop.example/g00672/impl.formSizes")
  have h2 := h'.1.filter (fun x => x.1 == "loop.example/g00672/impl.errQuiet")
  have h3 := h'.1.filter (fun x => x.1 == "math/bits.deBruijn64tab")
  have h4 := h'.1.filter (fun x => x.1 == "math/bits.deBruijn32tab")
  obtain ⟨u, hu⟩ := quiet h2
  exact ⟨u, ⟨⟨⟨table h1, tb64 h3⟩, tb32 h4⟩, handle h'.2 (List.mem_singleton.2 rfl), hu⟩⟩
end Ld
end Go.Proofs.YtapjclcjojadaaaGreatDoor
