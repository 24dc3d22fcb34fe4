/-
  What a sum lacks: by the program.
-/
import Derived.Test.YtdjfajjlmjkpdaaDoorEO
namespace Go.Proofs.YtdjfajjlmjkpdaaDoor
set_option linter.unusedVariables false
set_option linter.unusedSimpArgs false
open Go.RowKit Go.Deep
end Go.Proofs.YtdjfajjlmjkpdaaDoor
