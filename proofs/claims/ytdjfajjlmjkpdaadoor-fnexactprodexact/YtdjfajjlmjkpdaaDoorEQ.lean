/-
  What a sum lacks: by the specification.
-/
import Derived.Test.YtdjfajjlmjkpdaaDoorEO
import Derived.Deep.RegionHeld3
namespace Go.Proofs.YtdjfajjlmjkpdaaDoor
set_option linter.unusedVariables false
set_option linter.unusedSimpArgs false
open Go.RowKit Go.Deep
end Go.Proofs.YtdjfajjlmjkpdaaDoor
