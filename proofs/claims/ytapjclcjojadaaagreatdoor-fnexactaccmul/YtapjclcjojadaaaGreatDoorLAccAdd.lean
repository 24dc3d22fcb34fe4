/-
  The walk of laws.FnExactAccAdd, out of contracts.
-/
import Derived.Test.YtapjclcjojadaaaGreatDoorAF
import Derived.Deep.RegionHeld3
namespace Go.Proofs.YtapjclcjojadaaaGreatDoor
set_option linter.unusedVariables false
set_option linter.unusedSimpArgs false
open Go.RowKit Go.Deep
namespace LAccAdd
attribute [local go_sem ↓] Go.wp_at_zero Go.wp_at_succ
end LAccAdd
end Go.Proofs.YtapjclcjojadaaaGreatDoor
