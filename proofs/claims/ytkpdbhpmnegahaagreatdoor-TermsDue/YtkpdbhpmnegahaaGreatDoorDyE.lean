/- What Of of package accountingref04 returns. -/
import Derived.Test.YtkpdbhpmnegahaaGreatDoorDyD
import Derived.Lib.QuietBelow
import Derived.IntWalk
namespace Go.Proofs.YtkpdbhpmnegahaaGreatDoor
open Go.RowKit Go.Sort
set_option linter.unusedVariables false

end Go.Proofs.YtkpdbhpmnegahaaGreatDoor
