/- What Of of package accountingref04 returns. -/
import Derived.Test.YtkpdbhpmnegahaaDoorDyD
import Derived.Lib.QuietBelow
import Derived.IntWalk
namespace Go.Proofs.YtkpdbhpmnegahaaDoor
open Go.RowKit Go.Sort
set_option linter.unusedVariables false

end Go.Proofs.YtkpdbhpmnegahaaDoor
