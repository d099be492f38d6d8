/- What Make of package accountingref03 returns. -/
import Derived.Test.YtkpdbhpmnegahaaDoorFrC
namespace Go.Proofs.YtkpdbhpmnegahaaDoor
open Go.RowKit Go.Sort
set_option linter.unusedVariables false

end Go.Proofs.YtkpdbhpmnegahaaDoor
