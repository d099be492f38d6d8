/- What Make of package accountingref03 returns. -/
import Derived.Test.YtdeoplbdgbgimaaFrC
namespace Go.Proofs.Ytdeoplbdgbgimaa
open Go.RowKit Go.Sort
set_option linter.unusedVariables false

end Go.Proofs.Ytdeoplbdgbgimaa
