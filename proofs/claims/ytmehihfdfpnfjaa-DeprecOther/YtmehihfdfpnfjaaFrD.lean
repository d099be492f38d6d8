/- What Make of package accountingref03 returns. -/
import Derived.Test.YtmehihfdfpnfjaaFrC
namespace Go.Proofs.Ytmehihfdfpnfjaa
open Go.RowKit Go.Sort
set_option linter.unusedVariables false

end Go.Proofs.Ytmehihfdfpnfjaa
