/- What Add, Sub, Neg and Near of the packages num and accountingref01 return, for all integers of 64 bits. -/
import Derived.Test.YtenhnnfemehbcaaSpec
import Derived.Test.YtenhnnfemehbcaaChecked
import Derived.WalkKit
import Derived.Lib.Hide
import Derived.WalkSpells
import Derived.WalkLawsBesides
namespace Go.Proofs.Ytenhnnfemehbcaa
open Go.RowKit

/-- n, brought into the range from l to h. -/
def nearTo (n l h : Int) : Int := if n < l then l else if h < n then h else n

end Go.Proofs.Ytenhnnfemehbcaa
