/- Holds of the specification and of the program. -/
import Derived.Test.YtfbokljbmihlbaaHoldS
import Derived.Test.YtfbokljbmihlbaaHoldH
import Derived.Test.YtfbokljbmihlbaaConOkImpl
import Derived.Test.YtfbokljbmihlbaaConSpec2
namespace Go.Proofs.Ytfbokljbmihlbaa
open Go.RowKit Go.Deep
set_option linter.unusedVariables false

def holdsB (x : WD) (c : CN) (z : Int) : Bool := worldB x && (conOk c && (hasB x.n z && holdC x x.n.toNat c z.toNat))


end Go.Proofs.Ytfbokljbmihlbaa
