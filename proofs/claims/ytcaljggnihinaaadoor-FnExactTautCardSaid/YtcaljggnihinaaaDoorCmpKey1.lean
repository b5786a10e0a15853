/- Two rows of numbers compared, as the library does it; the numbers of a clause in an array, as the program lays them: a contract of each function. -/
import Derived.Test.YtcaljggnihinaaaDoorClBoxM
import Derived.Test.YtcaljggnihinaaaDoorCmpNum2
import Derived.Deep.RegionWith
namespace Go.Proofs.YtcaljggnihinaaaDoor
open Go.RowKit

def sgn (x y : Int) : Int := if x < y then -1 else if y < x then 1 else 0

end Go.Proofs.YtcaljggnihinaaaDoor
