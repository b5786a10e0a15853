/- How much a slice of bytes holds: the laws' own count of it. -/
import Derived.Test.YtcaljggnihinaaaDoorBytes
namespace Go.Proofs.YtcaljggnihinaaaDoor
open Go.RowKit

/-- What is left, or -1. -/
def szRes (left : Int) (n : Nat) : Int := if left < n then -1 else left - n

end Go.Proofs.YtcaljggnihinaaaDoor
