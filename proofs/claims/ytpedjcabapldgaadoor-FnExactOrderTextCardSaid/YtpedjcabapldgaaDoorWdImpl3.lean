/- Who is who: impl.peopleOf, has; where each individual is. -/
import Derived.Test.YtpedjcabapldgaaDoorWdSpec
namespace Go.Proofs.YtpedjcabapldgaaDoor
open Go.RowKit

def hasB (nx z : Int) : Bool := decide (0 ≤ z ∧ z < nx)

end Go.Proofs.YtpedjcabapldgaaDoor
