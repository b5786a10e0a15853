/- The greatest literal of a part, as the program finds it: how many bits a number has, and what is behind it: a contract of each function. -/
import Derived.Test.YtpedjcabapldgaaGrFn
import Derived.Lib.Small
import Derived.Lib.Walk
namespace Go.Proofs.Ytpedjcabapldgaa
open Go.RowKit

end Go.Proofs.Ytpedjcabapldgaa
