/- The model's text of tokens: for every list of tokens it answers what 'tokText' says, in memory of its own. -/
import Derived.Test.YthojlfcahhjfaaaTTMath
import Derived.Deep.DeepCutAuto
namespace Go.Proofs.Ythojlfcahhjfaaa
open Go.RowKit

end Go.Proofs.Ythojlfcahhjfaaa
