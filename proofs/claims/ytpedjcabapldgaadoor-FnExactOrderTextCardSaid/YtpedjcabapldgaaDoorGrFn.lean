/- Parts: those that may be, the laws' copy of one; the greatest literal of a part: a contract of each function. -/
import Derived.Test.YtpedjcabapldgaaDoorClMem
import Derived.Deep.DeepCutAuto
namespace Go.Proofs.YtpedjcabapldgaaDoor
open Go.RowKit

/-! ### The document's -/

/-- What a function that tells a literal answers. -/
def litV (r : Int × Bool × Bool) : Value := .tuple #[.int .i64 r.1, .bool r.2.1, .bool r.2.2]

/-- The greatest literal of a part; nothing of what is none. -/
def greatest (p n : Int) : Int × Bool × Bool := if partB p n = true then grF p.toNat n.toNat 24 else (0, false, false)

end Go.Proofs.YtpedjcabapldgaaDoor
