/- What the program asks of a clause, piece by piece: a contract of each function. -/
import Derived.Test.YtpedjcabapldgaaDoorClOk
import Derived.Test.YtpedjcabapldgaaDoorGrImpl
import Derived.Deep.RegionWith
namespace Go.Proofs.YtpedjcabapldgaaDoor
open Go.RowKit

theorem numberFits_any (n lim : Int) (c : Bool) (w : World) : Calls Tryd.prog 42 #[.int .i64 n, .int .i64 lim, .bool c] w fun e w' => e = .returned (.bool (numB n lim c)) ∧ w' = w := by
  cases c with
  | true =>
    go_enter Tryd.func42, Tryd.ntmps42
    go_wp2
    all_goals
      go_ret
      refine ⟨rb ?_, rfl⟩
      rw [Bool.eq_iff_iff]
      simp [numB]
      omega
  | false =>
    go_enter Tryd.func42, Tryd.ntmps42
    go_wp2
    go_ret
    refine ⟨rb ?_, rfl⟩
    rw [Bool.eq_iff_iff]
    simp [numB]

end Go.Proofs.YtpedjcabapldgaaDoor
