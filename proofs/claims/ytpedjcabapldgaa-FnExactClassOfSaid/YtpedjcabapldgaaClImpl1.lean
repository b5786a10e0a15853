/- What the program asks of a clause, piece by piece: a contract of each function. -/
import Derived.Test.YtpedjcabapldgaaClOk
import Derived.Test.YtpedjcabapldgaaGrImpl
import Derived.Deep.RegionWith
namespace Go.Proofs.Ytpedjcabapldgaa
open Go.RowKit

theorem numberFits_any (n lim : Int) (c : Bool) (w : World) : Calls Try.prog 32 #[.int .i64 n, .int .i64 lim, .bool c] w fun e w' => e = .returned (.bool (numB n lim c)) ∧ w' = w := by
  cases c with
  | true =>
    go_enter Try.func32, Try.ntmps32
    go_wp2
    all_goals
      go_ret
      refine ⟨rb ?_, rfl⟩
      rw [Bool.eq_iff_iff]
      simp [numB]
      omega
  | false =>
    go_enter Try.func32, Try.ntmps32
    go_wp2
    go_ret
    refine ⟨rb ?_, rfl⟩
    rw [Bool.eq_iff_iff]
    simp [numB]

end Go.Proofs.Ytpedjcabapldgaa
