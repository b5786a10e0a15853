/- The model's look at a concept: for every concept in memory it answers what 'conOk' says. -/
import Derived.Test.YtpedjcabapldgaaDoorConMath
import Derived.BigQuiet
import Derived.RangeFuncRecord
namespace Go.Proofs.YtpedjcabapldgaaDoor
open Go.RowKit

def kidS (k : Int) : Int := if k = 0 ∨ k = 1 ∨ k = 2 then 0 else if k = 4 ∨ k = 5 then 2 else 1

theorem kidS_kidN {k : Int} (h0 : 0 ≤ k) (h7 : k ≤ 7) : kidS k = kidN k := by
  unfold kidS kidN
  by_cases h1 : k = 0 ∨ k = 1 ∨ k = 2
  · rw [if_pos h1, if_pos h1]
  · rw [if_neg h1, if_neg h1]
    by_cases h2 : k = 4 ∨ k = 5
    · rw [if_pos h2, if_neg (by omega), if_pos h2]
    · rw [if_neg h2, if_pos (by omega)]

theorem kidN_out {k : Int} (h : k < 0 ∨ 7 < k) : kidN k = -1 := by
  unfold kidN
  rw [if_neg (by omega), if_neg (by omega), if_neg (by omega)]

end Go.Proofs.YtpedjcabapldgaaDoor
