/- The document's ClauseOk: a contract. -/
import Derived.Test.YtlhfecfpkelkdaaDoorClSpec0
import Derived.Test.YtlhfecfpkelkdaaDoorClSpec1
import Derived.Test.YtlhfecfpkelkdaaDoorClSpec2
import Derived.Test.YtlhfecfpkelkdaaDoorClSpec3
import Derived.Test.YtlhfecfpkelkdaaDoorClSpec4
import Derived.Test.YtlhfecfpkelkdaaDoorClSpec5
import Derived.Test.YtlhfecfpkelkdaaDoorClSpec6
namespace Go.Proofs.YtlhfecfpkelkdaaDoor
open Go.RowKit

set_option maxRecDepth 100000 in
set_option maxHeartbeats 1000000 in
theorem specClauseOk_any {k f r u xp xn yp yn : Int} {ia : Option Addr} {im ic : Nat} {a b : Int} {xs : List (Int × Int)} {w : World} {lo hi : Nat} (h : RP lo hi w ia im ic xs) (hhi : hi ≤ w.heap.size) :
    Calls Tryd.prog 17 #[.agg #[.int .i64 k, .int .i64 f, .int .i64 r, .int .i64 u, .int .i64 xp, .int .i64 xn, .int .i64 yp, .int .i64 yn, .slice ia im ic, .int .i64 a, .int .i64 b]] w fun e w' => e = .returned (.bool (clauseB k f r u xp xn yp yn xs a b)) ∧ Below w.heap.size w w' := by
  by_cases hk : 0 ≤ k ∧ k ≤ 6
  · rcases (by omega : k = 0 ∨ k = 1 ∨ k = 2 ∨ k = 3 ∨ k = 4 ∨ k = 5 ∨ k = 6) with rfl | rfl | rfl | rfl | rfl | rfl | rfl
    · exact specOk_0 h hhi
    · exact specOk_1 h hhi
    · exact specOk_2 h hhi
    · exact specOk_3 h hhi
    · exact specOk_4 h hhi
    · exact specOk_5 h hhi
    · exact specOk_6 h hhi
  · have HF : Hid (clauseB k f r u xp xn yp yn xs a b = false) := by simp only [Hid, clauseB, decide_eq_false hk, Bool.false_and]
    have HB0 : Hid (Below w.heap.size w (w.alloc (.cells #[.int .i64 k, .int .i64 f, .int .i64 r, .int .i64 u, .int .i64 xp, .int .i64 xn, .int .i64 yp, .int .i64 yn, .slice ia im ic, .int .i64 a, .int .i64 b] 32))) := (Below.refl _ _).alloc (Nat.le_refl _) _
    clear h
    by_cases h0 : k < 0
    · clear hk
      go_enter Tryd.func17, Tryd.ntmps17
      go_wp2_with fail
      go_ret
      exact ⟨rb HF.out.symm, HB0.out⟩
    · have h6 : 6 < k := by omega
      clear hk
      go_enter Tryd.func17, Tryd.ntmps17
      go_wp2_with fail
      go_ret
      exact ⟨rb HF.out.symm, HB0.out⟩

end Go.Proofs.YtlhfecfpkelkdaaDoor
