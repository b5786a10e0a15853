/- Two rows of parts held against each other; two rows of numbers. -/
import Derived.Test.YtcaljggnihinaaaDoorClImpl1
import Derived.ChangeKeysEq
namespace Go.Proofs.YtcaljggnihinaaaDoor
open Go.RowKit

set_option maxRecDepth 100000 in
set_option maxHeartbeats 2000000 in
theorem eq_parts (n0 n1 n2 n3 n4 n5 n6 n7 n8 n9 n10 n11 m0 m1 m2 m3 m4 m5 m6 m7 m8 m9 m10 m11 : Int) (w : World) :
    (binOp .eql 68 (.agg #[.int .i64 n0, .int .i64 n1, .int .i64 n2, .int .i64 n3, .int .i64 n4, .int .i64 n5, .int .i64 n6, .int .i64 n7, .int .i64 n8, .int .i64 n9, .int .i64 n10, .int .i64 n11]) (.agg #[.int .i64 m0, .int .i64 m1, .int .i64 m2, .int .i64 m3, .int .i64 m4, .int .i64 m5, .int .i64 m6, .int .i64 m7, .int .i64 m8, .int .i64 m9, .int .i64 m10, .int .i64 m11])).run Tryd.prog w =
      .ok (.bool (decide (((n0 = m0 ∧ n1 = m1) ∧ (n2 = m2 ∧ n3 = m3)) ∧ ((n4 = m4 ∧ n5 = m5) ∧ (n6 = m6 ∧ n7 = m7)) ∧ ((n8 = m8 ∧ n9 = m9) ∧ (n10 = m10 ∧ n11 = m11))))) w := by
  obtain ⟨i, hi⟩ := info_of_underlying Tryd.underlying29
  have hc : Tryd.prog.cellsOf 29 = 2 := by kernel_rfl
  rw [run_eql_struct, run_equalIn_array w 9999 _ _ Tryd.underlying68 hi, hc]
  simp only [show List.range 6 = [0, 1, 2, 3, 4, 5] from rfl, Op.eqItems]
  go_simp
  repeat' split
  all_goals simp_all

set_option maxRecDepth 100000 in
set_option maxHeartbeats 2000000 in
theorem eq_head (n0 n1 n2 n3 n4 n5 m0 m1 m2 m3 m4 m5 : Int) (w : World) :
    (binOp .eql 74 (.agg #[.int .i64 n0, .int .i64 n1, .int .i64 n2, .int .i64 n3, .int .i64 n4, .int .i64 n5]) (.agg #[.int .i64 m0, .int .i64 m1, .int .i64 m2, .int .i64 m3, .int .i64 m4, .int .i64 m5])).run Tryd.prog w =
      .ok (.bool (decide ((n0 = m0 ∧ n1 = m1) ∧ (n2 = m2 ∧ n3 = m3) ∧ (n4 = m4 ∧ n5 = m5)))) w := by
  obtain ⟨i, hi⟩ := info_of_underlying Tryd.underlying3
  have hc : Tryd.prog.cellsOf 3 = 1 := by kernel_rfl
  rw [run_eql_struct, run_equalIn_array w 9999 _ _ Tryd.underlying74 hi, hc]
  simp only [show List.range 6 = [0, 1, 2, 3, 4, 5] from rfl, Op.eqItems]
  go_simp
  repeat' split
  all_goals simp_all

end Go.Proofs.YtcaljggnihinaaaDoor
