/- Parts: those that may be, the laws' copy of one; the greatest literal of a part: a contract of each function. -/
import Derived.Test.YtcaljggnihinaaaDoorClMem
import Derived.Deep.DeepCutAuto
namespace Go.Proofs.YtcaljggnihinaaaDoor
open Go.RowKit

set_option maxHeartbeats 1000000 in
theorem l5part_any (p n : Int) (w : World) :
    Calls Tryd.prog 31 #[.agg #[.int .i64 p, .int .i64 n]] w fun e w' => e = .returned (.bool (partB p n)) ∧ Below w.heap.size w w' := by
  have HB0 : Hid (Below w.heap.size w (w.alloc (.cells #[.int .i64 p, .int .i64 n] 29))) := (Below.refl _ _).alloc (Nat.le_refl _) _
  go_enter Tryd.func31, Tryd.ntmps31
  go_wp2
  all_goals
    go_ret
    refine ⟨rb ?_, HB0.out⟩
    clear HB0
    rw [Bool.eq_iff_iff, partB_iff]
    simp
    omega

theorem toPart_any (p n : Int) (w : World) :
    Calls Tryd.prog 19 #[.agg #[.int .i64 p, .int .i64 n]] w fun e w' => e = .returned (.agg #[.int .i64 p, .int .i64 n]) ∧ Below w.heap.size w w' := by
  have HB0 : Hid (Below w.heap.size w (((w.alloc (.cells #[.int .i64 p, .int .i64 n] 23)).alloc (.cells #[.int .i64 p, .int .i64 n] 29)).alloc (.cells #[.int .i64 p, .int .i64 n] 29))) :=
    (((Below.refl _ _).alloc (Nat.le_refl _) _).alloc (by simp) _).alloc (by simp; omega) _
  go_enter Tryd.func19, Tryd.ntmps19
  go_wp2
  refine bodyPost_ret (v := .agg #[.int .i64 p, .int .i64 n]) (by simp [results, Tryd.results19, go_sem]) rfl ⟨rfl, HB0.out⟩

/-! ### The document's -/

/-- What a function that tells a literal answers. -/
def litV (r : Int × Bool × Bool) : Value := .tuple #[.int .i64 r.1, .bool r.2.1, .bool r.2.2]

/-- The greatest literal of a part; nothing of what is none. -/
def greatest (p n : Int) : Int × Bool × Bool := if partB p n = true then grF p.toNat n.toNat 24 else (0, false, false)

end Go.Proofs.YtcaljggnihinaaaDoor
