/- Several texts in one: GrFn, ClOk, GrImpl. -/
import Derived.Test.YtknainelonaigaaGreatDoorNCl
import Derived.Deep.DeepCutAuto
import Derived.Lib.Small
import Derived.Lib.Walk
namespace Go.Proofs.YtknainelonaigaaGreatDoor

section
open Go.RowKit

set_option maxHeartbeats 1000000 in
theorem l5part_any (p n : Int) (w : World) :
    Calls Tryz.prog 66 #[.agg #[.int .i64 p, .int .i64 n]] w fun e w' => e = .returned (.bool (partB p n)) ∧ Below w.heap.size w w' := by
  have HB0 : Hid (Below w.heap.size w (w.alloc (.cells #[.int .i64 p, .int .i64 n] 50))) := (Below.refl _ _).alloc (Nat.le_refl _) _
  go_enter Tryz.func66, Tryz.ntmps66
  go_wp2
  all_goals
    go_ret
    refine ⟨rb ?_, HB0.out⟩
    clear HB0
    rw [Bool.eq_iff_iff, partB_iff]
    simp
    omega

/-! ### The document's -/
end

section
open Go.RowKit

/-- What a kind of clause has. -/
def hasF (k : Int) : Bool := decide (k = 1) || decide (k = 2)
def hasR (k : Int) : Bool := decide (k = 2) || (decide (k = 3) || (decide (k = 4) || decide (k = 6)))
def hasU (k : Int) : Bool := decide (k = 4)
def hasX (k : Int) : Bool := decide (k = 0) || (decide (k = 1) || (decide (k = 2) || decide (k = 3)))
def hasY (k : Int) : Bool := decide (k = 1) || decide (k = 3)
def hasI (k : Int) : Bool := decide (k = 5)
def hasP (k : Int) : Bool := decide (k = 6)

def numB (n lim : Int) (wanted : Bool) : Bool := if wanted = true then decide (0 ≤ n ∧ n < lim) else decide (n = 0)
def parB (p n : Int) (wanted : Bool) : Bool := if wanted = true then partB p n else noneB p n
def indB (xs : List (Int × Int)) (wanted : Bool) : Bool := if wanted = true then decide (xs.length = 4) && xs.all (fun p => partB p.1 p.2) else decide (xs.length = 0)

def clauseB (k f r u xp xn yp yn : Int) (xs : List (Int × Int)) (a b : Int) : Bool :=
  decide (0 ≤ k ∧ k ≤ 6) && (numB f 12 (hasF k) && (numB r 3 (hasR k) && (numB u 3 (hasU k) && (numB a 4 (hasP k) && (numB b 4 (hasP k) && (parB xp xn (hasX k) && (parB yp yn (hasY k) && (indB xs (hasI k) && (!(decide (k = 1)) || !(noneB yp yn))))))))))

theorem none_part {p n : Int} (h : partB p n = false) : noneB p n = false := by
  rw [Bool.eq_false_iff] at h ⊢
  intro q
  apply h
  rw [noneB_iff] at q
  rw [partB_iff]
  omega

theorem parB_none {p n : Int} {c : Bool} (h : partB p n = false) : parB p n c = false := by
  unfold parB
  split
  · exact h
  · exact none_part h

theorem l5none_any (p n : Int) (w : World) :
    Calls Tryz.prog 67 #[.agg #[.int .i64 p, .int .i64 n]] w fun e w' => e = .returned (.bool (noneB p n)) ∧ Below w.heap.size w w' := by
  go_enter Tryz.func67, Tryz.ntmps67
  go_wp2
  all_goals
    go_ret
    refine ⟨rb ?_, (Below.refl _ _).alloc (Nat.le_refl _) _⟩
    rw [Bool.eq_iff_iff, noneB_iff]
    simp_all
end

section
open Go.RowKit

theorem atomsOk_any (m : Int) (w : World) : Calls Tryz.prog 118 #[.int .i64 m] w fun e w' => e = .returned (.bool (maskB m)) ∧ w' = w := by
  go_enter Tryz.func118, Tryz.ntmps118
  go_wp2
  all_goals
    go_ret
    refine ⟨rb ?_, rfl⟩
    rw [Bool.eq_iff_iff, maskB_iff]
    simp
    omega

theorem partOk_any (p n : Int) (w : World) :
    Calls Tryz.prog 101 #[.agg #[.int .i64 p, .int .i64 n]] w fun e w' => e = .returned (.bool (partB p n)) ∧ Below w.heap.size w w' := by
  obtain ⟨W, hW⟩ : ∃ W, W = w.alloc (.cells #[.int .i64 p, .int .i64 n] 50) := ⟨_, rfl⟩
  have HW : Hid (W = w.alloc (.cells #[.int .i64 p, .int .i64 n] 50)) := hW
  have HB0 : Hid (Below w.heap.size w W) := by rw [hW]; exact (Below.refl _ _).alloc (Nat.le_refl _) _
  have hbx : BoxP 50 W w.heap.size p n := by rw [hW]; exact BoxP.new _ w _ _
  obtain ⟨z0, z1⟩ := hbx.cells
  have HD : Hid (partB p n = (maskB p && maskB n)) := rfl
  clear hW hbx
  go_enter Tryz.func101, Tryz.ntmps101
  go_upto_region 1 with fail
  rw [← HW.out]
  go_wp2_with fail
  refine (atomsOk_any p W).mono ?_
  rintro e w' ⟨rfl, hw⟩
  rw [hw]
  clear hw
  obtain ⟨u, hu⟩ : ∃ u, u = maskB p := ⟨_, rfl⟩
  rw [← hu]
  have HU : Hid (u = maskB p) := hu
  clear hu
  cases u with
  | true =>
    go_wp2_with fail
    refine (atomsOk_any n W).mono ?_
    rintro e w' ⟨rfl, hw⟩
    rw [hw]
    clear hw
    go_wp2_with fail
    go_ret
    exact ⟨rb (by rw [HD.out, ← HU.out]; simp), HB0.out⟩
  | false =>
    go_wp2_with fail
    go_ret
    exact ⟨rb (by rw [HD.out, ← HU.out]; simp), HB0.out⟩
end

end Go.Proofs.YtknainelonaigaaGreatDoor
