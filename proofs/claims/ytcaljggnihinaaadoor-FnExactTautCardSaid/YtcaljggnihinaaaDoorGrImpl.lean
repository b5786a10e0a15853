/- The greatest literal of a part, as the program finds it: how many bits a number has, and what is behind it: a contract of each function. -/
import Derived.Test.YtcaljggnihinaaaDoorGrFn
import Derived.Lib.Small
import Derived.Lib.Walk
namespace Go.Proofs.YtcaljggnihinaaaDoor
open Go.RowKit

set_option maxHeartbeats 4000000 in
set_option maxRecDepth 100000 in
theorem len64_any (x : Int) (w : World) (h0 : 0 ≤ x) (h1 : x < 16777216) :
    Calls Tryd.prog 59 #[.int .u64 x] w fun e w' => e = .returned (.int .i64 (Lib.bitLen x.toNat)) ∧ w' = w := by
  rcases (by omega : x ≤ 255 ∨ (256 ≤ x ∧ x ≤ 65535) ∨ 65536 ≤ x) with h | h | h
  · have HE : Hid (Lib.len8 x = (Lib.bitLen x.toNat : Int)) := Lib.len8_of x h0 h
    have HL : Hid (Lib.bitLen x.toNat ≤ 8) := Lib.bitLen_le8' x h0 h
    go_enter Tryd.func59, Tryd.ntmps59
    go_wp2
    all_goals (go_ret; refine ⟨ri ?_, rfl⟩)
    rw [HE.out]
    have := HL.out
    unfold wrap64
    omega
  · have a0 : 0 ≤ x / 256 := by omega
    have a1 : x / 256 ≤ 255 := by omega
    have HE : Hid (Lib.len8 (x / 256) = (Lib.bitLen (x / 256).toNat : Int)) := Lib.len8_of _ a0 a1
    have HL : Hid (Lib.bitLen (x / 256).toNat ≤ 8 ∧ Lib.bitLen x.toNat = 8 + Lib.bitLen (x / 256).toNat) := by
      refine ⟨Lib.bitLen_le8' _ a0 a1, ?_⟩
      rw [Lib.bitLen_shift8 x.toNat (by omega) (by omega), show (x / 256).toNat = x.toNat / 256 from by omega]
    obtain ⟨h, h'⟩ := h
    go_enter Tryd.func59, Tryd.ntmps59
    go_wp2
    all_goals (go_ret; refine ⟨ri ?_, rfl⟩)
    rw [HE.out]
    have := HL.out
    unfold wrap64
    omega
  · have a0 : 0 ≤ x / 65536 := by omega
    have a1 : x / 65536 ≤ 255 := by omega
    have HE : Hid (Lib.len8 (x / 65536) = (Lib.bitLen (x / 65536).toNat : Int)) := Lib.len8_of _ a0 a1
    have HL : Hid (Lib.bitLen (x / 65536).toNat ≤ 8 ∧ Lib.bitLen x.toNat = 16 + Lib.bitLen (x / 65536).toNat) := by
      refine ⟨Lib.bitLen_le8' _ a0 a1, ?_⟩
      rw [Lib.bitLen_shift16 x.toNat (by omega) (by omega), show (x / 65536).toNat = x.toNat / 65536 from by omega]
    go_enter Tryd.func59, Tryd.ntmps59
    go_wp2
    all_goals (go_ret; refine ⟨ri ?_, rfl⟩)
    rw [HE.out]
    have := HL.out
    unfold wrap64
    omega

theorem atomsOk_any (m : Int) (w : World) : Calls Tryd.prog 51 #[.int .i64 m] w fun e w' => e = .returned (.bool (maskB m)) ∧ w' = w := by
  go_enter Tryd.func51, Tryd.ntmps51
  go_wp2
  all_goals
    go_ret
    refine ⟨rb ?_, rfl⟩
    rw [Bool.eq_iff_iff, maskB_iff]
    simp
    omega

theorem partOk_any (p n : Int) (w : World) :
    Calls Tryd.prog 45 #[.agg #[.int .i64 p, .int .i64 n]] w fun e w' => e = .returned (.bool (partB p n)) ∧ Below w.heap.size w w' := by
  obtain ⟨W, hW⟩ : ∃ W, W = w.alloc (.cells #[.int .i64 p, .int .i64 n] 29) := ⟨_, rfl⟩
  have HW : Hid (W = w.alloc (.cells #[.int .i64 p, .int .i64 n] 29)) := hW
  have HB0 : Hid (Below w.heap.size w W) := by rw [hW]; exact (Below.refl _ _).alloc (Nat.le_refl _) _
  have hbx : BoxP 29 W w.heap.size p n := by rw [hW]; exact BoxP.new _ w _ _
  obtain ⟨z0, z1⟩ := hbx.cells
  have HD : Hid (partB p n = (maskB p && maskB n)) := rfl
  clear hW hbx
  go_enter Tryd.func45, Tryd.ntmps45
  go_upto_region 1 with fail
  rw [← HW.out]
  go_wp2_with fail
  refine (atomsOk_any p W).mono ?_
  rintro e w' ⟨rfl, hw⟩
  rw [hw]
  clear hw
  obtain ⟨u, hu⟩ : ∃ u, u = maskB p := ⟨_, rfl⟩
  rw [← hu]
  have HU : Hid (u = maskB p) := hu
  clear hu
  cases u with
  | true =>
    go_wp2_with fail
    refine (atomsOk_any n W).mono ?_
    rintro e w' ⟨rfl, hw⟩
    rw [hw]
    clear hw
    go_wp2_with fail
    go_ret
    exact ⟨rb (by rw [HD.out, ← HU.out]; simp), HB0.out⟩
  | false =>
    go_wp2_with fail
    go_ret
    exact ⟨rb (by rw [HD.out, ← HU.out]; simp), HB0.out⟩

end Go.Proofs.YtcaljggnihinaaaDoor
