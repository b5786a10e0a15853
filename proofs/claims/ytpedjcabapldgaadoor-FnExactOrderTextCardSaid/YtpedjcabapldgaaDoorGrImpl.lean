/- The greatest literal of a part, as the program finds it: how many bits a number has, and what is behind it: a contract of each function. -/
import Derived.Test.YtpedjcabapldgaaDoorGrFn
import Derived.Lib.Small
import Derived.Lib.Walk
namespace Go.Proofs.YtpedjcabapldgaaDoor
open Go.RowKit

set_option maxHeartbeats 4000000 in
set_option maxRecDepth 100000 in
theorem len64_any (x : Int) (w : World) (h0 : 0 ≤ x) (h1 : x < 16777216) :
    Calls Tryd.prog 58 #[.int .u64 x] w fun e w' => e = .returned (.int .i64 (Lib.bitLen x.toNat)) ∧ w' = w := by
  rcases (by omega : x ≤ 255 ∨ (256 ≤ x ∧ x ≤ 65535) ∨ 65536 ≤ x) with h | h | h
  · have HE : Hid (Lib.len8 x = (Lib.bitLen x.toNat : Int)) := Lib.len8_of x h0 h
    have HL : Hid (Lib.bitLen x.toNat ≤ 8) := Lib.bitLen_le8' x h0 h
    go_enter Tryd.func58, Tryd.ntmps58
    go_wp2
    all_goals (go_ret; refine ⟨ri ?_, rfl⟩)
    rw [HE.out]
    have := HL.out
    unfold wrap64
    omega
  · have a0 : 0 ≤ x / 256 := by omega
    have a1 : x / 256 ≤ 255 := by omega
    have HE : Hid (Lib.len8 (x / 256) = (Lib.bitLen (x / 256).toNat : Int)) := Lib.len8_of _ a0 a1
    have HL : Hid (Lib.bitLen (x / 256).toNat ≤ 8 ∧ Lib.bitLen x.toNat = 8 + Lib.bitLen (x / 256).toNat) := by
      refine ⟨Lib.bitLen_le8' _ a0 a1, ?_⟩
      rw [Lib.bitLen_shift8 x.toNat (by omega) (by omega), show (x / 256).toNat = x.toNat / 256 from by omega]
    obtain ⟨h, h'⟩ := h
    go_enter Tryd.func58, Tryd.ntmps58
    go_wp2
    all_goals (go_ret; refine ⟨ri ?_, rfl⟩)
    rw [HE.out]
    have := HL.out
    unfold wrap64
    omega
  · have a0 : 0 ≤ x / 65536 := by omega
    have a1 : x / 65536 ≤ 255 := by omega
    have HE : Hid (Lib.len8 (x / 65536) = (Lib.bitLen (x / 65536).toNat : Int)) := Lib.len8_of _ a0 a1
    have HL : Hid (Lib.bitLen (x / 65536).toNat ≤ 8 ∧ Lib.bitLen x.toNat = 16 + Lib.bitLen (x / 65536).toNat) := by
      refine ⟨Lib.bitLen_le8' _ a0 a1, ?_⟩
      rw [Lib.bitLen_shift16 x.toNat (by omega) (by omega), show (x / 65536).toNat = x.toNat / 65536 from by omega]
    go_enter Tryd.func58, Tryd.ntmps58
    go_wp2
    all_goals (go_ret; refine ⟨ri ?_, rfl⟩)
    rw [HE.out]
    have := HL.out
    unfold wrap64
    omega

end Go.Proofs.YtpedjcabapldgaaDoor
