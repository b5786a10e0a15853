/- The greatest literal of a part, as the program finds it: how many bits a number has, and what is behind it: a contract of each function. -/
import Derived.Test.YtbnhdhdldcbokaaGrFn
import Derived.Lib.Small
import Derived.Lib.Walk
namespace Go.Proofs.Ytbnhdhdldcbokaa
open Go.RowKit

set_option maxHeartbeats 4000000 in
set_option maxRecDepth 100000 in
theorem len64_any (x : Int) (w : World) (h0 : 0 ≤ x) (h1 : x < 16777216) :
    Calls Try.prog 49 #[.int .u64 x] w fun e w' => e = .returned (.int .i64 (Lib.bitLen x.toNat)) ∧ w' = w := by
  rcases (by omega : x ≤ 255 ∨ (256 ≤ x ∧ x ≤ 65535) ∨ 65536 ≤ x) with h | h | h
  · have HE : Hid (Lib.len8 x = (Lib.bitLen x.toNat : Int)) := Lib.len8_of x h0 h
    have HL : Hid (Lib.bitLen x.toNat ≤ 8) := Lib.bitLen_le8' x h0 h
    go_enter Try.func49, Try.ntmps49
    go_wp2
    all_goals (go_ret; refine ⟨ri ?_, rfl⟩)
    rw [HE.out]
    have := HL.out
    unfold wrap64
    omega
  · have a0 : 0 ≤ x / 256 := by omega
    have a1 : x / 256 ≤ 255 := by omega
    have HE : Hid (Lib.len8 (x / 256) = (Lib.bitLen (x / 256).toNat : Int)) := Lib.len8_of _ a0 a1
    have HL : Hid (Lib.bitLen (x / 256).toNat ≤ 8 ∧ Lib.bitLen x.toNat = 8 + Lib.bitLen (x / 256).toNat) := by
      refine ⟨Lib.bitLen_le8' _ a0 a1, ?_⟩
      rw [Lib.bitLen_shift8 x.toNat (by omega) (by omega), show (x / 256).toNat = x.toNat / 256 from by omega]
    obtain ⟨h, h'⟩ := h
    go_enter Try.func49, Try.ntmps49
    go_wp2
    all_goals (go_ret; refine ⟨ri ?_, rfl⟩)
    rw [HE.out]
    have := HL.out
    unfold wrap64
    omega
  · have a0 : 0 ≤ x / 65536 := by omega
    have a1 : x / 65536 ≤ 255 := by omega
    have HE : Hid (Lib.len8 (x / 65536) = (Lib.bitLen (x / 65536).toNat : Int)) := Lib.len8_of _ a0 a1
    have HL : Hid (Lib.bitLen (x / 65536).toNat ≤ 8 ∧ Lib.bitLen x.toNat = 16 + Lib.bitLen (x / 65536).toNat) := by
      refine ⟨Lib.bitLen_le8' _ a0 a1, ?_⟩
      rw [Lib.bitLen_shift16 x.toNat (by omega) (by omega), show (x / 65536).toNat = x.toNat / 65536 from by omega]
    go_enter Try.func49, Try.ntmps49
    go_wp2
    all_goals (go_ret; refine ⟨ri ?_, rfl⟩)
    rw [HE.out]
    have := HL.out
    unfold wrap64
    omega

theorem len_any (x : Int) (w : World) (h0 : 0 ≤ x) (h1 : x < 16777216) :
    Calls Try.prog 26 #[.int .u64 x] w fun e w' => e = .returned (.int .i64 (Lib.bitLen x.toNat)) ∧ w' = w := by
  go_enter Try.func26, Try.ntmps26
  go_wp2_with (go_at_call 49; refine (len64_any x _ h0 h1).mono ?_; rintro e w' ⟨rfl, rfl⟩)
  go_ret
  exact ⟨rfl, rfl⟩

theorem atomsOk_any (m : Int) (w : World) : Calls Try.prog 47 #[.int .i64 m] w fun e w' => e = .returned (.bool (maskB m)) ∧ w' = w := by
  go_enter Try.func47, Try.ntmps47
  go_wp2
  all_goals
    go_ret
    refine ⟨rb ?_, rfl⟩
    rw [Bool.eq_iff_iff, maskB_iff]
    simp
    omega

theorem partOk_any (p n : Int) (w : World) :
    Calls Try.prog 25 #[.agg #[.int .i64 p, .int .i64 n]] w fun e w' => e = .returned (.bool (partB p n)) ∧ Below w.heap.size w w' := by
  obtain ⟨W, hW⟩ : ∃ W, W = w.alloc (.cells #[.int .i64 p, .int .i64 n] 24) := ⟨_, rfl⟩
  have HW : Hid (W = w.alloc (.cells #[.int .i64 p, .int .i64 n] 24)) := hW
  have HB0 : Hid (Below w.heap.size w W) := by rw [hW]; exact (Below.refl _ _).alloc (Nat.le_refl _) _
  have hbx : BoxP 24 W w.heap.size p n := by rw [hW]; exact BoxP.new _ w _ _
  obtain ⟨z0, z1⟩ := hbx.cells
  have HD : Hid (partB p n = (maskB p && maskB n)) := rfl
  clear hW hbx
  go_enter Try.func25, Try.ntmps25
  go_upto_region 1 with fail
  rw [← HW.out]
  go_wp2_with fail
  refine (atomsOk_any p W).mono ?_
  rintro e w' ⟨rfl, hw⟩
  rw [hw]
  clear hw
  obtain ⟨u, hu⟩ : ∃ u, u = maskB p := ⟨_, rfl⟩
  rw [← hu]
  have HU : Hid (u = maskB p) := hu
  clear hu
  cases u with
  | true =>
    go_wp2_with fail
    refine (atomsOk_any n W).mono ?_
    rintro e w' ⟨rfl, hw⟩
    rw [hw]
    clear hw
    go_wp2_with fail
    go_ret
    exact ⟨rb (by rw [HD.out, ← HU.out]; simp), HB0.out⟩
  | false =>
    go_wp2_with fail
    go_ret
    exact ⟨rb (by rw [HD.out, ← HU.out]; simp), HB0.out⟩

set_option maxHeartbeats 1000000 in
set_option maxRecDepth 100000 in
theorem implGreatest_any (p n : Int) (w : World) :
    Calls Try.prog 9 #[.agg #[.int .i64 p, .int .i64 n]] w fun e w' => e = .returned (litV (greatest p n)) ∧ Below w.heap.size w w' := by
  obtain ⟨W, hW⟩ : ∃ W, W = w.alloc (.cells #[.int .i64 p, .int .i64 n] 24) := ⟨_, rfl⟩
  have HW : Hid (W = w.alloc (.cells #[.int .i64 p, .int .i64 n] 24)) := hW
  have hb0 : Below w.heap.size w W := by rw [hW]; exact (Below.refl _ _).alloc (Nat.le_refl _) _
  have HB0 : Hid (Below w.heap.size w W) := hb0
  have hs0 : w.heap.size < W.heap.size := by rw [hW]; simp
  have hbx : BoxP 24 W w.heap.size p n := by rw [hW]; exact BoxP.new _ w _ _
  have HX : Hid (BoxP 24 W w.heap.size p n) := hbx
  obtain ⟨z0, z1⟩ := hbx.cells
  have hbuild : ∀ V : World, (Instr.build 24 #[]).run Try.prog V = .ok (.agg #[.int .i64 0, .int .i64 0]) V := fun V => run_build V _ _ _ (by kernel_rfl)
  clear hW hbx hb0
  go_enter Try.func9, Try.ntmps9
  go_upto_region 1 with fail
  rw [← HW.out]
  go_wp2_with fail
  refine (partOk_any p n W).mono ?_
  rintro e w1 ⟨rfl, hb1⟩
  have H1 : Hid (Below w.heap.size w w1) := HB0.out.trans (hb1.mono HB0.out.size)
  have hx1 := HX.out.below hb1 hs0
  clear z0 z1
  obtain ⟨z0, z1⟩ := hx1.cells
  clear hx1 hb1
  by_cases h : partB p n = true
  · have HR : Hid (greatest p n = grF p.toNat n.toNat 24) := if_pos h
    have hq := partB_iff.1 h
    rw [h]
    clear h
    by_cases h0 : p = 0 ∧ n = 0
    · obtain ⟨rfl, rfl⟩ := h0
      have HRR : Hid (greatest 0 0 = (0, false, false)) := by unfold Hid; rw [HR.out]; exact grF_none
      clear hq HR
      go_wp2_with fail
      refine bodyPost_ret (v := .tuple #[.int .i64 0, .bool false, .bool false]) (by simp [results, Try.results9, go_sem]) rfl ⟨by rw [HRR.out]; rfl, H1.out⟩
    · have HF : Hid (∃ m l : Nat, bits .or .i64 p n = (m : Int) ∧ m < 16777216 ∧ Lib.bitLen m = l + 1 ∧ l < 24 ∧ (bits .and .i64 (n / 2 ^ l) 1 == 1) = n.toNat.testBit l ∧ greatest p n = ((l : Int), n.toNat.testBit l, true)) := by
        obtain ⟨a, rfl⟩ : ∃ a : Nat, p = (a : Int) := ⟨p.toNat, by omega⟩
        obtain ⟨c, rfl⟩ : ∃ c : Nat, n = (c : Int) := ⟨n.toNat, by omega⟩
        have ha : a < 16777216 := by omega
        have hc : c < 16777216 := by omega
        have hx : a ||| c < 2 ^ 24 := Nat.or_lt_two_pow (by omega) (by omega)
        have hx0 : a ||| c ≠ 0 := by
          intro h
          have q1 : a ≤ a ||| c := Nat.left_le_or
          have q2 : c ≤ a ||| c := Nat.right_le_or
          omega
        obtain ⟨l, e1, hl, q1, q2⟩ := bitLen_pos (a ||| c) hx0 (by omega)
        refine ⟨a ||| c, l, bits_or_nat a c ha hc, by omega, e1, hl, bit_at c l hc, ?_⟩
        rw [HR.out, Int.toNat_natCast, Int.toNat_natCast, grF_all a c ha hc hx0, e1]
        simp
      obtain ⟨m, l, hor, hm, hLen, hl, hbit, hgr⟩ := HF.out
      obtain ⟨tb, htb⟩ : ∃ tb, tb = n.toNat.testBit l := ⟨_, rfl⟩
      rw [← htb] at hbit hgr
      have HRR : Hid (greatest p n = ((l : Int), tb, true)) := hgr
      have HLen : Hid (Lib.bitLen m = l + 1) := hLen
      have heq : (p == 0) = false ∨ (p == 0) = true ∧ (n == 0) = false := by
        by_cases q : p = 0
        · right; refine ⟨by simp [q], ?_⟩; simp; intro h; exact h0 ⟨q, h⟩
        · left; simpa using q
      clear HR HF hLen htb hgr hq h0
      rcases heq with heq | ⟨heq, heq'⟩
      · go_upto_region 3 with fail
        go_wp2_with fail
        refine (len_any (m : Int) w1 (by omega) (by omega)).mono ?_
        rintro e w' ⟨rfl, hw⟩
        rw [hw, Int.toNat_natCast, HLen.out]
        clear hw
        go_wp2_with fail
        go_region
        all_goals
          go_wp2_with fail
          refine bodyPost_ret (v := .tuple #[.int .i64 l, .bool tb, .bool true]) (by simp [results, Try.results9, go_sem]) rfl ⟨by rw [HRR.out]; rfl, H1.out.drew⟩
      · go_upto_region 3 with fail
        go_wp2_with fail
        refine (len_any (m : Int) w1 (by omega) (by omega)).mono ?_
        rintro e w' ⟨rfl, hw⟩
        rw [hw, Int.toNat_natCast, HLen.out]
        clear hw
        go_wp2_with fail
        go_region
        all_goals
          go_wp2_with fail
          refine bodyPost_ret (v := .tuple #[.int .i64 l, .bool tb, .bool true]) (by simp [results, Try.results9, go_sem]) rfl ⟨by rw [HRR.out]; rfl, H1.out.drew⟩
  · have HR : Hid (greatest p n = (0, false, false)) := if_neg h
    have hf : partB p n = false := by simpa using h
    rw [hf]
    clear h hf
    go_wp2_with fail
    refine bodyPost_ret (v := .tuple #[.int .i64 0, .bool false, .bool false]) (by simp [results, Try.results9, go_sem]) rfl ⟨by rw [HR.out]; rfl, H1.out⟩

end Go.Proofs.Ytbnhdhdldcbokaa
