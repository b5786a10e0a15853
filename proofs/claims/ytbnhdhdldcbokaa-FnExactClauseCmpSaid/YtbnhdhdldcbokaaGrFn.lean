/- Parts: those that may be, the laws' copy of one; the greatest literal of a part: a contract of each function. -/
import Derived.Test.YtbnhdhdldcbokaaClMem
import Derived.Deep.DeepCutAuto
namespace Go.Proofs.Ytbnhdhdldcbokaa
open Go.RowKit

set_option maxHeartbeats 1000000 in
theorem l5part_any (p n : Int) (w : World) :
    Calls Try.prog 28 #[.agg #[.int .i64 p, .int .i64 n]] w fun e w' => e = .returned (.bool (partB p n)) ∧ Below w.heap.size w w' := by
  have HB0 : Hid (Below w.heap.size w (w.alloc (.cells #[.int .i64 p, .int .i64 n] 24))) := (Below.refl _ _).alloc (Nat.le_refl _) _
  go_enter Try.func28, Try.ntmps28
  go_wp2
  all_goals
    go_ret
    refine ⟨rb ?_, HB0.out⟩
    clear HB0
    rw [Bool.eq_iff_iff, partB_iff]
    simp
    omega

theorem toPart_any (p n : Int) (w : World) :
    Calls Try.prog 20 #[.agg #[.int .i64 p, .int .i64 n]] w fun e w' => e = .returned (.agg #[.int .i64 p, .int .i64 n]) ∧ Below w.heap.size w w' := by
  have HB0 : Hid (Below w.heap.size w (((w.alloc (.cells #[.int .i64 p, .int .i64 n] 29)).alloc (.cells #[.int .i64 p, .int .i64 n] 24)).alloc (.cells #[.int .i64 p, .int .i64 n] 24))) :=
    (((Below.refl _ _).alloc (Nat.le_refl _) _).alloc (by simp) _).alloc (by simp; omega) _
  go_enter Try.func20, Try.ntmps20
  go_wp2
  refine bodyPost_ret (v := .agg #[.int .i64 p, .int .i64 n]) (by simp [results, Try.results20, go_sem]) rfl ⟨rfl, HB0.out⟩

/-! ### The document's -/

/-- What a function that tells a literal answers. -/
def litV (r : Int × Bool × Bool) : Value := .tuple #[.int .i64 r.1, .bool r.2.1, .bool r.2.2]

set_option maxHeartbeats 1000000 in
theorem l5greatest_any (p n : Nat) (hp : p < 16777216) (hn : n < 16777216) (w : World) :
    Calls Try.prog 45 #[.agg #[.int .i64 p, .int .i64 n]] w fun e w' => e = .returned (litV (grF p n 24)) ∧ Below w.heap.size w w' := by
  obtain ⟨W, hW⟩ : ∃ W, W = w.alloc (.cells #[.int .i64 p, .int .i64 n] 24) := ⟨_, rfl⟩
  have HW : Hid (W = w.alloc (.cells #[.int .i64 p, .int .i64 n] 24)) := hW
  have HB0 : Hid (Below w.heap.size w W) := by rw [hW]; exact (Below.refl _ _).alloc (Nat.le_refl _) _
  have hbx : BoxP 24 W w.heap.size p n := by rw [hW]; exact BoxP.new _ w _ _
  obtain ⟨z0, z1⟩ := hbx.cells
  have HP : Hid (p < 16777216 ∧ n < 16777216) := ⟨hp, hn⟩
  clear hW hbx
  go_enter Try.func45, Try.ntmps45
  go_upto_region 1 with fail
  rw [← HW.out]
  go_wp2_with fail
  go_loop [5] (fun i => ∃ k : Nat, k ≤ 24 ∧ i = .int .i64 ((k : Int) - 1) ∧ grF p n 24 = grF p n k) (fun i => (intOf i + 1).toNat)
  case atStart => exact ⟨24, by omega, rfl, rfl⟩
  case round =>
    obtain ⟨k, hk, rfl, hg⟩ := hrel
    have HG : Hid (grF p n 24 = grF p n k) := hg
    clear hg
    cases k with
    | zero =>
      go_wp2_with fail
      refine bodyPost_ret (v := .tuple #[.int .i64 0, .bool false, .bool false]) (by simp [results, Try.results45, go_sem]) rfl ⟨by rw [HG.out]; rfl, HB0.out⟩
    | succ i =>
      have e1 : (((i + 1 : Nat) : Int) - 1) = (i : Int) := by omega
      rw [e1]
      have b1 := bit_at n i HP.out.2
      have b2 := bit_at p i HP.out.1
      by_cases h1 : n.testBit i = true
      · have HR : Hid (grF p n 24 = ((i : Int), true, true)) := by unfold Hid; rw [HG.out, grF, if_pos h1]
        rw [h1] at b1
        clear h1 b2 hp hn
        go_wp2_with fail
        refine bodyPost_ret (v := .tuple #[.int .i64 i, .bool true, .bool true]) (by simp [results, Try.results45, go_sem]) rfl ⟨by rw [HR.out]; rfl, HB0.out⟩
      · have f1 : n.testBit i = false := by simpa using h1
        rw [f1] at b1
        by_cases h2 : p.testBit i = true
        · have HR : Hid (grF p n 24 = ((i : Int), false, true)) := by unfold Hid; rw [HG.out, grF, if_neg h1, if_pos h2]
          rw [h2] at b2
          clear h1 h2 f1 hp hn
          go_wp2_with fail
          refine bodyPost_ret (v := .tuple #[.int .i64 i, .bool false, .bool true]) (by simp [results, Try.results45, go_sem]) rfl ⟨by rw [HR.out]; rfl, HB0.out⟩
        · have f2 : p.testBit i = false := by simpa using h2
          have HR : Hid (grF p n 24 = grF p n i) := by unfold Hid; rw [HG.out, grF, if_neg h1, if_neg h2]
          rw [f2] at b2
          clear h1 h2 f1 f2 hp hn
          go_wp2_with fail
          go_round
          case rel => exact ⟨i, by omega, rfl, HR.out⟩
          case measure => simp [intOf]

/-- The greatest literal of a part; nothing of what is none. -/
def greatest (p n : Int) : Int × Bool × Bool := if partB p n = true then grF p.toNat n.toNat 24 else (0, false, false)

set_option maxHeartbeats 1000000 in
theorem specGreatest_any (p n : Int) (w : World) :
    Calls Try.prog 19 #[.agg #[.int .i64 p, .int .i64 n]] w fun e w' => e = .returned (litV (greatest p n)) ∧ Below w.heap.size w w' := by
  obtain ⟨W, hW⟩ : ∃ W, W = w.alloc (.cells #[.int .i64 p, .int .i64 n] 24) := ⟨_, rfl⟩
  have HW : Hid (W = w.alloc (.cells #[.int .i64 p, .int .i64 n] 24)) := hW
  have hb0 : Below w.heap.size w W := by rw [hW]; exact (Below.refl _ _).alloc (Nat.le_refl _) _
  have HB0 : Hid (Below w.heap.size w W) := hb0
  have hs0 : w.heap.size < W.heap.size := by rw [hW]; simp
  have hbx : BoxP 24 W w.heap.size p n := by rw [hW]; exact BoxP.new _ w _ _
  have HX : Hid (BoxP 24 W w.heap.size p n) := hbx
  obtain ⟨z0, z1⟩ := hbx.cells
  clear hW hbx hb0
  go_enter Try.func19, Try.ntmps19
  go_upto_region 1 with fail
  rw [← HW.out]
  go_wp2_with fail
  refine (l5part_any p n W).mono ?_
  rintro e w1 ⟨rfl, hb1⟩
  have H1 : Hid (Below w.heap.size w w1) := HB0.out.trans (hb1.mono HB0.out.size)
  have hx1 := HX.out.below hb1 hs0
  clear z0 z1
  obtain ⟨z0, z1⟩ := hx1.cells
  clear hx1 hb1
  by_cases h : partB p n = true
  · have HR : Hid (greatest p n = grF p.toNat n.toNat 24) := if_pos h
    have hq := partB_iff.1 h
    rw [h]
    go_wp2_with fail
    have e1 : p = ((p.toNat : Nat) : Int) := by omega
    have e2 : n = ((n.toNat : Nat) : Int) := by omega
    rw [show (Value.agg #[Value.int IntKind.i64 p, Value.int IntKind.i64 n]) = .agg #[.int .i64 (p.toNat : Nat), .int .i64 (n.toNat : Nat)] from by rw [← e1, ← e2]]
    refine (l5greatest_any p.toNat n.toNat (by omega) (by omega) w1).mono ?_
    rintro e w2 ⟨rfl, hb2⟩
    have H2 : Hid (Below w.heap.size w w2) := H1.out.trans (hb2.mono H1.out.size)
    rw [← HR.out]
    clear e1 e2 hb2 hq h
    unfold litV
    go_wp2_with fail
    refine bodyPost_ret (v := .tuple #[.int .i64 (greatest p n).1, .bool (greatest p n).2.1, .bool (greatest p n).2.2]) (by simp [results, Try.results19, go_sem]) rfl ⟨rfl, H2.out⟩
  · have HR : Hid (greatest p n = (0, false, false)) := if_neg h
    have hf : partB p n = false := by simpa using h
    rw [hf]
    clear h hf
    go_wp2_with fail
    refine bodyPost_ret (v := .tuple #[.int .i64 0, .bool false, .bool false]) (by simp [results, Try.results19, go_sem]) rfl ⟨by rw [HR.out]; rfl, H1.out⟩

end Go.Proofs.Ytbnhdhdldcbokaa
