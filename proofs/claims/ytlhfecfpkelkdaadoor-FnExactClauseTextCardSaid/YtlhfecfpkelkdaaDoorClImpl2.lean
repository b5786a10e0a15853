/- What a kind of clause has, as the program tells it. -/
import Derived.Test.YtlhfecfpkelkdaaDoorNGr
import Derived.Deep.DeepCutAuto
namespace Go.Proofs.YtlhfecfpkelkdaaDoor
open Go.RowKit

/-- The word of a kind. -/
def wordK (k : Int) : ByteArray := if k = 0 then ⟨#[111, 110, 101]⟩ else if k = 1 then ⟨#[110, 101, 120, 116]⟩ else if k = 2 then ⟨#[101, 100, 103, 101]⟩ else if k = 3 then ⟨#[97, 108, 108]⟩ else if k = 4 then ⟨#[114, 111, 108, 101]⟩ else if k = 5 then ⟨#[102, 97, 99, 116]⟩ else if k = 6 then ⟨#[112, 97, 105, 114]⟩ else ⟨#[]⟩
/-- Is it a kind? -/
def knownK (k : Int) : Bool := decide (0 ≤ k ∧ k ≤ 6)

def shapeV (k : Int) : Array Value := #[.string (wordK k), .bool (hasF k), .bool (hasR k), .bool (hasU k), .bool (hasX k), .bool (hasY k), .bool (hasI k), .bool (hasP k)]

set_option maxRecDepth 100000 in
set_option maxHeartbeats 1000000 in
theorem shapeOf_0 (w : World) : Calls Tryd.prog 27 #[.int .i64 0] w fun e w' => e = .returned (.tuple #[.agg (shapeV 0), .bool true]) ∧ Below w.heap.size w w' := by
  have hbuild : ∀ V : World, (Instr.build 56 #[(0, .string ⟨#[111, 110, 101]⟩), (4, .bool true)]).run Tryd.prog V = .ok (.agg #[.string ⟨#[111, 110, 101]⟩, .bool false, .bool false, .bool false, .bool true, .bool false, .bool false, .bool false]) V := fun V => run_build V _ _ _ (by kernel_rfl)
  have HV : Hid (shapeV 0 = #[.string ⟨#[111, 110, 101]⟩, .bool false, .bool false, .bool false, .bool true, .bool false, .bool false, .bool false]) := by unfold Hid; simp [shapeV, wordK, hasF, hasR, hasU, hasX, hasY, hasI, hasP]
  have HB0 : Hid (Below w.heap.size w (w.alloc (.cells #[.string ⟨#[111, 110, 101]⟩, .bool false, .bool false, .bool false, .bool true, .bool false, .bool false, .bool false] 56))) := (Below.refl _ _).alloc (Nat.le_refl _) _
  go_enter Tryd.func27, Tryd.ntmps27
  go_wp2_with fail
  refine bodyPost_ret (v := .tuple #[.agg #[.string ⟨#[111, 110, 101]⟩, .bool false, .bool false, .bool false, .bool true, .bool false, .bool false, .bool false], .bool true]) (by simp [results, Tryd.results27, go_sem]) rfl ⟨by rw [HV.out], HB0.out⟩

set_option maxRecDepth 100000 in
set_option maxHeartbeats 1000000 in
theorem shapeOf_1 (w : World) : Calls Tryd.prog 27 #[.int .i64 1] w fun e w' => e = .returned (.tuple #[.agg (shapeV 1), .bool true]) ∧ Below w.heap.size w w' := by
  have hbuild : ∀ V : World, (Instr.build 56 #[(0, .string ⟨#[110, 101, 120, 116]⟩), (1, .bool true), (4, .bool true), (5, .bool true)]).run Tryd.prog V = .ok (.agg #[.string ⟨#[110, 101, 120, 116]⟩, .bool true, .bool false, .bool false, .bool true, .bool true, .bool false, .bool false]) V := fun V => run_build V _ _ _ (by kernel_rfl)
  have HV : Hid (shapeV 1 = #[.string ⟨#[110, 101, 120, 116]⟩, .bool true, .bool false, .bool false, .bool true, .bool true, .bool false, .bool false]) := by unfold Hid; simp [shapeV, wordK, hasF, hasR, hasU, hasX, hasY, hasI, hasP]
  have HB0 : Hid (Below w.heap.size w (w.alloc (.cells #[.string ⟨#[110, 101, 120, 116]⟩, .bool true, .bool false, .bool false, .bool true, .bool true, .bool false, .bool false] 56))) := (Below.refl _ _).alloc (Nat.le_refl _) _
  go_enter Tryd.func27, Tryd.ntmps27
  go_wp2_with fail
  refine bodyPost_ret (v := .tuple #[.agg #[.string ⟨#[110, 101, 120, 116]⟩, .bool true, .bool false, .bool false, .bool true, .bool true, .bool false, .bool false], .bool true]) (by simp [results, Tryd.results27, go_sem]) rfl ⟨by rw [HV.out], HB0.out⟩

set_option maxRecDepth 100000 in
set_option maxHeartbeats 1000000 in
theorem shapeOf_2 (w : World) : Calls Tryd.prog 27 #[.int .i64 2] w fun e w' => e = .returned (.tuple #[.agg (shapeV 2), .bool true]) ∧ Below w.heap.size w w' := by
  have hbuild : ∀ V : World, (Instr.build 56 #[(0, .string ⟨#[101, 100, 103, 101]⟩), (1, .bool true), (2, .bool true), (4, .bool true)]).run Tryd.prog V = .ok (.agg #[.string ⟨#[101, 100, 103, 101]⟩, .bool true, .bool true, .bool false, .bool true, .bool false, .bool false, .bool false]) V := fun V => run_build V _ _ _ (by kernel_rfl)
  have HV : Hid (shapeV 2 = #[.string ⟨#[101, 100, 103, 101]⟩, .bool true, .bool true, .bool false, .bool true, .bool false, .bool false, .bool false]) := by unfold Hid; simp [shapeV, wordK, hasF, hasR, hasU, hasX, hasY, hasI, hasP]
  have HB0 : Hid (Below w.heap.size w (w.alloc (.cells #[.string ⟨#[101, 100, 103, 101]⟩, .bool true, .bool true, .bool false, .bool true, .bool false, .bool false, .bool false] 56))) := (Below.refl _ _).alloc (Nat.le_refl _) _
  go_enter Tryd.func27, Tryd.ntmps27
  go_wp2_with fail
  refine bodyPost_ret (v := .tuple #[.agg #[.string ⟨#[101, 100, 103, 101]⟩, .bool true, .bool true, .bool false, .bool true, .bool false, .bool false, .bool false], .bool true]) (by simp [results, Tryd.results27, go_sem]) rfl ⟨by rw [HV.out], HB0.out⟩

set_option maxRecDepth 100000 in
set_option maxHeartbeats 1000000 in
theorem shapeOf_3 (w : World) : Calls Tryd.prog 27 #[.int .i64 3] w fun e w' => e = .returned (.tuple #[.agg (shapeV 3), .bool true]) ∧ Below w.heap.size w w' := by
  have hbuild : ∀ V : World, (Instr.build 56 #[(0, .string ⟨#[97, 108, 108]⟩), (2, .bool true), (4, .bool true), (5, .bool true)]).run Tryd.prog V = .ok (.agg #[.string ⟨#[97, 108, 108]⟩, .bool false, .bool true, .bool false, .bool true, .bool true, .bool false, .bool false]) V := fun V => run_build V _ _ _ (by kernel_rfl)
  have HV : Hid (shapeV 3 = #[.string ⟨#[97, 108, 108]⟩, .bool false, .bool true, .bool false, .bool true, .bool true, .bool false, .bool false]) := by unfold Hid; simp [shapeV, wordK, hasF, hasR, hasU, hasX, hasY, hasI, hasP]
  have HB0 : Hid (Below w.heap.size w (w.alloc (.cells #[.string ⟨#[97, 108, 108]⟩, .bool false, .bool true, .bool false, .bool true, .bool true, .bool false, .bool false] 56))) := (Below.refl _ _).alloc (Nat.le_refl _) _
  go_enter Tryd.func27, Tryd.ntmps27
  go_wp2_with fail
  refine bodyPost_ret (v := .tuple #[.agg #[.string ⟨#[97, 108, 108]⟩, .bool false, .bool true, .bool false, .bool true, .bool true, .bool false, .bool false], .bool true]) (by simp [results, Tryd.results27, go_sem]) rfl ⟨by rw [HV.out], HB0.out⟩

set_option maxRecDepth 100000 in
set_option maxHeartbeats 1000000 in
theorem shapeOf_4 (w : World) : Calls Tryd.prog 27 #[.int .i64 4] w fun e w' => e = .returned (.tuple #[.agg (shapeV 4), .bool true]) ∧ Below w.heap.size w w' := by
  have hbuild : ∀ V : World, (Instr.build 56 #[(0, .string ⟨#[114, 111, 108, 101]⟩), (2, .bool true), (3, .bool true)]).run Tryd.prog V = .ok (.agg #[.string ⟨#[114, 111, 108, 101]⟩, .bool false, .bool true, .bool true, .bool false, .bool false, .bool false, .bool false]) V := fun V => run_build V _ _ _ (by kernel_rfl)
  have HV : Hid (shapeV 4 = #[.string ⟨#[114, 111, 108, 101]⟩, .bool false, .bool true, .bool true, .bool false, .bool false, .bool false, .bool false]) := by unfold Hid; simp [shapeV, wordK, hasF, hasR, hasU, hasX, hasY, hasI, hasP]
  have HB0 : Hid (Below w.heap.size w (w.alloc (.cells #[.string ⟨#[114, 111, 108, 101]⟩, .bool false, .bool true, .bool true, .bool false, .bool false, .bool false, .bool false] 56))) := (Below.refl _ _).alloc (Nat.le_refl _) _
  go_enter Tryd.func27, Tryd.ntmps27
  go_wp2_with fail
  refine bodyPost_ret (v := .tuple #[.agg #[.string ⟨#[114, 111, 108, 101]⟩, .bool false, .bool true, .bool true, .bool false, .bool false, .bool false, .bool false], .bool true]) (by simp [results, Tryd.results27, go_sem]) rfl ⟨by rw [HV.out], HB0.out⟩

set_option maxRecDepth 100000 in
set_option maxHeartbeats 1000000 in
theorem shapeOf_5 (w : World) : Calls Tryd.prog 27 #[.int .i64 5] w fun e w' => e = .returned (.tuple #[.agg (shapeV 5), .bool true]) ∧ Below w.heap.size w w' := by
  have hbuild : ∀ V : World, (Instr.build 56 #[(0, .string ⟨#[102, 97, 99, 116]⟩), (6, .bool true)]).run Tryd.prog V = .ok (.agg #[.string ⟨#[102, 97, 99, 116]⟩, .bool false, .bool false, .bool false, .bool false, .bool false, .bool true, .bool false]) V := fun V => run_build V _ _ _ (by kernel_rfl)
  have HV : Hid (shapeV 5 = #[.string ⟨#[102, 97, 99, 116]⟩, .bool false, .bool false, .bool false, .bool false, .bool false, .bool true, .bool false]) := by unfold Hid; simp [shapeV, wordK, hasF, hasR, hasU, hasX, hasY, hasI, hasP]
  have HB0 : Hid (Below w.heap.size w (w.alloc (.cells #[.string ⟨#[102, 97, 99, 116]⟩, .bool false, .bool false, .bool false, .bool false, .bool false, .bool true, .bool false] 56))) := (Below.refl _ _).alloc (Nat.le_refl _) _
  go_enter Tryd.func27, Tryd.ntmps27
  go_wp2_with fail
  refine bodyPost_ret (v := .tuple #[.agg #[.string ⟨#[102, 97, 99, 116]⟩, .bool false, .bool false, .bool false, .bool false, .bool false, .bool true, .bool false], .bool true]) (by simp [results, Tryd.results27, go_sem]) rfl ⟨by rw [HV.out], HB0.out⟩

set_option maxRecDepth 100000 in
set_option maxHeartbeats 1000000 in
theorem shapeOf_6 (w : World) : Calls Tryd.prog 27 #[.int .i64 6] w fun e w' => e = .returned (.tuple #[.agg (shapeV 6), .bool true]) ∧ Below w.heap.size w w' := by
  have hbuild : ∀ V : World, (Instr.build 56 #[(0, .string ⟨#[112, 97, 105, 114]⟩), (2, .bool true), (7, .bool true)]).run Tryd.prog V = .ok (.agg #[.string ⟨#[112, 97, 105, 114]⟩, .bool false, .bool true, .bool false, .bool false, .bool false, .bool false, .bool true]) V := fun V => run_build V _ _ _ (by kernel_rfl)
  have HV : Hid (shapeV 6 = #[.string ⟨#[112, 97, 105, 114]⟩, .bool false, .bool true, .bool false, .bool false, .bool false, .bool false, .bool true]) := by unfold Hid; simp [shapeV, wordK, hasF, hasR, hasU, hasX, hasY, hasI, hasP]
  have HB0 : Hid (Below w.heap.size w (w.alloc (.cells #[.string ⟨#[112, 97, 105, 114]⟩, .bool false, .bool true, .bool false, .bool false, .bool false, .bool false, .bool true] 56))) := (Below.refl _ _).alloc (Nat.le_refl _) _
  go_enter Tryd.func27, Tryd.ntmps27
  go_wp2_with fail
  refine bodyPost_ret (v := .tuple #[.agg #[.string ⟨#[112, 97, 105, 114]⟩, .bool false, .bool true, .bool false, .bool false, .bool false, .bool false, .bool true], .bool true]) (by simp [results, Tryd.results27, go_sem]) rfl ⟨by rw [HV.out], HB0.out⟩

set_option maxRecDepth 100000 in
set_option maxHeartbeats 1000000 in
theorem shapeOf_none {k : Int} (h : ¬ (0 ≤ k ∧ k ≤ 6)) (w : World) : Calls Tryd.prog 27 #[.int .i64 k] w fun e w' => e = .returned (.tuple #[.agg (shapeV k), .bool false]) ∧ Below w.heap.size w w' := by
  have hbuild : ∀ V : World, (Instr.build 56 #[]).run Tryd.prog V = .ok (.agg #[.string ⟨#[]⟩, .bool false, .bool false, .bool false, .bool false, .bool false, .bool false, .bool false]) V := fun V => run_build V _ _ _ (by kernel_rfl)
  have n0 : (k == 0) = false := by simp; omega
  have n1 : (k == 1) = false := by simp; omega
  have n2 : (k == 2) = false := by simp; omega
  have n3 : (k == 3) = false := by simp; omega
  have n4 : (k == 4) = false := by simp; omega
  have n5 : (k == 5) = false := by simp; omega
  have n6 : (k == 6) = false := by simp; omega
  have HV : Hid (shapeV k = #[.string ⟨#[]⟩, .bool false, .bool false, .bool false, .bool false, .bool false, .bool false, .bool false]) := by
    have m0 : ¬ k = 0 := by omega
    have m1 : ¬ k = 1 := by omega
    have m2 : ¬ k = 2 := by omega
    have m3 : ¬ k = 3 := by omega
    have m4 : ¬ k = 4 := by omega
    have m5 : ¬ k = 5 := by omega
    have m6 : ¬ k = 6 := by omega
    unfold Hid
    simp [shapeV, wordK, hasF, hasR, hasU, hasX, hasY, hasI, hasP, m0, m1, m2, m3, m4, m5, m6]
  have HB0 : Hid (Below w.heap.size w (w.alloc (.cells #[.string ⟨#[]⟩, .bool false, .bool false, .bool false, .bool false, .bool false, .bool false, .bool false] 56))) := (Below.refl _ _).alloc (Nat.le_refl _) _
  clear h
  go_enter Tryd.func27, Tryd.ntmps27
  go_wp2_with fail
  refine bodyPost_ret (v := .tuple #[.agg #[.string ⟨#[]⟩, .bool false, .bool false, .bool false, .bool false, .bool false, .bool false, .bool false], .bool false]) (by simp [results, Tryd.results27, go_sem]) rfl ⟨by rw [HV.out], HB0.out⟩

theorem shapeOf_any (k : Int) (w : World) : Calls Tryd.prog 27 #[.int .i64 k] w fun e w' => e = .returned (.tuple #[.agg (shapeV k), .bool (knownK k)]) ∧ Below w.heap.size w w' := by
  by_cases h : 0 ≤ k ∧ k ≤ 6
  · have e : knownK k = true := decide_eq_true h
    rw [e]
    rcases (by omega : k = 0 ∨ k = 1 ∨ k = 2 ∨ k = 3 ∨ k = 4 ∨ k = 5 ∨ k = 6) with rfl | rfl | rfl | rfl | rfl | rfl | rfl
    · exact shapeOf_0 w
    · exact shapeOf_1 w
    · exact shapeOf_2 w
    · exact shapeOf_3 w
    · exact shapeOf_4 w
    · exact shapeOf_5 w
    · exact shapeOf_6 w
  · have e : knownK k = false := decide_eq_false h
    rw [e]
    exact shapeOf_none h w

end Go.Proofs.YtlhfecfpkelkdaaDoor
