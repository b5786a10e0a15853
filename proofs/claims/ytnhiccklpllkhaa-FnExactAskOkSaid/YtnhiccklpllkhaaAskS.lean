/- spec.AskOk: for every question that can be read it answers what 'askOk' says. -/
import Derived.Test.YtnhiccklpllkhaaAskMem
import Derived.Test.YtnhiccklpllkhaaAxSpec
import Derived.Deep.RegionWith
namespace Go.Proofs.Ytnhiccklpllkhaa
open Go.RowKit

set_option maxRecDepth 100000 in
set_option maxHeartbeats 4000000 in
theorem specAskZero {dp : Nat} {c0 c1 c2 c3 d0 d1 d2 d3 : Value} {ra : Option Addr} {rn rc : Nat} {x : AK} {w : World} {lo hi : Nat} (h : RdAk lo hi w dp c0 c1 c2 c3 d0 d1 d2 d3 ra rn rc x) (hhi : hi ≤ w.heap.size) (hkx : x.kind = 0) (hC : conOk x.c = true) (hD : conOk x.d = true) : Calls Try.prog 31 #[.agg #[.int .i64 0, c0, c1, c2, c3, d0, d1, d2, d3, .slice ra rn rc]] w fun e w' => e = .returned (.bool (askOk x)) ∧ Below w.heap.size w w' := by
  obtain ⟨W0, hW0⟩ : ∃ W0, W0 = w.alloc (.cells #[.int .i64 0, c0, c1, c2, c3, d0, d1, d2, d3, .slice ra rn rc] 56) := ⟨_, rfl⟩
  have HW0 : Hid (W0 = w.alloc (.cells #[.int .i64 0, c0, c1, c2, c3, d0, d1, d2, d3, .slice ra rn rc] 56)) := hW0
  have hb0 : Below w.heap.size w W0 := by rw [hW0]; exact (Below.refl _ _).alloc (Nat.le_refl _) _
  have HB0 : Hid (Below w.heap.size w W0) := hb0
  have hl0 : w.heap.size < W0.heap.size := by rw [hW0]; simp
  have hbx : BoxAk 56 W0 w.heap.size 0 c0 c1 c2 c3 d0 d1 d2 d3 (.slice ra rn rc) := by rw [hW0]; exact BoxAk.new _ w _ _ _ _ _ _ _ _ _ _
  have HAt : Hid (∀ W, Below W0.heap.size W0 W → BoxAk 56 W w.heap.size 0 c0 c1 c2 c3 d0 d1 d2 d3 (.slice ra rn rc)) := fun W hW => hbx.below hW hl0
  obtain ⟨z0, z1, z2, z3, z4, z5, z6, z7, z8, z9⟩ := hbx.cells
  have HRA : Hid (RdAk lo hi W0 dp c0 c1 c2 c3 d0 d1 d2 d3 ra rn rc x) := h.below hb0 hhi
  have hh0 : hi ≤ W0.heap.size := Nat.le_trans hhi hb0.size
  have hlr := h.r.len
  have hlow : ∀ zs : List Int, zs.length = 0 → lowOk zs = false := fun zs hz => by cases e : lowOk zs; rfl; have := (longB_of_low e).1; omega
  clear h hb0 hW0 hbx
  cases hzD : zeroB x.d
  · have HE : Hid (askOk x = false) := by unfold Hid askOk fitC fitL; simp [*]
    clear hkx hlr hlow
    go_enter Try.func31, Try.ntmps31
    go_upto_region 1 with fail
    rw [← HW0.out]
    go_wp2_with (first | (go_at_call_of 11 c0; refine (specConOk_any HRA.out.c hh0).mono ?_; rintro e wA ⟨rfl, hb⟩; rw [hC]; have HwA : Hid (Below W0.heap.size W0 wA) := (Below.refl W0.heap.size W0).trans (hb.mono (Below.refl W0.heap.size W0).size); clear z0 z1 z2 z3 z4 z5 z6 z7 z8 z9; obtain ⟨z0, z1, z2, z3, z4, z5, z6, z7, z8, z9⟩ := (HAt.out _ HwA.out).cells; clear hb) | (go_at_call_of 11 d0; refine (specConOk_any (HRA.out.below HwA.out hh0).d (Nat.le_trans hh0 HwA.out.size)).mono ?_; rintro e wB ⟨rfl, hb⟩; rw [hD]; have HwB : Hid (Below W0.heap.size W0 wB) := HwA.out.trans (hb.mono HwA.out.size); clear z0 z1 z2 z3 z4 z5 z6 z7 z8 z9; obtain ⟨z0, z1, z2, z3, z4, z5, z6, z7, z8, z9⟩ := (HAt.out _ HwB.out).cells; clear hb) | (go_at_call_of 59 d0; refine (l3zero_any (HRA.out.below HwB.out hh0).d).mono ?_; rintro e wC ⟨rfl, hb⟩; rw [hzD]; have HwC : Hid (Below W0.heap.size W0 wC) := HwB.out.trans (hb.mono HwB.out.size); clear z0 z1 z2 z3 z4 z5 z6 z7 z8 z9; obtain ⟨z0, z1, z2, z3, z4, z5, z6, z7, z8, z9⟩ := (HAt.out _ HwC.out).cells; clear hb) | (go_at_call_of 59 c0; refine (l3zero_any (HRA.out.below HwC.out hh0).c).mono ?_; rintro e wD ⟨rfl, hb⟩; rw [hzC]; have HwD : Hid (Below W0.heap.size W0 wD) := HwC.out.trans (hb.mono HwC.out.size); clear z0 z1 z2 z3 z4 z5 z6 z7 z8 z9; obtain ⟨z0, z1, z2, z3, z4, z5, z6, z7, z8, z9⟩ := (HAt.out _ HwD.out).cells; clear hb) | (go_at_call_of 60 ra; refine (specLowerOk_any ra rn rc x.r _ (lo := lo) (hi := hi) ?_).mono ?_; (first | exact (HRA.out.below HwD.out hh0).r | exact (HRA.out.below HwC.out hh0).r | exact (HRA.out.below HwB.out hh0).r); rintro e w' ⟨rfl, hw⟩; rw [hw, hLr]; clear hw))
    go_ret
    exact ⟨rb HE.out.symm, by first | exact HB0.out.trans (HwD.out.mono HB0.out.size) | exact HB0.out.trans (HwC.out.mono HB0.out.size) | exact HB0.out.trans (HwB.out.mono HB0.out.size) | exact HB0.out.trans (HwA.out.mono HB0.out.size) | exact HB0.out⟩
  · by_cases hr : rn = 0
    · subst hr
      have HE : Hid (askOk x = true) := by unfold Hid askOk fitC fitL; simp [*]
      clear hkx hlr hlow
      go_enter Try.func31, Try.ntmps31
      go_upto_region 1 with fail
      rw [← HW0.out]
      go_wp2_with (first | (go_at_call_of 11 c0; refine (specConOk_any HRA.out.c hh0).mono ?_; rintro e wA ⟨rfl, hb⟩; rw [hC]; have HwA : Hid (Below W0.heap.size W0 wA) := (Below.refl W0.heap.size W0).trans (hb.mono (Below.refl W0.heap.size W0).size); clear z0 z1 z2 z3 z4 z5 z6 z7 z8 z9; obtain ⟨z0, z1, z2, z3, z4, z5, z6, z7, z8, z9⟩ := (HAt.out _ HwA.out).cells; clear hb) | (go_at_call_of 11 d0; refine (specConOk_any (HRA.out.below HwA.out hh0).d (Nat.le_trans hh0 HwA.out.size)).mono ?_; rintro e wB ⟨rfl, hb⟩; rw [hD]; have HwB : Hid (Below W0.heap.size W0 wB) := HwA.out.trans (hb.mono HwA.out.size); clear z0 z1 z2 z3 z4 z5 z6 z7 z8 z9; obtain ⟨z0, z1, z2, z3, z4, z5, z6, z7, z8, z9⟩ := (HAt.out _ HwB.out).cells; clear hb) | (go_at_call_of 59 d0; refine (l3zero_any (HRA.out.below HwB.out hh0).d).mono ?_; rintro e wC ⟨rfl, hb⟩; rw [hzD]; have HwC : Hid (Below W0.heap.size W0 wC) := HwB.out.trans (hb.mono HwB.out.size); clear z0 z1 z2 z3 z4 z5 z6 z7 z8 z9; obtain ⟨z0, z1, z2, z3, z4, z5, z6, z7, z8, z9⟩ := (HAt.out _ HwC.out).cells; clear hb) | (go_at_call_of 59 c0; refine (l3zero_any (HRA.out.below HwC.out hh0).c).mono ?_; rintro e wD ⟨rfl, hb⟩; rw [hzC]; have HwD : Hid (Below W0.heap.size W0 wD) := HwC.out.trans (hb.mono HwC.out.size); clear z0 z1 z2 z3 z4 z5 z6 z7 z8 z9; obtain ⟨z0, z1, z2, z3, z4, z5, z6, z7, z8, z9⟩ := (HAt.out _ HwD.out).cells; clear hb) | (go_at_call_of 60 ra; refine (specLowerOk_any ra rn rc x.r _ (lo := lo) (hi := hi) ?_).mono ?_; (first | exact (HRA.out.below HwD.out hh0).r | exact (HRA.out.below HwC.out hh0).r | exact (HRA.out.below HwB.out hh0).r); rintro e w' ⟨rfl, hw⟩; rw [hw, hLr]; clear hw))
      go_ret
      exact ⟨rb HE.out.symm, by first | exact HB0.out.trans (HwD.out.mono HB0.out.size) | exact HB0.out.trans (HwC.out.mono HB0.out.size) | exact HB0.out.trans (HwB.out.mono HB0.out.size) | exact HB0.out.trans (HwA.out.mono HB0.out.size) | exact HB0.out⟩
    · have hrp : (0 : Int) < (rn : Int) := by omega
      have HE : Hid (askOk x = false) := by unfold Hid askOk fitC fitL; simp [*]
      clear hkx hlr hlow
      go_enter Try.func31, Try.ntmps31
      go_upto_region 1 with fail
      rw [← HW0.out]
      go_wp2_with (first | (go_at_call_of 11 c0; refine (specConOk_any HRA.out.c hh0).mono ?_; rintro e wA ⟨rfl, hb⟩; rw [hC]; have HwA : Hid (Below W0.heap.size W0 wA) := (Below.refl W0.heap.size W0).trans (hb.mono (Below.refl W0.heap.size W0).size); clear z0 z1 z2 z3 z4 z5 z6 z7 z8 z9; obtain ⟨z0, z1, z2, z3, z4, z5, z6, z7, z8, z9⟩ := (HAt.out _ HwA.out).cells; clear hb) | (go_at_call_of 11 d0; refine (specConOk_any (HRA.out.below HwA.out hh0).d (Nat.le_trans hh0 HwA.out.size)).mono ?_; rintro e wB ⟨rfl, hb⟩; rw [hD]; have HwB : Hid (Below W0.heap.size W0 wB) := HwA.out.trans (hb.mono HwA.out.size); clear z0 z1 z2 z3 z4 z5 z6 z7 z8 z9; obtain ⟨z0, z1, z2, z3, z4, z5, z6, z7, z8, z9⟩ := (HAt.out _ HwB.out).cells; clear hb) | (go_at_call_of 59 d0; refine (l3zero_any (HRA.out.below HwB.out hh0).d).mono ?_; rintro e wC ⟨rfl, hb⟩; rw [hzD]; have HwC : Hid (Below W0.heap.size W0 wC) := HwB.out.trans (hb.mono HwB.out.size); clear z0 z1 z2 z3 z4 z5 z6 z7 z8 z9; obtain ⟨z0, z1, z2, z3, z4, z5, z6, z7, z8, z9⟩ := (HAt.out _ HwC.out).cells; clear hb) | (go_at_call_of 59 c0; refine (l3zero_any (HRA.out.below HwC.out hh0).c).mono ?_; rintro e wD ⟨rfl, hb⟩; rw [hzC]; have HwD : Hid (Below W0.heap.size W0 wD) := HwC.out.trans (hb.mono HwC.out.size); clear z0 z1 z2 z3 z4 z5 z6 z7 z8 z9; obtain ⟨z0, z1, z2, z3, z4, z5, z6, z7, z8, z9⟩ := (HAt.out _ HwD.out).cells; clear hb) | (go_at_call_of 60 ra; refine (specLowerOk_any ra rn rc x.r _ (lo := lo) (hi := hi) ?_).mono ?_; (first | exact (HRA.out.below HwD.out hh0).r | exact (HRA.out.below HwC.out hh0).r | exact (HRA.out.below HwB.out hh0).r); rintro e w' ⟨rfl, hw⟩; rw [hw, hLr]; clear hw))
      go_ret
      exact ⟨rb HE.out.symm, by first | exact HB0.out.trans (HwD.out.mono HB0.out.size) | exact HB0.out.trans (HwC.out.mono HB0.out.size) | exact HB0.out.trans (HwB.out.mono HB0.out.size) | exact HB0.out.trans (HwA.out.mono HB0.out.size) | exact HB0.out⟩

set_option maxRecDepth 100000 in
set_option maxHeartbeats 4000000 in
theorem specAskOne {dp : Nat} {c0 c1 c2 c3 d0 d1 d2 d3 : Value} {ra : Option Addr} {rn rc : Nat} {x : AK} {w : World} {lo hi : Nat} (h : RdAk lo hi w dp c0 c1 c2 c3 d0 d1 d2 d3 ra rn rc x) (hhi : hi ≤ w.heap.size) (hkx : x.kind = 1) (hC : conOk x.c = true) (hD : conOk x.d = true) : Calls Try.prog 31 #[.agg #[.int .i64 1, c0, c1, c2, c3, d0, d1, d2, d3, .slice ra rn rc]] w fun e w' => e = .returned (.bool (askOk x)) ∧ Below w.heap.size w w' := by
  obtain ⟨W0, hW0⟩ : ∃ W0, W0 = w.alloc (.cells #[.int .i64 1, c0, c1, c2, c3, d0, d1, d2, d3, .slice ra rn rc] 56) := ⟨_, rfl⟩
  have HW0 : Hid (W0 = w.alloc (.cells #[.int .i64 1, c0, c1, c2, c3, d0, d1, d2, d3, .slice ra rn rc] 56)) := hW0
  have hb0 : Below w.heap.size w W0 := by rw [hW0]; exact (Below.refl _ _).alloc (Nat.le_refl _) _
  have HB0 : Hid (Below w.heap.size w W0) := hb0
  have hl0 : w.heap.size < W0.heap.size := by rw [hW0]; simp
  have hbx : BoxAk 56 W0 w.heap.size 1 c0 c1 c2 c3 d0 d1 d2 d3 (.slice ra rn rc) := by rw [hW0]; exact BoxAk.new _ w _ _ _ _ _ _ _ _ _ _
  have HAt : Hid (∀ W, Below W0.heap.size W0 W → BoxAk 56 W w.heap.size 1 c0 c1 c2 c3 d0 d1 d2 d3 (.slice ra rn rc)) := fun W hW => hbx.below hW hl0
  obtain ⟨z0, z1, z2, z3, z4, z5, z6, z7, z8, z9⟩ := hbx.cells
  have HRA : Hid (RdAk lo hi W0 dp c0 c1 c2 c3 d0 d1 d2 d3 ra rn rc x) := h.below hb0 hhi
  have hh0 : hi ≤ W0.heap.size := Nat.le_trans hhi hb0.size
  have hlr := h.r.len
  have hlow : ∀ zs : List Int, zs.length = 0 → lowOk zs = false := fun zs hz => by cases e : lowOk zs; rfl; have := (longB_of_low e).1; omega
  clear h hb0 hW0 hbx
  by_cases hr : rn = 0
  · subst hr
    have HE : Hid (askOk x = true) := by unfold Hid askOk fitC fitL; simp [*]
    clear hkx hlr hlow
    go_enter Try.func31, Try.ntmps31
    go_upto_region 1 with fail
    rw [← HW0.out]
    go_wp2_with (first | (go_at_call_of 11 c0; refine (specConOk_any HRA.out.c hh0).mono ?_; rintro e wA ⟨rfl, hb⟩; rw [hC]; have HwA : Hid (Below W0.heap.size W0 wA) := (Below.refl W0.heap.size W0).trans (hb.mono (Below.refl W0.heap.size W0).size); clear z0 z1 z2 z3 z4 z5 z6 z7 z8 z9; obtain ⟨z0, z1, z2, z3, z4, z5, z6, z7, z8, z9⟩ := (HAt.out _ HwA.out).cells; clear hb) | (go_at_call_of 11 d0; refine (specConOk_any (HRA.out.below HwA.out hh0).d (Nat.le_trans hh0 HwA.out.size)).mono ?_; rintro e wB ⟨rfl, hb⟩; rw [hD]; have HwB : Hid (Below W0.heap.size W0 wB) := HwA.out.trans (hb.mono HwA.out.size); clear z0 z1 z2 z3 z4 z5 z6 z7 z8 z9; obtain ⟨z0, z1, z2, z3, z4, z5, z6, z7, z8, z9⟩ := (HAt.out _ HwB.out).cells; clear hb) | (go_at_call_of 59 d0; refine (l3zero_any (HRA.out.below HwB.out hh0).d).mono ?_; rintro e wC ⟨rfl, hb⟩; rw [hzD]; have HwC : Hid (Below W0.heap.size W0 wC) := HwB.out.trans (hb.mono HwB.out.size); clear z0 z1 z2 z3 z4 z5 z6 z7 z8 z9; obtain ⟨z0, z1, z2, z3, z4, z5, z6, z7, z8, z9⟩ := (HAt.out _ HwC.out).cells; clear hb) | (go_at_call_of 59 c0; refine (l3zero_any (HRA.out.below HwC.out hh0).c).mono ?_; rintro e wD ⟨rfl, hb⟩; rw [hzC]; have HwD : Hid (Below W0.heap.size W0 wD) := HwC.out.trans (hb.mono HwC.out.size); clear z0 z1 z2 z3 z4 z5 z6 z7 z8 z9; obtain ⟨z0, z1, z2, z3, z4, z5, z6, z7, z8, z9⟩ := (HAt.out _ HwD.out).cells; clear hb) | (go_at_call_of 60 ra; refine (specLowerOk_any ra rn rc x.r _ (lo := lo) (hi := hi) ?_).mono ?_; (first | exact (HRA.out.below HwD.out hh0).r | exact (HRA.out.below HwC.out hh0).r | exact (HRA.out.below HwB.out hh0).r); rintro e w' ⟨rfl, hw⟩; rw [hw, hLr]; clear hw))
    go_ret
    exact ⟨rb HE.out.symm, by first | exact HB0.out.trans (HwD.out.mono HB0.out.size) | exact HB0.out.trans (HwC.out.mono HB0.out.size) | exact HB0.out.trans (HwB.out.mono HB0.out.size) | exact HB0.out.trans (HwA.out.mono HB0.out.size) | exact HB0.out⟩
  · have hrp : (0 : Int) < (rn : Int) := by omega
    have HE : Hid (askOk x = false) := by unfold Hid askOk fitC fitL; simp [*]
    clear hkx hlr hlow
    go_enter Try.func31, Try.ntmps31
    go_upto_region 1 with fail
    rw [← HW0.out]
    go_wp2_with (first | (go_at_call_of 11 c0; refine (specConOk_any HRA.out.c hh0).mono ?_; rintro e wA ⟨rfl, hb⟩; rw [hC]; have HwA : Hid (Below W0.heap.size W0 wA) := (Below.refl W0.heap.size W0).trans (hb.mono (Below.refl W0.heap.size W0).size); clear z0 z1 z2 z3 z4 z5 z6 z7 z8 z9; obtain ⟨z0, z1, z2, z3, z4, z5, z6, z7, z8, z9⟩ := (HAt.out _ HwA.out).cells; clear hb) | (go_at_call_of 11 d0; refine (specConOk_any (HRA.out.below HwA.out hh0).d (Nat.le_trans hh0 HwA.out.size)).mono ?_; rintro e wB ⟨rfl, hb⟩; rw [hD]; have HwB : Hid (Below W0.heap.size W0 wB) := HwA.out.trans (hb.mono HwA.out.size); clear z0 z1 z2 z3 z4 z5 z6 z7 z8 z9; obtain ⟨z0, z1, z2, z3, z4, z5, z6, z7, z8, z9⟩ := (HAt.out _ HwB.out).cells; clear hb) | (go_at_call_of 59 d0; refine (l3zero_any (HRA.out.below HwB.out hh0).d).mono ?_; rintro e wC ⟨rfl, hb⟩; rw [hzD]; have HwC : Hid (Below W0.heap.size W0 wC) := HwB.out.trans (hb.mono HwB.out.size); clear z0 z1 z2 z3 z4 z5 z6 z7 z8 z9; obtain ⟨z0, z1, z2, z3, z4, z5, z6, z7, z8, z9⟩ := (HAt.out _ HwC.out).cells; clear hb) | (go_at_call_of 59 c0; refine (l3zero_any (HRA.out.below HwC.out hh0).c).mono ?_; rintro e wD ⟨rfl, hb⟩; rw [hzC]; have HwD : Hid (Below W0.heap.size W0 wD) := HwC.out.trans (hb.mono HwC.out.size); clear z0 z1 z2 z3 z4 z5 z6 z7 z8 z9; obtain ⟨z0, z1, z2, z3, z4, z5, z6, z7, z8, z9⟩ := (HAt.out _ HwD.out).cells; clear hb) | (go_at_call_of 60 ra; refine (specLowerOk_any ra rn rc x.r _ (lo := lo) (hi := hi) ?_).mono ?_; (first | exact (HRA.out.below HwD.out hh0).r | exact (HRA.out.below HwC.out hh0).r | exact (HRA.out.below HwB.out hh0).r); rintro e w' ⟨rfl, hw⟩; rw [hw, hLr]; clear hw))
    go_ret
    exact ⟨rb HE.out.symm, by first | exact HB0.out.trans (HwD.out.mono HB0.out.size) | exact HB0.out.trans (HwC.out.mono HB0.out.size) | exact HB0.out.trans (HwB.out.mono HB0.out.size) | exact HB0.out.trans (HwA.out.mono HB0.out.size) | exact HB0.out⟩

set_option maxRecDepth 100000 in
set_option maxHeartbeats 4000000 in
theorem specAskTwo {dp : Nat} {c0 c1 c2 c3 d0 d1 d2 d3 : Value} {ra : Option Addr} {rn rc : Nat} {x : AK} {w : World} {lo hi : Nat} (h : RdAk lo hi w dp c0 c1 c2 c3 d0 d1 d2 d3 ra rn rc x) (hhi : hi ≤ w.heap.size) (hkx : x.kind = 2) (hC : conOk x.c = true) (hD : conOk x.d = true) : Calls Try.prog 31 #[.agg #[.int .i64 2, c0, c1, c2, c3, d0, d1, d2, d3, .slice ra rn rc]] w fun e w' => e = .returned (.bool (askOk x)) ∧ Below w.heap.size w w' := by
  obtain ⟨W0, hW0⟩ : ∃ W0, W0 = w.alloc (.cells #[.int .i64 2, c0, c1, c2, c3, d0, d1, d2, d3, .slice ra rn rc] 56) := ⟨_, rfl⟩
  have HW0 : Hid (W0 = w.alloc (.cells #[.int .i64 2, c0, c1, c2, c3, d0, d1, d2, d3, .slice ra rn rc] 56)) := hW0
  have hb0 : Below w.heap.size w W0 := by rw [hW0]; exact (Below.refl _ _).alloc (Nat.le_refl _) _
  have HB0 : Hid (Below w.heap.size w W0) := hb0
  have hl0 : w.heap.size < W0.heap.size := by rw [hW0]; simp
  have hbx : BoxAk 56 W0 w.heap.size 2 c0 c1 c2 c3 d0 d1 d2 d3 (.slice ra rn rc) := by rw [hW0]; exact BoxAk.new _ w _ _ _ _ _ _ _ _ _ _
  have HAt : Hid (∀ W, Below W0.heap.size W0 W → BoxAk 56 W w.heap.size 2 c0 c1 c2 c3 d0 d1 d2 d3 (.slice ra rn rc)) := fun W hW => hbx.below hW hl0
  obtain ⟨z0, z1, z2, z3, z4, z5, z6, z7, z8, z9⟩ := hbx.cells
  have HRA : Hid (RdAk lo hi W0 dp c0 c1 c2 c3 d0 d1 d2 d3 ra rn rc x) := h.below hb0 hhi
  have hh0 : hi ≤ W0.heap.size := Nat.le_trans hhi hb0.size
  have hlr := h.r.len
  have hlow : ∀ zs : List Int, zs.length = 0 → lowOk zs = false := fun zs hz => by cases e : lowOk zs; rfl; have := (longB_of_low e).1; omega
  clear h hb0 hW0 hbx
  cases hzD : zeroB x.d
  · have HE : Hid (askOk x = false) := by unfold Hid askOk fitC fitL; simp [*]
    clear hkx hlr hlow
    go_enter Try.func31, Try.ntmps31
    go_upto_region 1 with fail
    rw [← HW0.out]
    go_wp2_with (first | (go_at_call_of 11 c0; refine (specConOk_any HRA.out.c hh0).mono ?_; rintro e wA ⟨rfl, hb⟩; rw [hC]; have HwA : Hid (Below W0.heap.size W0 wA) := (Below.refl W0.heap.size W0).trans (hb.mono (Below.refl W0.heap.size W0).size); clear z0 z1 z2 z3 z4 z5 z6 z7 z8 z9; obtain ⟨z0, z1, z2, z3, z4, z5, z6, z7, z8, z9⟩ := (HAt.out _ HwA.out).cells; clear hb) | (go_at_call_of 11 d0; refine (specConOk_any (HRA.out.below HwA.out hh0).d (Nat.le_trans hh0 HwA.out.size)).mono ?_; rintro e wB ⟨rfl, hb⟩; rw [hD]; have HwB : Hid (Below W0.heap.size W0 wB) := HwA.out.trans (hb.mono HwA.out.size); clear z0 z1 z2 z3 z4 z5 z6 z7 z8 z9; obtain ⟨z0, z1, z2, z3, z4, z5, z6, z7, z8, z9⟩ := (HAt.out _ HwB.out).cells; clear hb) | (go_at_call_of 59 d0; refine (l3zero_any (HRA.out.below HwB.out hh0).d).mono ?_; rintro e wC ⟨rfl, hb⟩; rw [hzD]; have HwC : Hid (Below W0.heap.size W0 wC) := HwB.out.trans (hb.mono HwB.out.size); clear z0 z1 z2 z3 z4 z5 z6 z7 z8 z9; obtain ⟨z0, z1, z2, z3, z4, z5, z6, z7, z8, z9⟩ := (HAt.out _ HwC.out).cells; clear hb) | (go_at_call_of 59 c0; refine (l3zero_any (HRA.out.below HwC.out hh0).c).mono ?_; rintro e wD ⟨rfl, hb⟩; rw [hzC]; have HwD : Hid (Below W0.heap.size W0 wD) := HwC.out.trans (hb.mono HwC.out.size); clear z0 z1 z2 z3 z4 z5 z6 z7 z8 z9; obtain ⟨z0, z1, z2, z3, z4, z5, z6, z7, z8, z9⟩ := (HAt.out _ HwD.out).cells; clear hb) | (go_at_call_of 60 ra; refine (specLowerOk_any ra rn rc x.r _ (lo := lo) (hi := hi) ?_).mono ?_; (first | exact (HRA.out.below HwD.out hh0).r | exact (HRA.out.below HwC.out hh0).r | exact (HRA.out.below HwB.out hh0).r); rintro e w' ⟨rfl, hw⟩; rw [hw, hLr]; clear hw))
    go_ret
    exact ⟨rb HE.out.symm, by first | exact HB0.out.trans (HwD.out.mono HB0.out.size) | exact HB0.out.trans (HwC.out.mono HB0.out.size) | exact HB0.out.trans (HwB.out.mono HB0.out.size) | exact HB0.out.trans (HwA.out.mono HB0.out.size) | exact HB0.out⟩
  · by_cases hr : rn = 0
    · have hLr : lowOk x.r = false := hlow _ (by rw [hlr]; exact hr)
      subst hr
      have HE : Hid (askOk x = false) := by unfold Hid askOk fitC fitL; simp [*]
      clear hkx hlr hlow
      go_enter Try.func31, Try.ntmps31
      go_upto_region 1 with fail
      rw [← HW0.out]
      go_wp2_with (first | (go_at_call_of 11 c0; refine (specConOk_any HRA.out.c hh0).mono ?_; rintro e wA ⟨rfl, hb⟩; rw [hC]; have HwA : Hid (Below W0.heap.size W0 wA) := (Below.refl W0.heap.size W0).trans (hb.mono (Below.refl W0.heap.size W0).size); clear z0 z1 z2 z3 z4 z5 z6 z7 z8 z9; obtain ⟨z0, z1, z2, z3, z4, z5, z6, z7, z8, z9⟩ := (HAt.out _ HwA.out).cells; clear hb) | (go_at_call_of 11 d0; refine (specConOk_any (HRA.out.below HwA.out hh0).d (Nat.le_trans hh0 HwA.out.size)).mono ?_; rintro e wB ⟨rfl, hb⟩; rw [hD]; have HwB : Hid (Below W0.heap.size W0 wB) := HwA.out.trans (hb.mono HwA.out.size); clear z0 z1 z2 z3 z4 z5 z6 z7 z8 z9; obtain ⟨z0, z1, z2, z3, z4, z5, z6, z7, z8, z9⟩ := (HAt.out _ HwB.out).cells; clear hb) | (go_at_call_of 59 d0; refine (l3zero_any (HRA.out.below HwB.out hh0).d).mono ?_; rintro e wC ⟨rfl, hb⟩; rw [hzD]; have HwC : Hid (Below W0.heap.size W0 wC) := HwB.out.trans (hb.mono HwB.out.size); clear z0 z1 z2 z3 z4 z5 z6 z7 z8 z9; obtain ⟨z0, z1, z2, z3, z4, z5, z6, z7, z8, z9⟩ := (HAt.out _ HwC.out).cells; clear hb) | (go_at_call_of 59 c0; refine (l3zero_any (HRA.out.below HwC.out hh0).c).mono ?_; rintro e wD ⟨rfl, hb⟩; rw [hzC]; have HwD : Hid (Below W0.heap.size W0 wD) := HwC.out.trans (hb.mono HwC.out.size); clear z0 z1 z2 z3 z4 z5 z6 z7 z8 z9; obtain ⟨z0, z1, z2, z3, z4, z5, z6, z7, z8, z9⟩ := (HAt.out _ HwD.out).cells; clear hb) | (go_at_call_of 60 ra; refine (specLowerOk_any ra rn rc x.r _ (lo := lo) (hi := hi) ?_).mono ?_; (first | exact (HRA.out.below HwD.out hh0).r | exact (HRA.out.below HwC.out hh0).r | exact (HRA.out.below HwB.out hh0).r); rintro e w' ⟨rfl, hw⟩; rw [hw, hLr]; clear hw))
      go_ret
      exact ⟨rb HE.out.symm, by first | exact HB0.out.trans (HwD.out.mono HB0.out.size) | exact HB0.out.trans (HwC.out.mono HB0.out.size) | exact HB0.out.trans (HwB.out.mono HB0.out.size) | exact HB0.out.trans (HwA.out.mono HB0.out.size) | exact HB0.out⟩
    · have hrp : (0 : Int) < (rn : Int) := by omega
      cases hLr : lowOk x.r
      · clear hr
        have HE : Hid (askOk x = false) := by unfold Hid askOk fitC fitL; simp [*]
        clear hkx hlr hlow
        go_enter Try.func31, Try.ntmps31
        go_upto_region 1 with fail
        rw [← HW0.out]
        go_wp2_with (first | (go_at_call_of 11 c0; refine (specConOk_any HRA.out.c hh0).mono ?_; rintro e wA ⟨rfl, hb⟩; rw [hC]; have HwA : Hid (Below W0.heap.size W0 wA) := (Below.refl W0.heap.size W0).trans (hb.mono (Below.refl W0.heap.size W0).size); clear z0 z1 z2 z3 z4 z5 z6 z7 z8 z9; obtain ⟨z0, z1, z2, z3, z4, z5, z6, z7, z8, z9⟩ := (HAt.out _ HwA.out).cells; clear hb) | (go_at_call_of 11 d0; refine (specConOk_any (HRA.out.below HwA.out hh0).d (Nat.le_trans hh0 HwA.out.size)).mono ?_; rintro e wB ⟨rfl, hb⟩; rw [hD]; have HwB : Hid (Below W0.heap.size W0 wB) := HwA.out.trans (hb.mono HwA.out.size); clear z0 z1 z2 z3 z4 z5 z6 z7 z8 z9; obtain ⟨z0, z1, z2, z3, z4, z5, z6, z7, z8, z9⟩ := (HAt.out _ HwB.out).cells; clear hb) | (go_at_call_of 59 d0; refine (l3zero_any (HRA.out.below HwB.out hh0).d).mono ?_; rintro e wC ⟨rfl, hb⟩; rw [hzD]; have HwC : Hid (Below W0.heap.size W0 wC) := HwB.out.trans (hb.mono HwB.out.size); clear z0 z1 z2 z3 z4 z5 z6 z7 z8 z9; obtain ⟨z0, z1, z2, z3, z4, z5, z6, z7, z8, z9⟩ := (HAt.out _ HwC.out).cells; clear hb) | (go_at_call_of 59 c0; refine (l3zero_any (HRA.out.below HwC.out hh0).c).mono ?_; rintro e wD ⟨rfl, hb⟩; rw [hzC]; have HwD : Hid (Below W0.heap.size W0 wD) := HwC.out.trans (hb.mono HwC.out.size); clear z0 z1 z2 z3 z4 z5 z6 z7 z8 z9; obtain ⟨z0, z1, z2, z3, z4, z5, z6, z7, z8, z9⟩ := (HAt.out _ HwD.out).cells; clear hb) | (go_at_call_of 60 ra; refine (specLowerOk_any ra rn rc x.r _ (lo := lo) (hi := hi) ?_).mono ?_; (first | exact (HRA.out.below HwD.out hh0).r | exact (HRA.out.below HwC.out hh0).r | exact (HRA.out.below HwB.out hh0).r); rintro e w' ⟨rfl, hw⟩; rw [hw, hLr]; clear hw))
        go_ret
        exact ⟨rb HE.out.symm, by first | exact HB0.out.trans (HwD.out.mono HB0.out.size) | exact HB0.out.trans (HwC.out.mono HB0.out.size) | exact HB0.out.trans (HwB.out.mono HB0.out.size) | exact HB0.out.trans (HwA.out.mono HB0.out.size) | exact HB0.out⟩
      · clear hr
        have HE : Hid (askOk x = true) := by unfold Hid askOk fitC fitL; simp [*]
        clear hkx hlr hlow
        go_enter Try.func31, Try.ntmps31
        go_upto_region 1 with fail
        rw [← HW0.out]
        go_wp2_with (first | (go_at_call_of 11 c0; refine (specConOk_any HRA.out.c hh0).mono ?_; rintro e wA ⟨rfl, hb⟩; rw [hC]; have HwA : Hid (Below W0.heap.size W0 wA) := (Below.refl W0.heap.size W0).trans (hb.mono (Below.refl W0.heap.size W0).size); clear z0 z1 z2 z3 z4 z5 z6 z7 z8 z9; obtain ⟨z0, z1, z2, z3, z4, z5, z6, z7, z8, z9⟩ := (HAt.out _ HwA.out).cells; clear hb) | (go_at_call_of 11 d0; refine (specConOk_any (HRA.out.below HwA.out hh0).d (Nat.le_trans hh0 HwA.out.size)).mono ?_; rintro e wB ⟨rfl, hb⟩; rw [hD]; have HwB : Hid (Below W0.heap.size W0 wB) := HwA.out.trans (hb.mono HwA.out.size); clear z0 z1 z2 z3 z4 z5 z6 z7 z8 z9; obtain ⟨z0, z1, z2, z3, z4, z5, z6, z7, z8, z9⟩ := (HAt.out _ HwB.out).cells; clear hb) | (go_at_call_of 59 d0; refine (l3zero_any (HRA.out.below HwB.out hh0).d).mono ?_; rintro e wC ⟨rfl, hb⟩; rw [hzD]; have HwC : Hid (Below W0.heap.size W0 wC) := HwB.out.trans (hb.mono HwB.out.size); clear z0 z1 z2 z3 z4 z5 z6 z7 z8 z9; obtain ⟨z0, z1, z2, z3, z4, z5, z6, z7, z8, z9⟩ := (HAt.out _ HwC.out).cells; clear hb) | (go_at_call_of 59 c0; refine (l3zero_any (HRA.out.below HwC.out hh0).c).mono ?_; rintro e wD ⟨rfl, hb⟩; rw [hzC]; have HwD : Hid (Below W0.heap.size W0 wD) := HwC.out.trans (hb.mono HwC.out.size); clear z0 z1 z2 z3 z4 z5 z6 z7 z8 z9; obtain ⟨z0, z1, z2, z3, z4, z5, z6, z7, z8, z9⟩ := (HAt.out _ HwD.out).cells; clear hb) | (go_at_call_of 60 ra; refine (specLowerOk_any ra rn rc x.r _ (lo := lo) (hi := hi) ?_).mono ?_; (first | exact (HRA.out.below HwD.out hh0).r | exact (HRA.out.below HwC.out hh0).r | exact (HRA.out.below HwB.out hh0).r); rintro e w' ⟨rfl, hw⟩; rw [hw, hLr]; clear hw))
        go_ret
        exact ⟨rb HE.out.symm, by first | exact HB0.out.trans (HwD.out.mono HB0.out.size) | exact HB0.out.trans (HwC.out.mono HB0.out.size) | exact HB0.out.trans (HwB.out.mono HB0.out.size) | exact HB0.out.trans (HwA.out.mono HB0.out.size) | exact HB0.out⟩

set_option maxRecDepth 100000 in
set_option maxHeartbeats 4000000 in
theorem specAskThree {dp : Nat} {c0 c1 c2 c3 d0 d1 d2 d3 : Value} {ra : Option Addr} {rn rc : Nat} {x : AK} {w : World} {lo hi : Nat} (h : RdAk lo hi w dp c0 c1 c2 c3 d0 d1 d2 d3 ra rn rc x) (hhi : hi ≤ w.heap.size) (hkx : x.kind = 3) (hC : conOk x.c = true) (hD : conOk x.d = true) : Calls Try.prog 31 #[.agg #[.int .i64 3, c0, c1, c2, c3, d0, d1, d2, d3, .slice ra rn rc]] w fun e w' => e = .returned (.bool (askOk x)) ∧ Below w.heap.size w w' := by
  obtain ⟨W0, hW0⟩ : ∃ W0, W0 = w.alloc (.cells #[.int .i64 3, c0, c1, c2, c3, d0, d1, d2, d3, .slice ra rn rc] 56) := ⟨_, rfl⟩
  have HW0 : Hid (W0 = w.alloc (.cells #[.int .i64 3, c0, c1, c2, c3, d0, d1, d2, d3, .slice ra rn rc] 56)) := hW0
  have hb0 : Below w.heap.size w W0 := by rw [hW0]; exact (Below.refl _ _).alloc (Nat.le_refl _) _
  have HB0 : Hid (Below w.heap.size w W0) := hb0
  have hl0 : w.heap.size < W0.heap.size := by rw [hW0]; simp
  have hbx : BoxAk 56 W0 w.heap.size 3 c0 c1 c2 c3 d0 d1 d2 d3 (.slice ra rn rc) := by rw [hW0]; exact BoxAk.new _ w _ _ _ _ _ _ _ _ _ _
  have HAt : Hid (∀ W, Below W0.heap.size W0 W → BoxAk 56 W w.heap.size 3 c0 c1 c2 c3 d0 d1 d2 d3 (.slice ra rn rc)) := fun W hW => hbx.below hW hl0
  obtain ⟨z0, z1, z2, z3, z4, z5, z6, z7, z8, z9⟩ := hbx.cells
  have HRA : Hid (RdAk lo hi W0 dp c0 c1 c2 c3 d0 d1 d2 d3 ra rn rc x) := h.below hb0 hhi
  have hh0 : hi ≤ W0.heap.size := Nat.le_trans hhi hb0.size
  have hlr := h.r.len
  have hlow : ∀ zs : List Int, zs.length = 0 → lowOk zs = false := fun zs hz => by cases e : lowOk zs; rfl; have := (longB_of_low e).1; omega
  clear h hb0 hW0 hbx
  cases hzD : zeroB x.d
  · have HE : Hid (askOk x = false) := by unfold Hid askOk fitC fitL; simp [*]
    clear hkx hlr hlow
    go_enter Try.func31, Try.ntmps31
    go_upto_region 1 with fail
    rw [← HW0.out]
    go_wp2_with (first | (go_at_call_of 11 c0; refine (specConOk_any HRA.out.c hh0).mono ?_; rintro e wA ⟨rfl, hb⟩; rw [hC]; have HwA : Hid (Below W0.heap.size W0 wA) := (Below.refl W0.heap.size W0).trans (hb.mono (Below.refl W0.heap.size W0).size); clear z0 z1 z2 z3 z4 z5 z6 z7 z8 z9; obtain ⟨z0, z1, z2, z3, z4, z5, z6, z7, z8, z9⟩ := (HAt.out _ HwA.out).cells; clear hb) | (go_at_call_of 11 d0; refine (specConOk_any (HRA.out.below HwA.out hh0).d (Nat.le_trans hh0 HwA.out.size)).mono ?_; rintro e wB ⟨rfl, hb⟩; rw [hD]; have HwB : Hid (Below W0.heap.size W0 wB) := HwA.out.trans (hb.mono HwA.out.size); clear z0 z1 z2 z3 z4 z5 z6 z7 z8 z9; obtain ⟨z0, z1, z2, z3, z4, z5, z6, z7, z8, z9⟩ := (HAt.out _ HwB.out).cells; clear hb) | (go_at_call_of 59 d0; refine (l3zero_any (HRA.out.below HwB.out hh0).d).mono ?_; rintro e wC ⟨rfl, hb⟩; rw [hzD]; have HwC : Hid (Below W0.heap.size W0 wC) := HwB.out.trans (hb.mono HwB.out.size); clear z0 z1 z2 z3 z4 z5 z6 z7 z8 z9; obtain ⟨z0, z1, z2, z3, z4, z5, z6, z7, z8, z9⟩ := (HAt.out _ HwC.out).cells; clear hb) | (go_at_call_of 59 c0; refine (l3zero_any (HRA.out.below HwC.out hh0).c).mono ?_; rintro e wD ⟨rfl, hb⟩; rw [hzC]; have HwD : Hid (Below W0.heap.size W0 wD) := HwC.out.trans (hb.mono HwC.out.size); clear z0 z1 z2 z3 z4 z5 z6 z7 z8 z9; obtain ⟨z0, z1, z2, z3, z4, z5, z6, z7, z8, z9⟩ := (HAt.out _ HwD.out).cells; clear hb) | (go_at_call_of 60 ra; refine (specLowerOk_any ra rn rc x.r _ (lo := lo) (hi := hi) ?_).mono ?_; (first | exact (HRA.out.below HwD.out hh0).r | exact (HRA.out.below HwC.out hh0).r | exact (HRA.out.below HwB.out hh0).r); rintro e w' ⟨rfl, hw⟩; rw [hw, hLr]; clear hw))
    go_ret
    exact ⟨rb HE.out.symm, by first | exact HB0.out.trans (HwD.out.mono HB0.out.size) | exact HB0.out.trans (HwC.out.mono HB0.out.size) | exact HB0.out.trans (HwB.out.mono HB0.out.size) | exact HB0.out.trans (HwA.out.mono HB0.out.size) | exact HB0.out⟩
  · by_cases hr : rn = 0
    · subst hr
      have HE : Hid (askOk x = true) := by unfold Hid askOk fitC fitL; simp [*]
      clear hkx hlr hlow
      go_enter Try.func31, Try.ntmps31
      go_upto_region 1 with fail
      rw [← HW0.out]
      go_wp2_with (first | (go_at_call_of 11 c0; refine (specConOk_any HRA.out.c hh0).mono ?_; rintro e wA ⟨rfl, hb⟩; rw [hC]; have HwA : Hid (Below W0.heap.size W0 wA) := (Below.refl W0.heap.size W0).trans (hb.mono (Below.refl W0.heap.size W0).size); clear z0 z1 z2 z3 z4 z5 z6 z7 z8 z9; obtain ⟨z0, z1, z2, z3, z4, z5, z6, z7, z8, z9⟩ := (HAt.out _ HwA.out).cells; clear hb) | (go_at_call_of 11 d0; refine (specConOk_any (HRA.out.below HwA.out hh0).d (Nat.le_trans hh0 HwA.out.size)).mono ?_; rintro e wB ⟨rfl, hb⟩; rw [hD]; have HwB : Hid (Below W0.heap.size W0 wB) := HwA.out.trans (hb.mono HwA.out.size); clear z0 z1 z2 z3 z4 z5 z6 z7 z8 z9; obtain ⟨z0, z1, z2, z3, z4, z5, z6, z7, z8, z9⟩ := (HAt.out _ HwB.out).cells; clear hb) | (go_at_call_of 59 d0; refine (l3zero_any (HRA.out.below HwB.out hh0).d).mono ?_; rintro e wC ⟨rfl, hb⟩; rw [hzD]; have HwC : Hid (Below W0.heap.size W0 wC) := HwB.out.trans (hb.mono HwB.out.size); clear z0 z1 z2 z3 z4 z5 z6 z7 z8 z9; obtain ⟨z0, z1, z2, z3, z4, z5, z6, z7, z8, z9⟩ := (HAt.out _ HwC.out).cells; clear hb) | (go_at_call_of 59 c0; refine (l3zero_any (HRA.out.below HwC.out hh0).c).mono ?_; rintro e wD ⟨rfl, hb⟩; rw [hzC]; have HwD : Hid (Below W0.heap.size W0 wD) := HwC.out.trans (hb.mono HwC.out.size); clear z0 z1 z2 z3 z4 z5 z6 z7 z8 z9; obtain ⟨z0, z1, z2, z3, z4, z5, z6, z7, z8, z9⟩ := (HAt.out _ HwD.out).cells; clear hb) | (go_at_call_of 60 ra; refine (specLowerOk_any ra rn rc x.r _ (lo := lo) (hi := hi) ?_).mono ?_; (first | exact (HRA.out.below HwD.out hh0).r | exact (HRA.out.below HwC.out hh0).r | exact (HRA.out.below HwB.out hh0).r); rintro e w' ⟨rfl, hw⟩; rw [hw, hLr]; clear hw))
      go_ret
      exact ⟨rb HE.out.symm, by first | exact HB0.out.trans (HwD.out.mono HB0.out.size) | exact HB0.out.trans (HwC.out.mono HB0.out.size) | exact HB0.out.trans (HwB.out.mono HB0.out.size) | exact HB0.out.trans (HwA.out.mono HB0.out.size) | exact HB0.out⟩
    · have hrp : (0 : Int) < (rn : Int) := by omega
      have HE : Hid (askOk x = false) := by unfold Hid askOk fitC fitL; simp [*]
      clear hkx hlr hlow
      go_enter Try.func31, Try.ntmps31
      go_upto_region 1 with fail
      rw [← HW0.out]
      go_wp2_with (first | (go_at_call_of 11 c0; refine (specConOk_any HRA.out.c hh0).mono ?_; rintro e wA ⟨rfl, hb⟩; rw [hC]; have HwA : Hid (Below W0.heap.size W0 wA) := (Below.refl W0.heap.size W0).trans (hb.mono (Below.refl W0.heap.size W0).size); clear z0 z1 z2 z3 z4 z5 z6 z7 z8 z9; obtain ⟨z0, z1, z2, z3, z4, z5, z6, z7, z8, z9⟩ := (HAt.out _ HwA.out).cells; clear hb) | (go_at_call_of 11 d0; refine (specConOk_any (HRA.out.below HwA.out hh0).d (Nat.le_trans hh0 HwA.out.size)).mono ?_; rintro e wB ⟨rfl, hb⟩; rw [hD]; have HwB : Hid (Below W0.heap.size W0 wB) := HwA.out.trans (hb.mono HwA.out.size); clear z0 z1 z2 z3 z4 z5 z6 z7 z8 z9; obtain ⟨z0, z1, z2, z3, z4, z5, z6, z7, z8, z9⟩ := (HAt.out _ HwB.out).cells; clear hb) | (go_at_call_of 59 d0; refine (l3zero_any (HRA.out.below HwB.out hh0).d).mono ?_; rintro e wC ⟨rfl, hb⟩; rw [hzD]; have HwC : Hid (Below W0.heap.size W0 wC) := HwB.out.trans (hb.mono HwB.out.size); clear z0 z1 z2 z3 z4 z5 z6 z7 z8 z9; obtain ⟨z0, z1, z2, z3, z4, z5, z6, z7, z8, z9⟩ := (HAt.out _ HwC.out).cells; clear hb) | (go_at_call_of 59 c0; refine (l3zero_any (HRA.out.below HwC.out hh0).c).mono ?_; rintro e wD ⟨rfl, hb⟩; rw [hzC]; have HwD : Hid (Below W0.heap.size W0 wD) := HwC.out.trans (hb.mono HwC.out.size); clear z0 z1 z2 z3 z4 z5 z6 z7 z8 z9; obtain ⟨z0, z1, z2, z3, z4, z5, z6, z7, z8, z9⟩ := (HAt.out _ HwD.out).cells; clear hb) | (go_at_call_of 60 ra; refine (specLowerOk_any ra rn rc x.r _ (lo := lo) (hi := hi) ?_).mono ?_; (first | exact (HRA.out.below HwD.out hh0).r | exact (HRA.out.below HwC.out hh0).r | exact (HRA.out.below HwB.out hh0).r); rintro e w' ⟨rfl, hw⟩; rw [hw, hLr]; clear hw))
      go_ret
      exact ⟨rb HE.out.symm, by first | exact HB0.out.trans (HwD.out.mono HB0.out.size) | exact HB0.out.trans (HwC.out.mono HB0.out.size) | exact HB0.out.trans (HwB.out.mono HB0.out.size) | exact HB0.out.trans (HwA.out.mono HB0.out.size) | exact HB0.out⟩

set_option maxRecDepth 100000 in
set_option maxHeartbeats 4000000 in
theorem specAskFour {dp : Nat} {c0 c1 c2 c3 d0 d1 d2 d3 : Value} {ra : Option Addr} {rn rc : Nat} {x : AK} {w : World} {lo hi : Nat} (h : RdAk lo hi w dp c0 c1 c2 c3 d0 d1 d2 d3 ra rn rc x) (hhi : hi ≤ w.heap.size) (hkx : x.kind = 4) (hC : conOk x.c = true) (hD : conOk x.d = true) : Calls Try.prog 31 #[.agg #[.int .i64 4, c0, c1, c2, c3, d0, d1, d2, d3, .slice ra rn rc]] w fun e w' => e = .returned (.bool (askOk x)) ∧ Below w.heap.size w w' := by
  obtain ⟨W0, hW0⟩ : ∃ W0, W0 = w.alloc (.cells #[.int .i64 4, c0, c1, c2, c3, d0, d1, d2, d3, .slice ra rn rc] 56) := ⟨_, rfl⟩
  have HW0 : Hid (W0 = w.alloc (.cells #[.int .i64 4, c0, c1, c2, c3, d0, d1, d2, d3, .slice ra rn rc] 56)) := hW0
  have hb0 : Below w.heap.size w W0 := by rw [hW0]; exact (Below.refl _ _).alloc (Nat.le_refl _) _
  have HB0 : Hid (Below w.heap.size w W0) := hb0
  have hl0 : w.heap.size < W0.heap.size := by rw [hW0]; simp
  have hbx : BoxAk 56 W0 w.heap.size 4 c0 c1 c2 c3 d0 d1 d2 d3 (.slice ra rn rc) := by rw [hW0]; exact BoxAk.new _ w _ _ _ _ _ _ _ _ _ _
  have HAt : Hid (∀ W, Below W0.heap.size W0 W → BoxAk 56 W w.heap.size 4 c0 c1 c2 c3 d0 d1 d2 d3 (.slice ra rn rc)) := fun W hW => hbx.below hW hl0
  obtain ⟨z0, z1, z2, z3, z4, z5, z6, z7, z8, z9⟩ := hbx.cells
  have HRA : Hid (RdAk lo hi W0 dp c0 c1 c2 c3 d0 d1 d2 d3 ra rn rc x) := h.below hb0 hhi
  have hh0 : hi ≤ W0.heap.size := Nat.le_trans hhi hb0.size
  have hlr := h.r.len
  have hlow : ∀ zs : List Int, zs.length = 0 → lowOk zs = false := fun zs hz => by cases e : lowOk zs; rfl; have := (longB_of_low e).1; omega
  clear h hb0 hW0 hbx
  cases hzD : zeroB x.d
  · have HE : Hid (askOk x = false) := by unfold Hid askOk fitC fitL; simp [*]
    clear hkx hlr hlow
    go_enter Try.func31, Try.ntmps31
    go_upto_region 1 with fail
    rw [← HW0.out]
    go_wp2_with (first | (go_at_call_of 11 c0; refine (specConOk_any HRA.out.c hh0).mono ?_; rintro e wA ⟨rfl, hb⟩; rw [hC]; have HwA : Hid (Below W0.heap.size W0 wA) := (Below.refl W0.heap.size W0).trans (hb.mono (Below.refl W0.heap.size W0).size); clear z0 z1 z2 z3 z4 z5 z6 z7 z8 z9; obtain ⟨z0, z1, z2, z3, z4, z5, z6, z7, z8, z9⟩ := (HAt.out _ HwA.out).cells; clear hb) | (go_at_call_of 11 d0; refine (specConOk_any (HRA.out.below HwA.out hh0).d (Nat.le_trans hh0 HwA.out.size)).mono ?_; rintro e wB ⟨rfl, hb⟩; rw [hD]; have HwB : Hid (Below W0.heap.size W0 wB) := HwA.out.trans (hb.mono HwA.out.size); clear z0 z1 z2 z3 z4 z5 z6 z7 z8 z9; obtain ⟨z0, z1, z2, z3, z4, z5, z6, z7, z8, z9⟩ := (HAt.out _ HwB.out).cells; clear hb) | (go_at_call_of 59 d0; refine (l3zero_any (HRA.out.below HwB.out hh0).d).mono ?_; rintro e wC ⟨rfl, hb⟩; rw [hzD]; have HwC : Hid (Below W0.heap.size W0 wC) := HwB.out.trans (hb.mono HwB.out.size); clear z0 z1 z2 z3 z4 z5 z6 z7 z8 z9; obtain ⟨z0, z1, z2, z3, z4, z5, z6, z7, z8, z9⟩ := (HAt.out _ HwC.out).cells; clear hb) | (go_at_call_of 59 c0; refine (l3zero_any (HRA.out.below HwC.out hh0).c).mono ?_; rintro e wD ⟨rfl, hb⟩; rw [hzC]; have HwD : Hid (Below W0.heap.size W0 wD) := HwC.out.trans (hb.mono HwC.out.size); clear z0 z1 z2 z3 z4 z5 z6 z7 z8 z9; obtain ⟨z0, z1, z2, z3, z4, z5, z6, z7, z8, z9⟩ := (HAt.out _ HwD.out).cells; clear hb) | (go_at_call_of 60 ra; refine (specLowerOk_any ra rn rc x.r _ (lo := lo) (hi := hi) ?_).mono ?_; (first | exact (HRA.out.below HwD.out hh0).r | exact (HRA.out.below HwC.out hh0).r | exact (HRA.out.below HwB.out hh0).r); rintro e w' ⟨rfl, hw⟩; rw [hw, hLr]; clear hw))
    go_ret
    exact ⟨rb HE.out.symm, by first | exact HB0.out.trans (HwD.out.mono HB0.out.size) | exact HB0.out.trans (HwC.out.mono HB0.out.size) | exact HB0.out.trans (HwB.out.mono HB0.out.size) | exact HB0.out.trans (HwA.out.mono HB0.out.size) | exact HB0.out⟩
  · cases hzC : zeroB x.c
    · have HE : Hid (askOk x = false) := by unfold Hid askOk fitC fitL; simp [*]
      clear hkx hlr hlow
      go_enter Try.func31, Try.ntmps31
      go_upto_region 1 with fail
      rw [← HW0.out]
      go_wp2_with (first | (go_at_call_of 11 c0; refine (specConOk_any HRA.out.c hh0).mono ?_; rintro e wA ⟨rfl, hb⟩; rw [hC]; have HwA : Hid (Below W0.heap.size W0 wA) := (Below.refl W0.heap.size W0).trans (hb.mono (Below.refl W0.heap.size W0).size); clear z0 z1 z2 z3 z4 z5 z6 z7 z8 z9; obtain ⟨z0, z1, z2, z3, z4, z5, z6, z7, z8, z9⟩ := (HAt.out _ HwA.out).cells; clear hb) | (go_at_call_of 11 d0; refine (specConOk_any (HRA.out.below HwA.out hh0).d (Nat.le_trans hh0 HwA.out.size)).mono ?_; rintro e wB ⟨rfl, hb⟩; rw [hD]; have HwB : Hid (Below W0.heap.size W0 wB) := HwA.out.trans (hb.mono HwA.out.size); clear z0 z1 z2 z3 z4 z5 z6 z7 z8 z9; obtain ⟨z0, z1, z2, z3, z4, z5, z6, z7, z8, z9⟩ := (HAt.out _ HwB.out).cells; clear hb) | (go_at_call_of 59 d0; refine (l3zero_any (HRA.out.below HwB.out hh0).d).mono ?_; rintro e wC ⟨rfl, hb⟩; rw [hzD]; have HwC : Hid (Below W0.heap.size W0 wC) := HwB.out.trans (hb.mono HwB.out.size); clear z0 z1 z2 z3 z4 z5 z6 z7 z8 z9; obtain ⟨z0, z1, z2, z3, z4, z5, z6, z7, z8, z9⟩ := (HAt.out _ HwC.out).cells; clear hb) | (go_at_call_of 59 c0; refine (l3zero_any (HRA.out.below HwC.out hh0).c).mono ?_; rintro e wD ⟨rfl, hb⟩; rw [hzC]; have HwD : Hid (Below W0.heap.size W0 wD) := HwC.out.trans (hb.mono HwC.out.size); clear z0 z1 z2 z3 z4 z5 z6 z7 z8 z9; obtain ⟨z0, z1, z2, z3, z4, z5, z6, z7, z8, z9⟩ := (HAt.out _ HwD.out).cells; clear hb) | (go_at_call_of 60 ra; refine (specLowerOk_any ra rn rc x.r _ (lo := lo) (hi := hi) ?_).mono ?_; (first | exact (HRA.out.below HwD.out hh0).r | exact (HRA.out.below HwC.out hh0).r | exact (HRA.out.below HwB.out hh0).r); rintro e w' ⟨rfl, hw⟩; rw [hw, hLr]; clear hw))
      go_ret
      exact ⟨rb HE.out.symm, by first | exact HB0.out.trans (HwD.out.mono HB0.out.size) | exact HB0.out.trans (HwC.out.mono HB0.out.size) | exact HB0.out.trans (HwB.out.mono HB0.out.size) | exact HB0.out.trans (HwA.out.mono HB0.out.size) | exact HB0.out⟩
    · by_cases hr : rn = 0
      · subst hr
        have HE : Hid (askOk x = true) := by unfold Hid askOk fitC fitL; simp [*]
        clear hkx hlr hlow
        go_enter Try.func31, Try.ntmps31
        go_upto_region 1 with fail
        rw [← HW0.out]
        go_wp2_with (first | (go_at_call_of 11 c0; refine (specConOk_any HRA.out.c hh0).mono ?_; rintro e wA ⟨rfl, hb⟩; rw [hC]; have HwA : Hid (Below W0.heap.size W0 wA) := (Below.refl W0.heap.size W0).trans (hb.mono (Below.refl W0.heap.size W0).size); clear z0 z1 z2 z3 z4 z5 z6 z7 z8 z9; obtain ⟨z0, z1, z2, z3, z4, z5, z6, z7, z8, z9⟩ := (HAt.out _ HwA.out).cells; clear hb) | (go_at_call_of 11 d0; refine (specConOk_any (HRA.out.below HwA.out hh0).d (Nat.le_trans hh0 HwA.out.size)).mono ?_; rintro e wB ⟨rfl, hb⟩; rw [hD]; have HwB : Hid (Below W0.heap.size W0 wB) := HwA.out.trans (hb.mono HwA.out.size); clear z0 z1 z2 z3 z4 z5 z6 z7 z8 z9; obtain ⟨z0, z1, z2, z3, z4, z5, z6, z7, z8, z9⟩ := (HAt.out _ HwB.out).cells; clear hb) | (go_at_call_of 59 d0; refine (l3zero_any (HRA.out.below HwB.out hh0).d).mono ?_; rintro e wC ⟨rfl, hb⟩; rw [hzD]; have HwC : Hid (Below W0.heap.size W0 wC) := HwB.out.trans (hb.mono HwB.out.size); clear z0 z1 z2 z3 z4 z5 z6 z7 z8 z9; obtain ⟨z0, z1, z2, z3, z4, z5, z6, z7, z8, z9⟩ := (HAt.out _ HwC.out).cells; clear hb) | (go_at_call_of 59 c0; refine (l3zero_any (HRA.out.below HwC.out hh0).c).mono ?_; rintro e wD ⟨rfl, hb⟩; rw [hzC]; have HwD : Hid (Below W0.heap.size W0 wD) := HwC.out.trans (hb.mono HwC.out.size); clear z0 z1 z2 z3 z4 z5 z6 z7 z8 z9; obtain ⟨z0, z1, z2, z3, z4, z5, z6, z7, z8, z9⟩ := (HAt.out _ HwD.out).cells; clear hb) | (go_at_call_of 60 ra; refine (specLowerOk_any ra rn rc x.r _ (lo := lo) (hi := hi) ?_).mono ?_; (first | exact (HRA.out.below HwD.out hh0).r | exact (HRA.out.below HwC.out hh0).r | exact (HRA.out.below HwB.out hh0).r); rintro e w' ⟨rfl, hw⟩; rw [hw, hLr]; clear hw))
        go_ret
        exact ⟨rb HE.out.symm, by first | exact HB0.out.trans (HwD.out.mono HB0.out.size) | exact HB0.out.trans (HwC.out.mono HB0.out.size) | exact HB0.out.trans (HwB.out.mono HB0.out.size) | exact HB0.out.trans (HwA.out.mono HB0.out.size) | exact HB0.out⟩
      · have hrp : (0 : Int) < (rn : Int) := by omega
        have HE : Hid (askOk x = false) := by unfold Hid askOk fitC fitL; simp [*]
        clear hkx hlr hlow
        go_enter Try.func31, Try.ntmps31
        go_upto_region 1 with fail
        rw [← HW0.out]
        go_wp2_with (first | (go_at_call_of 11 c0; refine (specConOk_any HRA.out.c hh0).mono ?_; rintro e wA ⟨rfl, hb⟩; rw [hC]; have HwA : Hid (Below W0.heap.size W0 wA) := (Below.refl W0.heap.size W0).trans (hb.mono (Below.refl W0.heap.size W0).size); clear z0 z1 z2 z3 z4 z5 z6 z7 z8 z9; obtain ⟨z0, z1, z2, z3, z4, z5, z6, z7, z8, z9⟩ := (HAt.out _ HwA.out).cells; clear hb) | (go_at_call_of 11 d0; refine (specConOk_any (HRA.out.below HwA.out hh0).d (Nat.le_trans hh0 HwA.out.size)).mono ?_; rintro e wB ⟨rfl, hb⟩; rw [hD]; have HwB : Hid (Below W0.heap.size W0 wB) := HwA.out.trans (hb.mono HwA.out.size); clear z0 z1 z2 z3 z4 z5 z6 z7 z8 z9; obtain ⟨z0, z1, z2, z3, z4, z5, z6, z7, z8, z9⟩ := (HAt.out _ HwB.out).cells; clear hb) | (go_at_call_of 59 d0; refine (l3zero_any (HRA.out.below HwB.out hh0).d).mono ?_; rintro e wC ⟨rfl, hb⟩; rw [hzD]; have HwC : Hid (Below W0.heap.size W0 wC) := HwB.out.trans (hb.mono HwB.out.size); clear z0 z1 z2 z3 z4 z5 z6 z7 z8 z9; obtain ⟨z0, z1, z2, z3, z4, z5, z6, z7, z8, z9⟩ := (HAt.out _ HwC.out).cells; clear hb) | (go_at_call_of 59 c0; refine (l3zero_any (HRA.out.below HwC.out hh0).c).mono ?_; rintro e wD ⟨rfl, hb⟩; rw [hzC]; have HwD : Hid (Below W0.heap.size W0 wD) := HwC.out.trans (hb.mono HwC.out.size); clear z0 z1 z2 z3 z4 z5 z6 z7 z8 z9; obtain ⟨z0, z1, z2, z3, z4, z5, z6, z7, z8, z9⟩ := (HAt.out _ HwD.out).cells; clear hb) | (go_at_call_of 60 ra; refine (specLowerOk_any ra rn rc x.r _ (lo := lo) (hi := hi) ?_).mono ?_; (first | exact (HRA.out.below HwD.out hh0).r | exact (HRA.out.below HwC.out hh0).r | exact (HRA.out.below HwB.out hh0).r); rintro e w' ⟨rfl, hw⟩; rw [hw, hLr]; clear hw))
        go_ret
        exact ⟨rb HE.out.symm, by first | exact HB0.out.trans (HwD.out.mono HB0.out.size) | exact HB0.out.trans (HwC.out.mono HB0.out.size) | exact HB0.out.trans (HwB.out.mono HB0.out.size) | exact HB0.out.trans (HwA.out.mono HB0.out.size) | exact HB0.out⟩

set_option maxRecDepth 100000 in
set_option maxHeartbeats 4000000 in
theorem specAskOk_any {dp : Nat} {c0 c1 c2 c3 d0 d1 d2 d3 : Value} {ra : Option Addr} {rn rc : Nat} {x : AK} {w : World} {lo hi : Nat} (h : RdAk lo hi w dp c0 c1 c2 c3 d0 d1 d2 d3 ra rn rc x) (hhi : hi ≤ w.heap.size) (k : Int) (hk : k = x.kind) : Calls Try.prog 31 #[.agg #[.int .i64 k, c0, c1, c2, c3, d0, d1, d2, d3, .slice ra rn rc]] w fun e w' => e = .returned (.bool (askOk x)) ∧ Below w.heap.size w w' := by
  have hkx : x.kind = k := hk.symm
  by_cases hk0 : k < 0
  · have HE : Hid (askOk x = false) := by unfold Hid askOk; rw [decide_eq_false (by omega)]; rfl
    clear h hk hkx
    go_enter Try.func31, Try.ntmps31
    go_wp2_with fail
    go_ret
    exact ⟨rb HE.out.symm, (Below.refl _ _).alloc (Nat.le_refl _) _⟩
  · by_cases hk5 : 4 < k
    · have HE : Hid (askOk x = false) := by unfold Hid askOk; rw [decide_eq_false (by omega)]; rfl
      clear h hk hkx
      go_enter Try.func31, Try.ntmps31
      go_wp2_with fail
      go_ret
      exact ⟨rb HE.out.symm, (Below.refl _ _).alloc (Nat.le_refl _) _⟩
    · have hzc : conOk x.c = false → zeroB x.c = false := fun e => by cases hz : zeroB x.c; rfl; rw [ok_of_zero hz] at e; exact e
      have hzd : conOk x.d = false → zeroB x.d = false := fun e => by cases hz : zeroB x.d; rfl; rw [ok_of_zero hz] at e; exact e
      cases hC : conOk x.c
      · have HE : Hid (askOk x = false) := by unfold Hid askOk; rw [show fitC x.c (!decide (x.kind = 4)) = false from by unfold fitC; split; exact hC; exact hzc hC]; simp
        obtain ⟨W0, hW0⟩ : ∃ W0, W0 = w.alloc (.cells #[.int .i64 k, c0, c1, c2, c3, d0, d1, d2, d3, .slice ra rn rc] 56) := ⟨_, rfl⟩
        have HW0 : Hid (W0 = w.alloc (.cells #[.int .i64 k, c0, c1, c2, c3, d0, d1, d2, d3, .slice ra rn rc] 56)) := hW0
        have hb0 : Below w.heap.size w W0 := by rw [hW0]; exact (Below.refl _ _).alloc (Nat.le_refl _) _
        have HB0 : Hid (Below w.heap.size w W0) := hb0
        have hl0 : w.heap.size < W0.heap.size := by rw [hW0]; simp
        have hbx : BoxAk 56 W0 w.heap.size k c0 c1 c2 c3 d0 d1 d2 d3 (.slice ra rn rc) := by rw [hW0]; exact BoxAk.new _ w _ _ _ _ _ _ _ _ _ _
        have HAt : Hid (∀ W, Below W0.heap.size W0 W → BoxAk 56 W w.heap.size k c0 c1 c2 c3 d0 d1 d2 d3 (.slice ra rn rc)) := fun W hW => hbx.below hW hl0
        obtain ⟨z0, z1, z2, z3, z4, z5, z6, z7, z8, z9⟩ := hbx.cells
        have HRA : Hid (RdAk lo hi W0 dp c0 c1 c2 c3 d0 d1 d2 d3 ra rn rc x) := h.below hb0 hhi
        have hh0 : hi ≤ W0.heap.size := Nat.le_trans hhi hb0.size
        have hlr := h.r.len
        have hlow : ∀ zs : List Int, zs.length = 0 → lowOk zs = false := fun zs hz => by cases e : lowOk zs; rfl; have := (longB_of_low e).1; omega
        clear h hb0 hW0 hbx
        clear hk hkx hlr hlow hzc hzd
        go_enter Try.func31, Try.ntmps31
        go_upto_region 1 with fail
        rw [← HW0.out]
        go_wp2_with (first | (go_at_call_of 11 c0; refine (specConOk_any HRA.out.c hh0).mono ?_; rintro e wA ⟨rfl, hb⟩; rw [hC]; have HwA : Hid (Below W0.heap.size W0 wA) := (Below.refl W0.heap.size W0).trans (hb.mono (Below.refl W0.heap.size W0).size); clear z0 z1 z2 z3 z4 z5 z6 z7 z8 z9; obtain ⟨z0, z1, z2, z3, z4, z5, z6, z7, z8, z9⟩ := (HAt.out _ HwA.out).cells; clear hb) | (go_at_call_of 11 d0; refine (specConOk_any (HRA.out.below HwA.out hh0).d (Nat.le_trans hh0 HwA.out.size)).mono ?_; rintro e wB ⟨rfl, hb⟩; rw [hD]; have HwB : Hid (Below W0.heap.size W0 wB) := HwA.out.trans (hb.mono HwA.out.size); clear z0 z1 z2 z3 z4 z5 z6 z7 z8 z9; obtain ⟨z0, z1, z2, z3, z4, z5, z6, z7, z8, z9⟩ := (HAt.out _ HwB.out).cells; clear hb) | (go_at_call_of 59 d0; refine (l3zero_any (HRA.out.below HwB.out hh0).d).mono ?_; rintro e wC ⟨rfl, hb⟩; rw [hzD]; have HwC : Hid (Below W0.heap.size W0 wC) := HwB.out.trans (hb.mono HwB.out.size); clear z0 z1 z2 z3 z4 z5 z6 z7 z8 z9; obtain ⟨z0, z1, z2, z3, z4, z5, z6, z7, z8, z9⟩ := (HAt.out _ HwC.out).cells; clear hb) | (go_at_call_of 59 c0; refine (l3zero_any (HRA.out.below HwC.out hh0).c).mono ?_; rintro e wD ⟨rfl, hb⟩; rw [hzC]; have HwD : Hid (Below W0.heap.size W0 wD) := HwC.out.trans (hb.mono HwC.out.size); clear z0 z1 z2 z3 z4 z5 z6 z7 z8 z9; obtain ⟨z0, z1, z2, z3, z4, z5, z6, z7, z8, z9⟩ := (HAt.out _ HwD.out).cells; clear hb) | (go_at_call_of 60 ra; refine (specLowerOk_any ra rn rc x.r _ (lo := lo) (hi := hi) ?_).mono ?_; (first | exact (HRA.out.below HwD.out hh0).r | exact (HRA.out.below HwC.out hh0).r | exact (HRA.out.below HwB.out hh0).r); rintro e w' ⟨rfl, hw⟩; rw [hw, hLr]; clear hw))
        go_ret
        exact ⟨rb HE.out.symm, HB0.out.trans (HwA.out.mono HB0.out.size)⟩
      · cases hD : conOk x.d
        · have HE : Hid (askOk x = false) := by unfold Hid askOk; rw [show fitC x.d (decide (x.kind = 1)) = false from by unfold fitC; split; exact hD; exact hzd hD]; simp
          obtain ⟨W0, hW0⟩ : ∃ W0, W0 = w.alloc (.cells #[.int .i64 k, c0, c1, c2, c3, d0, d1, d2, d3, .slice ra rn rc] 56) := ⟨_, rfl⟩
          have HW0 : Hid (W0 = w.alloc (.cells #[.int .i64 k, c0, c1, c2, c3, d0, d1, d2, d3, .slice ra rn rc] 56)) := hW0
          have hb0 : Below w.heap.size w W0 := by rw [hW0]; exact (Below.refl _ _).alloc (Nat.le_refl _) _
          have HB0 : Hid (Below w.heap.size w W0) := hb0
          have hl0 : w.heap.size < W0.heap.size := by rw [hW0]; simp
          have hbx : BoxAk 56 W0 w.heap.size k c0 c1 c2 c3 d0 d1 d2 d3 (.slice ra rn rc) := by rw [hW0]; exact BoxAk.new _ w _ _ _ _ _ _ _ _ _ _
          have HAt : Hid (∀ W, Below W0.heap.size W0 W → BoxAk 56 W w.heap.size k c0 c1 c2 c3 d0 d1 d2 d3 (.slice ra rn rc)) := fun W hW => hbx.below hW hl0
          obtain ⟨z0, z1, z2, z3, z4, z5, z6, z7, z8, z9⟩ := hbx.cells
          have HRA : Hid (RdAk lo hi W0 dp c0 c1 c2 c3 d0 d1 d2 d3 ra rn rc x) := h.below hb0 hhi
          have hh0 : hi ≤ W0.heap.size := Nat.le_trans hhi hb0.size
          have hlr := h.r.len
          have hlow : ∀ zs : List Int, zs.length = 0 → lowOk zs = false := fun zs hz => by cases e : lowOk zs; rfl; have := (longB_of_low e).1; omega
          clear h hb0 hW0 hbx
          clear hk hkx hlr hlow hzc hzd
          go_enter Try.func31, Try.ntmps31
          go_upto_region 1 with fail
          rw [← HW0.out]
          go_wp2_with (first | (go_at_call_of 11 c0; refine (specConOk_any HRA.out.c hh0).mono ?_; rintro e wA ⟨rfl, hb⟩; rw [hC]; have HwA : Hid (Below W0.heap.size W0 wA) := (Below.refl W0.heap.size W0).trans (hb.mono (Below.refl W0.heap.size W0).size); clear z0 z1 z2 z3 z4 z5 z6 z7 z8 z9; obtain ⟨z0, z1, z2, z3, z4, z5, z6, z7, z8, z9⟩ := (HAt.out _ HwA.out).cells; clear hb) | (go_at_call_of 11 d0; refine (specConOk_any (HRA.out.below HwA.out hh0).d (Nat.le_trans hh0 HwA.out.size)).mono ?_; rintro e wB ⟨rfl, hb⟩; rw [hD]; have HwB : Hid (Below W0.heap.size W0 wB) := HwA.out.trans (hb.mono HwA.out.size); clear z0 z1 z2 z3 z4 z5 z6 z7 z8 z9; obtain ⟨z0, z1, z2, z3, z4, z5, z6, z7, z8, z9⟩ := (HAt.out _ HwB.out).cells; clear hb) | (go_at_call_of 59 d0; refine (l3zero_any (HRA.out.below HwB.out hh0).d).mono ?_; rintro e wC ⟨rfl, hb⟩; rw [hzD]; have HwC : Hid (Below W0.heap.size W0 wC) := HwB.out.trans (hb.mono HwB.out.size); clear z0 z1 z2 z3 z4 z5 z6 z7 z8 z9; obtain ⟨z0, z1, z2, z3, z4, z5, z6, z7, z8, z9⟩ := (HAt.out _ HwC.out).cells; clear hb) | (go_at_call_of 59 c0; refine (l3zero_any (HRA.out.below HwC.out hh0).c).mono ?_; rintro e wD ⟨rfl, hb⟩; rw [hzC]; have HwD : Hid (Below W0.heap.size W0 wD) := HwC.out.trans (hb.mono HwC.out.size); clear z0 z1 z2 z3 z4 z5 z6 z7 z8 z9; obtain ⟨z0, z1, z2, z3, z4, z5, z6, z7, z8, z9⟩ := (HAt.out _ HwD.out).cells; clear hb) | (go_at_call_of 60 ra; refine (specLowerOk_any ra rn rc x.r _ (lo := lo) (hi := hi) ?_).mono ?_; (first | exact (HRA.out.below HwD.out hh0).r | exact (HRA.out.below HwC.out hh0).r | exact (HRA.out.below HwB.out hh0).r); rintro e w' ⟨rfl, hw⟩; rw [hw, hLr]; clear hw))
          go_ret
          exact ⟨rb HE.out.symm, HB0.out.trans (HwB.out.mono HB0.out.size)⟩
        · have hkk : k = 0 ∨ k = 1 ∨ k = 2 ∨ k = 3 ∨ k = 4 := by omega
          rcases hkk with rfl | rfl | rfl | rfl | rfl
          · exact specAskZero h hhi hkx hC hD
          · exact specAskOne h hhi hkx hC hD
          · exact specAskTwo h hhi hkx hC hD
          · exact specAskThree h hhi hkx hC hD
          · exact specAskFour h hhi hkx hC hD

end Go.Proofs.Ytnhiccklpllkhaa
