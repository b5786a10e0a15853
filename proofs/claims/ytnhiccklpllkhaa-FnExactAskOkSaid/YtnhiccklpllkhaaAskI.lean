/- impl.askWord and impl.AskOk: a contract each. -/
import Derived.Test.YtnhiccklpllkhaaAskMem
import Derived.Test.YtnhiccklpllkhaaAxImpl2
namespace Go.Proofs.Ytnhiccklpllkhaa
open Go.RowKit

/-- The word that a kind of question begins with; empty for what is no kind. -/
def askW (k : Int) : ByteArray := if k = 0 then ⟨#[115, 97, 116]⟩ else if k = 1 then ⟨#[115, 117, 98]⟩ else if k = 2 then ⟨#[105, 115]⟩ else if k = 3 then ⟨#[103, 101, 116]⟩ else if k = 4 then ⟨#[119, 104, 111, 108, 101]⟩ else ⟨#[]⟩

theorem askW_none {k : Int} (h : ¬ (0 ≤ k ∧ k ≤ 4)) : askW k = ⟨#[]⟩ := by
  unfold askW
  rw [if_neg (by omega), if_neg (by omega), if_neg (by omega), if_neg (by omega), if_neg (by omega)]

theorem askW_some {k : Int} (h : 0 ≤ k ∧ k ≤ 4) : ((askW k).toList != []) = true ∧ ((askW k).toList == []) = false := by
  have hkk : k = 0 ∨ k = 1 ∨ k = 2 ∨ k = 3 ∨ k = 4 := by omega
  rcases hkk with rfl | rfl | rfl | rfl | rfl <;> (rw [ByteArray.toList_eq]; decide +kernel)

set_option maxHeartbeats 1000000 in
theorem askWord_any (k : Int) (w : World) : Calls Try.prog 66 #[.int .i64 k] w fun e w' => e = .returned (.string (askW k)) ∧ w' = w := by
  by_cases hk : 0 ≤ k ∧ k ≤ 4
  · have hkk : k = 0 ∨ k = 1 ∨ k = 2 ∨ k = 3 ∨ k = 4 := by omega
    clear hk
    rcases hkk with rfl | rfl | rfl | rfl | rfl
    all_goals
      go_enter Try.func66, Try.ntmps66
      go_wp2
      go_ret
      exact ⟨rfl, rfl⟩
  · have HE : Hid (askW k = ⟨#[]⟩) := askW_none hk
    have b0 : (k == 0) = false := by simp; omega
    have b1 : (k == 1) = false := by simp; omega
    have b2 : (k == 2) = false := by simp; omega
    have b3 : (k == 3) = false := by simp; omega
    have b4 : (k == 4) = false := by simp; omega
    clear hk
    go_enter Try.func66, Try.ntmps66
    go_wp2
    go_ret
    exact ⟨by rw [HE.out]; rfl, rfl⟩

set_option maxRecDepth 100000 in
set_option maxHeartbeats 4000000 in
theorem implAskOk_any {dp : Nat} {c0 c1 c2 c3 d0 d1 d2 d3 : Value} {ra : Option Addr} {rn rc : Nat} {x : AK} {w : World} {lo hi : Nat} (h : RdAk lo hi w dp c0 c1 c2 c3 d0 d1 d2 d3 ra rn rc x) (hhi : hi ≤ w.heap.size) (hbc : x.c.bulk ≤ 1048576) (hbd : x.d.bulk ≤ 1048576) (k : Int) (hk : k = x.kind) : Calls Try.prog 33 #[.agg #[.int .i64 k, c0, c1, c2, c3, d0, d1, d2, d3, .slice ra rn rc]] w fun e w' => e = .returned (.bool (askOk x)) ∧ Below w.heap.size w w' := by
  have HBc : Hid (x.c.bulk ≤ 1048576) := hbc
  have HBd : Hid (x.d.bulk ≤ 1048576) := hbd
  obtain ⟨W0, hW0⟩ : ∃ W0, W0 = w.alloc (.cells #[.int .i64 k, c0, c1, c2, c3, d0, d1, d2, d3, .slice ra rn rc] 56) := ⟨_, rfl⟩
  have HW0 : Hid (W0 = w.alloc (.cells #[.int .i64 k, c0, c1, c2, c3, d0, d1, d2, d3, .slice ra rn rc] 56)) := hW0
  have hb0 : Below w.heap.size w W0 := by rw [hW0]; exact (Below.refl _ _).alloc (Nat.le_refl _) _
  have HB0 : Hid (Below w.heap.size w W0) := hb0
  have hl0 : w.heap.size < W0.heap.size := by rw [hW0]; simp
  have hbx : BoxAk 56 W0 w.heap.size k c0 c1 c2 c3 d0 d1 d2 d3 (.slice ra rn rc) := by rw [hW0]; exact BoxAk.new _ w _ _ _ _ _ _ _ _ _ _
  have HAt : Hid (∀ W, Below W0.heap.size W0 W → BoxAk 56 W w.heap.size k c0 c1 c2 c3 d0 d1 d2 d3 (.slice ra rn rc)) := fun W hW => hbx.below hW hl0
  obtain ⟨z0, z1, z2, z3, z4, z5, z6, z7, z8, z9⟩ := hbx.cells
  have HRA : Hid (RdAk lo hi W0 dp c0 c1 c2 c3 d0 d1 d2 d3 ra rn rc x) := h.below hb0 hhi
  have hh0 : hi ≤ W0.heap.size := Nat.le_trans hhi hb0.size
  obtain ⟨s, hs⟩ : ∃ s, s = askW k := ⟨_, rfl⟩
  have HS : Hid (s = askW k) := hs
  clear h hb0 hW0 hbx hbc hbd
  by_cases hkk : 0 ≤ k ∧ k ≤ 4
  · obtain ⟨n1, n2⟩ := askW_some hkk
    rw [← hs] at n1 n2
    have hd : decide (0 ≤ x.kind ∧ x.kind ≤ 4) = true := by rw [← hk]; simp [hkk]
    clear hs hkk
    obtain ⟨b4, hb4⟩ : ∃ b, b = (!decide (k = 4)) := ⟨_, rfl⟩
    obtain ⟨b1, hb1⟩ : ∃ b, b = decide (k = 1) := ⟨_, rfl⟩
    obtain ⟨b2, hb2⟩ : ∃ b, b = decide (k = 2) := ⟨_, rfl⟩
    have g4 : (k != 4) = b4 := by rw [hb4]; by_cases e : k = 4 <;> simp [e]
    have g1 : (k == 1) = b1 := by rw [hb1]; by_cases e : k = 1 <;> simp [e]
    have g2 : (k == 2) = b2 := by rw [hb2]; by_cases e : k = 2 <;> simp [e]
    have hA : askOk x = (fitC x.c b4 && (fitC x.d b1 && fitL x.r b2)) := by unfold askOk; rw [hd, hb4, hb1, hb2, hk]; rfl
    clear hb4 hb1 hb2 hd
    cases hFC : fitC x.c b4
    · have HE : Hid (askOk x = false) := by unfold Hid; rw [hA, hFC]; rfl
      clear hA
      clear hk
      go_enter Try.func33, Try.ntmps33
      go_upto_region 1 with fail
      rw [← HW0.out]
      go_wp2_with (first | (go_at_call 66; refine (askWord_any k _).mono ?_; rintro e w' ⟨rfl, hw⟩; rw [hw, ← HS.out]; clear hw) | (go_at_call_of 64 c0; refine (conFits_any _ HRA.out.c hh0 HBc.out).mono ?_; rintro e wA ⟨rfl, hb⟩; rw [hFC]; have HwA : Hid (Below W0.heap.size W0 wA) := (Below.refl W0.heap.size W0).trans (hb.mono (Below.refl W0.heap.size W0).size); clear z0 z1 z2 z3 z4 z5 z6 z7 z8 z9; obtain ⟨z0, z1, z2, z3, z4, z5, z6, z7, z8, z9⟩ := (HAt.out _ HwA.out).cells; clear hb) | (go_at_call_of 64 d0; refine (conFits_any _ (HRA.out.below HwA.out hh0).d (Nat.le_trans hh0 HwA.out.size) HBd.out).mono ?_; rintro e wB ⟨rfl, hb⟩; rw [hFD]; have HwB : Hid (Below W0.heap.size W0 wB) := HwA.out.trans (hb.mono HwA.out.size); clear z0 z1 z2 z3 z4 z5 z6 z7 z8 z9; obtain ⟨z0, z1, z2, z3, z4, z5, z6, z7, z8, z9⟩ := (HAt.out _ HwB.out).cells; clear hb) | (go_at_call_of 65 ra; refine (lowerFits_any ra rn rc x.r _ _ (HRA.out.below HwB.out hh0).r).mono ?_; rintro e w' ⟨rfl, hw⟩; rw [hw, hFR]; clear hw))
      go_ret
      exact ⟨rb HE.out.symm, HB0.out.trans (HwA.out.mono HB0.out.size)⟩
    · cases hFD : fitC x.d b1
      · have HE : Hid (askOk x = false) := by unfold Hid; rw [hA, hFD]; simp
        clear hA
        clear hk
        go_enter Try.func33, Try.ntmps33
        go_upto_region 1 with fail
        rw [← HW0.out]
        go_wp2_with (first | (go_at_call 66; refine (askWord_any k _).mono ?_; rintro e w' ⟨rfl, hw⟩; rw [hw, ← HS.out]; clear hw) | (go_at_call_of 64 c0; refine (conFits_any _ HRA.out.c hh0 HBc.out).mono ?_; rintro e wA ⟨rfl, hb⟩; rw [hFC]; have HwA : Hid (Below W0.heap.size W0 wA) := (Below.refl W0.heap.size W0).trans (hb.mono (Below.refl W0.heap.size W0).size); clear z0 z1 z2 z3 z4 z5 z6 z7 z8 z9; obtain ⟨z0, z1, z2, z3, z4, z5, z6, z7, z8, z9⟩ := (HAt.out _ HwA.out).cells; clear hb) | (go_at_call_of 64 d0; refine (conFits_any _ (HRA.out.below HwA.out hh0).d (Nat.le_trans hh0 HwA.out.size) HBd.out).mono ?_; rintro e wB ⟨rfl, hb⟩; rw [hFD]; have HwB : Hid (Below W0.heap.size W0 wB) := HwA.out.trans (hb.mono HwA.out.size); clear z0 z1 z2 z3 z4 z5 z6 z7 z8 z9; obtain ⟨z0, z1, z2, z3, z4, z5, z6, z7, z8, z9⟩ := (HAt.out _ HwB.out).cells; clear hb) | (go_at_call_of 65 ra; refine (lowerFits_any ra rn rc x.r _ _ (HRA.out.below HwB.out hh0).r).mono ?_; rintro e w' ⟨rfl, hw⟩; rw [hw, hFR]; clear hw))
        go_ret
        exact ⟨rb HE.out.symm, HB0.out.trans (HwB.out.mono HB0.out.size)⟩
      · cases hFR : fitL x.r b2
        · have HE : Hid (askOk x = false) := by unfold Hid; rw [hA, hFR]; simp
          clear hA
          clear hk
          go_enter Try.func33, Try.ntmps33
          go_upto_region 1 with fail
          rw [← HW0.out]
          go_wp2_with (first | (go_at_call 66; refine (askWord_any k _).mono ?_; rintro e w' ⟨rfl, hw⟩; rw [hw, ← HS.out]; clear hw) | (go_at_call_of 64 c0; refine (conFits_any _ HRA.out.c hh0 HBc.out).mono ?_; rintro e wA ⟨rfl, hb⟩; rw [hFC]; have HwA : Hid (Below W0.heap.size W0 wA) := (Below.refl W0.heap.size W0).trans (hb.mono (Below.refl W0.heap.size W0).size); clear z0 z1 z2 z3 z4 z5 z6 z7 z8 z9; obtain ⟨z0, z1, z2, z3, z4, z5, z6, z7, z8, z9⟩ := (HAt.out _ HwA.out).cells; clear hb) | (go_at_call_of 64 d0; refine (conFits_any _ (HRA.out.below HwA.out hh0).d (Nat.le_trans hh0 HwA.out.size) HBd.out).mono ?_; rintro e wB ⟨rfl, hb⟩; rw [hFD]; have HwB : Hid (Below W0.heap.size W0 wB) := HwA.out.trans (hb.mono HwA.out.size); clear z0 z1 z2 z3 z4 z5 z6 z7 z8 z9; obtain ⟨z0, z1, z2, z3, z4, z5, z6, z7, z8, z9⟩ := (HAt.out _ HwB.out).cells; clear hb) | (go_at_call_of 65 ra; refine (lowerFits_any ra rn rc x.r _ _ (HRA.out.below HwB.out hh0).r).mono ?_; rintro e w' ⟨rfl, hw⟩; rw [hw, hFR]; clear hw))
          go_ret
          exact ⟨rb HE.out.symm, HB0.out.trans (HwB.out.mono HB0.out.size)⟩
        · have HE : Hid (askOk x = true) := by unfold Hid; rw [hA, hFC, hFD, hFR]; rfl
          clear hA
          clear hk
          go_enter Try.func33, Try.ntmps33
          go_upto_region 1 with fail
          rw [← HW0.out]
          go_wp2_with (first | (go_at_call 66; refine (askWord_any k _).mono ?_; rintro e w' ⟨rfl, hw⟩; rw [hw, ← HS.out]; clear hw) | (go_at_call_of 64 c0; refine (conFits_any _ HRA.out.c hh0 HBc.out).mono ?_; rintro e wA ⟨rfl, hb⟩; rw [hFC]; have HwA : Hid (Below W0.heap.size W0 wA) := (Below.refl W0.heap.size W0).trans (hb.mono (Below.refl W0.heap.size W0).size); clear z0 z1 z2 z3 z4 z5 z6 z7 z8 z9; obtain ⟨z0, z1, z2, z3, z4, z5, z6, z7, z8, z9⟩ := (HAt.out _ HwA.out).cells; clear hb) | (go_at_call_of 64 d0; refine (conFits_any _ (HRA.out.below HwA.out hh0).d (Nat.le_trans hh0 HwA.out.size) HBd.out).mono ?_; rintro e wB ⟨rfl, hb⟩; rw [hFD]; have HwB : Hid (Below W0.heap.size W0 wB) := HwA.out.trans (hb.mono HwA.out.size); clear z0 z1 z2 z3 z4 z5 z6 z7 z8 z9; obtain ⟨z0, z1, z2, z3, z4, z5, z6, z7, z8, z9⟩ := (HAt.out _ HwB.out).cells; clear hb) | (go_at_call_of 65 ra; refine (lowerFits_any ra rn rc x.r _ _ (HRA.out.below HwB.out hh0).r).mono ?_; rintro e w' ⟨rfl, hw⟩; rw [hw, hFR]; clear hw))
          go_ret
          exact ⟨rb HE.out.symm, HB0.out.trans (HwB.out.mono HB0.out.size)⟩
  · have HE : Hid (askOk x = false) := by unfold Hid askOk; rw [← hk, decide_eq_false hkk]; rfl
    have e0 := askW_none hkk
    rw [e0] at hs
    have n1 : (s.toList != []) = false := by rw [hs, ByteArray.toList_eq]; decide +kernel
    have n2 : (s.toList == []) = true := by rw [hs, ByteArray.toList_eq]; decide +kernel
    clear hs hkk e0
    clear hk
    go_enter Try.func33, Try.ntmps33
    go_upto_region 1 with fail
    rw [← HW0.out]
    go_wp2_with (first | (go_at_call 66; refine (askWord_any k _).mono ?_; rintro e w' ⟨rfl, hw⟩; rw [hw, ← HS.out]; clear hw) | (go_at_call_of 64 c0; refine (conFits_any _ HRA.out.c hh0 HBc.out).mono ?_; rintro e wA ⟨rfl, hb⟩; rw [hFC]; have HwA : Hid (Below W0.heap.size W0 wA) := (Below.refl W0.heap.size W0).trans (hb.mono (Below.refl W0.heap.size W0).size); clear z0 z1 z2 z3 z4 z5 z6 z7 z8 z9; obtain ⟨z0, z1, z2, z3, z4, z5, z6, z7, z8, z9⟩ := (HAt.out _ HwA.out).cells; clear hb) | (go_at_call_of 64 d0; refine (conFits_any _ (HRA.out.below HwA.out hh0).d (Nat.le_trans hh0 HwA.out.size) HBd.out).mono ?_; rintro e wB ⟨rfl, hb⟩; rw [hFD]; have HwB : Hid (Below W0.heap.size W0 wB) := HwA.out.trans (hb.mono HwA.out.size); clear z0 z1 z2 z3 z4 z5 z6 z7 z8 z9; obtain ⟨z0, z1, z2, z3, z4, z5, z6, z7, z8, z9⟩ := (HAt.out _ HwB.out).cells; clear hb) | (go_at_call_of 65 ra; refine (lowerFits_any ra rn rc x.r _ _ (HRA.out.below HwB.out hh0).r).mono ?_; rintro e w' ⟨rfl, hw⟩; rw [hw, hFR]; clear hw))
    go_ret
    exact ⟨rb HE.out.symm, HB0.out⟩

end Go.Proofs.Ytnhiccklpllkhaa
