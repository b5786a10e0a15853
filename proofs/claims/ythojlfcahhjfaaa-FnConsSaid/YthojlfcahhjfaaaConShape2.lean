/- The program's look at one part of a concept, in whatever order its operands are reckoned. -/
import Derived.Test.YthojlfcahhjfaaaNSh
namespace Go.Proofs.Ythojlfcahhjfaaa
open Go.RowKit

set_option maxRecDepth 100000 in
set_option maxHeartbeats 2000000 in
theorem shapeOk_any {d : Nat} {v : Value} {c : CN} {w : World} {lo hi : Nat} (h : RdC lo hi w d v c) (hhi : hi ≤ w.heap.size) :
    Calls Try.prog 59 #[v] w fun e w' => e = .returned (.bool (shapeB c)) ∧ Below w.heap.size w w' := by
  cases d with
  | zero => exact h.elim
  | succ d =>
    have HRd : Hid (RdC lo hi w (d + 1) v c) := h
    obtain ⟨na, nn, nc, ra, rn, rc, ka, kn, kc, rfl, _, _, hk⟩ := h
    have HKL : Hid (c.kids.length = kn) := hk.len
    have HS : Hid (shapeB c = (nameFit c && (roleFit c && decide ((kn : Int) = kidN c.kind)))) := by unfold Hid shapeB; rw [hk.len]
    obtain ⟨k, hkd⟩ : ∃ k, k = c.kind := ⟨_, rfl⟩
    rw [← hkd] at HRd HS ⊢
    have hb0 : Below w.heap.size w (w.alloc (.cells #[.int .i64 k, .slice na nn nc, .slice ra rn rc, .slice ka kn kc] 35)).drew := ((Below.refl _ _).alloc (Nat.le_refl _) _).drew
    have HB0 : Hid (Below w.heap.size w (w.alloc (.cells #[.int .i64 k, .slice na nn nc, .slice ra rn rc, .slice ka kn kc] 35)).drew) := hb0
    have HR0 : Hid (RdC lo hi (w.alloc (.cells #[.int .i64 k, .slice na nn nc, .slice ra rn rc, .slice ka kn kc] 35)).drew (d + 1) (.agg #[.int .i64 k, .slice na nn nc, .slice ra rn rc, .slice ka kn kc]) c) := HRd.out.below hb0 hhi
    have HBx0 : Hid (BoxC (w.alloc (.cells #[.int .i64 k, .slice na nn nc, .slice ra rn rc, .slice ka kn kc] 35)).drew w.heap.size (.int .i64 k) (.slice na nn nc) (.slice ra rn rc) (.slice ka kn kc)) := BoxC.new w _ _ _ _
    clear hk hkd hb0
    cases hN : nameFit c
    · have HE : Hid (shapeB c = false) := by unfold Hid; rw [HS.out, hN]; rfl
      go_enter Try.func59, Try.ntmps59
      go_wp2_with fail
      first | go_region_with (go_at_call 100; refine (nameFits_any HR0.out (Nat.le_trans hhi HB0.out.size)).mono ?_; rintro e w1 ⟨rfl, hb1⟩; rw [hN]; have HB1 : Hid (Below w.heap.size w w1) := HB0.out.trans (hb1.mono HB0.out.size); clear hb1) | fail
      all_goals
        go_wp2_with fail
        go_ret
        exact ⟨rb HE.out.symm, HB1.out⟩
    · cases hR : roleFit c
      · have HE : Hid (shapeB c = false) := by unfold Hid; rw [HS.out, hN, hR]; rfl
        go_enter Try.func59, Try.ntmps59
        go_wp2_with fail
        first | go_region_with (first | (go_at_call 100; refine (nameFits_any HR0.out (Nat.le_trans hhi HB0.out.size)).mono ?_; rintro e w1 ⟨rfl, hb1⟩; rw [hN]; have HB1 : Hid (Below w.heap.size w w1) := HB0.out.trans (hb1.mono HB0.out.size); have HR1 : Hid (RdC lo hi w1 (d + 1) (.agg #[.int .i64 k, .slice na nn nc, .slice ra rn rc, .slice ka kn kc]) c) := HRd.out.below HB1.out hhi; have HBx1 : Hid (BoxC w1 w.heap.size (.int .i64 k) (.slice na nn nc) (.slice ra rn rc) (.slice ka kn kc)) := HBx0.out.below hb1 HBx0.out.lt; obtain ⟨c0, c1, c2, c3⟩ := HBx1.out.cells; clear hb1) | (go_at_call 101; refine (roleFits_any HR1.out (Nat.le_trans hhi HB1.out.size)).mono ?_; rintro e w2 ⟨rfl, hb2⟩; rw [hR]; have HB2 : Hid (Below w.heap.size w w2) := HB1.out.trans (hb2.mono HB1.out.size); clear hb2)) | fail
        all_goals
          go_wp2_with fail
          go_ret
          exact ⟨rb HE.out.symm, HB2.out⟩
      · have HE : Hid (shapeB c = ((kn : Int) == kidN k)) := by unfold Hid; rw [HS.out, hN, hR]; rfl
        go_enter Try.func59, Try.ntmps59
        go_wp2_with fail
        first | go_region_with (first | (go_at_call 100; refine (nameFits_any HR0.out (Nat.le_trans hhi HB0.out.size)).mono ?_; rintro e w1 ⟨rfl, hb1⟩; rw [hN]; have HB1 : Hid (Below w.heap.size w w1) := HB0.out.trans (hb1.mono HB0.out.size); have HR1 : Hid (RdC lo hi w1 (d + 1) (.agg #[.int .i64 k, .slice na nn nc, .slice ra rn rc, .slice ka kn kc]) c) := HRd.out.below HB1.out hhi; have HBx1 : Hid (BoxC w1 w.heap.size (.int .i64 k) (.slice na nn nc) (.slice ra rn rc) (.slice ka kn kc)) := HBx0.out.below hb1 HBx0.out.lt; obtain ⟨c0, c1, c2, c3⟩ := HBx1.out.cells; clear hb1) | (go_at_call 101; refine (roleFits_any HR1.out (Nat.le_trans hhi HB1.out.size)).mono ?_; rintro e w2 ⟨rfl, hb2⟩; rw [hR]; have HB2 : Hid (Below w.heap.size w w2) := HB1.out.trans (hb2.mono HB1.out.size); have HBx2 : Hid (BoxC w2 w.heap.size (.int .i64 k) (.slice na nn nc) (.slice ra rn rc) (.slice ka kn kc)) := HBx1.out.below hb2 HBx1.out.lt; obtain ⟨e0, e1, e2, e3⟩ := HBx2.out.cells; clear hb2) | (go_at_call 102; refine (kidCount_any _ _).mono ?_; rintro e w3 ⟨rfl, hw⟩; rw [hw]; clear hw)) | fail
        all_goals
          go_wp2_with fail
          go_ret
          exact ⟨rb HE.out.symm, HB2.out⟩

end Go.Proofs.Ythojlfcahhjfaaa
