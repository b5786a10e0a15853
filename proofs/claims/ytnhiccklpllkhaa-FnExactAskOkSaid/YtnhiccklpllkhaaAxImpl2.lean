/- impl.sameCon against the zero value, impl.conFits: a contract each. -/
import Derived.Test.YtnhiccklpllkhaaAxImpl1
import Derived.Test.YtnhiccklpllkhaaAxSpec
import Derived.Deep.RegionWith
namespace Go.Proofs.Ytnhiccklpllkhaa
open Go.RowKit

set_option maxRecDepth 100000 in
set_option maxHeartbeats 2000000 in
theorem sameCon_zero {d : Nat} {v : Value} {c : CN} {w : World} {lo hi : Nat} (h : RdC lo hi w d v c) (hhi : hi ≤ w.heap.size) :
    Calls Try.prog 96 #[v, .agg #[.int .i64 0, .slice none 0 0, .slice none 0 0, .slice none 0 0]] w fun e w' => e = .returned (.bool (zeroB c)) ∧ Below w.heap.size w w' := by
  cases d with
  | zero => exact h.elim
  | succ d =>
    obtain ⟨na, nn, nc, ra, rn, rc, ka, kn, kc, rfl, hn, hr, hks⟩ := h
    obtain ⟨k, hk⟩ : ∃ k, k = c.kind := ⟨_, rfl⟩
    rw [← hk]
    have HZ : Hid (zeroB c = (decide (k = 0) && (decide (nn = 0) && (decide (rn = 0) && decide (kn = 0))))) := zeroB_of hk hn.len hr.len hks.len
    have HB : Hid (Below w.heap.size w ((w.alloc (.cells #[.int .i64 k, .slice na nn nc, .slice ra rn rc, .slice ka kn kc] 30)).alloc (.cells #[.int .i64 0, .slice none 0 0, .slice none 0 0, .slice none 0 0] 30))) := ((Below.refl _ _).alloc (Nat.le_refl _) _).alloc (by simp) _
    have HN : Hid (Rd lo hi w na nn nc c.name) := hn
    have HR : Hid (Rd lo hi w ra rn rc c.role) := hr
    clear hk hn hr hks
    by_cases h0 : k = 0
    · have b0 : (k == 0) = true := by simpa using h0
      cases hN : decide (nn = 0)
      · have HE : Hid (zeroB c = false) := by unfold Hid; rw [HZ.out]; simp [hN]
        clear h0
        go_enter Try.func96, Try.ntmps96
        go_wp2_with (first | (go_at_call_of 108 na; refine (bytesEqual_nil na nn nc c.name _ (lo := lo) (hi := hi) (HN.out.below HB.out hhi)).mono ?_; rintro e w' ⟨rfl, hw⟩; rw [hw, hN]; clear hw) | (go_at_call_of 108 ra; refine (bytesEqual_nil ra rn rc c.role _ (lo := lo) (hi := hi) (HR.out.below HB.out hhi)).mono ?_; rintro e w' ⟨rfl, hw⟩; rw [hw, hRr]; clear hw) | (go_at_call 109; refine (equalFunc_nil ka kn kc _ _).mono ?_; rintro e w' ⟨rfl, hw⟩; rw [hw, hKk]; clear hw))
        go_ret
        exact ⟨rb HE.out.symm, HB.out⟩
      · cases hRr : decide (rn = 0)
        · have HE : Hid (zeroB c = false) := by unfold Hid; rw [HZ.out]; simp [hRr]
          clear h0
          go_enter Try.func96, Try.ntmps96
          go_wp2_with (first | (go_at_call_of 108 na; refine (bytesEqual_nil na nn nc c.name _ (lo := lo) (hi := hi) (HN.out.below HB.out hhi)).mono ?_; rintro e w' ⟨rfl, hw⟩; rw [hw, hN]; clear hw) | (go_at_call_of 108 ra; refine (bytesEqual_nil ra rn rc c.role _ (lo := lo) (hi := hi) (HR.out.below HB.out hhi)).mono ?_; rintro e w' ⟨rfl, hw⟩; rw [hw, hRr]; clear hw) | (go_at_call 109; refine (equalFunc_nil ka kn kc _ _).mono ?_; rintro e w' ⟨rfl, hw⟩; rw [hw, hKk]; clear hw))
          go_ret
          exact ⟨rb HE.out.symm, HB.out⟩
        · cases hKk : decide (kn = 0)
          · have HE : Hid (zeroB c = false) := by unfold Hid; rw [HZ.out]; simp [hKk]
            clear h0
            go_enter Try.func96, Try.ntmps96
            go_wp2_with (first | (go_at_call_of 108 na; refine (bytesEqual_nil na nn nc c.name _ (lo := lo) (hi := hi) (HN.out.below HB.out hhi)).mono ?_; rintro e w' ⟨rfl, hw⟩; rw [hw, hN]; clear hw) | (go_at_call_of 108 ra; refine (bytesEqual_nil ra rn rc c.role _ (lo := lo) (hi := hi) (HR.out.below HB.out hhi)).mono ?_; rintro e w' ⟨rfl, hw⟩; rw [hw, hRr]; clear hw) | (go_at_call 109; refine (equalFunc_nil ka kn kc _ _).mono ?_; rintro e w' ⟨rfl, hw⟩; rw [hw, hKk]; clear hw))
            go_ret
            exact ⟨rb HE.out.symm, HB.out⟩
          · have HE : Hid (zeroB c = true) := by unfold Hid; rw [HZ.out]; simp [h0, hN, hRr, hKk]
            clear h0
            go_enter Try.func96, Try.ntmps96
            go_wp2_with (first | (go_at_call_of 108 na; refine (bytesEqual_nil na nn nc c.name _ (lo := lo) (hi := hi) (HN.out.below HB.out hhi)).mono ?_; rintro e w' ⟨rfl, hw⟩; rw [hw, hN]; clear hw) | (go_at_call_of 108 ra; refine (bytesEqual_nil ra rn rc c.role _ (lo := lo) (hi := hi) (HR.out.below HB.out hhi)).mono ?_; rintro e w' ⟨rfl, hw⟩; rw [hw, hRr]; clear hw) | (go_at_call 109; refine (equalFunc_nil ka kn kc _ _).mono ?_; rintro e w' ⟨rfl, hw⟩; rw [hw, hKk]; clear hw))
            go_ret
            exact ⟨rb HE.out.symm, HB.out⟩
    · have b0 : (k == 0) = false := by simpa using h0
      have HE : Hid (zeroB c = false) := by unfold Hid; rw [HZ.out]; simp [h0]
      clear h0
      go_enter Try.func96, Try.ntmps96
      go_wp2_with fail
      go_ret
      exact ⟨rb HE.out.symm, HB.out⟩

set_option maxRecDepth 100000 in
set_option maxHeartbeats 2000000 in
theorem conFits_any {d : Nat} {v : Value} {c : CN} {w : World} {lo hi : Nat} (wanted : Bool) (h : RdC lo hi w d v c) (hhi : hi ≤ w.heap.size) (hbk : c.bulk ≤ 1048576) :
    Calls Try.prog 64 #[v, .bool wanted] w fun e w' => e = .returned (.bool (fitC c wanted)) ∧ Below w.heap.size w w' := by
  have HRd : Hid (RdC lo hi w d v c) := h
  obtain ⟨k, na, nn, nc, ra, rn, rc, ka, kn, kc, rfl⟩ := h.shape
  have hb0 : Below w.heap.size w (w.alloc (.cells #[.int .i64 k, .slice na nn nc, .slice ra rn rc, .slice ka kn kc] 30)) := (Below.refl _ _).alloc (Nat.le_refl _) _
  have HB0 : Hid (Below w.heap.size w (w.alloc (.cells #[.int .i64 k, .slice na nn nc, .slice ra rn rc, .slice ka kn kc] 30))) := hb0
  have HR0 : Hid (RdC lo hi (w.alloc (.cells #[.int .i64 k, .slice na nn nc, .slice ra rn rc, .slice ka kn kc] 30)) d (.agg #[.int .i64 k, .slice na nn nc, .slice ra rn rc, .slice ka kn kc]) c) := HRd.out.below hb0 hhi
  have HBk : Hid (c.bulk ≤ 1048576) := hbk
  clear hb0 h hbk
  cases wanted with
  | true =>
    go_enter Try.func64, Try.ntmps64
    go_wp2_with (go_at_call 13; refine (implConOk_any HR0.out (Nat.le_trans hhi HB0.out.size) HBk.out).mono ?_; rintro e w1 ⟨rfl, hb1⟩; have HB1 : Hid (Below w.heap.size w w1) := HB0.out.trans (hb1.mono HB0.out.size); clear hb1)
    go_ret
    exact ⟨rfl, HB1.out⟩
  | false =>
    go_enter Try.func64, Try.ntmps64
    go_wp2_with (go_at_call 96; refine (sameCon_zero HR0.out (Nat.le_trans hhi HB0.out.size)).mono ?_; rintro e w1 ⟨rfl, hb1⟩; have HB1 : Hid (Below w.heap.size w w1) := HB0.out.trans (hb1.mono HB0.out.size); clear hb1)
    go_ret
    exact ⟨rfl, HB1.out⟩

end Go.Proofs.Ytnhiccklpllkhaa
