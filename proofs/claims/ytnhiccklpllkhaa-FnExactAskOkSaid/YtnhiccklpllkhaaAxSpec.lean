/- spec.l3zero and spec.AxiomOk: a contract each. -/
import Derived.Test.YtnhiccklpllkhaaAxMem
import Derived.Test.YtnhiccklpllkhaaConSpec2
import Derived.Test.YtnhiccklpllkhaaConTo
import Derived.Deep.DeepCutAuto
namespace Go.Proofs.Ytnhiccklpllkhaa
open Go.RowKit

theorem zeroB_of {c : CN} {k : Int} {nn rn kn : Nat} (hk : k = c.kind) (h1 : c.name.length = nn) (h2 : c.role.length = rn) (h3 : c.kids.length = kn) : zeroB c = (decide (k = 0) && (decide (nn = 0) && (decide (rn = 0) && decide (kn = 0)))) := by
  unfold zeroB
  rw [← hk, h1, h2, h3]

set_option maxRecDepth 100000 in
set_option maxHeartbeats 1000000 in
theorem l3zero_any {d : Nat} {v : Value} {c : CN} {w : World} {lo hi : Nat} (h : RdC lo hi w d v c) :
    Calls Try.prog 59 #[v] w fun e w' => e = .returned (.bool (zeroB c)) ∧ Below w.heap.size w w' := by
  cases d with
  | zero => exact h.elim
  | succ d =>
    obtain ⟨na, nn, nc, ra, rn, rc, ka, kn, kc, rfl, hn, hr, hks⟩ := h
    obtain ⟨k, hk⟩ : ∃ k, k = c.kind := ⟨_, rfl⟩
    rw [← hk]
    have HZ : Hid (zeroB c = (decide (k = 0) && (decide (nn = 0) && (decide (rn = 0) && decide (kn = 0))))) := zeroB_of hk hn.len hr.len hks.len
    have HB : Hid (Below w.heap.size w (w.alloc (.cells #[.int .i64 k, .slice na nn nc, .slice ra rn rc, .slice ka kn kc] 30))) := (Below.refl _ _).alloc (Nat.le_refl _) _
    clear hk hn hr hks
    by_cases h0 : k = 0
    · have b0 : (k == 0) = true := by simpa using h0
      by_cases h1 : nn = 0
      · have b1 : ((nn : Int) == 0) = true := by simp; omega
        by_cases h2 : rn = 0
        · have b2 : ((rn : Int) == 0) = true := by simp; omega
          by_cases h3 : kn = 0
          · have b3 : ((kn : Int) == 0) = true := by simp; omega
            have HE : Hid (zeroB c = true) := by unfold Hid; rw [HZ.out]; simp [h0, h1, h2, h3]
            clear h0 h1 h2 h3
            go_enter Try.func59, Try.ntmps59
            go_wp2_with fail
            go_ret
            exact ⟨rb HE.out.symm, HB.out⟩
          · have b3 : ((kn : Int) == 0) = false := by simp; omega
            have HE : Hid (zeroB c = false) := by unfold Hid; rw [HZ.out]; simp [h3]
            clear h0 h1 h2 h3
            go_enter Try.func59, Try.ntmps59
            go_wp2_with fail
            go_ret
            exact ⟨rb HE.out.symm, HB.out⟩
        · have b2 : ((rn : Int) == 0) = false := by simp; omega
          have HE : Hid (zeroB c = false) := by unfold Hid; rw [HZ.out]; simp [h2]
          clear h0 h1 h2
          go_enter Try.func59, Try.ntmps59
          go_wp2_with fail
          go_ret
          exact ⟨rb HE.out.symm, HB.out⟩
      · have b1 : ((nn : Int) == 0) = false := by simp; omega
        have HE : Hid (zeroB c = false) := by unfold Hid; rw [HZ.out]; simp [h1]
        clear h0 h1
        go_enter Try.func59, Try.ntmps59
        go_wp2_with fail
        go_ret
        exact ⟨rb HE.out.symm, HB.out⟩
    · have b0 : (k == 0) = false := by simpa using h0
      have HE : Hid (zeroB c = false) := by unfold Hid; rw [HZ.out]; simp [h0]
      clear h0
      go_enter Try.func59, Try.ntmps59
      go_wp2_with fail
      go_ret
      exact ⟨rb HE.out.symm, HB.out⟩

end Go.Proofs.Ytnhiccklpllkhaa
