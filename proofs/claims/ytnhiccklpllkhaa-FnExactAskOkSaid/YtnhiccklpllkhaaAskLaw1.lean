/- The laws' count of a question and their comparison of two: a contract each. -/
import Derived.Test.YtnhiccklpllkhaaAskMem
import Derived.Test.YtnhiccklpllkhaaConSz
import Derived.Test.YtnhiccklpllkhaaConEq
import Derived.Deep.DeepCutAuto
namespace Go.Proofs.Ytnhiccklpllkhaa
open Go.RowKit

set_option maxRecDepth 100000 in
set_option maxHeartbeats 4000000 in
theorem szAk_any {dp : Nat} {c0 c1 c2 c3 d0 d1 d2 d3 : Value} {ra : Option Addr} {rn rc : Nat} {x : AK} {w : World} {lo hi : Nat} (h : RdAk lo hi w dp c0 c1 c2 c3 d0 d1 d2 d3 ra rn rc x) (hhi : hi ≤ w.heap.size) (k : Int) :
    Calls Try.prog 30 #[.agg #[.int .i64 k, c0, c1, c2, c3, d0, d1, d2, d3, .slice ra rn rc], .int .i64 1048576] w fun e w' => ∃ r : Int, e = .returned (.int .i64 r) ∧ (¬ r < 0 → x.c.bulk ≤ 1048576 ∧ x.d.bulk ≤ 1048576 ∧ rn ≤ 1048576) ∧ Below w.heap.size w w' := by
  obtain ⟨W0, hW0⟩ : ∃ W0, W0 = w.alloc (.cells #[.int .i64 k, c0, c1, c2, c3, d0, d1, d2, d3, .slice ra rn rc] 52) := ⟨_, rfl⟩
  have HW0 : Hid (W0 = w.alloc (.cells #[.int .i64 k, c0, c1, c2, c3, d0, d1, d2, d3, .slice ra rn rc] 52)) := hW0
  have hb0 : Below w.heap.size w W0 := by rw [hW0]; exact (Below.refl _ _).alloc (Nat.le_refl _) _
  have HB0 : Hid (Below w.heap.size w W0) := hb0
  have hl0 : w.heap.size < W0.heap.size := by rw [hW0]; simp
  have hbx : BoxAk 52 W0 w.heap.size k c0 c1 c2 c3 d0 d1 d2 d3 (.slice ra rn rc) := by rw [hW0]; exact BoxAk.new _ w _ _ _ _ _ _ _ _ _ _
  have HAt : Hid (∀ W, Below W0.heap.size W0 W → BoxAk 52 W w.heap.size k c0 c1 c2 c3 d0 d1 d2 d3 (.slice ra rn rc)) := fun W hW => hbx.below hW hl0
  obtain ⟨z0, z1, z2, z3, z4, z5, z6, z7, z8, z9⟩ := hbx.cells
  have HRA : Hid (RdAk lo hi W0 dp c0 c1 c2 c3 d0 d1 d2 d3 ra rn rc x) := h.below hb0 hhi
  have hh0 : hi ≤ W0.heap.size := Nat.le_trans hhi hb0.size
  have HFit : Hid (rn ≤ 9223372036854775807) := by
    have := h.r.fits
    unfold Hid
    omega
  clear h hb0 hW0 hbx
  go_enter Try.func30, Try.ntmps30
  go_wp2_with fail
  rw [← HW0.out]
  refine (szC_any dp _ x.c 1048576 W0 lo hi HRA.out.c hh0 (by omega) (by omega)).mono ?_
  rintro e w1 ⟨rfl, hb1⟩
  obtain ⟨l1, hl1⟩ : ∃ l, l = szRes 1048576 x.c.bulk := ⟨_, rfl⟩
  rw [← hl1]
  have H1 : Hid (Below W0.heap.size W0 w1) := hb1
  clear z0 z1 z2 z3 z4 z5 z6 z7 z8 z9 hb1
  obtain ⟨z0, z1, z2, z3, z4, z5, z6, z7, z8, z9⟩ := (HAt.out _ H1.out).cells
  by_cases n1 : l1 < 0
  · clear hl1
    go_wp2_with fail
    go_ret
    exact ⟨-1, rfl, fun h => by omega, HB0.out.trans (H1.out.mono HB0.out.size)⟩
  · have p1 := szRes_pos (by rw [← hl1]; exact n1)
    rw [← hl1] at p1
    have HP1 : Hid ((x.c.bulk : Int) ≤ 1048576) := p1.1
    have q1 : l1 ≤ 1048576 := by omega
    clear p1 hl1
    go_wp2_with fail
    refine (szC_any dp _ x.d l1 w1 lo hi (HRA.out.below H1.out hh0).d (Nat.le_trans hh0 H1.out.size) (by omega) q1).mono ?_
    rintro e w2 ⟨rfl, hb2⟩
    obtain ⟨l2, hl2⟩ : ∃ l, l = szRes l1 x.d.bulk := ⟨_, rfl⟩
    rw [← hl2]
    have H2 : Hid (Below W0.heap.size W0 w2) := H1.out.trans (hb2.mono H1.out.size)
    have HBw : Hid (Below w.heap.size w w2) := HB0.out.trans (H2.out.mono HB0.out.size)
    clear z0 z1 z2 z3 z4 z5 z6 z7 z8 z9 hb2
    obtain ⟨z0, z1, z2, z3, z4, z5, z6, z7, z8, z9⟩ := (HAt.out _ H2.out).cells
    by_cases n2 : l2 < 0
    · clear hl2
      go_wp2_with fail
      go_ret
      exact ⟨-1, rfl, fun h => by omega, HBw.out⟩
    · have p2 := szRes_pos (by rw [← hl2]; exact n2)
      rw [← hl2] at p2
      have HP2 : Hid ((x.d.bulk : Int) ≤ 1048576) := by unfold Hid; omega
      have q2 : l2 ≤ 1048576 := by omega
      clear p2 hl2
      go_wp2_with fail
      refine (szByteS_any ra rn rc l2 w2 ⟨by omega, by omega⟩ HFit.out).mono ?_
      rintro e w' ⟨rfl, hw⟩
      rw [hw]
      obtain ⟨l3, hl3⟩ : ∃ l, l = szRes l2 rn := ⟨_, rfl⟩
      rw [← hl3]
      clear hw
      by_cases n3 : l3 < 0
      · clear hl3
        go_wp2_with fail
        go_ret
        exact ⟨-1, rfl, fun h => by omega, HBw.out⟩
      · have p3 := szRes_pos (by rw [← hl3]; exact n3)
        rw [← hl3] at p3
        have HP3 : Hid (rn ≤ 1048576) := by unfold Hid; omega
        have q3 : l3 ≤ 1048576 := by omega
        clear p3 hl3
        go_wp2_with fail
        go_ret
        exact ⟨_, rfl, fun _ => ⟨by have := HP1.out; omega, by have := HP2.out; omega, HP3.out⟩, HBw.out⟩

set_option maxRecDepth 100000 in
set_option maxHeartbeats 4000000 in
theorem eqAk_any {dp : Nat} {c0 c1 c2 c3 d0 d1 d2 d3 : Value} {ra : Option Addr} {rn rc : Nat} {x : AK} {w : World} {lo hi lo' hi' : Nat} {dp' : Nat} {c0' c1' c2' c3' d0' d1' d2' d3' : Value} {ra' : Option Addr} {rn' rc' : Nat} (h : RdAk lo hi w dp c0 c1 c2 c3 d0 d1 d2 d3 ra rn rc x) (h' : RdAk lo' hi' w dp' c0' c1' c2' c3' d0' d1' d2' d3' ra' rn' rc' x) (hhi : hi ≤ w.heap.size) (hhi' : hi' ≤ w.heap.size) (k : Int) :
    Calls Try.prog 34 #[.agg #[.int .i64 k, c0, c1, c2, c3, d0, d1, d2, d3, .slice ra rn rc], .agg #[.int .i64 k, c0', c1', c2', c3', d0', d1', d2', d3', .slice ra' rn' rc']] w fun e w' => e = .returned (.bool true) ∧ Below w.heap.size w w' := by
  obtain ⟨W0, hW0⟩ : ∃ W0, W0 = (w.alloc (.cells #[.int .i64 k, c0, c1, c2, c3, d0, d1, d2, d3, .slice ra rn rc] 56)).alloc (.cells #[.int .i64 k, c0', c1', c2', c3', d0', d1', d2', d3', .slice ra' rn' rc'] 56) := ⟨_, rfl⟩
  have HW0 : Hid (W0 = (w.alloc (.cells #[.int .i64 k, c0, c1, c2, c3, d0, d1, d2, d3, .slice ra rn rc] 56)).alloc (.cells #[.int .i64 k, c0', c1', c2', c3', d0', d1', d2', d3', .slice ra' rn' rc'] 56)) := hW0
  have hb0 : Below w.heap.size w W0 := by rw [hW0]; exact ((Below.refl _ _).alloc (Nat.le_refl _) _).alloc (by simp) _
  have HB0 : Hid (Below w.heap.size w W0) := hb0
  have hs0 : W0.heap.size = w.heap.size + 2 := by rw [hW0]; simp
  have hbx : BoxAk 56 W0 w.heap.size k c0 c1 c2 c3 d0 d1 d2 d3 (.slice ra rn rc) := by rw [hW0]; exact (BoxAk.new _ w _ _ _ _ _ _ _ _ _ _).below ((Below.refl _ _).alloc (Nat.le_refl _) _) (by simp)
  have hby : BoxAk 56 W0 (w.heap.size + 1) k c0' c1' c2' c3' d0' d1' d2' d3' (.slice ra' rn' rc') := by
    rw [hW0]
    have := BoxAk.new 56 (w.alloc (.cells #[.int .i64 k, c0, c1, c2, c3, d0, d1, d2, d3, .slice ra rn rc] 56)) k c0' c1' c2' c3' d0' d1' d2' d3' (.slice ra' rn' rc')
    rwa [World.size_alloc] at this
  have HAt : Hid (∀ W, Below W0.heap.size W0 W → BoxAk 56 W w.heap.size k c0 c1 c2 c3 d0 d1 d2 d3 (.slice ra rn rc) ∧ BoxAk 56 W (w.heap.size + 1) k c0' c1' c2' c3' d0' d1' d2' d3' (.slice ra' rn' rc')) := fun W hW => ⟨hbx.below hW (by omega), hby.below hW (by omega)⟩
  obtain ⟨z0, z1, z2, z3, z4, z5, z6, z7, z8, z9⟩ := hbx.cells
  obtain ⟨y0, y1, y2, y3, y4, y5, y6, y7, y8, y9⟩ := hby.cells
  have HRA : Hid (RdAk lo hi W0 dp c0 c1 c2 c3 d0 d1 d2 d3 ra rn rc x) := h.below hb0 hhi
  have HRA' : Hid (RdAk lo' hi' W0 dp' c0' c1' c2' c3' d0' d1' d2' d3' ra' rn' rc' x) := h'.below hb0 hhi'
  have hh0 : hi ≤ W0.heap.size := Nat.le_trans hhi hb0.size
  have hh0' : hi' ≤ W0.heap.size := Nat.le_trans hhi' hb0.size
  have hkk : (k != k) = false := by simp
  clear h h' hb0 hW0 hbx hby hs0
  go_enter Try.func34, Try.ntmps34
  go_upto_region 1 with fail
  rw [← HW0.out]
  go_wp2_with fail
  refine (eqC_any dp _ _ x.c dp' W0 lo hi lo' hi' HRA.out.c HRA'.out.c hh0 hh0').mono ?_
  rintro e w1 ⟨rfl, hb1⟩
  have H1 : Hid (Below W0.heap.size W0 w1) := hb1
  clear z0 z1 z2 z3 z4 z5 z6 z7 z8 z9 y0 y1 y2 y3 y4 y5 y6 y7 y8 y9 hb1
  obtain ⟨z0, z1, z2, z3, z4, z5, z6, z7, z8, z9⟩ := (HAt.out _ H1.out).1.cells
  obtain ⟨y0, y1, y2, y3, y4, y5, y6, y7, y8, y9⟩ := (HAt.out _ H1.out).2.cells
  go_wp2_with fail
  refine (eqC_any dp _ _ x.d dp' w1 lo hi lo' hi' (HRA.out.below H1.out hh0).d (HRA'.out.below H1.out hh0').d (Nat.le_trans hh0 H1.out.size) (Nat.le_trans hh0' H1.out.size)).mono ?_
  rintro e w2 ⟨rfl, hb2⟩
  have H2 : Hid (Below W0.heap.size W0 w2) := H1.out.trans (hb2.mono H1.out.size)
  clear z0 z1 z2 z3 z4 z5 z6 z7 z8 z9 y0 y1 y2 y3 y4 y5 y6 y7 y8 y9 hb2
  obtain ⟨z0, z1, z2, z3, z4, z5, z6, z7, z8, z9⟩ := (HAt.out _ H2.out).1.cells
  obtain ⟨y0, y1, y2, y3, y4, y5, y6, y7, y8, y9⟩ := (HAt.out _ H2.out).2.cells
  go_wp2_with fail
  refine (eqByteS_any _ _ _ _ _ _ x.r x.r _ (HRA.out.below H2.out hh0).r (HRA'.out.below H2.out hh0').r).mono ?_
  rintro e w3 ⟨rfl, nd0, hw0⟩
  rw [show decide (x.r = x.r) = true from by simp]
  have H3 : Hid (Below W0.heap.size W0 w3) := by unfold Hid; rw [hw0]; exact below_drewN H2.out nd0
  clear z0 z1 z2 z3 z4 z5 z6 z7 z8 z9 y0 y1 y2 y3 y4 y5 y6 y7 y8 y9 hw0
  obtain ⟨z0, z1, z2, z3, z4, z5, z6, z7, z8, z9⟩ := (HAt.out _ H3.out).1.cells
  obtain ⟨y0, y1, y2, y3, y4, y5, y6, y7, y8, y9⟩ := (HAt.out _ H3.out).2.cells
  go_wp2_with fail
  go_ret
  exact ⟨rfl, HB0.out.trans (H3.out.mono HB0.out.size)⟩

end Go.Proofs.Ytnhiccklpllkhaa
