/- Several texts in one: KbLawM, MdlLaw. -/
import Derived.Test.YtfbokljbmihlbaaGreatNKbVoc
import Derived.Test.YtfbokljbmihlbaaGreatNAxLaw
import Derived.Test.YtfbokljbmihlbaaGreatNSz
import Derived.Deep.RegionHeld3
import Derived.RangeFuncBox
import Derived.Test.YtfbokljbmihlbaaGreatNConLaw
import Derived.Deep.Slices
namespace Go.Proofs.YtfbokljbmihlbaaGreat

section
section
open Go.RowKit

set_option maxRecDepth 100000 in
set_option maxHeartbeats 8000000 in
theorem szAxG_any {dp : Nat} {c0 c1 c2 c3 d0 d1 d2 d3 : Value} {ra : Option Addr} {rn rc : Nat} {sa : Option Addr} {sn sc : Nat} {aa : Option Addr} {an ac : Nat} {ba : Option Addr} {bn bc : Nat} {x : AX} {w : World} {lo hi : Nat} (h : RdA lo hi w dp c0 c1 c2 c3 d0 d1 d2 d3 ra rn rc sa sn sc aa an ac ba bn bc x) (hhi : hi ≤ w.heap.size) (k : Int) (left : Int) (hl0 : 0 ≤ left) (hl1 : left ≤ 1048576) :
    Calls Tryz.prog 6 #[.agg #[.int .i64 k, c0, c1, c2, c3, d0, d1, d2, d3, .slice ra rn rc, .slice sa sn sc, .slice aa an ac, .slice ba bn bc], .int .i64 left] w fun e w' => ∃ r : Int, e = .returned (.int .i64 r) ∧ (¬ r < 0 → r + (x.bulk : Nat) ≤ left) ∧ Below w.heap.size w w' := by
  obtain ⟨W0, hW0⟩ : ∃ W0, W0 = w.alloc (.cells #[.int .i64 k, c0, c1, c2, c3, d0, d1, d2, d3, .slice ra rn rc, .slice sa sn sc, .slice aa an ac, .slice ba bn bc] 32) := ⟨_, rfl⟩
  have HW0 : Hid (W0 = w.alloc (.cells #[.int .i64 k, c0, c1, c2, c3, d0, d1, d2, d3, .slice ra rn rc, .slice sa sn sc, .slice aa an ac, .slice ba bn bc] 32)) := hW0
  have hb0 : Below w.heap.size w W0 := by rw [hW0]; exact (Below.refl _ _).alloc (Nat.le_refl _) _
  have HB0 : Hid (Below w.heap.size w W0) := hb0
  have hlt0 : w.heap.size < W0.heap.size := by rw [hW0]; simp
  have hbx : BoxA 32 W0 w.heap.size k c0 c1 c2 c3 d0 d1 d2 d3 (.slice ra rn rc) (.slice sa sn sc) (.slice aa an ac) (.slice ba bn bc) := by rw [hW0]; exact BoxA.new _ w _ _ _ _ _ _ _ _ _ _ _ _ _
  have HAt : Hid (∀ W, Below W0.heap.size W0 W → BoxA 32 W w.heap.size k c0 c1 c2 c3 d0 d1 d2 d3 (.slice ra rn rc) (.slice sa sn sc) (.slice aa an ac) (.slice ba bn bc)) := fun W hW => hbx.below hW hlt0
  obtain ⟨z0, z1, z2, z3, z4, z5, z6, z7, z8, z9, z10, z11, z12⟩ := hbx.cells
  have HRA : Hid (RdA lo hi W0 dp c0 c1 c2 c3 d0 d1 d2 d3 ra rn rc sa sn sc aa an ac ba bn bc x) := h.below hb0 hhi
  have hh0 : hi ≤ W0.heap.size := Nat.le_trans hhi hb0.size
  have HFit : Hid (rn ≤ 9223372036854775807 ∧ sn ≤ 9223372036854775807 ∧ an ≤ 9223372036854775807 ∧ bn ≤ 9223372036854775807) := by
    have := h.r.fits
    have := h.s.fits
    have := h.a.fits
    have := h.b.fits
    unfold Hid
    omega
  clear h hb0 hW0 hbx
  go_enter Tryz.func6, Tryz.ntmps6
  go_wp2_with fail
  rw [← HW0.out]
  refine (szC_any dp _ x.c left W0 lo hi HRA.out.c hh0 hl0 hl1).mono ?_
  rintro e w1 ⟨rfl, hb1⟩
  obtain ⟨l1, hq1⟩ : ∃ l, l = szRes left x.c.bulk := ⟨_, rfl⟩
  rw [← hq1]
  have H1 : Hid (Below W0.heap.size W0 w1) := hb1
  clear z0 z1 z2 z3 z4 z5 z6 z7 z8 z9 z10 z11 z12 hb1
  obtain ⟨z0, z1, z2, z3, z4, z5, z6, z7, z8, z9, z10, z11, z12⟩ := (HAt.out _ H1.out).cells
  by_cases n1 : l1 < 0
  · clear hq1
    go_wp2_with fail
    go_ret
    exact ⟨-1, rfl, fun h => by omega, HB0.out.trans (H1.out.mono HB0.out.size)⟩
  · have p1 := szRes_pos (by rw [← hq1]; exact n1)
    rw [← hq1] at p1
    have HP1 : Hid (l1 = left - (x.c.bulk : Int)) := p1.2
    have q1 : l1 ≤ 1048576 := by omega
    clear p1 hq1
    go_wp2_with fail
    refine (szC_any dp _ x.d l1 w1 lo hi (HRA.out.below H1.out hh0).d (Nat.le_trans hh0 H1.out.size) (by omega) q1).mono ?_
    rintro e w2 ⟨rfl, hb2⟩
    obtain ⟨l2, hq2⟩ : ∃ l, l = szRes l1 x.d.bulk := ⟨_, rfl⟩
    rw [← hq2]
    have H2 : Hid (Below W0.heap.size W0 w2) := H1.out.trans (hb2.mono H1.out.size)
    have HBw : Hid (Below w.heap.size w w2) := HB0.out.trans (H2.out.mono HB0.out.size)
    clear z0 z1 z2 z3 z4 z5 z6 z7 z8 z9 z10 z11 z12 hb2
    obtain ⟨z0, z1, z2, z3, z4, z5, z6, z7, z8, z9, z10, z11, z12⟩ := (HAt.out _ H2.out).cells
    by_cases n2 : l2 < 0
    · clear hq2
      go_wp2_with fail
      go_ret
      exact ⟨-1, rfl, fun h => by omega, HBw.out⟩
    · have p2 := szRes_pos (by rw [← hq2]; exact n2)
      rw [← hq2] at p2
      have HP2 : Hid (l2 = l1 - (x.d.bulk : Int)) := p2.2
      have q2 : l2 ≤ 1048576 := by omega
      clear p2 hq2
      go_wp2_with fail
      refine (szByteS_any ra rn rc l2 w2 ⟨by omega, by omega⟩ HFit.out.1).mono ?_
      rintro e w' ⟨rfl, hw⟩
      rw [hw]
      obtain ⟨l3, hq3⟩ : ∃ l, l = szRes l2 rn := ⟨_, rfl⟩
      rw [← hq3]
      clear hw
      by_cases n3 : l3 < 0
      · clear hq3
        go_wp2_with fail
        go_ret
        exact ⟨-1, rfl, fun h => by omega, HBw.out⟩
      · have p3 := szRes_pos (by rw [← hq3]; exact n3)
        rw [← hq3] at p3
        have HP3 : Hid (l3 = l2 - (rn : Int)) := p3.2
        have q3 : l3 ≤ 1048576 := by omega
        clear p3 hq3
        go_wp2_with fail
        refine (szByteS_any sa sn sc l3 w2 ⟨by omega, by omega⟩ HFit.out.2.1).mono ?_
        rintro e w' ⟨rfl, hw⟩
        rw [hw]
        obtain ⟨l4, hq4⟩ : ∃ l, l = szRes l3 sn := ⟨_, rfl⟩
        rw [← hq4]
        clear hw
        by_cases n4 : l4 < 0
        · clear hq4
          go_wp2_with fail
          go_ret
          exact ⟨-1, rfl, fun h => by omega, HBw.out⟩
        · have p4 := szRes_pos (by rw [← hq4]; exact n4)
          rw [← hq4] at p4
          have HP4 : Hid (l4 = l3 - (sn : Int)) := p4.2
          have q4 : l4 ≤ 1048576 := by omega
          clear p4 hq4
          go_wp2_with fail
          refine (szByteS_any aa an ac l4 w2 ⟨by omega, by omega⟩ HFit.out.2.2.1).mono ?_
          rintro e w' ⟨rfl, hw⟩
          rw [hw]
          obtain ⟨l5, hq5⟩ : ∃ l, l = szRes l4 an := ⟨_, rfl⟩
          rw [← hq5]
          clear hw
          by_cases n5 : l5 < 0
          · clear hq5
            go_wp2_with fail
            go_ret
            exact ⟨-1, rfl, fun h => by omega, HBw.out⟩
          · have p5 := szRes_pos (by rw [← hq5]; exact n5)
            rw [← hq5] at p5
            have HP5 : Hid (l5 = l4 - (an : Int)) := p5.2
            have q5 : l5 ≤ 1048576 := by omega
            clear p5 hq5
            go_wp2_with fail
            refine (szByteS_any ba bn bc l5 w2 ⟨by omega, by omega⟩ HFit.out.2.2.2).mono ?_
            rintro e w' ⟨rfl, hw⟩
            rw [hw]
            obtain ⟨l6, hq6⟩ : ∃ l, l = szRes l5 bn := ⟨_, rfl⟩
            rw [← hq6]
            clear hw
            by_cases n6 : l6 < 0
            · clear hq6
              go_wp2_with fail
              go_ret
              exact ⟨-1, rfl, fun h => by omega, HBw.out⟩
            · have p6 := szRes_pos (by rw [← hq6]; exact n6)
              rw [← hq6] at p6
              have HP6 : Hid (l6 = l5 - (bn : Int)) := p6.2
              have q6 : l6 ≤ 1048576 := by omega
              clear p6 hq6
              go_wp2_with fail
              go_ret
              exact ⟨_, rfl, fun _ => by have := HP1.out; have := HP2.out; have := HP3.out; have := HP4.out; have := HP5.out; have := HP6.out; have := HRA.out.r.len; have := HRA.out.s.len; have := HRA.out.a.len; have := HRA.out.b.len; unfold AX.bulk; omega, HBw.out⟩

theorem below_drew' (w : World) : Below w.heap.size w w.drew := (Below.refl _ _).drew

set_option maxRecDepth 100000 in
set_option maxHeartbeats 8000000 in
theorem eqAxs_any {a : Option Addr} {n cap : Nat} {xs : List AX} {dp : Nat} {w : World} {lo hi : Nat} {a' : Option Addr} {cap' dp' lo' hi' : Nat} (h : RdK lo hi w dp a n cap xs) (h' : RdK lo' hi' w dp' a' n cap' xs) (hhi : hi ≤ w.heap.size) (hhi' : hi' ≤ w.heap.size) :
    Calls Tryz.prog 46 #[.slice a n cap, .slice a' n cap'] w fun e w' => e = .returned (.bool true) ∧ Below w.heap.size w w' := by
  have HK : Hid (RdK lo hi w dp a n cap xs) := h
  have HK' : Hid (RdK lo' hi' w dp' a' n cap' xs) := h'
  have HL : Hid (xs.length = n) := h.len
  have hf := h.fits
  have hf' := h'.fits
  clear h h'
  go_enter Tryz.func46, Tryz.ntmps46
  go_wp2_with fail
  go_loopw [5] (fun i wr => ∃ k : Nat, k ≤ n ∧ i = .int .i64 k ∧ Below w.heap.size w wr) (fun i _ => n - (intOf i).toNat)
  case atStart => exact ⟨0, Nat.zero_le _, rfl, Below.refl _ _⟩
  case round =>
    obtain ⟨k, hk, rfl, hbel⟩ := hrel
    have HB : Hid (Below w.heap.size w wr) := hbel
    by_cases hlt : k < n
    · have hK := HK.out.below hbel hhi
      have hK' := HK'.out.below hbel hhi'
      rcases hK.cells with hz | ⟨b, off, e1, _, hbh, hc⟩
      · omega
      · rcases hK'.cells with hz | ⟨b', off', e1', _, hbh', hc'⟩
        · omega
        · subst e1 e1'
          obtain ⟨c0, c1, c2, c3, d0, d1, d2, d3, ra, rn, rc, sa, sn, sc, aa, an, ac, ba, bn, bc, q0, q1, q2, q3, q4, q5, q6, q7, q8, q9, q10, q11, q12, hrd⟩ := hc k hlt
          obtain ⟨c0', c1', c2', c3', d0', d1', d2', d3', ra', rn', rc', sa', sn', sc', aa', an', ac', ba', bn', bc', q0', q1', q2', q3', q4', q5', q6', q7', q8', q9', q10', q11', q12', hrd'⟩ := hc' k hlt
          have HRd : Hid (RdA lo hi wr.drew dp c0 c1 c2 c3 d0 d1 d2 d3 ra rn rc sa sn sc aa an ac ba bn bc (xs.getD k AX.zero)) := hrd.same (fun _ _ _ => rfl)
          have HRd' : Hid (RdA lo' hi' wr.drew dp' c0' c1' c2' c3' d0' d1' d2' d3' ra' rn' rc' sa' sn' sc' aa' an' ac' ba' bn' bc' (xs.getD k AX.zero)) := hrd'.same (fun _ _ _ => rfl)
          have hki : (k : Int) < (n : Int) := by omega
          obtain ⟨kk, hkk⟩ : ∃ kk, kk = (xs.getD k AX.zero).kind := ⟨_, rfl⟩
          rw [← hkk] at q0 q0'
          have hh1 : hi ≤ wr.heap.size := Nat.le_trans hhi hbel.size
          have hh2 : hi' ≤ wr.heap.size := Nat.le_trans hhi' hbel.size
          clear hK hK' hc hc' hrd hrd' hbel hkk
          go_upto_region 6 with fail
          first | go_region_with (first
            | (go_at_call 12; refine (eqAx_any HRd.out HRd'.out hh1 hh2 kk).mono ?_; rintro e w7 ⟨rfl, hb7⟩; have H7 : Hid (Below w.heap.size w w7) := HB.out.trans ((below_drew' wr).trans hb7 |>.mono HB.out.size); clear hb7)) | fail
          all_goals
            go_wp2_with fail
            go_roundw
            case rel => exact ⟨k + 1, by omega, by go_num, H7.out⟩
            case measure => simp [intOf]; omega
    · clear hbel
      go_wp2_with fail
      go_ret
      exact ⟨rfl, HB.out⟩

set_option maxRecDepth 100000 in
set_option maxHeartbeats 1000000 in
theorem eqKb_any {a : Option Addr} {n cap : Nat} {xs : List AX} {dp : Nat} {w : World} {lo hi : Nat} {a' : Option Addr} {cap' dp' lo' hi' : Nat} (h : RdK lo hi w dp a n cap xs) (h' : RdK lo' hi' w dp' a' n cap' xs) (hhi : hi ≤ w.heap.size) (hhi' : hi' ≤ w.heap.size) :
    Calls Tryz.prog 17 #[.agg #[.slice a n cap], .agg #[.slice a' n cap']] w fun e w' => e = .returned (.bool true) ∧ Below w.heap.size w w' := by
  obtain ⟨W0, hW0⟩ : ∃ W0, W0 = (w.alloc (.cells #[.slice a n cap] 54)).alloc (.cells #[.slice a' n cap'] 54) := ⟨_, rfl⟩
  have HW0 : Hid (W0 = (w.alloc (.cells #[.slice a n cap] 54)).alloc (.cells #[.slice a' n cap'] 54)) := hW0
  have hb0 : Below w.heap.size w W0 := by rw [hW0]; exact ((Below.refl _ _).alloc (Nat.le_refl _) _).alloc (by simp) _
  have HB0 : Hid (Below w.heap.size w W0) := hb0
  have HK : Hid (RdK lo hi W0 dp a n cap xs) := h.below hb0 hhi
  have HK' : Hid (RdK lo' hi' W0 dp' a' n cap' xs) := h'.below hb0 hhi'
  clear h h' hb0 hW0
  go_enter Tryz.func17, Tryz.ntmps17
  go_wp2_with fail
  rw [← HW0.out]
  refine (eqAxs_any HK.out HK'.out (Nat.le_trans hhi HB0.out.size) (Nat.le_trans hhi' HB0.out.size)).mono ?_
  rintro e w1 ⟨rfl, hb1⟩
  have HB1 : Hid (Below w.heap.size w w1) := HB0.out.trans (hb1.mono HB0.out.size)
  clear hb1
  go_wp2_with fail
  go_ret
  exact ⟨rfl, HB1.out⟩
end

section
open Go.RowKit

def put13 (F : Nat → Value) (p : Nat) (v0 v1 v2 v3 v4 v5 v6 v7 v8 v9 v10 v11 v12 : Value) (j : Nat) : Value := if j = p + 12 then v12 else if j = p + 11 then v11 else if j = p + 10 then v10 else if j = p + 9 then v9 else if j = p + 8 then v8 else if j = p + 7 then v7 else if j = p + 6 then v6 else if j = p + 5 then v5 else if j = p + 4 then v4 else if j = p + 3 then v3 else if j = p + 2 then v2 else if j = p + 1 then v1 else if j = p then v0 else F j
def set13o (W : World) (g p : Nat) (v0 v1 v2 v3 v4 v5 v6 v7 v8 v9 v10 v11 v12 : Value) : World := (((((((((((((W.setCell ⟨g, p, none⟩ v0).setCell ⟨g, p + 1, none⟩ v1).setCell ⟨g, p + 2, none⟩ v2).setCell ⟨g, p + 3, none⟩ v3).setCell ⟨g, p + 4, none⟩ v4).setCell ⟨g, p + 5, none⟩ v5).setCell ⟨g, p + 6, none⟩ v6).setCell ⟨g, p + 7, none⟩ v7).setCell ⟨g, p + 8, none⟩ v8).setCell ⟨g, p + 9, none⟩ v9).setCell ⟨g, p + 10, none⟩ v10).setCell ⟨g, p + 11, none⟩ v11).setCell ⟨g, p + 12, none⟩ v12)

theorem row_put13 {W : World} {g t n p : Nat} {F : Nat → Value} (h : W.rowIs g t n F) (v0 v1 v2 v3 v4 v5 v6 v7 v8 v9 v10 v11 v12 : Value) : (set13o W g p v0 v1 v2 v3 v4 v5 v6 v7 v8 v9 v10 v11 v12).rowIs g t n (put13 F p v0 v1 v2 v3 v4 v5 v6 v7 v8 v9 v10 v11 v12) := (((((((((((((h.set (p) v0).set (p + 1) v1).set (p + 2) v2).set (p + 3) v3).set (p + 4) v4).set (p + 5) v5).set (p + 6) v6).set (p + 7) v7).set (p + 8) v8).set (p + 9) v9).set (p + 10) v10).set (p + 11) v11).set (p + 12) v12)
theorem heap_set13o (W : World) {b g p : Nat} (v0 v1 v2 v3 v4 v5 v6 v7 v8 v9 v10 v11 v12 : Value) (hb : b ≠ g) : (set13o W g p v0 v1 v2 v3 v4 v5 v6 v7 v8 v9 v10 v11 v12).heap[b]? = W.heap[b]? := by
  unfold set13o
  rw [Below.heap_setCell _ ⟨g, p + 12, none⟩ _ b hb, Below.heap_setCell _ ⟨g, p + 11, none⟩ _ b hb, Below.heap_setCell _ ⟨g, p + 10, none⟩ _ b hb, Below.heap_setCell _ ⟨g, p + 9, none⟩ _ b hb, Below.heap_setCell _ ⟨g, p + 8, none⟩ _ b hb, Below.heap_setCell _ ⟨g, p + 7, none⟩ _ b hb, Below.heap_setCell _ ⟨g, p + 6, none⟩ _ b hb, Below.heap_setCell _ ⟨g, p + 5, none⟩ _ b hb, Below.heap_setCell _ ⟨g, p + 4, none⟩ _ b hb, Below.heap_setCell _ ⟨g, p + 3, none⟩ _ b hb, Below.heap_setCell _ ⟨g, p + 2, none⟩ _ b hb, Below.heap_setCell _ ⟨g, p + 1, none⟩ _ b hb, Below.heap_setCell _ ⟨g, p, none⟩ _ b hb]
theorem size_set13o (W : World) (g p : Nat) (v0 v1 v2 v3 v4 v5 v6 v7 v8 v9 v10 v11 v12 : Value) : (set13o W g p v0 v1 v2 v3 v4 v5 v6 v7 v8 v9 v10 v11 v12).heap.size = W.heap.size := by unfold set13o; simp
theorem below_set13o {B : Nat} {w W : World} (h : Below B w W) {g : Nat} (hg : B ≤ g) (p : Nat) (v0 v1 v2 v3 v4 v5 v6 v7 v8 v9 v10 v11 v12 : Value) : Below B w (set13o W g p v0 v1 v2 v3 v4 v5 v6 v7 v8 v9 v10 v11 v12) := by
  unfold set13o
  exact (((((((((((((h.setCell (p := ⟨g, p, none⟩) hg _).setCell (p := ⟨g, p + 1, none⟩) hg _).setCell (p := ⟨g, p + 2, none⟩) hg _).setCell (p := ⟨g, p + 3, none⟩) hg _).setCell (p := ⟨g, p + 4, none⟩) hg _).setCell (p := ⟨g, p + 5, none⟩) hg _).setCell (p := ⟨g, p + 6, none⟩) hg _).setCell (p := ⟨g, p + 7, none⟩) hg _).setCell (p := ⟨g, p + 8, none⟩) hg _).setCell (p := ⟨g, p + 9, none⟩) hg _).setCell (p := ⟨g, p + 10, none⟩) hg _).setCell (p := ⟨g, p + 11, none⟩) hg _).setCell (p := ⟨g, p + 12, none⟩) hg _)
theorem free_set13o {lo hi : Nat} {W : World} (h : Free lo hi W) (g p : Nat) (v0 v1 v2 v3 v4 v5 v6 v7 v8 v9 v10 v11 v12 : Value) : Free lo hi (set13o W g p v0 v1 v2 v3 v4 v5 v6 v7 v8 v9 v10 v11 v12) := by
  unfold set13o
  exact (((((((((((((h.set _ _).set _ _).set _ _).set _ _).set _ _).set _ _).set _ _).set _ _).set _ _).set _ _).set _ _).set _ _).set _ _)

theorem put13_at (F : Nat → Value) (p : Nat) (v0 v1 v2 v3 v4 v5 v6 v7 v8 v9 v10 v11 v12 : Value) : put13 F p v0 v1 v2 v3 v4 v5 v6 v7 v8 v9 v10 v11 v12 (p) = v0 ∧ put13 F p v0 v1 v2 v3 v4 v5 v6 v7 v8 v9 v10 v11 v12 (p + 1) = v1 ∧ put13 F p v0 v1 v2 v3 v4 v5 v6 v7 v8 v9 v10 v11 v12 (p + 2) = v2 ∧ put13 F p v0 v1 v2 v3 v4 v5 v6 v7 v8 v9 v10 v11 v12 (p + 3) = v3 ∧ put13 F p v0 v1 v2 v3 v4 v5 v6 v7 v8 v9 v10 v11 v12 (p + 4) = v4 ∧ put13 F p v0 v1 v2 v3 v4 v5 v6 v7 v8 v9 v10 v11 v12 (p + 5) = v5 ∧ put13 F p v0 v1 v2 v3 v4 v5 v6 v7 v8 v9 v10 v11 v12 (p + 6) = v6 ∧ put13 F p v0 v1 v2 v3 v4 v5 v6 v7 v8 v9 v10 v11 v12 (p + 7) = v7 ∧ put13 F p v0 v1 v2 v3 v4 v5 v6 v7 v8 v9 v10 v11 v12 (p + 8) = v8 ∧ put13 F p v0 v1 v2 v3 v4 v5 v6 v7 v8 v9 v10 v11 v12 (p + 9) = v9 ∧ put13 F p v0 v1 v2 v3 v4 v5 v6 v7 v8 v9 v10 v11 v12 (p + 10) = v10 ∧ put13 F p v0 v1 v2 v3 v4 v5 v6 v7 v8 v9 v10 v11 v12 (p + 11) = v11 ∧ put13 F p v0 v1 v2 v3 v4 v5 v6 v7 v8 v9 v10 v11 v12 (p + 12) = v12 := by
  refine ⟨?_, ?_, ?_, ?_, ?_, ?_, ?_, ?_, ?_, ?_, ?_, ?_, ?_⟩ <;> simp [put13]
theorem put13_off (F : Nat → Value) {p j : Nat} (v0 v1 v2 v3 v4 v5 v6 v7 v8 v9 v10 v11 v12 : Value) (h : j < p) : put13 F p v0 v1 v2 v3 v4 v5 v6 v7 v8 v9 v10 v11 v12 j = F j := by
  unfold put13
  rw [if_neg (by omega), if_neg (by omega), if_neg (by omega), if_neg (by omega), if_neg (by omega), if_neg (by omega), if_neg (by omega), if_neg (by omega), if_neg (by omega), if_neg (by omega), if_neg (by omega), if_neg (by omega), if_neg (by omega)]

/-- Thirteen values from here on read as this axiom. -/
def AxF (F : Nat → Value) (o : Nat) (lo hi : Nat) (w : World) (dp : Nat) (x : AX) : Prop := ∃ (c0 c1 c2 c3 d0 d1 d2 d3 : Value) (ra : Option Addr) (rn rc : Nat) (sa : Option Addr) (sn sc : Nat) (aa : Option Addr) (an ac : Nat) (ba : Option Addr) (bn bc : Nat),
  F o = .int .i64 x.kind ∧ F (o + 1) = c0 ∧ F (o + 2) = c1 ∧ F (o + 3) = c2 ∧ F (o + 4) = c3 ∧ F (o + 5) = d0 ∧ F (o + 6) = d1 ∧ F (o + 7) = d2 ∧ F (o + 8) = d3 ∧ F (o + 9) = .slice ra rn rc ∧ F (o + 10) = .slice sa sn sc ∧ F (o + 11) = .slice aa an ac ∧ F (o + 12) = .slice ba bn bc ∧
  RdA lo hi w dp c0 c1 c2 c3 d0 d1 d2 d3 ra rn rc sa sn sc aa an ac ba bn bc x

theorem RdA.mono {lo hi lo' hi' : Nat} {w : World} {dp : Nat} {c0 c1 c2 c3 d0 d1 d2 d3 : Value} {ra : Option Addr} {rn rc : Nat} {sa : Option Addr} {sn sc : Nat} {aa : Option Addr} {an ac : Nat} {ba : Option Addr} {bn bc : Nat} {x : AX}
    (h : RdA lo hi w dp c0 c1 c2 c3 d0 d1 d2 d3 ra rn rc sa sn sc aa an ac ba bn bc x) (h1 : lo' ≤ lo) (h2 : hi ≤ hi') : RdA lo' hi' w dp c0 c1 c2 c3 d0 d1 d2 d3 ra rn rc sa sn sc aa an ac ba bn bc x :=
  ⟨h.c.mono h1 h2, h.d.mono h1 h2, h.r.mono h1 h2, h.s.mono h1 h2, h.a.mono h1 h2, h.b.mono h1 h2⟩

theorem AxF.carry {F G : Nat → Value} {o lo hi hi' : Nat} {w w' : World} {dp : Nat} {x : AX} (h : AxF F o lo hi w dp x) (hs : Same lo hi w w') (hh : hi ≤ hi') (e : ∀ j, o ≤ j → j < o + 13 → G j = F j) : AxF G o lo hi' w' dp x := by
  obtain ⟨c0, c1, c2, c3, d0, d1, d2, d3, ra, rn, rc, sa, sn, sc, aa, an, ac, ba, bn, bc, q0, q1, q2, q3, q4, q5, q6, q7, q8, q9, q10, q11, q12, hr⟩ := h
  exact ⟨c0, c1, c2, c3, d0, d1, d2, d3, ra, rn, rc, sa, sn, sc, aa, an, ac, ba, bn, bc, (e o (by omega) (by omega)).trans q0, (e (o + 1) (by omega) (by omega)).trans q1, (e (o + 2) (by omega) (by omega)).trans q2, (e (o + 3) (by omega) (by omega)).trans q3, (e (o + 4) (by omega) (by omega)).trans q4, (e (o + 5) (by omega) (by omega)).trans q5, (e (o + 6) (by omega) (by omega)).trans q6, (e (o + 7) (by omega) (by omega)).trans q7, (e (o + 8) (by omega) (by omega)).trans q8, (e (o + 9) (by omega) (by omega)).trans q9, (e (o + 10) (by omega) (by omega)).trans q10, (e (o + 11) (by omega) (by omega)).trans q11, (e (o + 12) (by omega) (by omega)).trans q12, (hr.same hs).mono (Nat.le_refl _) hh⟩

theorem Tryz.infoAx : (Tryz.prog.info? 42).map (fun i => (i.zero, i.size, i.bytes)) = some (some (.agg #[.int .i64 0, .int .i64 0, .slice none 0 0, .slice none 0 0, .slice none 0 0, .int .i64 0, .slice none 0 0, .slice none 0 0, .slice none 0 0, .slice none 0 0, .slice none 0 0, .slice none 0 0, .slice none 0 0]), 13, 264) := by kernel_rfl

set_option maxRecDepth 100000 in
set_option maxHeartbeats 8000000 in
theorem toAxs_any {a : Option Addr} {n cap : Nat} {xs : List AX} {dp : Nat} {w : World} {lo hi : Nat} (h : RdK lo hi w dp a n cap xs) (hhi : hi ≤ w.heap.size) (hbk : bulkK xs ≤ 1048576) :
    Calls Tryz.prog 42 #[.slice a n cap] w fun e w' => e = .returned (.slice (some ⟨w.heap.size, 0, none⟩) n n) ∧ RdK w.heap.size w'.heap.size w' dp (some ⟨w.heap.size, 0, none⟩) n n xs ∧ Below w.heap.size w w' ∧ Free w.heap.size w'.heap.size w' := by
  have HR : Hid (RdK lo hi w dp a n cap xs) := h
  have HL : Hid (xs.length = n) := h.len
  have hf := h.fits
  have hn1 : n ≤ 1048576 := by have := length_le_bulkK xs; have := h.len; omega
  have HBk : Hid (bulkK xs ≤ 1048576) := hbk
  have hmk : ∀ w : World, (Instr.makeSlice 52 (.int .i64 (n : Int)) (.int .i64 (n : Int))).run Tryz.prog w = .ok (.slice (some ⟨w.heap.size, 0, none⟩) n n) (w.alloc (.cells (madeCells #[.int .i64 0, .int .i64 0, .slice none 0 0, .slice none 0 0, .slice none 0 0, .int .i64 0, .slice none 0 0, .slice none 0 0, .slice none 0 0, .slice none 0 0, .slice none 0 0, .slice none 0 0, .slice none 0 0] (n * 13)) 42)) := by
    intro w
    obtain ⟨i0, hi0, hz0, hz1, hz2⟩ := info_parts Tryz.infoAx
    have hr := run_make (P := Tryz.prog) w 52 42 i0 _ Tryz.underlying52 hi0 hz0 .i64 .i64 n n (by omega) (Int.le_refl _) (by rw [hz2]; omega) (by omega)
    simp only [Int.toNat_natCast, hz1] at hr
    exact hr
  obtain ⟨M, hM⟩ : ∃ M, M = madeCells #[.int .i64 0, .int .i64 0, .slice none 0 0, .slice none 0 0, .slice none 0 0, .int .i64 0, .slice none 0 0, .slice none 0 0, .slice none 0 0, .slice none 0 0, .slice none 0 0, .slice none 0 0, .slice none 0 0] (n * 13) := ⟨_, rfl⟩
  rw [← hM] at hmk
  have hMs : M.size = n * 13 := by rw [hM, size_madeCells]
  have h0 : Hid ((w.alloc (.cells M 42)).rowIs w.heap.size 42 (n * 13) (fun i => M.getD i undef)) := by
    unfold Hid
    have key := World.rowIs_alloc w M 42 (fun i => M.getD i undef) (fun i hi => by simp [Array.getD, hi])
    rw [hMs] at key; exact key
  have HF0 : Hid (Free w.heap.size (w.heap.size + 1) (w.alloc (.cells M 42))) := (Free.nil w w.heap.size).alloc _ _
  clear h hbk hM hMs
  go_enter Tryz.func42, Tryz.ntmps42
  go_wp2_with fail
  go_loopw [4] (fun i wr => ∃ (k : Nat) (F : Nat → Value), k ≤ n ∧ i = .int .i64 k ∧ wr.rowIs w.heap.size 42 (n * 13) F ∧ (∀ i, i < k → AxF F (i * 13) (w.heap.size + 1) wr.heap.size wr dp (xs.getD i AX.zero)) ∧ Free w.heap.size wr.heap.size wr ∧ Below w.heap.size w wr) (fun i _ => n - (intOf i).toNat)
  case atStart => exact ⟨0, _, Nat.zero_le _, rfl, h0.out, fun i hi => absurd hi (by omega), by simpa using HF0.out, (Below.refl _ _).alloc (Nat.le_refl _) _⟩
  case round =>
    obtain ⟨k, F, hk, rfl, hrow, hkd, hfr, hbel⟩ := hrel
    by_cases hlt : k < n
    · have hK := HR.out.below hbel hhi
      rcases hK.cells with hz | ⟨b, off, e1, _, hbh, hc⟩
      · omega
      · subst e1
        obtain ⟨c0, c1, c2, c3, d0, d1, d2, d3, ra, rn, rc, sa, sn, sc, aa, an, ac, ba, bn, bc, q0, q1, q2, q3, q4, q5, q6, q7, q8, q9, q10, q11, q12, hrd⟩ := hc k hlt
        have HRd : Hid (RdA lo hi wr dp c0 c1 c2 c3 d0 d1 d2 d3 ra rn rc sa sn sc aa an ac ba bn bc (xs.getD k AX.zero)) := hrd
        have HKd : Hid (∀ i, i < k → AxF F (i * 13) (w.heap.size + 1) wr.heap.size wr dp (xs.getD i AX.zero)) := hkd
        have HB : Hid (Below w.heap.size w wr) := hbel
        have HRow : Hid (wr.rowIs w.heap.size 42 (n * 13) F) := hrow
        have HFr : Hid (Free w.heap.size wr.heap.size wr) := hfr
        have hki : (k : Int) < (n : Int) := by omega
        have hlw := hrow.lt
        have HBd : Hid ((xs.getD k AX.zero).c.bulk ≤ 1048576 ∧ (xs.getD k AX.zero).d.bulk ≤ 1048576 ∧ rn ≤ 1048576 ∧ sn ≤ 1048576 ∧ an ≤ 1048576 ∧ bn ≤ 1048576) := by
          have h1 := bulkK_getD xs k (by rw [HL.out]; exact hlt)
          have h2 := HBk.out
          unfold AX.bulk at h1
          have := hrd.r.len; have := hrd.s.len; have := hrd.a.len; have := hrd.b.len
          unfold Hid; omega
        obtain ⟨kk, hkk⟩ : ∃ kk, kk = (xs.getD k AX.zero).kind := ⟨_, rfl⟩
        rw [← hkk] at q0
        have HKk : Hid (kk = (xs.getD k AX.zero).kind) := hkk
        clear hK hc hrd hbel hrow hkd hfr hkk
        go_wp2_with fail
        refine (toAxF_any HRd.out (Nat.le_trans hhi HB.out.size) HBd.out.1 HBd.out.2.1 HBd.out.2.2.1 HBd.out.2.2.2.1 HBd.out.2.2.2.2.1 HBd.out.2.2.2.2.2 kk).mono ?_
        rintro e w1 ⟨u0, u1, u2, u3, y0, y1, y2, y3, g0, g1, g2, g3, rfl, hx1, hb1, hf1⟩
        obtain ⟨ek, e1a, e1n, e1c, e2a, e2n, e2c, e3a, e3n, e3c, rfl, rfl, rfl, rfl⟩ := hx1.c.sh.form
        obtain ⟨fk, f1a, f1n, f1c, f2a, f2n, f2c, f3a, f3n, f3c, rfl, rfl, rfl, rfl⟩ := hx1.d.sh.form
        have hs1 := hb1.size
        have hrow1 : w1.rowIs w.heap.size 42 (n * 13) F := HRow.out.of_block (hb1.block _ hlw)
        have o0 := hrow1.cell (show k * 13 < n * 13 by omega)
        have o1 := hrow1.cell (show k * 13 + 1 < n * 13 by omega)
        have o2 := hrow1.cell (show k * 13 + 2 < n * 13 by omega)
        have o3 := hrow1.cell (show k * 13 + 3 < n * 13 by omega)
        have o4 := hrow1.cell (show k * 13 + 4 < n * 13 by omega)
        have o5 := hrow1.cell (show k * 13 + 5 < n * 13 by omega)
        have o6 := hrow1.cell (show k * 13 + 6 < n * 13 by omega)
        have o7 := hrow1.cell (show k * 13 + 7 < n * 13 by omega)
        have o8 := hrow1.cell (show k * 13 + 8 < n * 13 by omega)
        have o9 := hrow1.cell (show k * 13 + 9 < n * 13 by omega)
        have o10 := hrow1.cell (show k * 13 + 10 < n * 13 by omega)
        have o11 := hrow1.cell (show k * 13 + 11 < n * 13 by omega)
        have o12 := hrow1.cell (show k * 13 + 12 < n * 13 by omega)
        have df : ∀ o, w1.frozen? ⟨w.heap.size, o, none⟩ = false := fun o => hrow1.frozen o
        have HStep := row_put13 (p := k * 13) hrow1 (.int .i64 kk) (.int .i64 ek) (.slice e1a e1n e1c) (.slice e2a e2n e2c) (.slice e3a e3n e3c) (.int .i64 fk) (.slice f1a f1n f1c) (.slice f2a f2n f2c) (.slice f3a f3n f3c) (.slice (some ⟨g0, 0, none⟩) rn rn) (.slice (some ⟨g1, 0, none⟩) sn sn) (.slice (some ⟨g2, 0, none⟩) an an) (.slice (some ⟨g3, 0, none⟩) bn bn)
        obtain ⟨w2, hw2⟩ : ∃ w2, w2 = set13o w1 w.heap.size (k * 13) (.int .i64 kk) (.int .i64 ek) (.slice e1a e1n e1c) (.slice e2a e2n e2c) (.slice e3a e3n e3c) (.int .i64 fk) (.slice f1a f1n f1c) (.slice f2a f2n f2c) (.slice f3a f3n f3c) (.slice (some ⟨g0, 0, none⟩) rn rn) (.slice (some ⟨g1, 0, none⟩) sn sn) (.slice (some ⟨g2, 0, none⟩) an an) (.slice (some ⟨g3, 0, none⟩) bn bn) := ⟨_, rfl⟩
        have hsz2 : w2.heap.size = w1.heap.size := by rw [hw2]; exact size_set13o _ _ _ _ _ _ _ _ _ _ _ _ _ _ _ _
        have hS : Same (w.heap.size + 1) w1.heap.size w1 w2 := fun b h1 h2 => by rw [hw2]; exact heap_set13o _ _ _ _ _ _ _ _ _ _ _ _ _ _ (by omega)
        rw [← hw2] at HStep
        have HW2 : Hid (w2 = (((((((((((((w1.setCell ⟨w.heap.size, k * 13, none⟩ (.int .i64 kk)).setCell ⟨w.heap.size, k * 13 + 1, none⟩ (.int .i64 ek)).setCell ⟨w.heap.size, k * 13 + 2, none⟩ (.slice e1a e1n e1c)).setCell ⟨w.heap.size, k * 13 + 3, none⟩ (.slice e2a e2n e2c)).setCell ⟨w.heap.size, k * 13 + 4, none⟩ (.slice e3a e3n e3c)).setCell ⟨w.heap.size, k * 13 + 5, none⟩ (.int .i64 fk)).setCell ⟨w.heap.size, k * 13 + 6, none⟩ (.slice f1a f1n f1c)).setCell ⟨w.heap.size, k * 13 + 7, none⟩ (.slice f2a f2n f2c)).setCell ⟨w.heap.size, k * 13 + 8, none⟩ (.slice f3a f3n f3c)).setCell ⟨w.heap.size, k * 13 + 9, none⟩ (.slice (some ⟨g0, 0, none⟩) rn rn)).setCell ⟨w.heap.size, k * 13 + 10, none⟩ (.slice (some ⟨g1, 0, none⟩) sn sn)).setCell ⟨w.heap.size, k * 13 + 11, none⟩ (.slice (some ⟨g2, 0, none⟩) an an)).setCell ⟨w.heap.size, k * 13 + 12, none⟩ (.slice (some ⟨g3, 0, none⟩) bn bn))) := hw2
        have HRes : Hid (∃ (k' : Nat) (F' : Nat → Value), k' ≤ n ∧ Value.int .i64 ((k : Int) + 1) = .int .i64 k' ∧ w2.rowIs w.heap.size 42 (n * 13) F' ∧ (∀ i, i < k' → AxF F' (i * 13) (w.heap.size + 1) w2.heap.size w2 dp (xs.getD i AX.zero)) ∧ Free w.heap.size w2.heap.size w2 ∧ Below w.heap.size w w2) := by
          refine ⟨k + 1, _, by omega, by simp, HStep, ?_, ?_, ?_⟩
          · intro i hi
            rw [hsz2]
            by_cases e : i = k
            · subst e
              obtain ⟨p0, p1, p2, p3, p4, p5, p6, p7, p8, p9, p10, p11, p12⟩ := put13_at F (i * 13) (.int .i64 kk) (.int .i64 ek) (.slice e1a e1n e1c) (.slice e2a e2n e2c) (.slice e3a e3n e3c) (.int .i64 fk) (.slice f1a f1n f1c) (.slice f2a f2n f2c) (.slice f3a f3n f3c) (.slice (some ⟨g0, 0, none⟩) rn rn) (.slice (some ⟨g1, 0, none⟩) sn sn) (.slice (some ⟨g2, 0, none⟩) an an) (.slice (some ⟨g3, 0, none⟩) bn bn)
              exact ⟨_, _, _, _, _, _, _, _, _, _, _, _, _, _, _, _, _, _, _, _, p0.trans (by rw [HKk.out]), p1, p2, p3, p4, p5, p6, p7, p8, p9, p10, p11, p12, (hx1.mono (by omega) (Nat.le_refl _)).same hS⟩
            · refine ((HKd.out i (by omega)).carry (Same.of_below hb1 (Nat.le_refl _)) hs1 (fun j _ _ => rfl)).carry hS (Nat.le_refl _) (fun j h1 h2 => put13_off F _ _ _ _ _ _ _ _ _ _ _ _ _ (by omega))
          · rw [hsz2, hw2]
            exact free_set13o (HFr.out.next hb1 hf1) _ _ _ _ _ _ _ _ _ _ _ _ _ _ _
          · rw [hw2]
            exact below_set13o (HB.out.trans (hb1.mono HB.out.size)) (Nat.le_refl _) _ _ _ _ _ _ _ _ _ _ _ _ _ _
        clear hrow1 hx1 hf1 hb1 HStep hS hw2 hsz2
        go_wp2_with fail
        rw [← HW2.out]
        go_roundw
        case rel => exact HRes.out
        case measure => simp [intOf]; omega
    · have hkn : k = n := by omega
      subst hkn
      have HF : Hid (RdK w.heap.size wr.heap.size wr dp (some ⟨w.heap.size, 0, none⟩) k k xs) := by
        refine ⟨HL.out, by omega, .inr ⟨_, _, rfl, Nat.le_refl _, hrow.lt, fun i hi => ?_⟩⟩
        obtain ⟨c0, c1, c2, c3, d0, d1, d2, d3, ra, rn, rc, sa, sn, sc, aa, an, ac, ba, bn, bc, q0, q1, q2, q3, q4, q5, q6, q7, q8, q9, q10, q11, q12, hr⟩ := hkd i hi
        have t : ∀ (m : Nat) (v : Value), m < 13 → F (i * 13 + m) = v → wr.cell? ⟨w.heap.size, i * 13 + m, none⟩ = some v := fun m v hm e => by rw [hrow.cell (show i * 13 + m < k * 13 by omega), e]
        rw [Nat.zero_add]
        exact ⟨c0, c1, c2, c3, d0, d1, d2, d3, ra, rn, rc, sa, sn, sc, aa, an, ac, ba, bn, bc, t 0 _ (by omega) q0, t 1 _ (by omega) q1, t 2 _ (by omega) q2, t 3 _ (by omega) q3, t 4 _ (by omega) q4, t 5 _ (by omega) q5, t 6 _ (by omega) q6, t 7 _ (by omega) q7, t 8 _ (by omega) q8, t 9 _ (by omega) q9, t 10 _ (by omega) q10, t 11 _ (by omega) q11, t 12 _ (by omega) q12, hr.mono (by omega) (Nat.le_refl _)⟩
      have HB : Hid (Free w.heap.size wr.heap.size wr ∧ Below w.heap.size w wr) := ⟨hfr, hbel⟩
      clear hrow hkd hfr hbel
      go_wp2_with fail
      go_ret
      exact ⟨rfl, HF.out, HB.out.2, HB.out.1⟩

theorem boxed_setOther' {W : World} {B t : Nat} {v : Value} (h : Boxed W B t v) {B' : Nat} (hne : B ≠ B') (x : Value) : Boxed (W.setCell ⟨B', 0, none⟩ x) B t v := (Below.heap_setCell W ⟨B', 0, none⟩ x B hne).trans h
theorem Ax13.mono {lo hi lo' hi' : Nat} {w : World} {dp b o : Nat} {x : AX} (h : Ax13 lo hi w dp b o x) (h1 : lo' ≤ lo) (h2 : hi ≤ hi') : Ax13 lo' hi' w dp b o x := by
  obtain ⟨c0, c1, c2, c3, d0, d1, d2, d3, ra, rn, rc, sa, sn, sc, aa, an, ac, ba, bn, bc, q0, q1, q2, q3, q4, q5, q6, q7, q8, q9, q10, q11, q12, hr⟩ := h
  exact ⟨c0, c1, c2, c3, d0, d1, d2, d3, ra, rn, rc, sa, sn, sc, aa, an, ac, ba, bn, bc, q0, q1, q2, q3, q4, q5, q6, q7, q8, q9, q10, q11, q12, hr.mono h1 h2⟩
theorem RdK.mono {lo hi lo' hi' dp : Nat} {w : World} {a : Option Addr} {n cap : Nat} {xs : List AX} (h : RdK lo hi w dp a n cap xs) (h1 : lo' ≤ lo) (h2 : hi ≤ hi') : RdK lo' hi' w dp a n cap xs := by
  obtain ⟨hl, hm, hc⟩ := h
  refine ⟨hl, hm, ?_⟩
  rcases hc with h0 | ⟨b, off, e, q1, q2, hc⟩
  · exact .inl h0
  · exact .inr ⟨b, off, e, by omega, by omega, fun i hi => (hc i hi).mono h1 h2⟩

set_option maxRecDepth 100000 in
set_option maxHeartbeats 2000000 in
theorem toKb_any {a : Option Addr} {n cap : Nat} {xs : List AX} {dp : Nat} {w : World} {lo hi : Nat} (h : RdK lo hi w dp a n cap xs) (hhi : hi ≤ w.heap.size) (hbk : bulkK xs ≤ 1048576) :
    Calls Tryz.prog 15 #[.agg #[.slice a n cap]] w fun e w' => ∃ g, e = .returned (.agg #[.slice (some ⟨g, 0, none⟩) n n]) ∧ RdK w.heap.size w'.heap.size w' dp (some ⟨g, 0, none⟩) n n xs ∧ Below w.heap.size w w' ∧ Free w.heap.size w'.heap.size w' := by
  obtain ⟨W0, hW0⟩ : ∃ W0, W0 = ((w.alloc (.cells #[.slice a n cap] 49)).alloc (.cells #[.slice none 0 0] 54)).alloc (.cells #[.slice none 0 0] 54) := ⟨_, rfl⟩
  have HW0 : Hid (W0 = ((w.alloc (.cells #[.slice a n cap] 49)).alloc (.cells #[.slice none 0 0] 54)).alloc (.cells #[.slice none 0 0] 54)) := hW0
  have hb0 : Below w.heap.size w W0 := by rw [hW0]; exact (((Below.refl _ _).alloc (Nat.le_refl _) _).alloc (by simp) _).alloc (by simp; omega) _
  have hs0 : w.heap.size + 1 + 1 < W0.heap.size := by rw [hW0]; simp
  have HB0 : Hid (Below w.heap.size w W0) := hb0
  have HK : Hid (RdK lo hi W0 dp a n cap xs) := h.below hb0 hhi
  have HX1 : Hid (Boxed W0 (w.heap.size + 1) 54 (.slice none 0 0)) := by
    unfold Hid; rw [hW0]
    have := Boxed.new (w.alloc (.cells #[.slice a n cap] 49)) 54 (.slice none 0 0)
    rw [World.size_alloc] at this; exact this.alloc _
  have HX2 : Hid (Boxed W0 (w.heap.size + 1 + 1) 54 (.slice none 0 0)) := by
    unfold Hid; rw [hW0]
    have := Boxed.new ((w.alloc (.cells #[.slice a n cap] 49)).alloc (.cells #[.slice none 0 0] 54)) 54 (.slice none 0 0)
    rw [World.size_alloc, World.size_alloc] at this; exact this
  have HF0 : Hid (Free w.heap.size W0.heap.size W0) := by
    unfold Hid; rw [hW0]
    exact (((Free.nil w w.heap.size).alloc' _ _).alloc' _ _).alloc' _ _
  clear h hb0 hW0
  go_enter Tryz.func15, Tryz.ntmps15
  go_wp2_with fail
  rw [← HW0.out]
  refine (toAxs_any HK.out (Nat.le_trans hhi HB0.out.size) hbk).mono ?_
  rintro e w1 ⟨rfl, hr1, hb1, hf1⟩
  have hs1 := hb1.size
  have hx1 : Boxed w1 (w.heap.size + 1) 54 (.slice none 0 0) := (hb1.block _ (by omega)).trans HX1.out
  have hx2 : Boxed w1 (w.heap.size + 1 + 1) 54 (.slice none 0 0) := (hb1.block _ (by omega)).trans HX2.out
  have c1 := hx1.cell
  have f1 := hx1.frozen
  have c2 := hx2.cell
  have f2 := hx2.frozen
  obtain ⟨w2, hw2⟩ : ∃ w2, w2 = (w1.setCell ⟨w.heap.size + 1 + 1, 0, none⟩ (.slice (some ⟨W0.heap.size, 0, none⟩) n n)).setCell ⟨w.heap.size + 1, 0, none⟩ (.slice (some ⟨W0.heap.size, 0, none⟩) n n) := ⟨_, rfl⟩
  have HW2 : Hid (w2 = (w1.setCell ⟨w.heap.size + 1 + 1, 0, none⟩ (.slice (some ⟨W0.heap.size, 0, none⟩) n n)).setCell ⟨w.heap.size + 1, 0, none⟩ (.slice (some ⟨W0.heap.size, 0, none⟩) n n)) := hw2
  have hsz : w2.heap.size = w1.heap.size := by rw [hw2]; simp
  have HS : Hid (Same W0.heap.size w1.heap.size w1 w2) := fun b h1 h2 => by
    rw [hw2]
    exact (Below.heap_setCell _ ⟨w.heap.size + 1, 0, none⟩ _ b (by show b ≠ w.heap.size + 1; omega)).trans (Below.heap_setCell _ ⟨w.heap.size + 1 + 1, 0, none⟩ _ b (by show b ≠ w.heap.size + 1 + 1; omega))
  have HR : Hid (RdK w.heap.size w2.heap.size w2 dp (some ⟨W0.heap.size, 0, none⟩) n n xs) := by
    unfold Hid; rw [hsz]
    exact (hr1.same HS.out).mono (by omega) (Nat.le_refl _)
  have HB : Hid (Below w.heap.size w w2) := by
    unfold Hid; rw [hw2]
    exact ((HB0.out.trans (hb1.mono HB0.out.size)).setCell (p := ⟨w.heap.size + 1 + 1, 0, none⟩) (by show w.heap.size ≤ w.heap.size + 1 + 1; omega) _).setCell (p := ⟨w.heap.size + 1, 0, none⟩) (by show w.heap.size ≤ w.heap.size + 1; omega) _
  have HF : Hid (Free w.heap.size w2.heap.size w2) := by
    unfold Hid; rw [hsz, hw2]
    exact ((HF0.out.next hb1 hf1).set _ _).set _ _
  have HC : Hid (w2.cell? ⟨w.heap.size + 1, 0, none⟩ = some (.slice (some ⟨W0.heap.size, 0, none⟩) n n)) := by
    unfold Hid; rw [hw2]
    exact (Boxed.set _ (boxed_setOther' hx1 (by omega) _)).cell
  clear hr1 hb1 hf1 hx1 hx2 hw2
  go_wp2_with fail
  rw [← HW2.out]
  refine bodyPost_ret (v := .agg #[.slice (some ⟨W0.heap.size, 0, none⟩) n n]) (by simp [results, Tryz.results15, go_sem, HC.out]) rfl ?_
  exact ⟨W0.heap.size, rfl, HR.out, HB.out, HF.out⟩
end

section
open Go.RowKit Go.Deep Go.ChangeShapes Go.WideShapes

theorem trod_sevenK {H : Type} {enc : TypeId × Value → H} {P : Program} {w : World} {base : Nat} {spare : Nat → Bool} {held : Bool} {t : TypeId} {f0 f1 f2 f3 f4 f5 f6 : Field} {fuel : Nat} {cs : List Value} {x : DataW H × List MemPlace} (ht : P.underlying t = some (.struct #[f0, f1, f2, f3, f4, f5, f6])) (h : DataW.trod enc P w base spare held fuel t cs = some x) :
    ∃ y0 y1 y2 y3 y4 y5 y6 n, fuel = n + 1 ∧ cs.length = P.cellsOf t ∧ DataW.trod enc P w base spare held n f0.type ((cs.drop f0.offset).take (P.cellsOf f0.type)) = some y0 ∧ DataW.trod enc P w base spare held n f1.type ((cs.drop f1.offset).take (P.cellsOf f1.type)) = some y1 ∧
      DataW.trod enc P w base spare held n f2.type ((cs.drop f2.offset).take (P.cellsOf f2.type)) = some y2 ∧ DataW.trod enc P w base spare held n f3.type ((cs.drop f3.offset).take (P.cellsOf f3.type)) = some y3 ∧ DataW.trod enc P w base spare held n f4.type ((cs.drop f4.offset).take (P.cellsOf f4.type)) = some y4 ∧
      DataW.trod enc P w base spare held n f5.type ((cs.drop f5.offset).take (P.cellsOf f5.type)) = some y5 ∧ DataW.trod enc P w base spare held n f6.type ((cs.drop f6.offset).take (P.cellsOf f6.type)) = some y6 := by
  obtain ⟨xs, n, hn, _, hl, hlen, hf⟩ := DataW.trod_struct ht h
  match xs, hlen with
  | [y0, y1, y2, y3, y4, y5, y6], _ => exact ⟨y0, y1, y2, y3, y4, y5, y6, n, hn, hl, by simpa using hf 0 f0 rfl, by simpa using hf 1 f1 rfl, by simpa using hf 2 f2 rfl, by simpa using hf 3 f3 rfl, by simpa using hf 4 f4 rfl, by simpa using hf 5 f5 rfl, by simpa using hf 6 f6 rfl⟩

set_option maxRecDepth 100000 in
theorem open_ax {H : Type} {enc : TypeId × Value → H} {w : World} {fuel : Nat} {cs : List Value} {y : DataW H × List MemPlace} (h : DataW.trod enc Tryz.prog w 0 (fun _ => true) true fuel 32 cs = some y) :
    ∃ c0 c1 c2 c3 d0 d1 d2 d3 ra rn rc sa sn sc aa an ac ba bn bc x, cs = [.int .i64 (AX.kind x), c0, c1, c2, c3, d0, d1, d2, d3, .slice ra rn rc, .slice sa sn sc, .slice aa an ac, .slice ba bn bc] ∧ RdA 0 w.heap.size w fuel c0 c1 c2 c3 d0 d1 d2 d3 ra rn rc sa sn sc aa an ac ba bn bc x := by
  have c13 : Tryz.prog.cellsOf 32 = 13 := by kernel_rfl
  have c4 : Tryz.prog.cellsOf 30 = 4 := by kernel_rfl
  have ci : Tryz.prog.cellsOf 3 = 1 := by kernel_rfl
  have cb : Tryz.prog.cellsOf 27 = 1 := by kernel_rfl
  obtain ⟨y0, y1, y2, y3, y4, y5, y6, n, hn, hl, t0, t1, t2, t3, t4, t5, t6⟩ := trod_sevenK Tryz.underlying32 h
  rw [c13] at hl
  match cs, hl with
  | [a0, a1, a2, a3, a4, a5, a6, a7, a8, a9, a10, a11, a12], _ =>
    simp only [ci, cb, c4, List.drop_zero, List.drop_succ_cons, List.take_succ_cons, List.take_zero] at t0 t1 t2 t3 t4 t5 t6
    obtain ⟨k, hk, _, _⟩ := DataW.trod_int Tryz.underlying3 t0
    obtain ⟨u0, u1, u2, u3, cc, hc, hcr⟩ := open_con fuel n _ _ (by omega) t1
    obtain ⟨w0, w1, w2, w3, dd, hd, hdr⟩ := open_con fuel n _ _ (by omega) t2
    obtain ⟨ra, rn, rc, rz, hrz, hrr⟩ := open_bytes t3
    obtain ⟨sa, sn, sc, sz, hsz, hsr⟩ := open_bytes t4
    obtain ⟨aa, an, ac, az, haz, har⟩ := open_bytes t5
    obtain ⟨ba, bn, bc, bz, hbz, hbr⟩ := open_bytes t6
    simp only [List.cons.injEq, and_true] at hk hc hd
    obtain ⟨rfl, rfl, rfl, rfl⟩ := hc
    obtain ⟨rfl, rfl, rfl, rfl⟩ := hd
    subst hk hrz hsz haz hbz
    exact ⟨_, _, _, _, _, _, _, _, ra, rn, rc, sa, sn, sc, aa, an, ac, ba, bn, bc, ⟨k, cc, dd, rz, sz, az, bz⟩, rfl, ⟨hcr, hdr, hrr, hsr, har, hbr⟩⟩

instance : Inhabited AX := ⟨AX.zero⟩

/-- Thirteen cells from an address on. -/
def AxAd (w : World) (dp : Nat) (p : Addr) (x : AX) : Prop := ∃ (c0 c1 c2 c3 d0 d1 d2 d3 : Value) (ra : Option Addr) (rn rc : Nat) (sa : Option Addr) (sn sc : Nat) (aa : Option Addr) (an ac : Nat) (ba : Option Addr) (bn bc : Nat),
  w.cell? p = some (.int .i64 x.kind) ∧ w.cell? (p.add 1) = some c0 ∧ w.cell? (p.add 2) = some c1 ∧ w.cell? (p.add 3) = some c2 ∧ w.cell? (p.add 4) = some c3 ∧
  w.cell? (p.add 5) = some d0 ∧ w.cell? (p.add 6) = some d1 ∧ w.cell? (p.add 7) = some d2 ∧ w.cell? (p.add 8) = some d3 ∧
  w.cell? (p.add 9) = some (.slice ra rn rc) ∧ w.cell? (p.add 10) = some (.slice sa sn sc) ∧ w.cell? (p.add 11) = some (.slice aa an ac) ∧ w.cell? (p.add 12) = some (.slice ba bn bc) ∧
  RdA 0 w.heap.size w dp c0 c1 c2 c3 d0 d1 d2 d3 ra rn rc sa sn sc aa an ac ba bn bc x

set_option maxRecDepth 100000 in
theorem open_axs {H : Type} {enc : TypeId × Value → H} {w : World} {fuel : Nat} {v : Value} {x : DataW H × List MemPlace} (h : DataW.trod enc Tryz.prog w 0 (fun _ => true) true fuel 47 [v] = some x) :
    ∃ dp a len cap xs, v = .slice a len cap ∧ RdK 0 w.heap.size w dp a len cap xs := by
  have c13 : Tryz.prog.cellsOf 32 = 13 := by kernel_rfl
  rcases open_slice Tryz.underlying47 h with ⟨hcs, _⟩ | ⟨ad, len, cap, m, n, D, Pl, hcs, _, hl, hm, hmm, _, hx⟩
  · simp at hcs
    exact ⟨0, none, 0, 0, [], hcs, ⟨rfl, by omega, .inl rfl⟩⟩
  · simp at hcs
    simp only [if_true] at hmm
    subst hmm
    rw [c13] at hx
    have key : ∀ i, i < len → ∃ t : AX, AxAd w n (ad.add (i * 13)) t := by
      intro i hi
      obtain ⟨cs, h1, h2⟩ := hx i (by omega)
      obtain ⟨_, hlen, hcell⟩ := World.cells?_some h1
      obtain ⟨c0, c1, c2, c3, d0, d1, d2, d3, ra, rn, rc, sa, sn, sc, aa, an, ac, ba, bn, bc, t, hc, hr⟩ := open_ax h2
      subst hc
      have e0 := hcell 0 (by omega)
      rw [show (ad.add (i * 13)).add 0 = ad.add (i * 13) from by simp [Addr.add]] at e0
      exact ⟨t, c0, c1, c2, c3, d0, d1, d2, d3, ra, rn, rc, sa, sn, sc, aa, an, ac, ba, bn, bc, e0, hcell 1 (by omega), hcell 2 (by omega), hcell 3 (by omega), hcell 4 (by omega), hcell 5 (by omega), hcell 6 (by omega), hcell 7 (by omega), hcell 8 (by omega), hcell 9 (by omega), hcell 10 (by omega), hcell 11 (by omega), hcell 12 (by omega), hr⟩
    obtain ⟨T, hT⟩ := choose_lt key
    refine ⟨n, some ad, len, m, (List.range len).map T, hcs, ⟨by simp, ⟨hl, by unfold maxLen at hm; exact hm⟩, ?_⟩⟩
    by_cases h0 : len = 0
    · exact .inl h0
    · obtain ⟨b, off, spot⟩ := ad
      obtain ⟨_, _, _, _, _, _, _, _, _, _, _, _, _, _, _, _, _, _, _, _, q0, _⟩ := hT 0 (by omega)
      have hspot : spot = none := by simpa [Addr.add] using World.cell?_spot q0
      subst hspot
      have hblk : b < w.heap.size := by simpa [Addr.add] using block_lt_of_cell q0
      refine .inr ⟨b, off, rfl, Nat.zero_le _, hblk, fun i hi => ?_⟩
      obtain ⟨c0, c1, c2, c3, d0, d1, d2, d3, ra, rn, rc, sa, sn, sc, aa, an, ac, ba, bn, bc, e0, e1, e2, e3, e4, e5, e6, e7, e8, e9, e10, e11, e12, hr⟩ := hT i hi
      have eT : ((List.range len).map T).getD i AX.zero = T i := by simp [List.getD, hi]
      rw [eT]
      simp only [Addr.add_lit] at e0 e1 e2 e3 e4 e5 e6 e7 e8 e9 e10 e11 e12
      exact ⟨c0, c1, c2, c3, d0, d1, d2, d3, ra, rn, rc, sa, sn, sc, aa, an, ac, ba, bn, bc, e0, e1, e2, e3, e4, e5, e6, e7, e8, e9, e10, e11, e12, hr⟩

set_option maxRecDepth 100000 in
theorem open_kb {H : Type} {enc : TypeId × Value → H} {w : World} {fuel : Nat} {cs : List Value} {y : DataW H × List MemPlace} (h : DataW.trod enc Tryz.prog w 0 (fun _ => true) true fuel 49 cs = some y) :
    ∃ dp a n cap xs, cs = [.slice a n cap] ∧ RdK 0 w.heap.size w dp a n cap xs := by
  have c1 : Tryz.prog.cellsOf 49 = 1 := by kernel_rfl
  obtain ⟨xs, n, hn, _, hl, hlen, hf⟩ := DataW.trod_struct Tryz.underlying49 h
  rw [c1] at hl
  match cs, hl with
  | [v], _ =>
    match xs, hlen with
    | [y0], _ =>
      have t0 := hf 0 _ rfl
      simp only [List.getElem?_cons_zero] at t0
      obtain ⟨dp, a, n, cap, xs, hv, hr⟩ := open_axs t0
      exact ⟨dp, a, n, cap, xs, by rw [hv], hr⟩
end
end

section
open Go.RowKit

set_option maxRecDepth 100000 in
set_option maxHeartbeats 4000000 in
theorem szAxsG_any {a : Option Addr} {n cap : Nat} {xs : List AX} {dp : Nat} {w : World} {lo hi : Nat} (h : RdK lo hi w dp a n cap xs) (hhi : hi ≤ w.heap.size) (left : Int) (hl0 : 0 ≤ left) (hl1 : left ≤ 1048576) :
    Calls Tryz.prog 39 #[.slice a n cap, .int .i64 left] w fun e w' => ∃ r : Int, e = .returned (.int .i64 r) ∧ (¬ r < 0 → bulkK xs ≤ 1048576) ∧ Below w.heap.size w w' := by
  have HK : Hid (RdK lo hi w dp a n cap xs) := h
  have HL : Hid (xs.length = n) := h.len
  have hf := h.fits
  clear h
  by_cases hbig : left < n
  · go_enter Tryz.func39, Tryz.ntmps39
    go_wp2_with fail
    go_ret
    exact ⟨-1, rfl, fun h => absurd h (by omega), Below.refl _ _⟩
  · go_enter Tryz.func39, Tryz.ntmps39
    go_wp2_with fail
    go_loopw [1, 5] (fun l i wr => ∃ (k : Nat) (L : Int), k ≤ n ∧ i = .int .i64 k ∧ l = .int .i64 L ∧ 0 ≤ L ∧ L + (n - k : Int) + (bulkK (xs.take k) : Nat) ≤ left ∧ Below w.heap.size w wr) (fun _ i _ => n - (intOf i).toNat)
    case atStart => exact ⟨0, left - n, Nat.zero_le _, rfl, by go_num, by omega, by simp [bulkK], Below.refl _ _⟩
    case round =>
      obtain ⟨k, L, hk, rfl, rfl, hL0, hs, hbel⟩ := hrel
      have HB : Hid (Below w.heap.size w wr) := hbel
      have HS : Hid (L + (n - k : Int) + (bulkK (xs.take k) : Nat) ≤ left) := hs
      have hL1 : L ≤ 1048576 := by omega
      by_cases hlt : k < n
      · have hK := HK.out.below hbel hhi
        rcases hK.cells with hz | ⟨b, off, e1, _, _, hc⟩
        · omega
        · subst e1
          obtain ⟨c0, c1, c2, c3, d0, d1, d2, d3, ra, rn, rc, sa, sn, sc, aa, an, ac, ba, bn, bc, q0, q1, q2, q3, q4, q5, q6, q7, q8, q9, q10, q11, q12, hrd⟩ := hc k hlt
          have HRd : Hid (RdA lo hi wr dp c0 c1 c2 c3 d0 d1 d2 d3 ra rn rc sa sn sc aa an ac ba bn bc (xs.getD k AX.zero)) := hrd
          have HT : Hid (bulkK (xs.take (k + 1)) = bulkK (xs.take k) + 1 + (xs.getD k AX.zero).bulk) := bulkK_take xs k (by rw [HL.out]; exact hlt)
          have hki : (k : Int) < (n : Int) := by omega
          obtain ⟨kk, hkk⟩ : ∃ kk, kk = (xs.getD k AX.zero).kind := ⟨_, rfl⟩
          rw [← hkk] at q0
          clear hK hc hrd hbel hs hkk
          go_wp2_with fail
          refine (szAxG_any HRd.out (Nat.le_trans hhi HB.out.size) kk L hL0 hL1).mono ?_
          rintro e w' ⟨r, rfl, hr, hb'⟩
          have HB' : Hid (Below w.heap.size w w') := HB.out.trans (hb'.mono HB.out.size)
          have HR : Hid (¬ r < 0 → r + ((xs.getD k AX.zero).bulk : Nat) ≤ L) := hr
          clear hb' hr
          by_cases hneg : r < 0
          · go_wp2_with fail
            go_ret
            exact ⟨-1, rfl, fun h => absurd h (by omega), HB'.out⟩
          · have HS' : Hid (r + (n - (k + 1 : Nat) : Int) + (bulkK (xs.take (k + 1)) : Nat) ≤ left) := by
              have h1 := HR.out hneg
              have h2 := HS.out
              have h3 := HT.out
              unfold Hid
              rw [h3]; push_cast; omega
            go_wp2_with fail
            go_roundw
            case rel => exact ⟨k + 1, r, by omega, by go_num, rfl, by omega, HS'.out, HB'.out⟩
            case measure => simp [intOf]; omega
      · have HE : Hid (bulkK xs ≤ 1048576) := by
          have h1 : xs.take k = xs := List.take_of_length_le (by rw [HL.out]; omega)
          rw [h1] at hs
          unfold Hid
          omega
        clear hs hbel
        go_wp2_with fail
        go_ret
        exact ⟨_, rfl, fun _ => HE.out, HB.out⟩

set_option maxRecDepth 100000 in
set_option maxHeartbeats 1000000 in
theorem szKbG_any {a : Option Addr} {n cap : Nat} {xs : List AX} {dp : Nat} {w : World} {lo hi : Nat} (h : RdK lo hi w dp a n cap xs) (hhi : hi ≤ w.heap.size) (left : Int) (hl0 : 0 ≤ left) (hl1 : left ≤ 1048576) :
    Calls Tryz.prog 13 #[.agg #[.slice a n cap], .int .i64 left] w fun e w' => ∃ r : Int, e = .returned (.int .i64 r) ∧ (¬ r < 0 → bulkK xs ≤ 1048576) ∧ Below w.heap.size w w' := by
  obtain ⟨W0, hW0⟩ : ∃ W0, W0 = w.alloc (.cells #[.slice a n cap] 49) := ⟨_, rfl⟩
  have HW0 : Hid (W0 = w.alloc (.cells #[.slice a n cap] 49)) := hW0
  have hb0 : Below w.heap.size w W0 := by rw [hW0]; exact (Below.refl _ _).alloc (Nat.le_refl _) _
  have HB0 : Hid (Below w.heap.size w W0) := hb0
  have HK : Hid (RdK lo hi W0 dp a n cap xs) := h.below hb0 hhi
  clear h hb0 hW0
  go_enter Tryz.func13, Tryz.ntmps13
  go_wp2_with fail
  rw [← HW0.out]
  refine (szAxsG_any HK.out (Nat.le_trans hhi HB0.out.size) left hl0 hl1).mono ?_
  rintro e w1 ⟨r, rfl, hr, hb1⟩
  have HR : Hid (¬ r < 0 → bulkK xs ≤ 1048576) := hr
  have HB1 : Hid (Below w.heap.size w w1) := HB0.out.trans (hb1.mono HB0.out.size)
  clear hr hb1
  by_cases hneg : r < 0
  · go_wp2_with fail
    go_ret
    exact ⟨-1, rfl, fun h => absurd h (by omega), HB1.out⟩
  · go_wp2_with fail
    go_ret
    exact ⟨_, rfl, HR.out, HB1.out⟩
end

end Go.Proofs.YtfbokljbmihlbaaGreat
