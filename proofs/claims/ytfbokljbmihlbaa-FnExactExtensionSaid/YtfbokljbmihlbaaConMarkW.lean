/- The laws' marking of a concept, told as for a world, with great bounds. -/
import Derived.Test.YtfbokljbmihlbaaWdMark
namespace Go.Proofs.Ytfbokljbmihlbaa
open Go.RowKit
set_option linter.unusedVariables false

theorem ShC.markLW {lo hi lo' hi' : Nat} {w w' : World} {d : Nat} (ih : ∀ {v0 v1 v2 v3 : Value} {c : CN} (m : Int), ShC lo hi w d (.agg #[v0, v1, v2, v3]) c → ShC lo hi w' d (.agg #[.int .i64 m, v1, v2, v3]) c) (hm : MarkW lo' hi' w w')
    (hform : ∀ {v0 v1 v2 v3 : Value} {c : CN}, ShC lo hi w d (.agg #[v0, v1, v2, v3]) c → ∃ k na nn nc ra rn rc ka kn kc, v0 = .int .i64 k ∧ v1 = .slice na nn nc ∧ v2 = .slice ra rn rc ∧ v3 = .slice ka kn kc)
    {a : Option Addr} {n cap : Nat} {cs : List CN} (h : RdL (ShC lo hi w d) lo hi w a n cap cs) : RdL (ShC lo hi w' d) lo hi w' a n cap cs := by
  obtain ⟨hl, hf, hc⟩ := h
  refine ⟨hl, hf, ?_⟩
  rcases hc with h0 | ⟨b, off, e, h1, h2, hc⟩
  · exact .inl h0
  · refine .inr ⟨b, off, e, h1, h2, fun i hi => ?_⟩
    obtain ⟨v0, v1, v2, v3, c0, c1, c2, c3, hr⟩ := hc i hi
    obtain ⟨k, na, nn, nc, ra, rn, rc, ka, kn, kc, rfl, rfl, rfl, rfl⟩ := hform hr
    obtain ⟨m, hm0⟩ := hm.int c0
    exact ⟨_, _, _, _, hm0, hm.slice c1, hm.slice c2, hm.slice c3, ih m hr⟩

theorem ShC.markW {lo hi lo' hi' : Nat} {w w' : World} (hm : MarkW lo' hi' w w') : ∀ {d : Nat} {v0 v1 v2 v3 : Value} {c : CN} (m : Int), ShC lo hi w d (.agg #[v0, v1, v2, v3]) c → ShC lo hi w' d (.agg #[.int .i64 m, v1, v2, v3]) c := by
  intro d
  induction d with
  | zero => intro v0 v1 v2 v3 c m h; exact h
  | succ d ih =>
    intro v0 v1 v2 v3 c m h
    obtain ⟨k, na, nn, nc, ra, rn, rc, ka, kn, kc, hv, h1, h2, h3, h4, h5⟩ := h
    simp only [Value.agg.injEq, Array.mk.injEq, List.cons.injEq, and_true] at hv
    obtain ⟨_, rfl, rfl, rfl⟩ := hv
    exact ⟨m, na, nn, nc, ra, rn, rc, ka, kn, kc, rfl, h1, ShB.markW hm h2, h3, ShB.markW hm h4, ShC.markLW ih hm ShC.form h5⟩

theorem RdL.markW {lo hi lo' hi' : Nat} {w w' : World} (hm : MarkW lo' hi' w w') {d : Nat} {a : Option Addr} {n cap : Nat} {cs : List CN} (h : RdL (ShC lo hi w d) lo hi w a n cap cs) : RdL (ShC lo hi w' d) lo hi w' a n cap cs :=
  ShC.markLW (ShC.markW hm) hm ShC.form h

def MkLW (d : Nat) : Prop := ∀ (a : Option Addr) (n cap : Nat) (cs : List CN) (k : Int) (w : World) (lo hi : Nat), RdL (ShC lo hi w d) lo hi w a n cap cs → hi ≤ w.heap.size → Free lo hi w → bulks cs ≤ 1048576 → 0 ≤ k → k + bulks cs ≤ 288230376151711744 →
  Calls Try.prog 21 #[.slice a n cap, .int .i64 k] w fun e w' => e = .returned (.int .i64 (k + bulks cs)) ∧ MarkW lo hi w w'

set_option maxRecDepth 100000 in
set_option maxHeartbeats 1000000 in
theorem mkLW_of {d : Nat} (H : ∀ d', d = d' + 1 → MkLW d') : MkLW d := by
  intro a n cap cs k w lo hi h hhi hF hbk hk0 hk1
  have HR : Hid (RdL (ShC lo hi w d) lo hi w a n cap cs) := h
  have HL : Hid (cs.length = n) := h.len
  have hfit := h.fits
  have HF : Hid (Free lo hi w) := hF
  clear h hF
  go_enter Try.func21, Try.ntmps21
  go_wp2_with fail
  go_loopw [1, 5] (fun q i wr => ∃ (j : Nat) (t : Nat), j ≤ n ∧ i = .int .i64 j ∧ t = bulks (cs.take j) ∧ q = .int .i64 (k + t) ∧ MarkW lo hi w wr) (fun _ i _ => n - (intOf i).toNat)
  case atStart => exact ⟨0, 0, Nat.zero_le _, rfl, by simp [bulks], by simp, MarkW.refl _ _ _⟩
  case round =>
    obtain ⟨j, t, hj, rfl, ht, rfl, hmr⟩ := hrel
    have HMR : Hid (MarkW lo hi w wr) := hmr
    have HT : Hid (t = bulks (cs.take j)) := ht
    have htl : t ≤ 1048576 := by have := bulks_take_le cs j; omega
    by_cases hlt : j < n
    · have hjl : j < cs.length := by rw [HL.out]; exact hlt
      have hji : (j : Int) < (n : Int) := by omega
      have hR := RdL.markW hmr HR.out
      have hFr := HF.out.markW hmr hhi
      rcases hR.cells with h0 | ⟨b, off, e1, hb1, hb2, hc⟩
      · omega
      · subst e1
        obtain ⟨v0, v1, v2, v3, c0, c1, c2, c3, hs⟩ := hc j hlt
        cases d with
        | zero => exact hs.elim
        | succ d' =>
          have HH : Hid (MkLW d') := H d' rfl
          obtain ⟨k0, na, nn, nc, ra, rn, rc, ka, kn, kc, hv, hnl, hnb, hrl, hrb, hkd⟩ := hs
          simp only [Value.agg.injEq, Array.mk.injEq, List.cons.injEq, and_true] at hv
          obtain ⟨rfl, rfl, rfl, rfl⟩ := hv
          have hts := bulks_take_succ cs j hjl
          have htl2 := bulks_take_le cs (j + 1)
          have hbe := (cs.getD j CN.zero).bulk_eq
          rw [hnl, hrl] at hbe
          obtain ⟨u, hu⟩ : ∃ u, u = bulks (cs.getD j CN.zero).kids := ⟨_, rfl⟩
          rw [← hu] at hbe
          have HU : Hid (u = bulks (cs.getD j CN.zero).kids) := hu
          have HTS : Hid (bulks (cs.take (j + 1)) = t + 1 + nn + rn + u) := by unfold Hid; rw [hts, ← ht]; omega
          have hbnd : t + 1 + nn + rn + u ≤ bulks cs := by rw [hts, ← ht] at htl2; omega
          have f0 := hFr b hb1 hb2 (off + j * 4)
          have hm1 : MarkW lo hi wr (wr.setCell ⟨b, off + j * 4, none⟩ (.int .i64 (k + t))) := MarkW.setI c0 hb1 hb2 _
          obtain ⟨W1, hW1⟩ : ∃ W1, W1 = wr.setCell ⟨b, off + j * 4, none⟩ (.int .i64 (k + t)) := ⟨_, rfl⟩
          rw [← hW1] at hm1
          have HW1 : Hid (W1 = wr.setCell ⟨b, off + j * 4, none⟩ (.int .i64 (k + t))) := hW1
          have HM1 : Hid (MarkW lo hi wr W1) := hm1
          have d1 := hm1.slice c1
          have d2 := hm1.slice c2
          have d3 := hm1.slice c3
          have hsr := hmr.size
          have HFr : Hid (Free lo hi wr) := hFr
          have HNB : Hid (ShB lo hi wr na nn nc) := hnb
          have HRB : Hid (ShB lo hi wr ra rn rc) := hrb
          have HKD : Hid (RdL (ShC lo hi wr d') lo hi wr ka kn kc (cs.getD j CN.zero).kids) := hkd
          clear hR hc hFr hnb hrb hkd hW1 hm1 hts htl2 hbe hu hnl hrl H hmr ht
          go_wp2_with fail
          rw [← HW1.out]
          have sw1 := HM1.out.size
          refine (markBW_any na nn nc (k + t + 1) W1 (ShB.markW HM1.out HNB.out) (HFr.out.markW HM1.out (by omega)) (Nat.le_trans hhi (by omega)) (by omega) (by omega)).mono ?_
          rintro e W2 ⟨rfl, hm2⟩
          have HM2 : Hid (MarkW lo hi wr W2) := HM1.out.trans hm2
          have e2 := hm2.slice d2
          have e3 := hm2.slice d3
          have sw2 := hm2.size
          clear hm2 d1 d2 d3
          go_wp2_with fail
          refine (markBW_any ra rn rc (k + t + 1 + nn) W2 (ShB.markW HM2.out HRB.out) (HFr.out.markW HM2.out (by omega)) (Nat.le_trans hhi (by omega)) (by omega) (by omega)).mono ?_
          rintro e W3 ⟨rfl, hm3⟩
          have HM3 : Hid (MarkW lo hi wr W3) := HM2.out.trans hm3
          have g3 := hm3.slice e3
          have sw3 := hm3.size
          clear hm3 e2 e3
          go_wp2_with fail
          refine (HH.out ka kn kc (cs.getD j CN.zero).kids (k + t + 1 + nn + rn) W3 lo hi (RdL.markW HM3.out HKD.out) (by omega) (HFr.out.markW HM3.out (by omega)) (by rw [← HU.out]; omega) (by omega) (by rw [← HU.out]; omega)).mono ?_
          rintro e W4 ⟨rfl, hm4⟩
          rw [← HU.out]
          have HM4 : Hid (MarkW lo hi w W4) := HMR.out.trans (HM3.out.trans hm4)
          clear hm4 g3
          go_wp2_with fail
          go_roundw
          case rel => exact ⟨j + 1, t + 1 + nn + rn + u, by omega, by go_num, HTS.out.symm, by congr 1; push_cast; omega, HM4.out⟩
          case measure => simp [intOf]; omega
    · have hjn : j = n := by omega
      have HE : Hid (t = bulks cs) := by unfold Hid; rw [HT.out, List.take_of_length_le (by rw [HL.out]; omega)]
      clear hmr ht
      go_wp2_with fail
      go_ret
      exact ⟨ri (by rw [HE.out]), HMR.out⟩

theorem mkLW_any : ∀ d, MkLW d
  | 0 => mkLW_of (fun d' h => by omega)
  | d + 1 => mkLW_of (fun d' h => by obtain rfl : d = d' := (by omega); exact mkLW_any d)

theorem BoxC.markW {lo hi : Nat} {W W' : World} {b : Nat} {v0 v1 v2 v3 : Value} (h : BoxC W b v0 v1 v2 v3) (hm : MarkW lo hi W W') (hb : hi ≤ b) : BoxC W' b v0 v1 v2 v3 := (hm.out b h.lt (.inr hb)).trans h

set_option maxRecDepth 100000 in
set_option maxHeartbeats 1000000 in
theorem markConW_any {d : Nat} (v : Value) (c : CN) (k : Int) (w : World) {lo hi : Nat} (h : ShC lo hi w d v c) (hhi : hi ≤ w.heap.size) (hF : Free lo hi w) (hbk : c.bulk ≤ 1048576) (hk0 : 0 ≤ k) (hk1 : k ≤ 144115188075855872) :
    Calls Try.prog 15 #[v, .int .i64 k] w fun e w' => e = .returned (.int .i64 (k + c.bulk)) ∧ MarkW lo hi w w' := by
  cases d with
  | zero => exact h.elim
  | succ d =>
    obtain ⟨k0, na, nn, nc, ra, rn, rc, ka, kn, kc, rfl, hnl, hnb, hrl, hrb, hkd⟩ := h
    have hbe := c.bulk_eq
    rw [hnl, hrl] at hbe
    obtain ⟨u, hu⟩ : ∃ u, u = bulks c.kids := ⟨_, rfl⟩
    rw [← hu] at hbe
    have HU : Hid (u = bulks c.kids) := hu
    have HBe : Hid (c.bulk = nn + rn + u) := hbe
    rw [hbe] at hbk
    have hm0 : MarkW lo hi w (w.alloc (.cells #[.int .i64 k0, .slice na nn nc, .slice ra rn rc, .slice ka kn kc] 38)) := (MarkRel.of_below ((Below.refl _ _).alloc (Nat.le_refl _) _)).toW
    obtain ⟨W0, hW0⟩ : ∃ W0, W0 = w.alloc (.cells #[.int .i64 k0, .slice na nn nc, .slice ra rn rc, .slice ka kn kc] 38) := ⟨_, rfl⟩
    have HW0 : Hid (W0 = w.alloc (.cells #[.int .i64 k0, .slice na nn nc, .slice ra rn rc, .slice ka kn kc] 38)) := hW0
    rw [← hW0] at hm0
    have HM0 : Hid (MarkW lo hi w W0) := hm0
    have HBx : Hid (BoxC W0 w.heap.size (.int .i64 k0) (.slice na nn nc) (.slice ra rn rc) (.slice ka kn kc)) := by unfold Hid; rw [hW0]; exact BoxC.new w _ _ _ _
    have HNB : Hid (ShB lo hi w na nn nc) := hnb
    have HRB : Hid (ShB lo hi w ra rn rc) := hrb
    have HKD : Hid (RdL (ShC lo hi w d) lo hi w ka kn kc c.kids) := hkd
    have HF : Hid (Free lo hi w) := hF
    have sw0 := hm0.size
    obtain ⟨b0, b1, b2, b3⟩ := HBx.out.cells
    clear hnb hrb hkd hF hm0 hW0 hu hbe hnl hrl
    go_enter Try.func15, Try.ntmps15
    go_wp2_with fail
    rw [← HW0.out]
    refine (markBW_any na nn nc k W0 (ShB.markW HM0.out HNB.out) (HF.out.markW HM0.out hhi) (Nat.le_trans hhi HM0.out.size) (by omega) (by omega)).mono ?_
    rintro e W2 ⟨rfl, hm2⟩
    have HM2 : Hid (MarkW lo hi w W2) := HM0.out.trans hm2
    have HBx2 : Hid (BoxC W2 w.heap.size (.int .i64 k0) (.slice na nn nc) (.slice ra rn rc) (.slice ka kn kc)) := HBx.out.markW hm2 hhi
    clear b0 b1 b2 b3 hm2
    obtain ⟨b0, b1, b2, b3⟩ := HBx2.out.cells
    go_wp2_with fail
    refine (markBW_any ra rn rc (k + nn) W2 (ShB.markW HM2.out HRB.out) (HF.out.markW HM2.out hhi) (Nat.le_trans hhi HM2.out.size) (by omega) (by omega)).mono ?_
    rintro e W3 ⟨rfl, hm3⟩
    have HM3 : Hid (MarkW lo hi w W3) := HM2.out.trans hm3
    have HBx3 : Hid (BoxC W3 w.heap.size (.int .i64 k0) (.slice na nn nc) (.slice ra rn rc) (.slice ka kn kc)) := HBx2.out.markW hm3 hhi
    clear b0 b1 b2 b3 hm3
    obtain ⟨b0, b1, b2, b3⟩ := HBx3.out.cells
    go_wp2_with fail
    refine (mkLW_any d ka kn kc c.kids (k + nn + rn) W3 lo hi (RdL.markW HM3.out HKD.out) (Nat.le_trans hhi HM3.out.size) (HF.out.markW HM3.out hhi) (by rw [← HU.out]; omega) (by omega) (by rw [← HU.out]; omega)).mono ?_
    rintro e W4 ⟨rfl, hm4⟩
    rw [← HU.out]
    have HM4 : Hid (MarkW lo hi w W4) := HM3.out.trans hm4
    clear hm4
    go_wp2_with fail
    go_ret
    exact ⟨ri (by rw [HBe.out]; push_cast; omega), HM4.out⟩

end Go.Proofs.Ytfbokljbmihlbaa
