/- impl.Subs' own search: its function value, slices.IndexFunc, slices.ContainsFunc over it. -/
import Derived.Test.YtephiilmbcminaaConSubs4
namespace Go.Proofs.Ytephiilmbcminaa
open Go.RowKit

set_option maxRecDepth 100000 in
set_option maxHeartbeats 4000000 in
theorem alike_any {d d' lo hi lo' hi' pb : Nat} {v p0 p1 p2 p3 : Value} {x c : CN} {w : World} (h : RdC lo hi w d v x) (h' : RdC lo' hi' w d' (.agg #[p0, p1, p2, p3]) c) (hhi : hi ≤ w.heap.size) (hhi' : hi' ≤ w.heap.size) (hbx : BoxC w pb p0 p1 p2 p3) :
    Calls Try.prog 72 #[v, .pointer (some ⟨pb, 0, none⟩)] w fun e w' => e = .returned (.bool (sameC x c)) ∧ Below w.heap.size w w' := by
  have HRd : Hid (RdC lo hi w d v x) := h
  have HRd' : Hid (RdC lo' hi' w d' (.agg #[p0, p1, p2, p3]) c) := h'
  obtain ⟨k, na, nn, nc, ra, rn, rc, ka, kn, kc, rfl⟩ := h.shape
  obtain ⟨pk, pna, pnn, pnc, pra, prn, prc, pka, pkn, pkc, rfl, rfl, rfl, rfl⟩ := h'.form4
  obtain ⟨W0, hW0⟩ : ∃ W0, W0 = w.alloc (.cells #[.int .i64 k, .slice na nn nc, .slice ra rn rc, .slice ka kn kc] 30) := ⟨_, rfl⟩
  have HW0 : Hid (W0 = w.alloc (.cells #[.int .i64 k, .slice na nn nc, .slice ra rn rc, .slice ka kn kc] 30)) := hW0
  have hb0 : Below w.heap.size w W0 := by rw [hW0]; exact (Below.refl _ _).alloc (Nat.le_refl _) _
  have HB0 : Hid (Below w.heap.size w W0) := hb0
  have hl0 : w.heap.size < W0.heap.size := by rw [hW0]; simp
  have hbx0 : BoxC W0 w.heap.size (.int .i64 k) (.slice na nn nc) (.slice ra rn rc) (.slice ka kn kc) := by rw [hW0]; exact BoxC.new w _ _ _ _
  obtain ⟨b0, b1, b2, b3⟩ := hbx0.cells
  obtain ⟨q0, q1, q2, q3⟩ := (hbx.below hb0 hbx.lt).cells
  have HA : Hid (RdC lo hi W0 d (.agg #[.int .i64 k, .slice na nn nc, .slice ra rn rc, .slice ka kn kc]) x) := h.below hb0 hhi
  have HC : Hid (RdC lo' hi' W0 d' (.agg #[.int .i64 pk, .slice pna pnn pnc, .slice pra prn prc, .slice pka pkn pkc]) c) := h'.below hb0 hhi'
  have hh0 : hi ≤ W0.heap.size := by omega
  have hh1 : hi' ≤ W0.heap.size := by omega
  obtain ⟨r, hr⟩ : ∃ r, r = sameC x c := ⟨_, rfl⟩
  have HR : Hid (r = sameC x c) := hr
  clear hb0 hW0 hbx0 h h' hr hbx
  go_enter Try.func72, Try.ntmps72
  go_upto_region 1 with fail
  rw [← HW0.out]
  go_wp2_with fail
  refine (smC_any d _ _ x c d' W0 lo hi lo' hi' HA.out HC.out hh0 hh1).mono ?_
  rintro e w5 ⟨rfl, hb5⟩
  rw [← HR.out]
  have HB5 : Hid (Below w.heap.size w w5) := HB0.out.trans (hb5.mono (by omega))
  clear hb5
  go_wp2_with fail
  go_ret
  exact ⟨by rw [← HR.out]; rfl, HB5.out⟩

set_option maxRecDepth 100000 in
set_option maxHeartbeats 4000000 in
theorem indexAlike_any {d d' lo hi lo' hi' pb n cap : Nat} {a : Option Addr} {p0 p1 p2 p3 : Value} {cs : List CN} {c : CN} {w : World} (h : RdL (RdC lo hi w d) lo hi w a n cap cs) (h' : RdC lo' hi' w d' (.agg #[p0, p1, p2, p3]) c) (hhi : hi ≤ w.heap.size) (hhi' : hi' ≤ w.heap.size) (hbx : BoxC w pb p0 p1 p2 p3) (hn : n ≤ 1048576) :
    Calls Try.prog 127 #[.slice a n cap, .func (.func 72) #[] #[.pointer (some ⟨pb, 0, none⟩)]] w fun e w' => ∃ i : Int, e = .returned (.int .i64 i) ∧ decide (0 ≤ i) = amongC cs c ∧ Below w.heap.size w w' := by
  have HL : Hid (RdL (RdC lo hi w d) lo hi w a n cap cs) := h
  have HC : Hid (RdC lo' hi' w d' (.agg #[p0, p1, p2, p3]) c) := h'
  have HBx : Hid (BoxC w pb p0 p1 p2 p3) := hbx
  have HLn : Hid (cs.length = n) := h.len
  have hpl : pb < w.heap.size := hbx.lt
  clear h h' hbx
  go_enter Try.func127, Try.ntmps127
  go_upto_region 2 with fail
  go_loopw [8] (fun i wr => ∃ j : Nat, j ≤ n ∧ i = .int .i64 j ∧ amongC (cs.take j) c = false ∧ Below w.heap.size w wr) (fun i _ => n - (intOf i).toNat)
  case atStart => exact ⟨0, Nat.zero_le _, rfl, by simp [amongC], Below.refl _ _⟩
  case round =>
    obtain ⟨j, hj, rfl, hnot, hbel⟩ := hrel
    have HNt : Hid (amongC (cs.take j) c = false) := hnot
    have HBe : Hid (Below w.heap.size w wr) := hbel
    have hszr := hbel.size
    by_cases hlt : j < n
    · have hji : (j : Int) < (n : Int) := by omega
      have hjl : j < cs.length := by rw [HLn.out]; exact hlt
      have hR := HL.out.same (Same.of_below hbel hhi)
      rcases hR.cells with e | ⟨b, off, rfl, _, _, hc⟩
      · omega
      · obtain ⟨v0, v1, v2, v3, q0, q1, q2, q3, hrd⟩ := hc j hlt
        have HEl : Hid (RdC lo hi wr d (.agg #[v0, v1, v2, v3]) (cs.getD j CN.zero)) := hrd
        have HCw : Hid (RdC lo' hi' wr d' (.agg #[p0, p1, p2, p3]) c) := HC.out.below hbel hhi'
        have HBw : Hid (BoxC wr pb p0 p1 p2 p3) := HBx.out.below hbel hpl
        have hh1 : hi ≤ wr.heap.size := by omega
        have hh2 : hi' ≤ wr.heap.size := by omega
        obtain ⟨r, hr⟩ : ∃ r, r = sameC (cs.getD j CN.zero) c := ⟨_, rfl⟩
        have HRr : Hid (r = sameC (cs.getD j CN.zero) c) := hr
        clear hR hc hrd hr hnot hbel
        go_wp2_with fail
        refine (alike_any HEl.out HCw.out hh1 hh2 HBw.out).mono ?_
        rintro e w5 ⟨rfl, hb5⟩
        rw [← HRr.out]
        have HB5 : Hid (Below w.heap.size w w5) := HBe.out.trans (hb5.mono hszr)
        clear hb5
        cases r with
        | true =>
          have HP : Hid (amongC cs c = true) := among_of hjl HRr.out.symm
          go_wp2_with fail
          go_ret
          exact ⟨j, rfl, by rw [HP.out]; simp, HB5.out⟩
        | false =>
          have HF : Hid (amongC (cs.take (j + 1)) c = false) := by unfold Hid; rw [among_take_succ cs c j hjl, HNt.out, ← HRr.out]; rfl
          go_wp2_with fail
          go_roundw
          case rel => exact ⟨j + 1, by omega, by go_num, HF.out, HB5.out⟩
          case measure => simp [intOf]; omega
    · have HP : Hid (amongC cs c = false) := by
        have h1 := HNt.out
        rw [List.take_of_length_le (by rw [HLn.out]; omega)] at h1
        exact h1
      clear hnot hbel
      go_wp2_with fail
      go_ret
      exact ⟨-1, rfl, by rw [HP.out]; simp, HBe.out⟩

set_option maxRecDepth 100000 in
set_option maxHeartbeats 4000000 in
theorem hasAlike_any {d d' lo hi lo' hi' pb n cap : Nat} {a : Option Addr} {p0 p1 p2 p3 : Value} {cs : List CN} {c : CN} {w : World} (h : RdL (RdC lo hi w d) lo hi w a n cap cs) (h' : RdC lo' hi' w d' (.agg #[p0, p1, p2, p3]) c) (hhi : hi ≤ w.heap.size) (hhi' : hi' ≤ w.heap.size) (hbx : BoxC w pb p0 p1 p2 p3) (hn : n ≤ 1048576) :
    Calls Try.prog 74 #[.slice a n cap, .func (.func 72) #[] #[.pointer (some ⟨pb, 0, none⟩)]] w fun e w' => e = .returned (.bool (amongC cs c)) ∧ Below w.heap.size w w' := by
  have HL : Hid (RdL (RdC lo hi w d) lo hi w a n cap cs) := h
  have HC : Hid (RdC lo' hi' w d' (.agg #[p0, p1, p2, p3]) c) := h'
  have HBx : Hid (BoxC w pb p0 p1 p2 p3) := hbx
  clear h h' hbx
  go_enter Try.func74, Try.ntmps74
  go_wp2_with fail
  refine (indexAlike_any HL.out HC.out hhi hhi' HBx.out hn).mono ?_
  rintro e w5 ⟨i, rfl, hi5, hb5⟩
  have HB5 : Hid (Below w.heap.size w w5) := hb5
  have HI5 : Hid (decide (0 ≤ i) = amongC cs c) := hi5
  clear hb5 hi5
  by_cases hi0 : 0 ≤ i
  · have HP : Hid (amongC cs c = true) := by unfold Hid; rw [← HI5.out]; exact decide_eq_true hi0
    go_wp2_with fail
    go_ret
    exact ⟨by rw [HP.out]; simp, HB5.out⟩
  · have HP : Hid (amongC cs c = false) := by unfold Hid; rw [← HI5.out]; exact decide_eq_false hi0
    go_wp2_with fail
    go_ret
    exact ⟨by rw [HP.out]; simp [hi0], HB5.out⟩

end Go.Proofs.Ytephiilmbcminaa
