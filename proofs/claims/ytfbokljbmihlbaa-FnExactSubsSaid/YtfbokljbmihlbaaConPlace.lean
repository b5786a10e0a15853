/- impl.conIn: the place of the first one alike among concepts, and -1 where there is none. -/
import Derived.Test.YtfbokljbmihlbaaConSame
import Derived.Test.YtfbokljbmihlbaaConTell
namespace Go.Proofs.Ytfbokljbmihlbaa
open Go.RowKit

def placeC (l : List CN) (c : CN) : Int := match (List.range l.length).find? (fun i => sameC (l.getD i CN.zero) c) with | some i => (i : Int) | none => -1
/-- None of the first j is alike. -/
def noneC (l : List CN) (c : CN) (j : Nat) : Prop := ∀ i, i < j → sameC (l.getD i CN.zero) c = false

theorem noneC_zero (l : List CN) (c : CN) : noneC l c 0 := fun i hi => by omega
theorem noneC_succ {l : List CN} {c : CN} {j : Nat} (h : noneC l c j) (e : sameC (l.getD j CN.zero) c = false) : noneC l c (j + 1) := fun i hi => by
  by_cases e' : i = j
  · subst e'; exact e
  · exact h i (by omega)

theorem placeC_some {l : List CN} {c : CN} {j : Nat} (hj : j < l.length) (e : sameC (l.getD j CN.zero) c = true) (h : noneC l c j) : placeC l c = j := by
  unfold placeC
  rw [List.find?_range_eq_some.2 ⟨e, by simpa using hj, fun i hi => by rw [h i hi]; rfl⟩]

theorem placeC_none {l : List CN} {c : CN} (h : noneC l c l.length) : placeC l c = -1 := by
  unfold placeC
  rw [List.find?_eq_none.2 (fun i hi => by rw [h i (List.mem_range.1 hi)]; simp)]

set_option maxRecDepth 100000 in
set_option maxHeartbeats 4000000 in
theorem alike_any {d d' lo hi lo' hi' pb : Nat} {v p0 p1 p2 p3 : Value} {x c : CN} {w : World} (h : RdC lo hi w d v x) (h' : RdC lo' hi' w d' (.agg #[p0, p1, p2, p3]) c) (hhi : hi ≤ w.heap.size) (hhi' : hi' ≤ w.heap.size) (hbx : BoxC w pb p0 p1 p2 p3) :
    Calls Try.prog 82 #[v, .pointer (some ⟨pb, 0, none⟩)] w fun e w' => e = .returned (.bool (sameC x c)) ∧ Below w.heap.size w w' := by
  have HRd : Hid (RdC lo hi w d v x) := h
  have HRd' : Hid (RdC lo' hi' w d' (.agg #[p0, p1, p2, p3]) c) := h'
  obtain ⟨k, na, nn, nc, ra, rn, rc, ka, kn, kc, rfl⟩ := h.shape
  obtain ⟨pk, pna, pnn, pnc, pra, prn, prc, pka, pkn, pkc, rfl, rfl, rfl, rfl⟩ := h'.form4
  obtain ⟨W0, hW0⟩ : ∃ W0, W0 = w.alloc (.cells #[.int .i64 k, .slice na nn nc, .slice ra rn rc, .slice ka kn kc] 38) := ⟨_, rfl⟩
  have HW0 : Hid (W0 = w.alloc (.cells #[.int .i64 k, .slice na nn nc, .slice ra rn rc, .slice ka kn kc] 38)) := hW0
  have hb0 : Below w.heap.size w W0 := by rw [hW0]; exact (Below.refl _ _).alloc (Nat.le_refl _) _
  have HB0 : Hid (Below w.heap.size w W0) := hb0
  have hl0 : w.heap.size < W0.heap.size := by rw [hW0]; simp
  have hbx0 : BoxC W0 w.heap.size (.int .i64 k) (.slice na nn nc) (.slice ra rn rc) (.slice ka kn kc) := by rw [hW0]; exact BoxC.new w _ _ _ _
  obtain ⟨b0, b1, b2, b3⟩ := hbx0.cells
  obtain ⟨q0, q1, q2, q3⟩ := (hbx.below hb0 hbx.lt).cells
  have HA : Hid (RdC lo hi W0 d (.agg #[.int .i64 k, .slice na nn nc, .slice ra rn rc, .slice ka kn kc]) x) := h.below hb0 hhi
  have HC : Hid (RdC lo' hi' W0 d' (.agg #[.int .i64 pk, .slice pna pnn pnc, .slice pra prn prc, .slice pka pkn pkc]) c) := h'.below hb0 hhi'
  have hh0 : hi ≤ W0.heap.size := by omega
  have hh1 : hi' ≤ W0.heap.size := by omega
  obtain ⟨r, hr⟩ : ∃ r, r = sameC x c := ⟨_, rfl⟩
  have HR : Hid (r = sameC x c) := hr
  clear hb0 hW0 hbx0 h h' hr hbx
  go_enter Try.func82, Try.ntmps82
  go_upto_region 1 with fail
  rw [← HW0.out]
  go_wp2_with fail
  refine (smC_any d _ _ x c d' W0 lo hi lo' hi' HA.out HC.out hh0 hh1).mono ?_
  rintro e w5 ⟨rfl, hb5⟩
  rw [← HR.out]
  have HB5 : Hid (Below w.heap.size w w5) := HB0.out.trans (hb5.mono (by omega))
  clear hb5
  go_wp2_with fail
  go_ret
  exact ⟨by rw [← HR.out]; rfl, HB5.out⟩

set_option maxRecDepth 100000 in
set_option maxHeartbeats 4000000 in
theorem indexAlike_any {d d' lo hi lo' hi' pb n cap : Nat} {a : Option Addr} {p0 p1 p2 p3 : Value} {cs : List CN} {c : CN} {w : World} (h : RdL (RdC lo hi w d) lo hi w a n cap cs) (h' : RdC lo' hi' w d' (.agg #[p0, p1, p2, p3]) c) (hhi : hi ≤ w.heap.size) (hhi' : hi' ≤ w.heap.size) (hbx : BoxC w pb p0 p1 p2 p3) (hn : n ≤ 1048576) :
    Calls Try.prog 81 #[.slice a n cap, .func (.func 82) #[] #[.pointer (some ⟨pb, 0, none⟩)]] w fun e w' => e = .returned (.int .i64 (placeC cs c)) ∧ Below w.heap.size w w' := by
  have HL : Hid (RdL (RdC lo hi w d) lo hi w a n cap cs) := h
  have HC : Hid (RdC lo' hi' w d' (.agg #[p0, p1, p2, p3]) c) := h'
  have HBx : Hid (BoxC w pb p0 p1 p2 p3) := hbx
  have HLn : Hid (cs.length = n) := h.len
  have hpl : pb < w.heap.size := hbx.lt
  clear h h' hbx
  go_enter Try.func81, Try.ntmps81
  go_upto_region 2 with fail
  go_loopw [8] (fun i wr => ∃ j : Nat, j ≤ n ∧ i = .int .i64 j ∧ noneC cs c j ∧ Below w.heap.size w wr) (fun i _ => n - (intOf i).toNat)
  case atStart => exact ⟨0, Nat.zero_le _, rfl, noneC_zero cs c, Below.refl _ _⟩
  case round =>
    obtain ⟨j, hj, rfl, hnot, hbel⟩ := hrel
    have HNt : Hid (noneC cs c j) := hnot
    have HBe : Hid (Below w.heap.size w wr) := hbel
    have hszr := hbel.size
    by_cases hlt : j < n
    · have hji : (j : Int) < (n : Int) := by omega
      have hjl : j < cs.length := by rw [HLn.out]; exact hlt
      have hR := HL.out.same (Same.of_below hbel hhi)
      rcases hR.cells with e | ⟨b, off, rfl, _, _, hc⟩
      · omega
      · obtain ⟨v0, v1, v2, v3, q0, q1, q2, q3, hrd⟩ := hc j hlt
        have HEl : Hid (RdC lo hi wr d (.agg #[v0, v1, v2, v3]) (cs.getD j CN.zero)) := hrd
        have HCw : Hid (RdC lo' hi' wr d' (.agg #[p0, p1, p2, p3]) c) := HC.out.below hbel hhi'
        have HBw : Hid (BoxC wr pb p0 p1 p2 p3) := HBx.out.below hbel hpl
        have hh1 : hi ≤ wr.heap.size := by omega
        have hh2 : hi' ≤ wr.heap.size := by omega
        obtain ⟨r, hr⟩ : ∃ r, r = sameC (cs.getD j CN.zero) c := ⟨_, rfl⟩
        have HRr : Hid (r = sameC (cs.getD j CN.zero) c) := hr
        clear hR hc hrd hr hnot hbel
        go_wp2_with fail
        refine (alike_any HEl.out HCw.out hh1 hh2 HBw.out).mono ?_
        rintro e w5 ⟨rfl, hb5⟩
        rw [← HRr.out]
        have HB5 : Hid (Below w.heap.size w w5) := HBe.out.trans (hb5.mono hszr)
        clear hb5
        cases r with
        | true =>
          have HP : Hid (placeC cs c = j) := placeC_some hjl HRr.out.symm HNt.out
          go_wp2_with fail
          go_ret
          exact ⟨by rw [HP.out]; rfl, HB5.out⟩
        | false =>
          have HF : Hid (noneC cs c (j + 1)) := noneC_succ HNt.out HRr.out.symm
          go_wp2_with fail
          go_roundw
          case rel => exact ⟨j + 1, by omega, by go_num, HF.out, HB5.out⟩
          case measure => simp [intOf]; omega
    · have HP : Hid (placeC cs c = -1) := placeC_none (by rw [HLn.out, show n = j by omega]; exact HNt.out)
      clear hnot hbel
      go_wp2_with fail
      go_ret
      exact ⟨by rw [HP.out]; rfl, HBe.out⟩

set_option maxRecDepth 100000 in
set_option maxHeartbeats 4000000 in
theorem conIn_any {d d' lo hi lo' hi' n cap : Nat} {a : Option Addr} {v : Value} {cs : List CN} {c : CN} {w : World} (h : RdL (RdC lo hi w d) lo hi w a n cap cs) (h' : RdC lo' hi' w d' v c) (hhi : hi ≤ w.heap.size) (hhi' : hi' ≤ w.heap.size) (hn : n ≤ 1048576) :
    Calls Try.prog 50 #[.slice a n cap, v] w fun e w' => e = .returned (.int .i64 (placeC cs c)) ∧ Below w.heap.size w w' := by
  obtain ⟨k, na, nn, nc, ra, rn, rc, ka, kn, kc, rfl⟩ := h'.shape
  obtain ⟨W0, hW0⟩ : ∃ W0, W0 = w.alloc (.cells #[.int .i64 k, .slice na nn nc, .slice ra rn rc, .slice ka kn kc] 38) := ⟨_, rfl⟩
  have HW0 : Hid (W0 = w.alloc (.cells #[.int .i64 k, .slice na nn nc, .slice ra rn rc, .slice ka kn kc] 38)) := hW0
  have hb0 : Below w.heap.size w W0 := by rw [hW0]; exact (Below.refl _ _).alloc (Nat.le_refl _) _
  have HB0 : Hid (Below w.heap.size w W0) := hb0
  have hl0 : w.heap.size < W0.heap.size := by rw [hW0]; simp
  have HBx : Hid (BoxC W0 w.heap.size (.int .i64 k) (.slice na nn nc) (.slice ra rn rc) (.slice ka kn kc)) := by unfold Hid; rw [hW0]; exact BoxC.new w _ _ _ _
  have HL : Hid (RdL (RdC lo hi W0 d) lo hi W0 a n cap cs) := h.same (Same.of_below hb0 hhi)
  have HC : Hid (RdC lo' hi' W0 d' (.agg #[.int .i64 k, .slice na nn nc, .slice ra rn rc, .slice ka kn kc]) c) := h'.below hb0 hhi'
  clear h h' hW0 hb0
  go_enter Try.func50, Try.ntmps50
  go_upto_region 1 with fail
  rw [← HW0.out]
  go_wp2_with fail
  refine (indexAlike_any HL.out HC.out (by omega) (by omega) HBx.out hn).mono ?_
  rintro e w5 ⟨rfl, hb5⟩
  obtain ⟨r, hr⟩ : ∃ r, r = placeC cs c := ⟨_, rfl⟩
  rw [← hr]
  have HR : Hid (r = placeC cs c) := hr
  have HB5 : Hid (Below w.heap.size w w5) := HB0.out.trans (hb5.mono (by omega))
  clear hb5 hr
  go_wp2_with fail
  go_ret
  exact ⟨by rw [← HR.out]; rfl, HB5.out⟩

end Go.Proofs.Ytfbokljbmihlbaa
