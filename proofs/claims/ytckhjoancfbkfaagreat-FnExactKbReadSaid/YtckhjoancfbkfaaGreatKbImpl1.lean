/- impl.vocabularyOf: the words of all that is told, in three sets. -/
import Derived.Test.YtckhjoancfbkfaaGreatKbAddM
import Derived.Test.YtckhjoancfbkfaaGreatKbSpecM
namespace Go.Proofs.YtckhjoancfbkfaaGreat
open Go.RowKit Go.Shelf

theorem BoxA.grs {S : Nat → Prop} {t : Nat} {W W' : World} {p : Nat} {k : Int} {c0 c1 c2 c3 d0 d1 d2 d3 r s a b : Value} (h : BoxA t W p k c0 c1 c2 c3 d0 d1 d2 d3 r s a b) (hg : GrS S W W') (hn : ¬ S p) : BoxA t W' p k c0 c1 c2 c3 d0 d1 d2 d3 r s a b := (hg.block p h.lt hn).trans h
theorem boxed_grs {S : Nat → Prop} {W W' : World} {p t : Nat} {v : Value} (h : Boxed W p t v) (hg : GrS S W W') (hn : ¬ S p) : Boxed W' p t v := (hg.block p h.lt hn).trans h

/-- The box of the answer, empty yet. -/
def BoxE (W : World) (p : Nat) : Prop := W.heap[p]? = some (.cells #[.map none, .map none, .map none] 69 (0, 0))
theorem BoxE.lt {W : World} {p : Nat} (h : BoxE W p) : p < W.heap.size := (Array.getElem?_eq_some_iff.1 h).1
theorem BoxE.cells {W : World} {p : Nat} (h : BoxE W p) : W.cell? ⟨p, 0, none⟩ = some (.map none) ∧ W.cell? ⟨p, 1, none⟩ = some (.map none) ∧ W.cell? ⟨p, 2, none⟩ = some (.map none) := by
  unfold BoxE at h
  refine ⟨?_, ?_, ?_⟩ <;> simp [World.cell?, h]
theorem BoxE.frz {W : World} {p : Nat} (h : BoxE W p) (o : Nat) : W.frozen? ⟨p, o, none⟩ = false := by
  unfold BoxE at h
  simp [World.frozen?, h]
theorem BoxE.set {W : World} {p : Nat} (h : BoxE W p) (bN bR bI : Nat) : BoxV (((W.setCell ⟨p, 0, none⟩ (.map (some bN))).setCell ⟨p, 1, none⟩ (.map (some bR))).setCell ⟨p, 2, none⟩ (.map (some bI))) p bN bR bI := by
  have h0 := heap_setCell_same W p 0 _ _ (.map (some bN)) h
  have h1 := heap_setCell_same _ p 1 _ _ (.map (some bR)) h0
  exact heap_setCell_same _ p 2 _ _ (.map (some bI)) h1

def Three (s k : Nat) : Prop := k = s + 2 ∨ k = s + 3 ∨ k = s + 4

/-- Between two rounds. -/
structure InvK (w : World) (xs : List AX) (a : Option Addr) (n cap : Nat) (W : World) : Prop where
  nm : WSet W (w.heap.size + 2) (kbN xs)
  rl : WSet W (w.heap.size + 3) (kbR xs)
  nd : WSet W (w.heap.size + 4) (kbI xs)
  box : BoxV W (w.heap.size + 5) (w.heap.size + 2) (w.heap.size + 3) (w.heap.size + 4)
  res : BoxE W (w.heap.size + 1)
  kb : Boxed W w.heap.size 25 (.slice a n cap)
  bel : Below w.heap.size w W

theorem naC {c : CN} (h : conOk c = true) (l : List (List Int)) : (parts c 1).foldl naP l = namesC c l := (namesC_ok h l).symm
theorem rlC (c : CN) (l : List (List Int)) : (parts c 1).foldl rlP l = rolesC c l := (rolesC_parts c 1 l).symm

theorem axOk_con {x : AX} (h : axOk x = true) : conOk x.c = true ∧ conOk x.d = true := by
  unfold axOk at h
  simp only [Bool.and_eq_true] at h
  obtain ⟨_, h1, h2, _⟩ := h
  refine ⟨?_, ?_⟩
  · unfold fitC at h1; split at h1; exact h1; exact ok_of_zero h1
  · unfold fitC at h2; split at h2; exact h2; exact ok_of_zero h2

set_option maxRecDepth 100000 in
set_option maxHeartbeats 8000000 in
theorem vocabularyOf_any {a : Option Addr} {n cap : Nat} {xs : List AX} {dp : Nat} {w : World} {lo hi : Nat} (h : RdK lo hi w dp a n cap xs) (hhi : hi ≤ w.heap.size) (hax : ∀ x ∈ xs, AxB x) (hok : ∀ x ∈ xs, conOk x.c = true ∧ conOk x.d = true) (hbk : ∀ x ∈ xs, x.c.bulk ≤ 1048576 ∧ x.d.bulk ≤ 1048576) (hn8 : n ≤ 8) :
    Calls Tryz.prog 39 #[.agg #[.slice a n cap]] w fun e w' => e = .returned (.agg #[.map (some (w.heap.size + 2)), .map (some (w.heap.size + 3)), .map (some (w.heap.size + 4))]) ∧
      WSet w' (w.heap.size + 2) (kbN xs) ∧ WSet w' (w.heap.size + 3) (kbR xs) ∧ WSet w' (w.heap.size + 4) (kbI xs) ∧ Below w.heap.size w w' := by
  have HK : Hid (RdK lo hi w dp a n cap xs) := h
  have HL : Hid (xs.length = n) := h.len
  have HAx : Hid (∀ x ∈ xs, AxB x) := hax
  have HOk : Hid (∀ x ∈ xs, conOk x.c = true ∧ conOk x.d = true) := hok
  have HBk : Hid (∀ x ∈ xs, x.c.bulk ≤ 1048576 ∧ x.d.bulk ≤ 1048576) := hbk
  have hf := h.fits
  have hmm := run_makeMap (P := Tryz.prog)
  obtain ⟨W0, hW0⟩ : ∃ W0, W0 = (((((w.alloc (.cells #[.slice a n cap] 25)).alloc (.cells #[.map none, .map none, .map none] 69)).alloc (.map #[] 0)).alloc (.map #[] 0)).alloc (.map #[] 0)).alloc (.cells #[.map (some (w.heap.size + 1 + 1)), .map (some (w.heap.size + 1 + 1 + 1)), .map (some (w.heap.size + 1 + 1 + 1 + 1))] 69) := ⟨_, rfl⟩
  have HW0 : Hid (W0 = (((((w.alloc (.cells #[.slice a n cap] 25)).alloc (.cells #[.map none, .map none, .map none] 69)).alloc (.map #[] 0)).alloc (.map #[] 0)).alloc (.map #[] 0)).alloc (.cells #[.map (some (w.heap.size + 1 + 1)), .map (some (w.heap.size + 1 + 1 + 1)), .map (some (w.heap.size + 1 + 1 + 1 + 1))] 69)) := hW0
  have HI0 : Hid (InvK w [] a n cap W0) := by
    unfold Hid
    have s1 : (w.alloc (.cells #[.slice a n cap] 25)).heap.size = w.heap.size + 1 := by simp
    have s2 : ((w.alloc (.cells #[.slice a n cap] 25)).alloc (.cells #[.map none, .map none, .map none] 69)).heap.size = w.heap.size + 2 := by simp
    have s3 : (((w.alloc (.cells #[.slice a n cap] 25)).alloc (.cells #[.map none, .map none, .map none] 69)).alloc (.map #[] 0)).heap.size = w.heap.size + 3 := by simp
    have s4 : ((((w.alloc (.cells #[.slice a n cap] 25)).alloc (.cells #[.map none, .map none, .map none] 69)).alloc (.map #[] 0)).alloc (.map #[] 0)).heap.size = w.heap.size + 4 := by simp
    have s5 : (((((w.alloc (.cells #[.slice a n cap] 25)).alloc (.cells #[.map none, .map none, .map none] 69)).alloc (.map #[] 0)).alloc (.map #[] 0)).alloc (.map #[] 0)).heap.size = w.heap.size + 5 := by simp
    have ab : ∀ (V : World) (o : Obj) (B : Nat), B ≤ V.heap.size → Below B V (V.alloc o) := fun V o B hB => (Below.refl B V).alloc hB o
    refine ⟨?_, ?_, ?_, ?_, ?_, ?_, ?_⟩
    · rw [hW0]
      have m := WSet.made ((w.alloc (.cells #[.slice a n cap] 25)).alloc (.cells #[.map none, .map none, .map none] 69))
      rw [s2] at m
      exact ((m.below (ab _ _ (w.heap.size + 3) (by rw [s3]; exact Nat.le_refl _)) (by omega)).below (ab _ _ (w.heap.size + 3) (by rw [s4]; omega)) (by omega)).below (ab _ _ (w.heap.size + 3) (by rw [s5]; omega)) (by omega)
    · rw [hW0]
      have m := WSet.made (((w.alloc (.cells #[.slice a n cap] 25)).alloc (.cells #[.map none, .map none, .map none] 69)).alloc (.map #[] 0))
      rw [s3] at m
      exact (m.below (ab _ _ (w.heap.size + 4) (by rw [s4]; exact Nat.le_refl _)) (by omega)).below (ab _ _ (w.heap.size + 4) (by rw [s5]; omega)) (by omega)
    · rw [hW0]
      have m := WSet.made ((((w.alloc (.cells #[.slice a n cap] 25)).alloc (.cells #[.map none, .map none, .map none] 69)).alloc (.map #[] 0)).alloc (.map #[] 0))
      rw [s4] at m
      exact m.below (ab _ _ (w.heap.size + 5) (by rw [s5]; exact Nat.le_refl _)) (by omega)
    · rw [hW0]
      have m := BoxV.new (((((w.alloc (.cells #[.slice a n cap] 25)).alloc (.cells #[.map none, .map none, .map none] 69)).alloc (.map #[] 0)).alloc (.map #[] 0)).alloc (.map #[] 0)) (w.heap.size + 2) (w.heap.size + 3) (w.heap.size + 4)
      rw [s5] at m
      exact m
    · rw [hW0]
      have m : BoxE ((w.alloc (.cells #[.slice a n cap] 25)).alloc (.cells #[.map none, .map none, .map none] 69)) (w.heap.size + 1) := by have := World.alloc_heap_new (w.alloc (.cells #[.slice a n cap] 25)) (.cells #[.map none, .map none, .map none] 69); rw [s1] at this; exact this
      exact ((((ab _ _ (w.heap.size + 2) (by rw [s5]; omega)).block _ (by omega)).trans ((ab _ _ (w.heap.size + 2) (by rw [s4]; omega)).block _ (by omega))).trans ((ab _ _ (w.heap.size + 2) (by rw [s3]; omega)).block _ (by omega))).trans (((ab _ _ (w.heap.size + 2) (by rw [s2]; exact Nat.le_refl _)).block _ (by omega)).trans m)
    · rw [hW0]
      exact (((((Boxed.new w 25 (.slice a n cap)).alloc _).alloc _).alloc _).alloc _).alloc _
    · rw [hW0]
      exact ((((((Below.refl _ w).alloc (Nat.le_refl _) _).alloc (by simp) _).alloc (by simp; omega) _).alloc (by simp; omega) _).alloc (by simp; omega) _).alloc (by simp; omega) _
  clear h hax hok hbk hW0
  go_enter Tryz.func39, Tryz.ntmps39
  go_wp2_with fail
  rw [← HW0.out]
  go_loopw [13] (fun i wr => ∃ (j : Nat), j ≤ n ∧ i = .int .i64 j ∧ InvK w (xs.take j) a n cap wr) (fun i _ => n - (intOf i).toNat)
  case atStart => exact ⟨0, Nat.zero_le _, rfl, HI0.out⟩
  case round =>
    obtain ⟨j, hj, rfl, hinv⟩ := hrel
    have HI : Hid (InvK w (xs.take j) a n cap wr) := hinv
    obtain ⟨v0, v1, v2⟩ := hinv.box.cells
    have hv5 := hinv.box.lt
    have hbel := hinv.bel
    by_cases hlt : j < n
    · have hjl : j < xs.length := by rw [HL.out]; exact hlt
      have hK := HK.out.below hbel hhi
      rcases hK.cells with hz | ⟨b, off, e1, hblo, hbhi, hc⟩
      · omega
      · subst e1
        obtain ⟨c0, c1, c2, c3, d0, d1, d2, d3, ra, rn, rc, sa, sn, sc, aa, an, ac, ba, bn, bc, q0, q1, q2, q3, q4, q5, q6, q7, q8, q9, q10, q11, q12, hrd⟩ := hc j hlt
        obtain ⟨ek, e1a, e1n, e1c, e2a, e2n, e2c, e3a, e3n, e3c, rfl, rfl, rfl, rfl⟩ := hrd.c.sh.form
        obtain ⟨fk, f1a, f1n, f1c, f2a, f2n, f2c, f3a, f3n, f3c, rfl, rfl, rfl, rfl⟩ := hrd.d.sh.form
        have HAxj : Hid (AxB (xs.getD j AX.zero)) := axb_getD HAx.out hjl
        have hmem : xs.getD j AX.zero ∈ xs := by rw [List.getD_eq_getElem?_getD, List.getElem?_eq_getElem hjl]; exact List.getElem_mem hjl
        have HOkj : Hid (conOk (xs.getD j AX.zero).c = true ∧ conOk (xs.getD j AX.zero).d = true) := HOk.out _ hmem
        have HBkj : Hid ((xs.getD j AX.zero).c.bulk ≤ 1048576 ∧ (xs.getD j AX.zero).d.bulk ≤ 1048576) := HBk.out _ hmem
        have HN : Hid (kbN (xs.take (j + 1)) = stN (kbN (xs.take j)) (xs.getD j AX.zero)) := kbN_take xs j hjl
        have HR : Hid (kbR (xs.take (j + 1)) = stR (kbR (xs.take j)) (xs.getD j AX.zero)) := kbR_take xs j hjl
        have HIn : Hid (kbI (xs.take (j + 1)) = stI (kbI (xs.take j)) (xs.getD j AX.zero)) := kbI_take xs j hjl
        have HLn : Hid ((kbN (xs.take j)).length ≤ 256 ∧ (kbR (xs.take j)).length ≤ 272 ∧ (kbI (xs.take j)).length ≤ 16) := by
          have h1 := (kbN_good (axb_take HAx.out j)).2
          have h2 := (kbR_good (axb_take HAx.out j)).2
          have h3 := (kbI_good (axb_take HAx.out j)).2
          rw [List.length_take] at h1 h2 h3
          unfold Hid; omega
        have hji : (j : Int) < (n : Int) := by omega
        have hbw : b < wr.heap.size := by have := hbel.size; omega
        obtain ⟨x, hx⟩ : ∃ x, x = xs.getD j AX.zero := ⟨_, rfl⟩
        rw [← hx] at HAxj HOkj HBkj HN HR HIn q0 hrd
        obtain ⟨kk, hkk⟩ : ∃ kk, kk = x.kind := ⟨_, rfl⟩
        rw [← hkk] at q0
        obtain ⟨w1, hw1⟩ : ∃ w1, w1 = wr.alloc (.cells #[.int .i64 kk, .int .i64 ek, .slice e1a e1n e1c, .slice e2a e2n e2c, .slice e3a e3n e3c, .int .i64 fk, .slice f1a f1n f1c, .slice f2a f2n f2c, .slice f3a f3n f3c, .slice ra rn rc, .slice sa sn sc, .slice aa an ac, .slice ba bn bc] 39) := ⟨_, rfl⟩
        have HW1 : Hid (w1 = wr.alloc (.cells #[.int .i64 kk, .int .i64 ek, .slice e1a e1n e1c, .slice e2a e2n e2c, .slice e3a e3n e3c, .int .i64 fk, .slice f1a f1n f1c, .slice f2a f2n f2c, .slice f3a f3n f3c, .slice ra rn rc, .slice sa sn sc, .slice aa an ac, .slice ba bn bc] 39)) := hw1
        have hb1 : Below wr.heap.size wr w1 := by rw [hw1]; exact (Below.refl _ _).alloc (Nat.le_refl _) _
        have s1 : w1.heap.size = wr.heap.size + 1 := by rw [hw1]; simp
        have HG1 : Hid (GrS (Three w.heap.size) wr w1) := GrS.of_below hb1
        have HBA1 : Hid (BoxA 39 w1 wr.heap.size kk (.int .i64 ek) (.slice e1a e1n e1c) (.slice e2a e2n e2c) (.slice e3a e3n e3c) (.int .i64 fk) (.slice f1a f1n f1c) (.slice f2a f2n f2c) (.slice f3a f3n f3c) (.slice ra rn rc) (.slice sa sn sc) (.slice aa an ac) (.slice ba bn bc)) := by unfold Hid; rw [hw1]; exact BoxA.new _ wr _ _ _ _ _ _ _ _ _ _ _ _ _
        have HNe : Hid (w.heap.size + 5 < wr.heap.size) := hv5
        have hb1w : Below w.heap.size w w1 := hbel.trans (hb1.mono (by omega))
        have HRd : Hid (∀ V, Below w.heap.size w1 V → RdA lo hi V dp (.int .i64 ek) (.slice e1a e1n e1c) (.slice e2a e2n e2c) (.slice e3a e3n e3c) (.int .i64 fk) (.slice f1a f1n f1c) (.slice f2a f2n f2c) (.slice f3a f3n f3c) ra rn rc sa sn sc aa an ac ba bn bc x) := fun V hV => (hrd.below hb1 (by have := hbel.size; omega)).below hV hhi
        have HIv1 : Hid (WSet w1 (w.heap.size + 2) (kbN (xs.take j)) ∧ WSet w1 (w.heap.size + 3) (kbR (xs.take j)) ∧ WSet w1 (w.heap.size + 4) (kbI (xs.take j)) ∧ BoxV w1 (w.heap.size + 5) (w.heap.size + 2) (w.heap.size + 3) (w.heap.size + 4)) := ⟨HI.out.nm.below hb1 HI.out.nm.lt, HI.out.rl.below hb1 HI.out.rl.lt, HI.out.nd.below hb1 HI.out.nd.lt, HI.out.box.below hb1 hv5⟩
        obtain ⟨v0, v1, v2⟩ := HIv1.out.2.2.2.cells
        obtain ⟨m0, m1, m2, m3, m4, m5, m6, m7, m8, m9, m10, m11, m12⟩ := HBA1.out.cells
        have n1 : w.heap.size + 5 ≠ wr.heap.size := by omega
        have hs5 : w.heap.size + 5 < w1.heap.size := by omega
        have hsW : wr.heap.size < w1.heap.size := by omega
        clear hK hc hrd hx hkk hinv hw1 hb1 hb1w hmem
        go_wp2_with fail
        rw [← HW1.out]
        refine (addCon_any (bI := w.heap.size + 4) HIv1.out.1 HIv1.out.2.1 (by omega) (HRd.out _ (Below.refl _ _)).c hhi (by omega) (by omega) HBkj.out.1 (by have := HLn.out; have := HAxj.out.nc; omega) (by have := HLn.out; have := HAxj.out.nc; omega)).mono ?_
        rintro e w2 ⟨rfl, hn2, hr2, hg2⟩
        have HN2 : Hid (WSet w2 (w.heap.size + 2) (namesC x.c (kbN (xs.take j)))) := by unfold Hid; rw [← naC HOkj.out.1]; exact hn2
        have HR2 : Hid (WSet w2 (w.heap.size + 3) (rolesC x.c (kbR (xs.take j)))) := by unfold Hid; rw [← rlC]; exact hr2
        have HI2 : Hid (WSet w2 (w.heap.size + 4) (kbI (xs.take j))) := HIv1.out.2.2.1.grs hg2 (fun e => by rcases e with e | e <;> omega)
        have HG2 : Hid (GrS (Three w.heap.size) w1 w2) := (hg2.mono (fun k e => by rcases e with e | e <;> simp [Three, e]))
        have HBA2 : Hid (BoxA 39 w2 wr.heap.size kk (.int .i64 ek) (.slice e1a e1n e1c) (.slice e2a e2n e2c) (.slice e3a e3n e3c) (.int .i64 fk) (.slice f1a f1n f1c) (.slice f2a f2n f2c) (.slice f3a f3n f3c) (.slice ra rn rc) (.slice sa sn sc) (.slice aa an ac) (.slice ba bn bc)) := HBA1.out.grs HG2.out (fun e => by rcases e with e | e | e <;> (have := HNe.out; omega))
        have HBV2 : Hid (BoxV w2 (w.heap.size + 5) (w.heap.size + 2) (w.heap.size + 3) (w.heap.size + 4)) := HIv1.out.2.2.2.grs HG2.out (fun e => by rcases e with e | e | e <;> omega)
        have HBl2 : Hid (Below w.heap.size w1 w2) := HG2.out.below (fun k e => by rcases e with e | e | e <;> omega) (by have := HNe.out; omega)
        clear v0 v1 v2 m0 m1 m2 m3 m4 m5 m6 m7 m8 m9 m10 m11 m12
        obtain ⟨v0, v1, v2⟩ := HBV2.out.cells
        obtain ⟨m0, m1, m2, m3, m4, m5, m6, m7, m8, m9, m10, m11, m12⟩ := HBA2.out.cells
        have hs2 : w1.heap.size ≤ w2.heap.size := HG2.out.size
        have hs52 : w.heap.size + 5 < w2.heap.size := by omega
        have hsW2 : wr.heap.size < w2.heap.size := by omega
        have HL2 : Hid ((namesC x.c (kbN (xs.take j))).length ≤ 300 ∧ (rolesC x.c (kbR (xs.take j))).length ≤ 300) := by
          have h1 := (HIv1.out.1.good.nm HAxj.out.c).2
          have h2 := (HIv1.out.2.1.good.rl HAxj.out.c).2
          rw [← namesC_parts] at h1
          rw [← rolesC_parts] at h2
          have := HLn.out; have := HAxj.out.nc
          unfold Hid; omega
        clear hn2 hr2 hg2
        go_wp2_with fail
        refine (addCon_any (bI := w.heap.size + 4) HN2.out HR2.out (by omega) (HRd.out _ HBl2.out).d hhi (by omega) (by omega) HBkj.out.2 (by have := HL2.out; have := HAxj.out.nd; omega) (by have := HL2.out; have := HAxj.out.nd; omega)).mono ?_
        rintro e w3 ⟨rfl, hn3, hr3, hg3⟩
        have HN3 : Hid (WSet w3 (w.heap.size + 2) (kbN (xs.take (j + 1)))) := by unfold Hid; rw [HN.out]; unfold stN; rw [← naC HOkj.out.2]; exact hn3
        have HR3 : Hid (WSet w3 (w.heap.size + 3) (rolesC x.d (rolesC x.c (kbR (xs.take j))))) := by unfold Hid; rw [← rlC]; exact hr3
        have HI3 : Hid (WSet w3 (w.heap.size + 4) (kbI (xs.take j))) := HI2.out.grs hg3 (fun e => by rcases e with e | e <;> omega)
        have HG3 : Hid (GrS (Three w.heap.size) w1 w3) := HG2.out.trans (hg3.mono (fun k e => by rcases e with e | e <;> simp [Three, e]))
        have HBA3 : Hid (BoxA 39 w3 wr.heap.size kk (.int .i64 ek) (.slice e1a e1n e1c) (.slice e2a e2n e2c) (.slice e3a e3n e3c) (.int .i64 fk) (.slice f1a f1n f1c) (.slice f2a f2n f2c) (.slice f3a f3n f3c) (.slice ra rn rc) (.slice sa sn sc) (.slice aa an ac) (.slice ba bn bc)) := HBA1.out.grs HG3.out (fun e => by rcases e with e | e | e <;> (have := HNe.out; omega))
        have HBV3 : Hid (BoxV w3 (w.heap.size + 5) (w.heap.size + 2) (w.heap.size + 3) (w.heap.size + 4)) := HIv1.out.2.2.2.grs HG3.out (fun e => by rcases e with e | e | e <;> omega)
        have HBl3 : Hid (Below w.heap.size w1 w3) := HG3.out.below (fun k e => by rcases e with e | e | e <;> omega) (by have := HNe.out; omega)
        clear v0 v1 v2 m0 m1 m2 m3 m4 m5 m6 m7 m8 m9 m10 m11 m12
        obtain ⟨v0, v1, v2⟩ := HBV3.out.cells
        obtain ⟨m0, m1, m2, m3, m4, m5, m6, m7, m8, m9, m10, m11, m12⟩ := HBA3.out.cells
        have hs3 : w1.heap.size ≤ w3.heap.size := HG3.out.size
        have hs53 : w.heap.size + 5 < w3.heap.size := by omega
        have hsW3 : wr.heap.size < w3.heap.size := by omega
        have HL3 : Hid ((rolesC x.d (rolesC x.c (kbR (xs.take j)))).length ≤ 400) := by
          have h2 := (rolesC_good HIv1.out.2.1.good HAxj.out).2.2.2
          have := HLn.out
          unfold Hid; omega
        clear hn3 hr3 hg3
        go_wp2_with fail
        refine (addText_any HR3.out (HRd.out _ HBl3.out).r (by have := HL3.out; omega)).mono ?_
        rintro e w4 ⟨rfl, hn4, hg4⟩
        have HN4 : Hid (WSet w4 (w.heap.size + 2) (kbN (xs.take (j + 1)))) := HN3.out.kept hg4 (by simp; try omega)
        have HR4 : Hid (WSet w4 (w.heap.size + 3) (addW (rolesC x.d (rolesC x.c (kbR (xs.take j)))) x.r)) := hn4
        have HI4 : Hid (WSet w4 (w.heap.size + 4) (kbI (xs.take j))) := HI3.out.kept hg4 (by simp; try omega)
        have HG4 : Hid (GrS (Three w.heap.size) w1 w4) := HG3.out.trans (GrS.of_grown hg4 (fun b e => by cases e; simp [Three]))
        have HBA4 : Hid (BoxA 39 w4 wr.heap.size kk (.int .i64 ek) (.slice e1a e1n e1c) (.slice e2a e2n e2c) (.slice e3a e3n e3c) (.int .i64 fk) (.slice f1a f1n f1c) (.slice f2a f2n f2c) (.slice f3a f3n f3c) (.slice ra rn rc) (.slice sa sn sc) (.slice aa an ac) (.slice ba bn bc)) := HBA1.out.grs HG4.out (fun e => by rcases e with e | e | e <;> (have := HNe.out; omega))
        have HBV4 : Hid (BoxV w4 (w.heap.size + 5) (w.heap.size + 2) (w.heap.size + 3) (w.heap.size + 4)) := HIv1.out.2.2.2.grs HG4.out (fun e => by rcases e with e | e | e <;> omega)
        have HBl4 : Hid (Below w.heap.size w1 w4) := HG4.out.below (fun k e => by rcases e with e | e | e <;> omega) (by have := HNe.out; omega)
        clear v0 v1 v2 m0 m1 m2 m3 m4 m5 m6 m7 m8 m9 m10 m11 m12
        obtain ⟨v0, v1, v2⟩ := HBV4.out.cells
        obtain ⟨m0, m1, m2, m3, m4, m5, m6, m7, m8, m9, m10, m11, m12⟩ := HBA4.out.cells
        have hs4 : w1.heap.size ≤ w4.heap.size := HG4.out.size
        have hs54 : w.heap.size + 5 < w4.heap.size := by omega
        have hsW4 : wr.heap.size < w4.heap.size := by omega
        clear hn4 hg4
        go_wp2_with fail
        refine (addText_any HR4.out (HRd.out _ HBl4.out).s (by have := HL3.out; have := addW_len HAxj.out.r HR3.out.good.srt HR3.out.good.byt; omega)).mono ?_
        rintro e w5 ⟨rfl, hn5, hg5⟩
        have HN5 : Hid (WSet w5 (w.heap.size + 2) (kbN (xs.take (j + 1)))) := HN4.out.kept hg5 (by simp; try omega)
        have HR5 : Hid (WSet w5 (w.heap.size + 3) (addW (addW (rolesC x.d (rolesC x.c (kbR (xs.take j)))) x.r) x.s)) := hn5
        have HI5 : Hid (WSet w5 (w.heap.size + 4) (kbI (xs.take j))) := HI4.out.kept hg5 (by simp; try omega)
        have HG5 : Hid (GrS (Three w.heap.size) w1 w5) := HG4.out.trans (GrS.of_grown hg5 (fun b e => by cases e; simp [Three]))
        have HBA5 : Hid (BoxA 39 w5 wr.heap.size kk (.int .i64 ek) (.slice e1a e1n e1c) (.slice e2a e2n e2c) (.slice e3a e3n e3c) (.int .i64 fk) (.slice f1a f1n f1c) (.slice f2a f2n f2c) (.slice f3a f3n f3c) (.slice ra rn rc) (.slice sa sn sc) (.slice aa an ac) (.slice ba bn bc)) := HBA1.out.grs HG5.out (fun e => by rcases e with e | e | e <;> (have := HNe.out; omega))
        have HBV5 : Hid (BoxV w5 (w.heap.size + 5) (w.heap.size + 2) (w.heap.size + 3) (w.heap.size + 4)) := HIv1.out.2.2.2.grs HG5.out (fun e => by rcases e with e | e | e <;> omega)
        have HBl5 : Hid (Below w.heap.size w1 w5) := HG5.out.below (fun k e => by rcases e with e | e | e <;> omega) (by have := HNe.out; omega)
        clear v0 v1 v2 m0 m1 m2 m3 m4 m5 m6 m7 m8 m9 m10 m11 m12
        obtain ⟨v0, v1, v2⟩ := HBV5.out.cells
        obtain ⟨m0, m1, m2, m3, m4, m5, m6, m7, m8, m9, m10, m11, m12⟩ := HBA5.out.cells
        have hs5 : w1.heap.size ≤ w5.heap.size := HG5.out.size
        have hs55 : w.heap.size + 5 < w5.heap.size := by omega
        have hsW5 : wr.heap.size < w5.heap.size := by omega
        clear hn5 hg5
        go_wp2_with fail
        refine (addText_any HI5.out (HRd.out _ HBl5.out).a (by have := HLn.out; omega)).mono ?_
        rintro e w6 ⟨rfl, hn6, hg6⟩
        have HN6 : Hid (WSet w6 (w.heap.size + 2) (kbN (xs.take (j + 1)))) := HN5.out.kept hg6 (by simp; try omega)
        have HI6 : Hid (WSet w6 (w.heap.size + 4) (addW (kbI (xs.take j)) x.a)) := hn6
        have HR6 : Hid (WSet w6 (w.heap.size + 3) (addW (addW (rolesC x.d (rolesC x.c (kbR (xs.take j)))) x.r) x.s)) := HR5.out.kept hg6 (by simp; try omega)
        have HG6 : Hid (GrS (Three w.heap.size) w1 w6) := HG5.out.trans (GrS.of_grown hg6 (fun b e => by cases e; simp [Three]))
        have HBA6 : Hid (BoxA 39 w6 wr.heap.size kk (.int .i64 ek) (.slice e1a e1n e1c) (.slice e2a e2n e2c) (.slice e3a e3n e3c) (.int .i64 fk) (.slice f1a f1n f1c) (.slice f2a f2n f2c) (.slice f3a f3n f3c) (.slice ra rn rc) (.slice sa sn sc) (.slice aa an ac) (.slice ba bn bc)) := HBA1.out.grs HG6.out (fun e => by rcases e with e | e | e <;> (have := HNe.out; omega))
        have HBV6 : Hid (BoxV w6 (w.heap.size + 5) (w.heap.size + 2) (w.heap.size + 3) (w.heap.size + 4)) := HIv1.out.2.2.2.grs HG6.out (fun e => by rcases e with e | e | e <;> omega)
        have HBl6 : Hid (Below w.heap.size w1 w6) := HG6.out.below (fun k e => by rcases e with e | e | e <;> omega) (by have := HNe.out; omega)
        clear v0 v1 v2 m0 m1 m2 m3 m4 m5 m6 m7 m8 m9 m10 m11 m12
        obtain ⟨v0, v1, v2⟩ := HBV6.out.cells
        obtain ⟨m0, m1, m2, m3, m4, m5, m6, m7, m8, m9, m10, m11, m12⟩ := HBA6.out.cells
        have hs6 : w1.heap.size ≤ w6.heap.size := HG6.out.size
        have hs56 : w.heap.size + 5 < w6.heap.size := by omega
        have hsW6 : wr.heap.size < w6.heap.size := by omega
        clear hn6 hg6
        go_wp2_with fail
        refine (addText_any HI6.out (HRd.out _ HBl6.out).b (by have := HLn.out; have := addW_len HAxj.out.a HI5.out.good.srt HI5.out.good.byt; omega)).mono ?_
        rintro e w7 ⟨rfl, hn7, hg7⟩
        have HN7 : Hid (WSet w7 (w.heap.size + 2) (kbN (xs.take (j + 1)))) := HN6.out.kept hg7 (by simp; try omega)
        have HI7 : Hid (WSet w7 (w.heap.size + 4) (addW (addW (kbI (xs.take j)) x.a) x.b)) := hn7
        have HR7 : Hid (WSet w7 (w.heap.size + 3) (addW (addW (rolesC x.d (rolesC x.c (kbR (xs.take j)))) x.r) x.s)) := HR6.out.kept hg7 (by simp; try omega)
        have HG7 : Hid (GrS (Three w.heap.size) w1 w7) := HG6.out.trans (GrS.of_grown hg7 (fun b e => by cases e; simp [Three]))
        have HBA7 : Hid (BoxA 39 w7 wr.heap.size kk (.int .i64 ek) (.slice e1a e1n e1c) (.slice e2a e2n e2c) (.slice e3a e3n e3c) (.int .i64 fk) (.slice f1a f1n f1c) (.slice f2a f2n f2c) (.slice f3a f3n f3c) (.slice ra rn rc) (.slice sa sn sc) (.slice aa an ac) (.slice ba bn bc)) := HBA1.out.grs HG7.out (fun e => by rcases e with e | e | e <;> (have := HNe.out; omega))
        have HBV7 : Hid (BoxV w7 (w.heap.size + 5) (w.heap.size + 2) (w.heap.size + 3) (w.heap.size + 4)) := HIv1.out.2.2.2.grs HG7.out (fun e => by rcases e with e | e | e <;> omega)
        have HBl7 : Hid (Below w.heap.size w1 w7) := HG7.out.below (fun k e => by rcases e with e | e | e <;> omega) (by have := HNe.out; omega)
        clear v0 v1 v2 m0 m1 m2 m3 m4 m5 m6 m7 m8 m9 m10 m11 m12
        obtain ⟨v0, v1, v2⟩ := HBV7.out.cells
        obtain ⟨m0, m1, m2, m3, m4, m5, m6, m7, m8, m9, m10, m11, m12⟩ := HBA7.out.cells
        have hs7 : w1.heap.size ≤ w7.heap.size := HG7.out.size
        have hs57 : w.heap.size + 5 < w7.heap.size := by omega
        have hsW7 : wr.heap.size < w7.heap.size := by omega
        clear hn7 hg7
        have HFin : Hid (InvK w (xs.take (j + 1)) (some ⟨b, off, none⟩) n cap w7) := ⟨HN7.out, by rw [HR.out]; exact HR7.out, by rw [HIn.out]; exact HI7.out, HBV7.out, (HG7.out.block _ (by have := HI.out.res.lt; omega) (fun e => by rcases e with e | e | e <;> omega)).trans ((HG1.out.block _ HI.out.res.lt (fun e => by rcases e with e | e | e <;> omega)).trans HI.out.res), boxed_grs (boxed_grs HI.out.kb HG1.out (fun e => by rcases e with e | e | e <;> omega)) HG7.out (fun e => by rcases e with e | e | e <;> omega), HI.out.bel.trans ((HG1.out.trans HG7.out).below (fun k e => by rcases e with e | e | e <;> omega) (by have := HNe.out; omega))⟩
        go_wp2_with fail
        go_roundw
        case rel => exact ⟨j + 1, by omega, by go_num, HFin.out⟩
        case measure => simp [intOf]; omega
    · have HE : Hid (xs.take j = xs) := List.take_of_length_le (by rw [HL.out]; omega)
      rw [HE.out] at HI
      obtain ⟨r0, r1, r2⟩ := HI.out.res.cells
      have f0 := HI.out.res.frz 0
      have f1 := HI.out.res.frz 1
      have f2 := HI.out.res.frz 2
      have hr1 := HI.out.res.lt
      have HV : Hid (BoxV (((wr.setCell ⟨w.heap.size + 1, 0, none⟩ (.map (some (w.heap.size + 2)))).setCell ⟨w.heap.size + 1, 1, none⟩ (.map (some (w.heap.size + 3)))).setCell ⟨w.heap.size + 1, 2, none⟩ (.map (some (w.heap.size + 4)))) (w.heap.size + 1) (w.heap.size + 2) (w.heap.size + 3) (w.heap.size + 4)) := HI.out.res.set _ _ _
      have HGs : Hid (GrS (fun k => k = w.heap.size + 1) wr (((wr.setCell ⟨w.heap.size + 1, 0, none⟩ (.map (some (w.heap.size + 2)))).setCell ⟨w.heap.size + 1, 1, none⟩ (.map (some (w.heap.size + 3)))).setCell ⟨w.heap.size + 1, 2, none⟩ (.map (some (w.heap.size + 4))))) :=
        ⟨rfl, rfl, rfl, by simp, fun k hk hn => (Below.heap_setCell _ _ _ _ hn).trans ((Below.heap_setCell _ _ _ _ hn).trans (Below.heap_setCell _ _ _ _ hn))⟩
      clear hinv hbel
      go_wp2_with fail
      obtain ⟨y0, y1, y2⟩ := HV.out.cells
      refine bodyPost_ret (v := .agg #[.map (some (w.heap.size + 2)), .map (some (w.heap.size + 3)), .map (some (w.heap.size + 4))]) (by simp [results, Tryz.results39, go_sem, y0, y1, y2]) rfl ?_
      exact ⟨rfl, HI.out.nm.grs HGs.out (by omega), HI.out.rl.grs HGs.out (by omega), HI.out.nd.grs HGs.out (by omega), HI.out.bel.trans (HGs.out.below (fun k e => by omega) HI.out.bel.size)⟩

end Go.Proofs.YtckhjoancfbkfaaGreat
