/- KbOk of the specification and of the program: a contract each, for all that is told in memory. -/
import Derived.Test.YtckhjoancfbkfaaGreatKbSpecM
import Derived.Test.YtckhjoancfbkfaaGreatKbImpl1
import Derived.Test.YtckhjoancfbkfaaGreatNG12
import Derived.Test.YtckhjoancfbkfaaGreatAxImpl4
namespace Go.Proofs.YtckhjoancfbkfaaGreat
open Go.RowKit Go.Shelf Go.Maps

theorem mem_getD {xs : List AX} {x : AX} (h : x ∈ xs) : ∃ i, i < xs.length ∧ xs.getD i AX.zero = x := by
  obtain ⟨i, hi, e⟩ := List.mem_iff_getElem.1 h
  exact ⟨i, hi, by rw [List.getD_eq_getElem?_getD, List.getElem?_eq_getElem hi]; exact e⟩

theorem RdK.axb {lo hi dp : Nat} {w : World} {a : Option Addr} {n cap : Nat} {xs : List AX} (h : RdK lo hi w dp a n cap xs) (hall : xs.all axOk = true) : ∀ x ∈ xs, AxB x := by
  intro x hx
  obtain ⟨i, hi, rfl⟩ := mem_getD hx
  rcases h.cells with h0 | ⟨b, off, _, _, _, hc⟩
  · have := h.len; omega
  · obtain ⟨c0, c1, c2, c3, d0, d1, d2, d3, ra, rn, rc, sa, sn, sc, aa, an, ac, ba, bn, bc, _, _, _, _, _, _, _, _, _, _, _, _, _, hr⟩ := hc i (by have := h.len; omega)
    obtain ⟨k1, k2⟩ := axOk_con (List.all_eq_true.1 hall _ hx)
    unfold conOk at k1 k2
    rw [Bool.and_eq_true] at k1 k2
    exact ⟨hr.c.byts 1, hr.d.byts 1, hr.r.byte, hr.s.byte, hr.a.byte, hr.b.byte, of_decide_eq_true k1.1, of_decide_eq_true k2.1⟩

theorem axs_take_succ {xs : List AX} {j : Nat} (h : (xs.take j).all axOk = true) (hj : j < xs.length) (hx : axOk (xs.getD j AX.zero) = true) : (xs.take (j + 1)).all axOk = true := by
  rw [take_succ_getD xs AX.zero j hj, List.all_append, h]
  simpa using hx
theorem all_false {xs : List AX} {j : Nat} (hj : j < xs.length) (hx : axOk (xs.getD j AX.zero) = false) : xs.all axOk = false := by
  cases e : xs.all axOk
  · rfl
  · rw [List.all_eq_true] at e
    have : xs.getD j AX.zero ∈ xs := by rw [List.getD_eq_getElem?_getD, List.getElem?_eq_getElem hj]; exact List.getElem_mem hj
    rw [e _ this] at hx; cases hx

theorem kbB_big {xs : List AX} (h : 8 < xs.length) : kbB xs = false := by unfold kbB; rw [decide_eq_false (by omega)]; rfl
theorem kbB_bad {xs : List AX} (h : xs.all axOk = false) : kbB xs = false := by unfold kbB; rw [h]; simp
theorem kbB_good {xs : List AX} (h : xs.length ≤ 8) (k : xs.all axOk = true) : kbB xs = (decide ((kbN xs).length ≤ 5) && (decide ((kbR xs).length ≤ 3) && decide ((kbI xs).length ≤ 3))) := by unfold kbB; rw [decide_eq_true h, k]; rfl

set_option maxRecDepth 100000 in
set_option maxHeartbeats 4000000 in
theorem specKbOk_any {a : Option Addr} {n cap : Nat} {xs : List AX} {dp : Nat} {w : World} {lo hi : Nat} (h : RdK lo hi w dp a n cap xs) (hhi : hi ≤ w.heap.size) (hlo : lo ≤ w.heap.size) :
    Calls Tryz.prog 8 #[.agg #[.slice a n cap]] w fun e w' => e = .returned (.bool (kbB xs)) ∧ Below w.heap.size w w' := by
  have HK : Hid (RdK lo hi w dp a n cap xs) := h
  have HL : Hid (xs.length = n) := h.len
  have hf := h.fits
  have hb0 : Below w.heap.size w (w.alloc (.cells #[.slice a n cap] 25)) := (Below.refl _ _).alloc (Nat.le_refl _) _
  have HB0 : Hid (Below w.heap.size w (w.alloc (.cells #[.slice a n cap] 25))) := hb0
  have HBx0 : Hid (Boxed (w.alloc (.cells #[.slice a n cap] 25)) w.heap.size 25 (.slice a n cap)) := Boxed.new w _ _
  clear h hb0
  by_cases h8 : 8 < n
  · have HE : Hid (kbB xs = false) := kbB_big (by rw [HL.out]; exact h8)
    have h8i : (8 : Int) < (n : Int) := by omega
    go_enter Tryz.func8, Tryz.ntmps8
    go_wp2_with fail
    go_ret
    exact ⟨rb HE.out.symm, HB0.out⟩
  · have h8i : ¬ ((8 : Int) < (n : Int)) := by omega
    have hn8 : n ≤ 8 := by omega
    go_enter Tryz.func8, Tryz.ntmps8
    go_wp2_with fail
    go_loopw [3] (fun i wr => ∃ (j : Nat), j ≤ n ∧ i = .int .i64 j ∧ (xs.take j).all axOk = true ∧ Below w.heap.size w wr ∧ Boxed wr w.heap.size 25 (.slice a n cap)) (fun i _ => n - (intOf i).toNat)
    case atStart => exact ⟨0, Nat.zero_le _, rfl, rfl, HB0.out, HBx0.out⟩
    case round =>
      obtain ⟨j, hj, rfl, hall, hbel, hbox⟩ := hrel
      have cB := hbox.cell
      have hltB := hbox.lt
      have HB2 : Hid (Below w.heap.size w wr) := hbel
      have HBox2 : Hid (Boxed wr w.heap.size 25 (.slice a n cap)) := hbox
      have HAll : Hid ((xs.take j).all axOk = true) := hall
      by_cases hlt : j < n
      · have hjl : j < xs.length := by rw [HL.out]; exact hlt
        have hK := HK.out.below hbel hhi
        rcases hK.cells with hz | ⟨b, off, e1, hblo, hbhi, hc⟩
        · omega
        · subst e1
          obtain ⟨c0, c1, c2, c3, d0, d1, d2, d3, ra, rn, rc, sa, sn, sc, aa, an, ac, ba, bn, bc, q0, q1, q2, q3, q4, q5, q6, q7, q8, q9, q10, q11, q12, hrd⟩ := hc j hlt
          have HRd : Hid (RdA lo hi wr dp c0 c1 c2 c3 d0 d1 d2 d3 ra rn rc sa sn sc aa an ac ba bn bc (xs.getD j AX.zero)) := hrd
          have HT : Hid (axOk (xs.getD j AX.zero) = true → (xs.take (j + 1)).all axOk = true) := fun e => axs_take_succ HAll.out hjl e
          have HF : Hid (axOk (xs.getD j AX.zero) = false → kbB xs = false) := fun e => kbB_bad (all_false hjl e)
          have hji : (j : Int) < (n : Int) := by omega
          have hhi2 : hi ≤ wr.heap.size := Nat.le_trans hhi hbel.size
          obtain ⟨x, hx⟩ : ∃ x, x = xs.getD j AX.zero := ⟨_, rfl⟩
          rw [← hx] at HRd HT HF q0
          obtain ⟨kk, hkk⟩ : ∃ kk, kk = x.kind := ⟨_, rfl⟩
          rw [← hkk] at q0
          have HKk : Hid (kk = x.kind) := hkk
          clear hK hc hrd hbel hbox hall hx hkk
          go_wp2_with fail
          refine (specAxiomOk_any HRd.out hhi2 kk HKk.out).mono ?_
          rintro e w2 ⟨rfl, hb2⟩
          have HB3 : Hid (Below w.heap.size w w2) := HB2.out.trans (hb2.mono HB2.out.size)
          have HBox3 : Hid (Boxed w2 w.heap.size 25 (.slice (some ⟨b, off, none⟩) n cap)) := (hb2.block _ hltB).trans HBox2.out
          clear hb2
          cases hok : axOk x
          · have HE : Hid (kbB xs = false) := HF.out hok
            go_wp2_with fail
            go_ret
            exact ⟨rb HE.out.symm, HB3.out⟩
          · have HA : Hid ((xs.take (j + 1)).all axOk = true) := HT.out hok
            go_wp2_with fail
            go_roundw
            case rel => exact ⟨j + 1, by omega, by go_num, HA.out, HB3.out, HBox3.out⟩
            case measure => simp [intOf]; omega
      · have hall' : xs.all axOk = true := by have := HAll.out; rwa [List.take_of_length_le (by rw [HL.out]; omega)] at this
        have HE : Hid (kbB xs = (decide ((kbN xs).length ≤ 5) && (decide ((kbR xs).length ≤ 3) && decide ((kbI xs).length ≤ 3)))) := kbB_good (by rw [HL.out]; exact hn8) hall'
        have HAx : Hid (∀ x ∈ xs, AxB x) := HK.out.axb hall'
        have HK1 : Hid (∀ V, Below w.heap.size w V → RdK lo hi V dp a n cap xs) := fun V hV => HK.out.below hV hhi
        have hlo2 : lo ≤ wr.heap.size := Nat.le_trans hlo hbel.size
        have hhi2 : hi ≤ wr.heap.size := Nat.le_trans hhi hbel.size
        clear hall' hall hbel hbox
        go_wp2_with fail
        refine (l3names_any (HK1.out _ HB2.out) hhi2 hlo2 HAx.out hn8).mono ?_
        rintro e w2 ⟨a2, n2, l2, rfl, hr2, hb2⟩
        have HB3 : Hid (Below w.heap.size w w2) := HB2.out.trans (hb2.mono HB2.out.size)
        have HBox3 : Hid (Boxed w2 w.heap.size 25 (.slice a n cap)) := (hb2.block _ hltB).trans HBox2.out
        have HN : Hid ((kbN xs).length = n2) := hr2.len
        have hs2 := hb2.size
        have cB2 := HBox3.out.cell
        clear hr2 hb2
        by_cases h5 : n2 ≤ 5
        · have h5i : (n2 : Int) ≤ 5 := by omega
          go_wp2_with fail
          refine (l3roles_any (HK1.out _ HB3.out) (by omega) (by omega) HAx.out hn8).mono ?_
          rintro e w3 ⟨a3, n3, l3, rfl, hr3, hb3⟩
          have HB4 : Hid (Below w.heap.size w w3) := HB3.out.trans (hb3.mono HB3.out.size)
          have HBox4 : Hid (Boxed w3 w.heap.size 25 (.slice a n cap)) := (hb3.block _ (by omega)).trans HBox3.out
          have HR : Hid ((kbR xs).length = n3) := hr3.len
          have hs3 := hb3.size
          have cB3 := HBox4.out.cell
          clear hr3 hb3
          by_cases h3 : n3 ≤ 3
          · have h3i : (n3 : Int) ≤ 3 := by omega
            go_wp2_with fail
            refine (l3inds_any (HK1.out _ HB4.out) (by omega) (by omega) HAx.out hn8).mono ?_
            rintro e w4 ⟨a4, n4, l4, rfl, hr4, hb4⟩
            have HB5 : Hid (Below w.heap.size w w4) := HB4.out.trans (hb4.mono HB4.out.size)
            have HI : Hid ((kbI xs).length = n4) := hr4.len
            clear hr4 hb4
            go_wp2_with fail
            go_ret
            refine ⟨rb ?_, HB5.out⟩
            rw [HE.out, HN.out, HR.out, HI.out, decide_eq_true h5, decide_eq_true h3]
            by_cases h4 : n4 ≤ 3
            · rw [decide_eq_true h4]; simp; omega
            · rw [decide_eq_false h4]; simp; omega
          · have h3i : ¬ ((n3 : Int) ≤ 3) := by omega
            go_wp2_with fail
            go_ret
            refine ⟨rb ?_, HB4.out⟩
            rw [HE.out, HN.out, HR.out, decide_eq_false h3]; simp
        · have h5i : ¬ ((n2 : Int) ≤ 5) := by omega
          go_wp2_with fail
          go_ret
          refine ⟨rb ?_, HB3.out⟩
          rw [HE.out, HN.out, decide_eq_false h5]; rfl

set_option maxRecDepth 100000 in
set_option maxHeartbeats 4000000 in
theorem implKbOk_any {a : Option Addr} {n cap : Nat} {xs : List AX} {dp : Nat} {w : World} {lo hi : Nat} (h : RdK lo hi w dp a n cap xs) (hhi : hi ≤ w.heap.size) (hbk : ∀ x ∈ xs, x.c.bulk ≤ 1048576 ∧ x.d.bulk ≤ 1048576) :
    Calls Tryz.prog 9 #[.agg #[.slice a n cap]] w fun e w' => e = .returned (.bool (kbB xs)) ∧ Below w.heap.size w w' := by
  have HK : Hid (RdK lo hi w dp a n cap xs) := h
  have HL : Hid (xs.length = n) := h.len
  have HBk : Hid (∀ x ∈ xs, x.c.bulk ≤ 1048576 ∧ x.d.bulk ≤ 1048576) := hbk
  have hf := h.fits
  have hb0 : Below w.heap.size w (w.alloc (.cells #[.slice a n cap] 25)) := (Below.refl _ _).alloc (Nat.le_refl _) _
  have HB0 : Hid (Below w.heap.size w (w.alloc (.cells #[.slice a n cap] 25))) := hb0
  have HBx0 : Hid (Boxed (w.alloc (.cells #[.slice a n cap] 25)) w.heap.size 25 (.slice a n cap)) := Boxed.new w _ _
  clear h hb0 hbk
  by_cases h8 : 8 < n
  · have HE : Hid (kbB xs = false) := kbB_big (by rw [HL.out]; exact h8)
    have h8i : (8 : Int) < (n : Int) := by omega
    go_enter Tryz.func9, Tryz.ntmps9
    go_wp2_with fail
    go_ret
    exact ⟨rb HE.out.symm, HB0.out⟩
  · have h8i : ¬ ((8 : Int) < (n : Int)) := by omega
    have hn8 : n ≤ 8 := by omega
    go_enter Tryz.func9, Tryz.ntmps9
    go_wp2_with fail
    go_loopw [13] (fun i wr => ∃ (j : Nat), j ≤ n ∧ i = .int .i64 j ∧ (xs.take j).all axOk = true ∧ Below w.heap.size w wr ∧ Boxed wr w.heap.size 25 (.slice a n cap)) (fun i _ => n - (intOf i).toNat)
    case atStart => exact ⟨0, Nat.zero_le _, rfl, rfl, HB0.out, HBx0.out⟩
    case round =>
      obtain ⟨j, hj, rfl, hall, hbel, hbox⟩ := hrel
      have cB := hbox.cell
      have hltB := hbox.lt
      have HB2 : Hid (Below w.heap.size w wr) := hbel
      have HBox2 : Hid (Boxed wr w.heap.size 25 (.slice a n cap)) := hbox
      have HAll : Hid ((xs.take j).all axOk = true) := hall
      by_cases hlt : j < n
      · have hjl : j < xs.length := by rw [HL.out]; exact hlt
        have hK := HK.out.below hbel hhi
        rcases hK.cells with hz | ⟨b, off, e1, hblo, hbhi, hc⟩
        · omega
        · subst e1
          obtain ⟨c0, c1, c2, c3, d0, d1, d2, d3, ra, rn, rc, sa, sn, sc, aa, an, ac, ba, bn, bc, q0, q1, q2, q3, q4, q5, q6, q7, q8, q9, q10, q11, q12, hrd⟩ := hc j hlt
          obtain ⟨ek, e1a, e1n, e1c, e2a, e2n, e2c, e3a, e3n, e3c, rfl, rfl, rfl, rfl⟩ := hrd.c.sh.form
          obtain ⟨fk, f1a, f1n, f1c, f2a, f2n, f2c, f3a, f3n, f3c, rfl, rfl, rfl, rfl⟩ := hrd.d.sh.form
          have hmem : xs.getD j AX.zero ∈ xs := by rw [List.getD_eq_getElem?_getD, List.getElem?_eq_getElem hjl]; exact List.getElem_mem hjl
          have HBkj : Hid ((xs.getD j AX.zero).c.bulk ≤ 1048576 ∧ (xs.getD j AX.zero).d.bulk ≤ 1048576) := HBk.out _ hmem
          have HT : Hid (axOk (xs.getD j AX.zero) = true → (xs.take (j + 1)).all axOk = true) := fun e => axs_take_succ HAll.out hjl e
          have HF : Hid (axOk (xs.getD j AX.zero) = false → kbB xs = false) := fun e => kbB_bad (all_false hjl e)
          have hji : (j : Int) < (n : Int) := by omega
          have hhi2 : hi ≤ wr.heap.size := Nat.le_trans hhi hbel.size
          obtain ⟨x, hx⟩ : ∃ x, x = xs.getD j AX.zero := ⟨_, rfl⟩
          rw [← hx] at HT HF q0 HBkj hrd
          obtain ⟨kk, hkk⟩ : ∃ kk, kk = x.kind := ⟨_, rfl⟩
          rw [← hkk] at q0
          have HKk : Hid (kk = x.kind) := hkk
          obtain ⟨w1, hw1⟩ : ∃ w1, w1 = wr.alloc (.cells #[.int .i64 kk, .int .i64 ek, .slice e1a e1n e1c, .slice e2a e2n e2c, .slice e3a e3n e3c, .int .i64 fk, .slice f1a f1n f1c, .slice f2a f2n f2c, .slice f3a f3n f3c, .slice ra rn rc, .slice sa sn sc, .slice aa an ac, .slice ba bn bc] 39) := ⟨_, rfl⟩
          have HW1 : Hid (w1 = wr.alloc (.cells #[.int .i64 kk, .int .i64 ek, .slice e1a e1n e1c, .slice e2a e2n e2c, .slice e3a e3n e3c, .int .i64 fk, .slice f1a f1n f1c, .slice f2a f2n f2c, .slice f3a f3n f3c, .slice ra rn rc, .slice sa sn sc, .slice aa an ac, .slice ba bn bc] 39)) := hw1
          have hb1 : Below wr.heap.size wr w1 := by rw [hw1]; exact (Below.refl _ _).alloc (Nat.le_refl _) _
          have HB1 : Hid (Below wr.heap.size wr w1) := hb1
          have HRd : Hid (RdA lo hi w1 dp (.int .i64 ek) (.slice e1a e1n e1c) (.slice e2a e2n e2c) (.slice e3a e3n e3c) (.int .i64 fk) (.slice f1a f1n f1c) (.slice f2a f2n f2c) (.slice f3a f3n f3c) ra rn rc sa sn sc aa an ac ba bn bc x) := hrd.below hb1 hhi2
          have hs1 := hb1.size
          clear hK hc hrd hbel hbox hall hx hkk hw1 hb1 hmem
          go_wp2_with fail
          rw [← HW1.out]
          refine (implAxiomOk_any HRd.out (by omega) HBkj.out.1 HBkj.out.2 kk HKk.out).mono ?_
          rintro e w2 ⟨rfl, hb2⟩
          have HB3 : Hid (Below w.heap.size w w2) := HB2.out.trans ((HB1.out.mono HB2.out.size).trans (hb2.mono (by have := HB2.out.size; omega)))
          have HBox3 : Hid (Boxed w2 w.heap.size 25 (.slice (some ⟨b, off, none⟩) n cap)) := (hb2.block _ (by omega)).trans ((HB1.out.block _ hltB).trans HBox2.out)
          clear hb2
          cases hok : axOk x
          · have HE : Hid (kbB xs = false) := HF.out hok
            go_wp2_with fail
            go_ret
            exact ⟨rb HE.out.symm, HB3.out⟩
          · have HA : Hid ((xs.take (j + 1)).all axOk = true) := HT.out hok
            go_wp2_with fail
            go_roundw
            case rel => exact ⟨j + 1, by omega, by go_num, HA.out, HB3.out, HBox3.out⟩
            case measure => simp [intOf]; omega
      · have hall' : xs.all axOk = true := by have := HAll.out; rwa [List.take_of_length_le (by rw [HL.out]; omega)] at this
        have HE : Hid (kbB xs = (decide ((kbN xs).length ≤ 5) && (decide ((kbR xs).length ≤ 3) && decide ((kbI xs).length ≤ 3)))) := kbB_good (by rw [HL.out]; exact hn8) hall'
        have HAx : Hid (∀ x ∈ xs, AxB x) := HK.out.axb hall'
        have HOk : Hid (∀ x ∈ xs, conOk x.c = true ∧ conOk x.d = true) := fun x hx => axOk_con (List.all_eq_true.1 hall' x hx)
        have HK1 : Hid (∀ V, Below w.heap.size w V → RdK lo hi V dp a n cap xs) := fun V hV => HK.out.below hV hhi
        have hhi2 : hi ≤ wr.heap.size := Nat.le_trans hhi hbel.size
        clear hall' hall hbel hbox
        go_wp2_with fail
        refine (vocabularyOf_any (HK1.out _ HB2.out) hhi2 HAx.out HOk.out HBk.out hn8).mono ?_
        rintro e w2 ⟨rfl, hn2, hr2, hi2, hb2⟩
        obtain ⟨w3, hw3⟩ : ∃ w3, w3 = w2.alloc (.cells #[.map (some (wr.heap.size + 2)), .map (some (wr.heap.size + 3)), .map (some (wr.heap.size + 4))] 69) := ⟨_, rfl⟩
        have HW3 : Hid (w3 = w2.alloc (.cells #[.map (some (wr.heap.size + 2)), .map (some (wr.heap.size + 3)), .map (some (wr.heap.size + 4))] 69)) := hw3
        have hb3 : Below w2.heap.size w2 w3 := by rw [hw3]; exact (Below.refl _ _).alloc (Nat.le_refl _) _
        have hbv : BoxV w3 w2.heap.size (wr.heap.size + 2) (wr.heap.size + 3) (wr.heap.size + 4) := by rw [hw3]; exact BoxV.new _ _ _ _
        obtain ⟨v0, v1, v2⟩ := hbv.cells
        obtain ⟨DN, oN, _, sN, _⟩ := hn2.below hb3 hn2.lt
        obtain ⟨DR, oR, _, sR, _⟩ := hr2.below hb3 hr2.lt
        obtain ⟨DI, oI, _, sI, _⟩ := hi2.below hb3 hi2.lt
        have eN := fun ty => oN.len Tryz.undSet ty
        have eR := fun ty => oR.len Tryz.undSet ty
        have eI := fun ty => oI.len Tryz.undSet ty
        rw [sN] at eN
        rw [sR] at eR
        rw [sI] at eI
        have HB3 : Hid (Below w.heap.size w w3) := HB2.out.trans ((hb2.mono HB2.out.size).trans (hb3.mono (by have := HB2.out.size; have := hb2.size; omega)))
        obtain ⟨ln, hln⟩ : ∃ ln, ln = (kbN xs).length := ⟨_, rfl⟩
        obtain ⟨lr, hlr⟩ : ∃ lr, lr = (kbR xs).length := ⟨_, rfl⟩
        obtain ⟨li, hli⟩ : ∃ li, li = (kbI xs).length := ⟨_, rfl⟩
        rw [← hln] at HE eN
        rw [← hlr] at HE eR
        rw [← hli] at HE eI
        have hltw := hbv.lt
        clear hn2 hr2 hi2 hb2 hb3 hbv oN oR oI sN sR sI hw3 hln hlr hli
        by_cases h5 : ln ≤ 5
        · have h5i : (ln : Int) ≤ 5 := by omega
          by_cases h3 : lr ≤ 3
          · have h3i : (lr : Int) ≤ 3 := by omega
            go_upto_region 10 with fail
            rw [← HW3.out]
            go_wp2_with fail
            go_ret
            refine ⟨rb ?_, HB3.out⟩
            rw [HE.out, decide_eq_true h5, decide_eq_true h3]
            by_cases h4 : li ≤ 3
            · rw [decide_eq_true h4]; simp; omega
            · rw [decide_eq_false h4]; simp; omega
          · have h3i : ¬ ((lr : Int) ≤ 3) := by omega
            go_upto_region 10 with fail
            rw [← HW3.out]
            go_wp2_with fail
            go_ret
            refine ⟨rb ?_, HB3.out⟩
            rw [HE.out, decide_eq_false h3]; simp
        · have h5i : ¬ ((ln : Int) ≤ 5) := by omega
          go_upto_region 10 with fail
          rw [← HW3.out]
          go_wp2_with fail
          go_ret
          refine ⟨rb ?_, HB3.out⟩
          rw [HE.out, decide_eq_false h5]; rfl

end Go.Proofs.YtckhjoancfbkfaaGreat
