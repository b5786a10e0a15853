/- Several texts in one: MdlS, MdlI. -/
import Derived.Test.YtfbokljbmihlbaaGreatNSatS
import Derived.Test.YtfbokljbmihlbaaGreatKbOkFn
import Derived.Deep.RegionHeld3
import Derived.Deep.DeepCutAuto
import Derived.Test.YtfbokljbmihlbaaGreatSatI4
namespace Go.Proofs.YtfbokljbmihlbaaGreat

section
open Go.RowKit Go.Deep
set_option linter.unusedVariables false

def modelB (x : WD) (L : Nat) (xs : List AX) : Bool := xs.all (fun y => satB x L y)
def isModelB (x : WD) (xs : List AX) : Bool := worldB x && (kbB xs && modelB x x.n.toNat xs)

theorem modelB_at {x : WD} {L : Nat} {xs : List AX} {j : Nat} (hj : j < xs.length) (h : satB x L (xs.getD j AX.zero) = false) : modelB x L xs = false := by
  unfold modelB
  rw [Bool.eq_false_iff]
  intro hall
  rw [List.all_eq_true] at hall
  have := hall (xs.getD j AX.zero) (by rw [List.getD_eq_getElem?_getD, List.getElem?_eq_getElem hj]; exact List.getElem_mem hj)
  rw [h] at this
  cases this

theorem modelB_all {x : WD} {L : Nat} {xs : List AX} (h : ∀ j, j < xs.length → satB x L (xs.getD j AX.zero) = true) : modelB x L xs = true := by
  unfold modelB
  rw [List.all_eq_true]
  intro y hy
  obtain ⟨i, hi, rfl⟩ := List.getElem_of_mem hy
  have := h i hi
  rwa [List.getD_eq_getElem?_getD, List.getElem?_eq_getElem hi] at this

theorem kb_ax {xs : List AX} (h : kbB xs = true) : ∀ j, j < xs.length → axOk (xs.getD j AX.zero) = true := by
  intro j hj
  have h1 : xs.all axOk = true := by
    unfold kbB at h
    simp only [Bool.and_eq_true] at h
    simp_all
  rw [List.all_eq_true] at h1
  exact h1 _ (by rw [List.getD_eq_getElem?_getD, List.getElem?_eq_getElem hj]; exact List.getElem_mem hj)

set_option maxRecDepth 100000 in
set_option maxHeartbeats 8000000 in
theorem l4model_any {na : Option Addr} {nn nc : Nat} {sa : Option Addr} {sn sc : Nat} {ra : Option Addr} {rn rc : Nat} {la : Option Addr} {ln lc : Nat} {ia : Option Addr} {im ic : Nat} {ta : Option Addr} {tn tc : Nat} {x : WD} {dp : Nat} {ka : Option Addr} {kn kc : Nat} {xs : List AX} {w : World} {lo hi lo' hi' : Nat} {L : Nat} (hok : worldB x = true) (hn : x.n = (L : Int)) (hL : L ≤ 128) (h : RdW lo hi w na nn nc sa sn sc ra rn rc la ln lc ia im ic ta tn tc x) (ha : RdK lo' hi' w dp ka kn kc xs) (hhi : hi ≤ w.heap.size) (hhi' : hi' ≤ w.heap.size) (hlo' : lo' ≤ w.heap.size) (hax : ∀ j, j < xs.length → axOk (xs.getD j AX.zero) = true) :
    Calls Tryz.prog 41 #[.agg #[.int .i64 L, .slice na nn nc, .slice sa sn sc, .slice ra rn rc, .slice la ln lc, .slice ia im ic, .slice ta tn tc], .agg #[.slice ka kn kc]] w fun r w' => r = .returned (.bool (modelB x L xs)) ∧ Below w.heap.size w w' := by
  obtain ⟨W0, hW0⟩ : ∃ W0, W0 = (w.alloc (.cells #[.int .i64 L, .slice na nn nc, .slice sa sn sc, .slice ra rn rc, .slice la ln lc, .slice ia im ic, .slice ta tn tc] 36)).alloc (.cells #[.slice ka kn kc] 54) := ⟨_, rfl⟩
  have HW0 : Hid (W0 = (w.alloc (.cells #[.int .i64 L, .slice na nn nc, .slice sa sn sc, .slice ra rn rc, .slice la ln lc, .slice ia im ic, .slice ta tn tc] 36)).alloc (.cells #[.slice ka kn kc] 54)) := hW0
  have hs0 : W0.heap.size = w.heap.size + 2 := by rw [hW0]; simp
  have hb0 : Below w.heap.size w W0 := by rw [hW0]; exact ((Below.refl _ _).alloc (Nat.le_refl _) _).alloc (by simp) _
  have HB0 : Hid (Below w.heap.size w W0) := hb0
  have hbw : BoxW 36 W0 w.heap.size (L : Int) (.slice na nn nc) (.slice sa sn sc) (.slice ra rn rc) (.slice la ln lc) (.slice ia im ic) (.slice ta tn tc) := by rw [hW0]; exact (BoxW.new _ w _ _ _ _ _ _ _).below ((Below.refl _ _).alloc (Nat.le_refl _) _) (by simp)
  have hbk : W0.cell? ⟨w.heap.size + 1, 0, none⟩ = some (.slice ka kn kc) := by
    rw [hW0]
    have := (Boxed.new (w.alloc (.cells #[.int .i64 L, .slice na nn nc, .slice sa sn sc, .slice ra rn rc, .slice la ln lc, .slice ia im ic, .slice ta tn tc] 36)) 54 (.slice ka kn kc)).cell
    rwa [World.size_alloc] at this
  have HSat : Hid (∀ V, Below W0.heap.size W0 V → (V.cell? ⟨w.heap.size, 0, none⟩ = some (.int .i64 L) ∧ V.cell? ⟨w.heap.size, 1, none⟩ = some (.slice na nn nc) ∧ V.cell? ⟨w.heap.size, 2, none⟩ = some (.slice sa sn sc) ∧ V.cell? ⟨w.heap.size, 3, none⟩ = some (.slice ra rn rc) ∧ V.cell? ⟨w.heap.size, 4, none⟩ = some (.slice la ln lc) ∧ V.cell? ⟨w.heap.size, 5, none⟩ = some (.slice ia im ic) ∧ V.cell? ⟨w.heap.size, 6, none⟩ = some (.slice ta tn tc)) ∧ V.cell? ⟨w.heap.size + 1, 0, none⟩ = some (.slice ka kn kc)) := fun V hV => ⟨(hbw.below hV (by omega)).cells, (hV.cell (p := ⟨w.heap.size + 1, 0, none⟩) (show w.heap.size + 1 < W0.heap.size by omega)).trans hbk⟩
  have HWd : Hid (∀ V, Below W0.heap.size W0 V → RdW lo hi V na nn nc sa sn sc ra rn rc la ln lc ia im ic ta tn tc x ∧ hi ≤ V.heap.size) := fun V hV => ⟨(h.below hb0 hhi).below hV (by omega), by have := hV.size; omega⟩
  have HKb : Hid (∀ V, Below W0.heap.size W0 V → RdK lo' hi' V dp ka kn kc xs ∧ hi' ≤ V.heap.size ∧ lo' ≤ V.heap.size) := fun V hV => ⟨(ha.below hb0 hhi').below hV (by omega), by have := hV.size; omega, by have := hV.size; omega⟩
  have HFin : Hid (∀ {V : World}, Below W0.heap.size W0 V → Below w.heap.size w V) := fun {V} hV => HB0.out.trans (hV.mono HB0.out.size)
  have HLn : Hid (xs.length = kn) := ha.len
  have hfit := ha.fits
  have HCa : Hid (∀ V, Below W0.heap.size W0 V → ∀ {c0 c1 c2 c3 d0 d1 d2 d3 : Value} {ea : Option Addr} {en ec : Nat} {fa : Option Addr} {fn fc : Nat} {aa : Option Addr} {an ac : Nat} {ba : Option Addr} {bn bc : Nat} {y : AX} (k : Int), RdA lo' hi' V dp c0 c1 c2 c3 d0 d1 d2 d3 ea en ec fa fn fc aa an ac ba bn bc y → axOk y = true → k = y.kind → Calls Tryz.prog 25 #[.agg #[.int .i64 L, .slice na nn nc, .slice sa sn sc, .slice ra rn rc, .slice la ln lc, .slice ia im ic, .slice ta tn tc], .agg #[.int .i64 k, c0, c1, c2, c3, d0, d1, d2, d3, .slice ea en ec, .slice fa fn fc, .slice aa an ac, .slice ba bn bc]] V fun r w' => r = .returned (.bool (satB x L y)) ∧ Below V.heap.size V w') := fun V hV _ _ _ _ _ _ _ _ _ _ _ _ _ _ _ _ _ _ _ _ _ k hr ho hk => l4satisfies_any hok hn hL (HWd.out V hV).1 hr (HWd.out V hV).2 (HKb.out V hV).2.1 ho k hk
  have HAx : Hid (∀ j, j < xs.length → axOk (xs.getD j AX.zero) = true) := hax
  clear h ha hhi hhi' hlo' hb0 hbw hbk hW0 hs0 hok hn hax
  go_enter Tryz.func41, Tryz.ntmps41
  go_upto_region 1 with fail
  rw [← HW0.out]
  go_wp2_with fail
  go_loopw [5] (fun i wr => ∃ j : Nat, j ≤ kn ∧ i = .int .i64 j ∧ (∀ q, q < j → satB x L (xs.getD q AX.zero) = true) ∧ Below W0.heap.size W0 wr) (fun i _ => kn - (intOf i).toNat)
  case atStart => exact ⟨0, Nat.zero_le _, rfl, fun q hq => by omega, Below.refl _ _⟩
  case round =>
    obtain ⟨j, hj, rfl, hall, hbel⟩ := hrel
    have HAll : Hid (∀ q, q < j → satB x L (xs.getD q AX.zero) = true) := hall
    have HBr : Hid (Below W0.heap.size W0 wr) := hbel
    have HBd : Hid (Below W0.heap.size W0 wr.drew) := hbel.drew
    obtain ⟨⟨a0, a1, a2, a3, a4, a5, a6⟩, b0⟩ := HSat.out wr hbel
    clear hall hbel
    by_cases hlt : j < kn
    · have hji : (j : Int) < (kn : Int) := by omega
      have hjl : j < xs.length := by rw [HLn.out]; exact hlt
      obtain ⟨y, hy⟩ : ∃ y, y = xs.getD j AX.zero := ⟨_, rfl⟩
      have hyo : axOk y = true := by rw [hy]; exact HAx.out j hjl
      rcases (HKb.out wr HBr.out).1.cells with hz | ⟨kb, off, e1, _, hbh, hc⟩
      · omega
      · subst e1
        have hcj := hc j hlt
        rw [← hy] at hcj
        obtain ⟨c0, c1, c2, c3, d0, d1, d2, d3, ea, en, ec, fa, fn, fc, aa, an, ac, ba, bn, bc, q0, q1, q2, q3, q4, q5, q6, q7, q8, q9, q10, q11, q12, hrd⟩ := hcj
        obtain ⟨xk, xna, xnn, xnc, xra, xrn, xrc, xka, xkn, xkc, rfl, rfl, rfl, rfl⟩ := hrd.c.sh.form
        obtain ⟨yk, yna, ynn, ync, yra, yrn, yrc, yka, ykn, ykc, rfl, rfl, rfl, rfl⟩ := hrd.d.sh.form
        obtain ⟨kk, hkk⟩ : ∃ kk, kk = y.kind := ⟨_, rfl⟩
        rw [← hkk] at q0
        have hblt : kb < wr.heap.size := by have := (HKb.out wr HBr.out).2.1; omega
        have HS3 : Hid (∀ V, Below wr.heap.size wr V → (V.cell? ⟨w.heap.size, 0, none⟩ = some (.int .i64 L) ∧ V.cell? ⟨w.heap.size, 1, none⟩ = some (.slice na nn nc) ∧ V.cell? ⟨w.heap.size, 2, none⟩ = some (.slice sa sn sc) ∧ V.cell? ⟨w.heap.size, 3, none⟩ = some (.slice ra rn rc) ∧ V.cell? ⟨w.heap.size, 4, none⟩ = some (.slice la ln lc) ∧ V.cell? ⟨w.heap.size, 5, none⟩ = some (.slice ia im ic) ∧ V.cell? ⟨w.heap.size, 6, none⟩ = some (.slice ta tn tc)) ∧ V.cell? ⟨w.heap.size + 1, 0, none⟩ = some (.slice (some ⟨kb, off, none⟩) kn kc) ∧ (V.cell? ⟨kb, off + j * 13, none⟩ = some (.int .i64 kk) ∧ V.cell? ⟨kb, off + j * 13 + 1, none⟩ = some (.int .i64 xk) ∧ V.cell? ⟨kb, off + j * 13 + 2, none⟩ = some (.slice xna xnn xnc) ∧ V.cell? ⟨kb, off + j * 13 + 3, none⟩ = some (.slice xra xrn xrc) ∧ V.cell? ⟨kb, off + j * 13 + 4, none⟩ = some (.slice xka xkn xkc) ∧ V.cell? ⟨kb, off + j * 13 + 5, none⟩ = some (.int .i64 yk) ∧ V.cell? ⟨kb, off + j * 13 + 6, none⟩ = some (.slice yna ynn ync) ∧ V.cell? ⟨kb, off + j * 13 + 7, none⟩ = some (.slice yra yrn yrc) ∧ V.cell? ⟨kb, off + j * 13 + 8, none⟩ = some (.slice yka ykn ykc) ∧ V.cell? ⟨kb, off + j * 13 + 9, none⟩ = some (.slice ea en ec) ∧ V.cell? ⟨kb, off + j * 13 + 10, none⟩ = some (.slice fa fn fc) ∧ V.cell? ⟨kb, off + j * 13 + 11, none⟩ = some (.slice aa an ac) ∧ V.cell? ⟨kb, off + j * 13 + 12, none⟩ = some (.slice ba bn bc))) := fun V hV => ⟨(HSat.out V (HBr.out.trans (hV.mono HBr.out.size))).1, (HSat.out V (HBr.out.trans (hV.mono HBr.out.size))).2, (hV.cell (p := ⟨kb, off + j * 13, none⟩) hblt).trans q0, (hV.cell (p := ⟨kb, off + j * 13 + 1, none⟩) hblt).trans q1, (hV.cell (p := ⟨kb, off + j * 13 + 2, none⟩) hblt).trans q2, (hV.cell (p := ⟨kb, off + j * 13 + 3, none⟩) hblt).trans q3, (hV.cell (p := ⟨kb, off + j * 13 + 4, none⟩) hblt).trans q4, (hV.cell (p := ⟨kb, off + j * 13 + 5, none⟩) hblt).trans q5, (hV.cell (p := ⟨kb, off + j * 13 + 6, none⟩) hblt).trans q6, (hV.cell (p := ⟨kb, off + j * 13 + 7, none⟩) hblt).trans q7, (hV.cell (p := ⟨kb, off + j * 13 + 8, none⟩) hblt).trans q8, (hV.cell (p := ⟨kb, off + j * 13 + 9, none⟩) hblt).trans q9, (hV.cell (p := ⟨kb, off + j * 13 + 10, none⟩) hblt).trans q10, (hV.cell (p := ⟨kb, off + j * 13 + 11, none⟩) hblt).trans q11, (hV.cell (p := ⟨kb, off + j * 13 + 12, none⟩) hblt).trans q12⟩
        have HY : Hid (kk = y.kind) := hkk
        have HRd : Hid (RdA lo' hi' wr.drew dp (.int .i64 xk) (.slice xna xnn xnc) (.slice xra xrn xrc) (.slice xka xkn xkc) (.int .i64 yk) (.slice yna ynn ync) (.slice yra yrn yrc) (.slice yka ykn ykc) ea en ec fa fn fc aa an ac ba bn bc y) := hrd.below (Below.refl _ _).drew (HKb.out wr HBr.out).2.1
        have HNext : Hid (satB x L y = true → ∀ q, q < j + 1 → satB x L (xs.getD q AX.zero) = true) := fun hr q hq => by
          by_cases e' : q = j
          · subst e'; rw [← hy]; exact hr
          · exact HAll.out q (by omega)
        have HNo : Hid (satB x L y = false → modelB x L xs = false) := fun hr => modelB_at hjl (by rw [← hy]; exact hr)
        have HYo : Hid (axOk y = true) := hyo
        have Hd : Hid (Below wr.heap.size wr wr.drew) := (Below.refl _ _).drew
        obtain ⟨rr, hrr⟩ : ∃ rr, rr = satB x L y := ⟨_, rfl⟩
        have HRr : Hid (rr = satB x L y) := hrr
        clear hc hrd hkk hyo hrr q0 q1 q2 q3 q4 q5 q6 q7 q8 q9 q10 q11 q12 hy
        go_upto_region 4 with fail
        clear a0 a1 a2 a3 a4 a5 a6 b0
        first | go_region_held3 (fun V => (V.cell? ⟨w.heap.size, 0, none⟩ = some (.int .i64 L) ∧ V.cell? ⟨w.heap.size, 1, none⟩ = some (.slice na nn nc) ∧ V.cell? ⟨w.heap.size, 2, none⟩ = some (.slice sa sn sc) ∧ V.cell? ⟨w.heap.size, 3, none⟩ = some (.slice ra rn rc) ∧ V.cell? ⟨w.heap.size, 4, none⟩ = some (.slice la ln lc) ∧ V.cell? ⟨w.heap.size, 5, none⟩ = some (.slice ia im ic) ∧ V.cell? ⟨w.heap.size, 6, none⟩ = some (.slice ta tn tc)) ∧ V.cell? ⟨w.heap.size + 1, 0, none⟩ = some (.slice (some ⟨kb, off, none⟩) kn kc) ∧ (V.cell? ⟨kb, off + j * 13, none⟩ = some (.int .i64 kk) ∧ V.cell? ⟨kb, off + j * 13 + 1, none⟩ = some (.int .i64 xk) ∧ V.cell? ⟨kb, off + j * 13 + 2, none⟩ = some (.slice xna xnn xnc) ∧ V.cell? ⟨kb, off + j * 13 + 3, none⟩ = some (.slice xra xrn xrc) ∧ V.cell? ⟨kb, off + j * 13 + 4, none⟩ = some (.slice xka xkn xkc) ∧ V.cell? ⟨kb, off + j * 13 + 5, none⟩ = some (.int .i64 yk) ∧ V.cell? ⟨kb, off + j * 13 + 6, none⟩ = some (.slice yna ynn ync) ∧ V.cell? ⟨kb, off + j * 13 + 7, none⟩ = some (.slice yra yrn yrc) ∧ V.cell? ⟨kb, off + j * 13 + 8, none⟩ = some (.slice yka ykn ykc) ∧ V.cell? ⟨kb, off + j * 13 + 9, none⟩ = some (.slice ea en ec) ∧ V.cell? ⟨kb, off + j * 13 + 10, none⟩ = some (.slice fa fn fc) ∧ V.cell? ⟨kb, off + j * 13 + 11, none⟩ = some (.slice aa an ac) ∧ V.cell? ⟨kb, off + j * 13 + 12, none⟩ = some (.slice ba bn bc))) (first | with_reducible exact HS3.out _ H2w.out | with_reducible exact HS3.out _ Hd.out) (first | (go_at_call 25; refine (HCa.out wr.drew HBd.out kk HRd.out HYo.out HY.out).mono ?_; rintro r w2 ⟨rfl, hbq⟩; rw [← HRr.out]; have H2w : Hid (Below wr.heap.size wr w2) := Hd.out.trans hbq; have H2 : Hid (Below W0.heap.size W0 w2) := HBd.out.trans (hbq.mono HBd.out.size); clear hbq)) | fail
        all_goals
          cases rr with
          | true =>
            have HN := HNext.out HRr.out.symm
            go_wp2_with fail
            go_roundw
            case rel => exact ⟨j + 1, by omega, by go_num, HN, H2.out⟩
            case measure => simp [intOf]; omega
          | false =>
            have HN : Hid (modelB x L xs = false) := HNo.out HRr.out.symm
            go_wp2_with fail
            go_ret
            exact ⟨rb' HN.out.symm, HFin.out H2.out⟩
    · have hji : ¬ ((j : Int) < (kn : Int)) := by omega
      have HN : Hid (modelB x L xs = true) := modelB_all (fun q hq => HAll.out q (by rw [HLn.out] at hq; omega))
      go_wp2_with fail
      go_ret
      exact ⟨rb' HN.out.symm, HFin.out HBr.out⟩

set_option maxRecDepth 100000 in
set_option maxHeartbeats 8000000 in
theorem specIsModel_any {na : Option Addr} {nn nc : Nat} {sa : Option Addr} {sn sc : Nat} {ra : Option Addr} {rn rc : Nat} {la : Option Addr} {ln lc : Nat} {ia : Option Addr} {im ic : Nat} {ta : Option Addr} {tn tc : Nat} {x : WD} {dp : Nat} {ka : Option Addr} {kn kc : Nat} {xs : List AX} {w : World} {lo hi lo' hi' : Nat} {nx : Int} (h : RdW lo hi w na nn nc sa sn sc ra rn rc la ln lc ia im ic ta tn tc x) (ha : RdK lo' hi' w dp ka kn kc xs) (hn : x.n = nx) (hhi : hi ≤ w.heap.size) (hhi' : hi' ≤ w.heap.size) (hlo' : lo' ≤ w.heap.size) :
    Calls Tryz.prog 14 #[.agg #[.int .i64 nx, .slice na nn nc, .slice sa sn sc, .slice ra rn rc, .slice la ln lc, .slice ia im ic, .slice ta tn tc], .agg #[.slice ka kn kc]] w fun r w' => r = .returned (.bool (isModelB x xs)) ∧ Below w.heap.size w w' := by
  obtain ⟨W0, hW0⟩ : ∃ W0, W0 = (w.alloc (.cells #[.int .i64 nx, .slice na nn nc, .slice sa sn sc, .slice ra rn rc, .slice la ln lc, .slice ia im ic, .slice ta tn tc] 36)).alloc (.cells #[.slice ka kn kc] 54) := ⟨_, rfl⟩
  have HW0 : Hid (W0 = (w.alloc (.cells #[.int .i64 nx, .slice na nn nc, .slice sa sn sc, .slice ra rn rc, .slice la ln lc, .slice ia im ic, .slice ta tn tc] 36)).alloc (.cells #[.slice ka kn kc] 54)) := hW0
  have hs0 : W0.heap.size = w.heap.size + 2 := by rw [hW0]; simp
  have hb0 : Below w.heap.size w W0 := by rw [hW0]; exact ((Below.refl _ _).alloc (Nat.le_refl _) _).alloc (by simp) _
  have HB0 : Hid (Below w.heap.size w W0) := hb0
  have hbw : BoxW 36 W0 w.heap.size nx (.slice na nn nc) (.slice sa sn sc) (.slice ra rn rc) (.slice la ln lc) (.slice ia im ic) (.slice ta tn tc) := by rw [hW0]; exact (BoxW.new _ w _ _ _ _ _ _ _).below ((Below.refl _ _).alloc (Nat.le_refl _) _) (by simp)
  have hbk : W0.cell? ⟨w.heap.size + 1, 0, none⟩ = some (.slice ka kn kc) := by
    rw [hW0]
    have := (Boxed.new (w.alloc (.cells #[.int .i64 nx, .slice na nn nc, .slice sa sn sc, .slice ra rn rc, .slice la ln lc, .slice ia im ic, .slice ta tn tc] 36)) 54 (.slice ka kn kc)).cell
    rwa [World.size_alloc] at this
  have HSat : Hid (∀ V, Below W0.heap.size W0 V → (V.cell? ⟨w.heap.size, 0, none⟩ = some (.int .i64 nx) ∧ V.cell? ⟨w.heap.size, 1, none⟩ = some (.slice na nn nc) ∧ V.cell? ⟨w.heap.size, 2, none⟩ = some (.slice sa sn sc) ∧ V.cell? ⟨w.heap.size, 3, none⟩ = some (.slice ra rn rc) ∧ V.cell? ⟨w.heap.size, 4, none⟩ = some (.slice la ln lc) ∧ V.cell? ⟨w.heap.size, 5, none⟩ = some (.slice ia im ic) ∧ V.cell? ⟨w.heap.size, 6, none⟩ = some (.slice ta tn tc)) ∧ V.cell? ⟨w.heap.size + 1, 0, none⟩ = some (.slice ka kn kc)) := fun V hV => ⟨(hbw.below hV (by omega)).cells, (hV.cell (p := ⟨w.heap.size + 1, 0, none⟩) (show w.heap.size + 1 < W0.heap.size by omega)).trans hbk⟩
  have HWd : Hid (∀ V, Below W0.heap.size W0 V → RdW lo hi V na nn nc sa sn sc ra rn rc la ln lc ia im ic ta tn tc x ∧ hi ≤ V.heap.size) := fun V hV => ⟨(h.below hb0 hhi).below hV (by omega), by have := hV.size; omega⟩
  have HKb : Hid (∀ V, Below W0.heap.size W0 V → RdK lo' hi' V dp ka kn kc xs ∧ hi' ≤ V.heap.size ∧ lo' ≤ V.heap.size) := fun V hV => ⟨(ha.below hb0 hhi').below hV (by omega), by have := hV.size; omega, by have := hV.size; omega⟩
  have HFin : Hid (∀ {V : World}, Below W0.heap.size W0 V → Below w.heap.size w V) := fun {V} hV => HB0.out.trans (hV.mono HB0.out.size)
  have HN : Hid (x.n = nx) := hn
  have hs0' : w.heap.size + 2 ≤ W0.heap.size := by omega
  clear h ha hhi hhi' hlo' hb0 hbw hbk hW0 hn hs0
  go_enter Tryz.func14, Tryz.ntmps14
  go_upto_region 1 with fail
  rw [← HW0.out]
  obtain ⟨⟨a0, a1, a2, a3, a4, a5, a6⟩, b0⟩ := HSat.out W0 (Below.refl _ _)
  go_wp2_with fail
  refine (specWorldOk_any (HWd.out W0 (Below.refl _ _)).1 HN.out (HWd.out W0 (Below.refl _ _)).2).mono ?_
  rintro r w1 ⟨rfl, hb1⟩
  have H1 : Hid (Below W0.heap.size W0 w1) := hb1
  clear hb1 a0 a1 a2 a3 a4 a5 a6 b0
  obtain ⟨⟨a0, a1, a2, a3, a4, a5, a6⟩, b0⟩ := HSat.out w1 H1.out
  cases hwo : worldB x with
  | false =>
    have HE : Hid (isModelB x xs = false) := by unfold Hid isModelB; rw [hwo]; rfl
    clear hwo
    go_wp2_with fail
    go_ret
    exact ⟨rb' HE.out.symm, HFin.out H1.out⟩
  | true =>
    have HWo : Hid (worldB x = true) := hwo
    clear hwo
    go_wp2_with fail
    refine (specKbOk_any (HKb.out w1 H1.out).1 (HKb.out w1 H1.out).2.1 (HKb.out w1 H1.out).2.2).mono ?_
    rintro r w2 ⟨rfl, hb2⟩
    have H2 : Hid (Below W0.heap.size W0 w2) := H1.out.trans (hb2.mono H1.out.size)
    clear hb2 a0 a1 a2 a3 a4 a5 a6 b0
    obtain ⟨⟨a0, a1, a2, a3, a4, a5, a6⟩, b0⟩ := HSat.out w2 H2.out
    cases hao : kbB xs with
    | false =>
      have HE : Hid (isModelB x xs = false) := by unfold Hid isModelB; rw [HWo.out, hao]; rfl
      clear hao
      go_wp2_with fail
      go_ret
      exact ⟨rb' HE.out.symm, HFin.out H2.out⟩
    | true =>
      have HAo : Hid (kbB xs = true) := hao
      clear hao
      obtain ⟨L, hL⟩ : ∃ L, L = x.n.toNat := ⟨_, rfl⟩
      have hwf := ((worldB_iff x).1 HWo.out).1.1
      have hLn : x.n = (L : Int) := by omega
      have hL128 : L ≤ 128 := by omega
      have hnL : nx = (L : Int) := by rw [← HN.out]; exact hLn
      subst hnL
      have HE : Hid (isModelB x xs = modelB x L xs) := by unfold Hid isModelB; rw [HWo.out, HAo.out, hL]; rfl
      clear hwf hL hLn
      obtain ⟨rr, hrr⟩ : ∃ rr, rr = modelB x L xs := ⟨_, rfl⟩
      have HRr : Hid (rr = modelB x L xs) := hrr
      clear hrr
      go_wp2_with fail
      refine (l4model_any HWo.out HN.out hL128 (HWd.out w2 H2.out).1 (HKb.out w2 H2.out).1 (HWd.out w2 H2.out).2 (HKb.out w2 H2.out).2.1 (HKb.out w2 H2.out).2.2 (kb_ax HAo.out)).mono ?_
      rintro r w3 ⟨rfl, hb3⟩
      rw [← HRr.out]
      have H3 : Hid (Below W0.heap.size W0 w3) := H2.out.trans (hb3.mono H2.out.size)
      clear hb3
      go_wp2_with fail
      go_ret
      exact ⟨rb' (HRr.out.trans HE.out.symm), HFin.out H3.out⟩
end

section
open Go.RowKit Go.Deep
set_option linter.unusedVariables false

set_option maxRecDepth 100000 in
set_option maxHeartbeats 8000000 in
theorem isModel1_any {na : Option Addr} {nn nc : Nat} {sa : Option Addr} {sn sc : Nat} {ra : Option Addr} {rn rc : Nat} {la : Option Addr} {ln lc : Nat} {ia : Option Addr} {im ic : Nat} {ta : Option Addr} {tn tc : Nat} {x : WD} {dp : Nat} {c0 c1 c2 c3 d0 d1 d2 d3 : Value} {ea : Option Addr} {en ec : Nat} {fa : Option Addr} {fn fc : Nat} {aa : Option Addr} {an ac : Nat} {ba : Option Addr} {bn bc : Nat} {y : AX} {w : World} {lo hi lo' hi' sb : Nat} {L : Nat} (hok : worldB x = true) (hn : x.n = (L : Int)) (hL : 1 ≤ L ∧ L ≤ 128) (h : RdW lo hi w na nn nc sa sn sc ra rn rc la ln lc ia im ic ta tn tc x) (ha : RdA lo' hi' w dp c0 c1 c2 c3 d0 d1 d2 d3 ea en ec fa fn fc aa an ac ba bn bc y) (hhi : hi ≤ w.heap.size) (hhi' : hi' ≤ w.heap.size) (hax : axOk y = true) (k : Int) (hk : k = y.kind) (hs : BoxS w sb (.int .i64 L) (.slice ia im ic) (.slice ta tn tc) (.int .i64 L) (.slice na nn nc) (.slice sa sn sc) (.slice ra rn rc) (.slice la ln lc) (.slice ia im ic) (.slice ta tn tc)) :
    Calls Tryz.prog 45 #[.agg #[.int .i64 k, c0, c1, c2, c3, d0, d1, d2, d3, .slice ea en ec, .slice fa fn fc, .slice aa an ac, .slice ba bn bc], .pointer (some ⟨sb, 0, none⟩)] w fun r w' => r = .returned (.bool (!(satB x L y))) ∧ Below w.heap.size w w' := by
  obtain ⟨xk, xna, xnn, xnc, xra, xrn, xrc, xka, xkn, xkc, rfl, rfl, rfl, rfl⟩ := ha.c.sh.form
  obtain ⟨yk, yna, ynn, ync, yra, yrn, yrc, yka, ykn, ykc, rfl, rfl, rfl, rfl⟩ := ha.d.sh.form
  obtain ⟨W0, hW0⟩ : ∃ W0, W0 = w.alloc (.cells #[.int .i64 k, .int .i64 xk, .slice xna xnn xnc, .slice xra xrn xrc, .slice xka xkn xkc, .int .i64 yk, .slice yna ynn ync, .slice yra yrn yrc, .slice yka ykn ykc, .slice ea en ec, .slice fa fn fc, .slice aa an ac, .slice ba bn bc] 42) := ⟨_, rfl⟩
  have HW0 : Hid (W0 = w.alloc (.cells #[.int .i64 k, .int .i64 xk, .slice xna xnn xnc, .slice xra xrn xrc, .slice xka xkn xkc, .int .i64 yk, .slice yna ynn ync, .slice yra yrn yrc, .slice yka ykn ykc, .slice ea en ec, .slice fa fn fc, .slice aa an ac, .slice ba bn bc] 42)) := hW0
  have hb0 : Below w.heap.size w W0 := by rw [hW0]; exact (Below.refl _ _).alloc (Nat.le_refl _) _
  have HB0 : Hid (Below w.heap.size w W0) := hb0
  obtain ⟨p0, p1, p2, p3, p4, p5, p6, p7, p8, p9, p10, p11, p12⟩ : (W0.cell? ⟨w.heap.size, 0, none⟩ = some (.int .i64 k) ∧ W0.cell? ⟨w.heap.size, 1, none⟩ = some (.int .i64 xk) ∧ W0.cell? ⟨w.heap.size, 2, none⟩ = some (.slice xna xnn xnc) ∧ W0.cell? ⟨w.heap.size, 3, none⟩ = some (.slice xra xrn xrc) ∧ W0.cell? ⟨w.heap.size, 4, none⟩ = some (.slice xka xkn xkc) ∧ W0.cell? ⟨w.heap.size, 5, none⟩ = some (.int .i64 yk) ∧ W0.cell? ⟨w.heap.size, 6, none⟩ = some (.slice yna ynn ync) ∧ W0.cell? ⟨w.heap.size, 7, none⟩ = some (.slice yra yrn yrc) ∧ W0.cell? ⟨w.heap.size, 8, none⟩ = some (.slice yka ykn ykc) ∧ W0.cell? ⟨w.heap.size, 9, none⟩ = some (.slice ea en ec) ∧ W0.cell? ⟨w.heap.size, 10, none⟩ = some (.slice fa fn fc) ∧ W0.cell? ⟨w.heap.size, 11, none⟩ = some (.slice aa an ac) ∧ W0.cell? ⟨w.heap.size, 12, none⟩ = some (.slice ba bn bc)) := by rw [hW0]; exact (BoxA.new 42 w _ _ _ _ _ _ _ _ _ _ _ _ _).cells
  obtain ⟨a0, a1, a2, a3, a4, a5, a6, a7, a8, a9⟩ := (hs.below hb0 hs.lt).cells
  obtain ⟨rr, hrr⟩ : ∃ rr, rr = satB x L y := ⟨_, rfl⟩
  have HC : Hid (Calls Tryz.prog 33 #[.agg #[.int .i64 L, .slice ia im ic, .slice ta tn tc, .int .i64 L, .slice na nn nc, .slice sa sn sc, .slice ra rn rc, .slice la ln lc, .slice ia im ic, .slice ta tn tc], .agg #[.int .i64 k, .int .i64 xk, .slice xna xnn xnc, .slice xra xrn xrc, .slice xka xkn xkc, .int .i64 yk, .slice yna ynn ync, .slice yra yrn yrc, .slice yka ykn ykc, .slice ea en ec, .slice fa fn fc, .slice aa an ac, .slice ba bn bc]] W0 fun r w' => r = .returned (.bool (satB x L y)) ∧ Below W0.heap.size W0 w') := sat_any hok hn hL (h.below hb0 hhi) (ha.below hb0 hhi') (Nat.le_trans hhi hb0.size) (Nat.le_trans hhi' hb0.size) hax k hk
  have HRr : Hid (rr = satB x L y) := hrr
  clear h ha hhi hhi' hb0 hW0 hok hn hk hax hs hrr
  go_enter Tryz.func45, Tryz.ntmps45
  go_upto_region 1 with fail
  rw [← HW0.out]
  go_wp2_with fail
  refine HC.out.mono ?_
  rintro r w1 ⟨rfl, hb1⟩
  rw [← HRr.out]
  have H1 : Hid (Below w.heap.size w w1) := HB0.out.trans (hb1.mono HB0.out.size)
  clear hb1
  go_wp2_with fail
  go_ret
  exact ⟨rb' (by rw [HRr.out]), H1.out⟩

set_option maxRecDepth 100000 in
set_option maxHeartbeats 8000000 in
theorem indexM_any {na : Option Addr} {nn nc : Nat} {sa : Option Addr} {sn sc : Nat} {ra : Option Addr} {rn rc : Nat} {la : Option Addr} {ln lc : Nat} {ia : Option Addr} {im ic : Nat} {ta : Option Addr} {tn tc : Nat} {x : WD} {dp : Nat} {ka : Option Addr} {kn kc : Nat} {xs : List AX} {w : World} {lo hi lo' hi' sb : Nat} {L : Nat} (hok : worldB x = true) (hn : x.n = (L : Int)) (hL : 1 ≤ L ∧ L ≤ 128) (h : RdW lo hi w na nn nc sa sn sc ra rn rc la ln lc ia im ic ta tn tc x) (ha : RdK lo' hi' w dp ka kn kc xs) (hhi : hi ≤ w.heap.size) (hhi' : hi' ≤ w.heap.size) (hax : ∀ j, j < xs.length → axOk (xs.getD j AX.zero) = true) (hs : BoxS w sb (.int .i64 L) (.slice ia im ic) (.slice ta tn tc) (.int .i64 L) (.slice na nn nc) (.slice sa sn sc) (.slice ra rn rc) (.slice la ln lc) (.slice ia im ic) (.slice ta tn tc)) (hkn : kn ≤ 1048576) :
    Calls Tryz.prog 82 #[.slice ka kn kc, .func (.func 45) #[] #[.pointer (some ⟨sb, 0, none⟩)]] w fun r w' => ∃ i : Int, r = .returned (.int .i64 i) ∧ decide (0 ≤ i) = (!(modelB x L xs)) ∧ Below w.heap.size w w' := by
  have HLn : Hid (xs.length = kn) := ha.len
  have HAx : Hid (∀ j, j < xs.length → axOk (xs.getD j AX.zero) = true) := hax
  have HKb : Hid (∀ V, Below w.heap.size w V → RdK lo' hi' V dp ka kn kc xs) := fun V hV => ha.below hV hhi'
  have HCa : Hid (∀ V, Below w.heap.size w V → ∀ {c0 c1 c2 c3 d0 d1 d2 d3 : Value} {ea : Option Addr} {en ec : Nat} {fa : Option Addr} {fn fc : Nat} {aa : Option Addr} {an ac : Nat} {ba : Option Addr} {bn bc : Nat} {y : AX} (k : Int), RdA lo' hi' V dp c0 c1 c2 c3 d0 d1 d2 d3 ea en ec fa fn fc aa an ac ba bn bc y → axOk y = true → k = y.kind → Calls Tryz.prog 45 #[.agg #[.int .i64 k, c0, c1, c2, c3, d0, d1, d2, d3, .slice ea en ec, .slice fa fn fc, .slice aa an ac, .slice ba bn bc], .pointer (some ⟨sb, 0, none⟩)] V fun r w' => r = .returned (.bool (!(satB x L y))) ∧ Below V.heap.size V w') := fun V hV _ _ _ _ _ _ _ _ _ _ _ _ _ _ _ _ _ _ _ _ _ k hr ho hk => isModel1_any hok hn hL (h.below hV hhi) hr (Nat.le_trans hhi hV.size) (Nat.le_trans hhi' hV.size) ho k hk (hs.below hV hs.lt)
  clear h ha hhi hhi' hax hs hok hn
  go_enter Tryz.func82, Tryz.ntmps82
  go_upto_region 2 with fail
  go_loopw [8] (fun i wr => ∃ j : Nat, j ≤ kn ∧ i = .int .i64 j ∧ (∀ q, q < j → satB x L (xs.getD q AX.zero) = true) ∧ Below w.heap.size w wr) (fun i _ => kn - (intOf i).toNat)
  case atStart => exact ⟨0, Nat.zero_le _, rfl, fun q hq => by omega, Below.refl _ _⟩
  case round =>
    obtain ⟨j, hj, rfl, hall, hbel⟩ := hrel
    have HAll : Hid (∀ q, q < j → satB x L (xs.getD q AX.zero) = true) := hall
    have HBr : Hid (Below w.heap.size w wr) := hbel
    clear hall hbel
    by_cases hlt : j < kn
    · have hji : (j : Int) < (kn : Int) := by omega
      have hjl : j < xs.length := by rw [HLn.out]; exact hlt
      obtain ⟨y, hy⟩ : ∃ y, y = xs.getD j AX.zero := ⟨_, rfl⟩
      have hyo : axOk y = true := by rw [hy]; exact HAx.out j hjl
      rcases (HKb.out wr HBr.out).cells with hz | ⟨kb, off, e1, _, hbh, hc⟩
      · omega
      · subst e1
        have hcj := hc j hlt
        rw [← hy] at hcj
        obtain ⟨c0, c1, c2, c3, d0, d1, d2, d3, ea, en, ec, fa, fn, fc, aa, an, ac, ba, bn, bc, q0, q1, q2, q3, q4, q5, q6, q7, q8, q9, q10, q11, q12, hrd⟩ := hcj
        obtain ⟨kk, hkk⟩ : ∃ kk, kk = y.kind := ⟨_, rfl⟩
        rw [← hkk] at q0
        obtain ⟨rr, hrr⟩ : ∃ rr, rr = satB x L y := ⟨_, rfl⟩
        have HRr : Hid (rr = satB x L y) := hrr
        have HC : Hid (Calls Tryz.prog 45 #[.agg #[.int .i64 kk, c0, c1, c2, c3, d0, d1, d2, d3, .slice ea en ec, .slice fa fn fc, .slice aa an ac, .slice ba bn bc], .pointer (some ⟨sb, 0, none⟩)] wr fun r w' => r = .returned (.bool (!rr)) ∧ Below wr.heap.size wr w') := by unfold Hid; rw [hrr]; exact HCa.out wr HBr.out kk hrd hyo hkk
        have HNext : Hid (satB x L y = true → ∀ q, q < j + 1 → satB x L (xs.getD q AX.zero) = true) := fun hr q hq => by
          by_cases e' : q = j
          · subst e'; rw [← hy]; exact hr
          · exact HAll.out q (by omega)
        have HNo : Hid (satB x L y = false → modelB x L xs = false) := fun hr => modelB_at hjl (by rw [← hy]; exact hr)
        clear hc hrd hkk hyo hrr hy
        go_wp2_with fail
        refine HC.out.mono ?_
        rintro r w2 ⟨rfl, hbq⟩
        have H2 : Hid (Below w.heap.size w w2) := HBr.out.trans (hbq.mono HBr.out.size)
        clear hbq
        cases rr with
        | true =>
          have HN := HNext.out HRr.out.symm
          go_wp2_with fail
          go_roundw
          case rel => exact ⟨j + 1, by omega, by go_num, HN, H2.out⟩
          case measure => simp [intOf]; omega
        | false =>
          have HN : Hid (modelB x L xs = false) := HNo.out HRr.out.symm
          go_wp2_with fail
          go_ret
          exact ⟨j, rfl, by rw [HN.out]; simp, H2.out⟩
    · have hji : ¬ ((j : Int) < (kn : Int)) := by omega
      have HN : Hid (modelB x L xs = true) := modelB_all (fun q hq => HAll.out q (by rw [HLn.out] at hq; omega))
      go_wp2_with fail
      go_ret
      exact ⟨-1, rfl, by rw [HN.out]; simp, HBr.out⟩

set_option maxRecDepth 100000 in
set_option maxHeartbeats 8000000 in
theorem hasM_any {na : Option Addr} {nn nc : Nat} {sa : Option Addr} {sn sc : Nat} {ra : Option Addr} {rn rc : Nat} {la : Option Addr} {ln lc : Nat} {ia : Option Addr} {im ic : Nat} {ta : Option Addr} {tn tc : Nat} {x : WD} {dp : Nat} {ka : Option Addr} {kn kc : Nat} {xs : List AX} {w : World} {lo hi lo' hi' sb : Nat} {L : Nat} (hok : worldB x = true) (hn : x.n = (L : Int)) (hL : 1 ≤ L ∧ L ≤ 128) (h : RdW lo hi w na nn nc sa sn sc ra rn rc la ln lc ia im ic ta tn tc x) (ha : RdK lo' hi' w dp ka kn kc xs) (hhi : hi ≤ w.heap.size) (hhi' : hi' ≤ w.heap.size) (hax : ∀ j, j < xs.length → axOk (xs.getD j AX.zero) = true) (hs : BoxS w sb (.int .i64 L) (.slice ia im ic) (.slice ta tn tc) (.int .i64 L) (.slice na nn nc) (.slice sa sn sc) (.slice ra rn rc) (.slice la ln lc) (.slice ia im ic) (.slice ta tn tc)) (hkn : kn ≤ 1048576) :
    Calls Tryz.prog 44 #[.slice ka kn kc, .func (.func 45) #[] #[.pointer (some ⟨sb, 0, none⟩)]] w fun r w' => r = .returned (.bool (!(modelB x L xs))) ∧ Below w.heap.size w w' := by
  have HC := indexM_any hok hn hL h ha hhi hhi' hax hs hkn
  have HC' : Hid (Calls Tryz.prog 82 #[.slice ka kn kc, .func (.func 45) #[] #[.pointer (some ⟨sb, 0, none⟩)]] w fun r w' => ∃ i : Int, r = .returned (.int .i64 i) ∧ decide (0 ≤ i) = (!(modelB x L xs)) ∧ Below w.heap.size w w') := HC
  clear h ha hhi hhi' hax hs hok hn HC
  go_enter Tryz.func44, Tryz.ntmps44
  go_wp2_with fail
  refine HC'.out.mono ?_
  rintro r w5 ⟨i, rfl, hi5, hb5⟩
  have HB5 : Hid (Below w.heap.size w w5) := hb5
  have HI5 : Hid (decide (0 ≤ i) = (!(modelB x L xs))) := hi5
  clear hb5 hi5
  by_cases hi0 : 0 ≤ i
  · have HP : Hid ((!(modelB x L xs)) = true) := by unfold Hid; rw [← HI5.out]; exact decide_eq_true hi0
    go_wp2_with fail
    go_ret
    exact ⟨by rw [HP.out]; simp, HB5.out⟩
  · have HP : Hid ((!(modelB x L xs)) = false) := by unfold Hid; rw [← HI5.out]; exact decide_eq_false hi0
    go_wp2_with fail
    go_ret
    exact ⟨by rw [HP.out]; simp [hi0], HB5.out⟩

set_option maxRecDepth 100000 in
set_option maxHeartbeats 8000000 in
theorem implIsModel_any {na : Option Addr} {nn nc : Nat} {sa : Option Addr} {sn sc : Nat} {ra : Option Addr} {rn rc : Nat} {la : Option Addr} {ln lc : Nat} {ia : Option Addr} {im ic : Nat} {ta : Option Addr} {tn tc : Nat} {x : WD} {dp : Nat} {ka : Option Addr} {kn kc : Nat} {xs : List AX} {w : World} {lo hi lo' hi' : Nat} {nx : Int} (h : RdW lo hi w na nn nc sa sn sc ra rn rc la ln lc ia im ic ta tn tc x) (ha : RdK lo' hi' w dp ka kn kc xs) (hn : x.n = nx) (hhi : hi ≤ w.heap.size) (hhi' : hi' ≤ w.heap.size) (hlo' : lo' ≤ w.heap.size) (hbulk : ∀ x ∈ xs, x.c.bulk ≤ 1048576 ∧ x.d.bulk ≤ 1048576) :
    Calls Tryz.prog 16 #[.agg #[.int .i64 nx, .slice na nn nc, .slice sa sn sc, .slice ra rn rc, .slice la ln lc, .slice ia im ic, .slice ta tn tc], .agg #[.slice ka kn kc]] w fun r w' => r = .returned (.bool (isModelB x xs)) ∧ Below w.heap.size w w' := by
  obtain ⟨W0, hW0⟩ : ∃ W0, W0 = (w.alloc (.cells #[.int .i64 nx, .slice na nn nc, .slice sa sn sc, .slice ra rn rc, .slice la ln lc, .slice ia im ic, .slice ta tn tc] 36)).alloc (.cells #[.slice ka kn kc] 54) := ⟨_, rfl⟩
  have HW0 : Hid (W0 = (w.alloc (.cells #[.int .i64 nx, .slice na nn nc, .slice sa sn sc, .slice ra rn rc, .slice la ln lc, .slice ia im ic, .slice ta tn tc] 36)).alloc (.cells #[.slice ka kn kc] 54)) := hW0
  have hs0 : W0.heap.size = w.heap.size + 2 := by rw [hW0]; simp
  have hb0 : Below w.heap.size w W0 := by rw [hW0]; exact ((Below.refl _ _).alloc (Nat.le_refl _) _).alloc (by simp) _
  have HB0 : Hid (Below w.heap.size w W0) := hb0
  have hbw : BoxW 36 W0 w.heap.size nx (.slice na nn nc) (.slice sa sn sc) (.slice ra rn rc) (.slice la ln lc) (.slice ia im ic) (.slice ta tn tc) := by rw [hW0]; exact (BoxW.new _ w _ _ _ _ _ _ _).below ((Below.refl _ _).alloc (Nat.le_refl _) _) (by simp)
  have hbk : W0.cell? ⟨w.heap.size + 1, 0, none⟩ = some (.slice ka kn kc) := by
    rw [hW0]
    have := (Boxed.new (w.alloc (.cells #[.int .i64 nx, .slice na nn nc, .slice sa sn sc, .slice ra rn rc, .slice la ln lc, .slice ia im ic, .slice ta tn tc] 36)) 54 (.slice ka kn kc)).cell
    rwa [World.size_alloc] at this
  have HSat : Hid (∀ V, Below W0.heap.size W0 V → (V.cell? ⟨w.heap.size, 0, none⟩ = some (.int .i64 nx) ∧ V.cell? ⟨w.heap.size, 1, none⟩ = some (.slice na nn nc) ∧ V.cell? ⟨w.heap.size, 2, none⟩ = some (.slice sa sn sc) ∧ V.cell? ⟨w.heap.size, 3, none⟩ = some (.slice ra rn rc) ∧ V.cell? ⟨w.heap.size, 4, none⟩ = some (.slice la ln lc) ∧ V.cell? ⟨w.heap.size, 5, none⟩ = some (.slice ia im ic) ∧ V.cell? ⟨w.heap.size, 6, none⟩ = some (.slice ta tn tc)) ∧ V.cell? ⟨w.heap.size + 1, 0, none⟩ = some (.slice ka kn kc)) := fun V hV => ⟨(hbw.below hV (by omega)).cells, (hV.cell (p := ⟨w.heap.size + 1, 0, none⟩) (show w.heap.size + 1 < W0.heap.size by omega)).trans hbk⟩
  have HWd : Hid (∀ V, Below W0.heap.size W0 V → RdW lo hi V na nn nc sa sn sc ra rn rc la ln lc ia im ic ta tn tc x ∧ hi ≤ V.heap.size) := fun V hV => ⟨(h.below hb0 hhi).below hV (by omega), by have := hV.size; omega⟩
  have HKb : Hid (∀ V, Below W0.heap.size W0 V → RdK lo' hi' V dp ka kn kc xs ∧ hi' ≤ V.heap.size ∧ lo' ≤ V.heap.size) := fun V hV => ⟨(ha.below hb0 hhi').below hV (by omega), by have := hV.size; omega, by have := hV.size; omega⟩
  have HFin : Hid (∀ {V : World}, Below W0.heap.size W0 V → Below w.heap.size w V) := fun {V} hV => HB0.out.trans (hV.mono HB0.out.size)
  have HN : Hid (x.n = nx) := hn
  have hs0' : w.heap.size + 2 ≤ W0.heap.size := by omega
  have HBk : Hid (∀ x ∈ xs, x.c.bulk ≤ 1048576 ∧ x.d.bulk ≤ 1048576) := hbulk
  have HLn : Hid (xs.length = kn) := ha.len
  clear h ha hhi hhi' hlo' hb0 hbw hbk hW0 hn hs0 hbulk
  go_enter Tryz.func16, Tryz.ntmps16
  go_upto_region 1 with fail
  rw [← HW0.out]
  obtain ⟨⟨a0, a1, a2, a3, a4, a5, a6⟩, b0⟩ := HSat.out W0 (Below.refl _ _)
  go_wp2_with fail
  refine (sceneOf_any (HWd.out W0 (Below.refl _ _)).1 HN.out (HWd.out W0 (Below.refl _ _)).2).mono ?_
  rintro r w1 ⟨rfl, hb1⟩
  have H1 : Hid (Below W0.heap.size W0 w1) := hb1
  have s1 := hb1.size
  clear hb1 a0 a1 a2 a3 a4 a5 a6 b0
  obtain ⟨⟨a0, a1, a2, a3, a4, a5, a6⟩, b0⟩ := HSat.out w1 H1.out
  cases hwo : worldB x with
  | false =>
    have HE : Hid (isModelB x xs = false) := by unfold Hid isModelB; rw [hwo]; rfl
    rw [show ∀ u v, whichV false u v = v from fun _ _ => rfl]
    obtain ⟨U, hU⟩ : ∃ U, U = w1.alloc (.cells #[.int .i64 0, .slice none 0 0, .slice none 0 0, .int .i64 0, .slice none 0 0, .slice none 0 0, .slice none 0 0, .slice none 0 0, .slice none 0 0, .slice none 0 0] 73) := ⟨_, rfl⟩
    have HU : Hid (U = w1.alloc (.cells #[.int .i64 0, .slice none 0 0, .slice none 0 0, .int .i64 0, .slice none 0 0, .slice none 0 0, .slice none 0 0, .slice none 0 0, .slice none 0 0, .slice none 0 0] 73)) := hU
    have HB1 : Hid (Below w.heap.size w U) := by unfold Hid; rw [hU]; exact HFin.out (H1.out.alloc H1.out.size _)
    clear hwo hU
    go_upto_region 2 with fail
    rw [← HU.out]
    go_wp2_with fail
    go_ret
    exact ⟨rb' HE.out.symm, HB1.out⟩
  | true =>
    have HWo : Hid (worldB x = true) := hwo
    clear hwo
    rw [show ∀ u v, whichV true u v = u from fun _ _ => rfl]
    obtain ⟨U, hU⟩ : ∃ U, U = w1.alloc (.cells #[.int .i64 nx, .slice ia im ic, .slice ta tn tc, .int .i64 nx, .slice na nn nc, .slice sa sn sc, .slice ra rn rc, .slice la ln lc, .slice ia im ic, .slice ta tn tc] 73) := ⟨_, rfl⟩
    have HU : Hid (U = w1.alloc (.cells #[.int .i64 nx, .slice ia im ic, .slice ta tn tc, .int .i64 nx, .slice na nn nc, .slice sa sn sc, .slice ra rn rc, .slice la ln lc, .slice ia im ic, .slice ta tn tc] 73)) := hU
    have hbs : BoxS U w1.heap.size (.int .i64 nx) (.slice ia im ic) (.slice ta tn tc) (.int .i64 nx) (.slice na nn nc) (.slice sa sn sc) (.slice ra rn rc) (.slice la ln lc) (.slice ia im ic) (.slice ta tn tc) := by rw [hU]; exact BoxS.new w1 _ _ _ _ _ _ _ _ _ _
    have HBs : Hid (BoxS U w1.heap.size (.int .i64 nx) (.slice ia im ic) (.slice ta tn tc) (.int .i64 nx) (.slice na nn nc) (.slice sa sn sc) (.slice ra rn rc) (.slice la ln lc) (.slice ia im ic) (.slice ta tn tc)) := hbs
    have HUb : Hid (Below W0.heap.size W0 U) := by unfold Hid; rw [hU]; exact H1.out.alloc H1.out.size _
    have hsU : w1.heap.size < U.heap.size := by rw [hU]; simp
    clear hU hbs
    go_upto_region 2 with fail
    rw [← HU.out]
    clear a0 a1 a2 a3 a4 a5 a6 b0
    obtain ⟨⟨a0, a1, a2, a3, a4, a5, a6⟩, b0⟩ := HSat.out U HUb.out
    go_wp2_with fail
    refine (implKbOk_any (HKb.out U HUb.out).1 (HKb.out U HUb.out).2.1 HBk.out).mono ?_
    rintro r w2 ⟨rfl, hb2⟩
    have HB2 : Hid (BoxS w2 w1.heap.size (.int .i64 nx) (.slice ia im ic) (.slice ta tn tc) (.int .i64 nx) (.slice na nn nc) (.slice sa sn sc) (.slice ra rn rc) (.slice la ln lc) (.slice ia im ic) (.slice ta tn tc)) := HBs.out.below hb2 hsU
    have H2 : Hid (Below W0.heap.size W0 w2) := HUb.out.trans (hb2.mono HUb.out.size)
    clear hb2 a0 a1 a2 a3 a4 a5 a6 b0
    obtain ⟨⟨a0, a1, a2, a3, a4, a5, a6⟩, b0⟩ := HSat.out w2 H2.out
    cases hao : kbB xs with
    | false =>
      have HE : Hid (isModelB x xs = false) := by unfold Hid isModelB; rw [HWo.out, hao]; rfl
      clear hao
      go_wp2_with fail
      go_ret
      exact ⟨rb' HE.out.symm, HFin.out H2.out⟩
    | true =>
      have HAo : Hid (kbB xs = true) := hao
      have hkn : kn ≤ 1048576 := by
        have : xs.length ≤ 1048576 := by
          unfold kbB at hao
          simp only [Bool.and_eq_true, decide_eq_true_eq] at hao
          omega
        rw [HLn.out] at this
        exact this
      clear hao
      obtain ⟨L, hL⟩ : ∃ L, L = x.n.toNat := ⟨_, rfl⟩
      have hwf := ((worldB_iff x).1 HWo.out).1.1
      have hLn : x.n = (L : Int) := by omega
      have hL128 : 1 ≤ L ∧ L ≤ 128 := by omega
      have hnL : nx = (L : Int) := by rw [← HN.out]; exact hLn
      subst hnL
      have HE : Hid (isModelB x xs = modelB x L xs) := by unfold Hid isModelB; rw [HWo.out, HAo.out, hL]; rfl
      clear hwf hL hLn
      obtain ⟨rr, hrr⟩ : ∃ rr, rr = modelB x L xs := ⟨_, rfl⟩
      have HRr : Hid (rr = modelB x L xs) := hrr
      clear hrr
      go_wp2_with fail
      refine (hasM_any HWo.out HN.out hL128 (HWd.out w2 H2.out).1 (HKb.out w2 H2.out).1 (HWd.out w2 H2.out).2 (HKb.out w2 H2.out).2.1 (kb_ax HAo.out) HB2.out hkn).mono ?_
      rintro r w3 ⟨rfl, hb3⟩
      rw [← HRr.out]
      have H3 : Hid (Below W0.heap.size W0 w3) := H2.out.trans (hb3.mono H2.out.size)
      clear hb3
      cases rr with
      | true =>
        go_wp2_with fail
        go_ret
        exact ⟨rb' (HRr.out.trans HE.out.symm), HFin.out H3.out⟩
      | false =>
        go_wp2_with fail
        go_ret
        exact ⟨rb' (HRr.out.trans HE.out.symm), HFin.out H3.out⟩
end

end Go.Proofs.YtfbokljbmihlbaaGreat
