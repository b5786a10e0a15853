/- Empty, as the document has it: a contract. -/
import Derived.Test.YtjnmfjfikldiiaaClSpec
namespace Go.Proofs.Ytjnmfjfikldiiaa
open Go.RowKit

def bareB (k xp xn : Int) (xs : List (Int × Int)) : Bool := xs.all (fun p => noneB p.1 p.2) && ((decide (k = 0) && noneB xp xn) || decide (k = 5))
def emptyB (k f r u xp xn yp yn : Int) (xs : List (Int × Int)) (a b : Int) : Bool := clauseB k f r u xp xn yp yn xs a b && bareB k xp xn xs

set_option maxRecDepth 100000 in
set_option maxHeartbeats 2000000 in
theorem l5empty_any {k f r u xp xn yp yn : Int} {ia : Option Addr} {im ic : Nat} {a b : Int} {xs : List (Int × Int)} {w : World} {lo hi : Nat} (h : RP lo hi w ia im ic xs) (hhi : hi ≤ w.heap.size) :
    Calls Try.prog 119 #[.agg #[.int .i64 k, .int .i64 f, .int .i64 r, .int .i64 u, .int .i64 xp, .int .i64 xn, .int .i64 yp, .int .i64 yn, .slice ia im ic, .int .i64 a, .int .i64 b]] w fun e w' => e = .returned (.bool (bareB k xp xn xs)) ∧ Below w.heap.size w w' := by
  obtain ⟨W, hW⟩ : ∃ W, W = w.alloc (.cells #[.int .i64 k, .int .i64 f, .int .i64 r, .int .i64 u, .int .i64 xp, .int .i64 xn, .int .i64 yp, .int .i64 yn, .slice ia im ic, .int .i64 a, .int .i64 b] 84) := ⟨_, rfl⟩
  have HW : Hid (W = w.alloc (.cells #[.int .i64 k, .int .i64 f, .int .i64 r, .int .i64 u, .int .i64 xp, .int .i64 xn, .int .i64 yp, .int .i64 yn, .slice ia im ic, .int .i64 a, .int .i64 b] 84)) := hW
  have hb0 : Below w.heap.size w W := by rw [hW]; exact (Below.refl _ _).alloc (Nat.le_refl _) _
  have HB0 : Hid (Below w.heap.size w W) := hb0
  have hbx : BoxK 84 W w.heap.size k f r u xp xn yp yn (.slice ia im ic) a b := by rw [hW]; exact BoxK.new _ w _ _ _ _ _ _ _ _ _ _ _
  have HX : Hid (∀ V, Below W.heap.size W V → BoxK 84 V w.heap.size k f r u xp xn yp yn (.slice ia im ic) a b) := fun V hV => hbx.below hV hbx.lt
  have HRP : Hid (∀ V, Below W.heap.size W V → RP lo hi V ia im ic xs ∧ hi ≤ V.heap.size) := fun V hV => ⟨(h.below hb0 hhi).below hV (Nat.le_trans hhi hb0.size), Nat.le_trans hhi (Nat.le_trans hb0.size hV.size)⟩
  have HL : Hid (xs.length = im) := h.len
  have HFin : Hid (∀ V, Below W.heap.size W V → Below w.heap.size w V) := fun V hV => HB0.out.trans (hV.mono HB0.out.size)
  have HRf : Hid (Below W.heap.size W W) := Below.refl _ _
  obtain ⟨z0, z1, z2, z3, z4, z5, z6, z7, z8, z9, z10⟩ := hbx.cells
  clear hW hb0 hbx h
  go_enter Try.func119, Try.ntmps119
  go_upto_region 1 with fail
  rw [← HW.out]
  go_wp2_with fail
  go_loopw [3] (fun i wr => ∃ j : Nat, j ≤ im ∧ i = .int .i64 j ∧ (∀ i, i < j → noneB (xs.getD i (0, 0)).1 (xs.getD i (0, 0)).2 = true) ∧ Below W.heap.size W wr) (fun i _ => im - (intOf i).toNat)
  case atStart => exact ⟨0, Nat.zero_le _, rfl, fun i hi => absurd hi (by omega), HRf.out⟩
  case round =>
    obtain ⟨j, hj, rfl, hall, hbel⟩ := hrel
    have HAll : Hid (∀ i, i < j → noneB (xs.getD i (0, 0)).1 (xs.getD i (0, 0)).2 = true) := hall
    have HB : Hid (Below W.heap.size W wr) := hbel
    clear z0 z1 z2 z3 z4 z5 z6 z7 z8 z9 z10
    obtain ⟨z0, z1, z2, z3, z4, z5, z6, z7, z8, z9, z10⟩ := (HX.out _ hbel).cells
    have hrp := (HRP.out _ hbel).1
    have hfit := hrp.fits
    by_cases hlt : j < im
    · rcases hrp.cells with h0 | ⟨bb, off, e1, _, hbh, hc⟩
      · omega
      · subst e1
        obtain ⟨c1, c2⟩ := hc j hlt
        obtain ⟨t, ht⟩ : ∃ t, t = xs.getD j (0, 0) := ⟨_, rfl⟩
        have HT : Hid (t = xs.getD j (0, 0)) := ht
        rw [← ht] at c1 c2
        obtain ⟨tp, tn⟩ := t
        have hki : (j : Int) < (im : Int) := by omega
        clear hrp hc ht hbel hall
        go_wp2_with fail
        refine (l5none_any tp tn wr).mono ?_
        rintro e w9 ⟨rfl, hb9⟩
        have HB9 : Hid (Below W.heap.size W w9) := HB.out.trans (hb9.mono HB.out.size)
        clear hb9
        by_cases hp : noneB tp tn = true
        · rw [hp]
          have HAll' : Hid (∀ i, i < j + 1 → noneB (xs.getD i (0, 0)).1 (xs.getD i (0, 0)).2 = true) := by
            intro i hi
            by_cases e : i = j
            · subst e; rw [← HT.out]; exact hp
            · exact HAll.out i (by omega)
          clear hp
          go_wp2_with fail
          go_roundw
          case rel => exact ⟨j + 1, by omega, by go_num, HAll'.out, HB9.out⟩
          case measure => simp [intOf]; omega
        · have hf : noneB tp tn = false := by simpa using hp
          rw [hf]
          have HF : Hid (bareB k xp xn xs = false) := by
            have hl := HL.out
            unfold Hid bareB
            rw [Bool.and_eq_false_iff]
            left
            rw [List.all_eq_false]
            refine ⟨xs.getD j (0, 0), ?_, by rw [← HT.out]; simpa using hf⟩
            rw [List.getD_eq_getElem?_getD, List.getElem?_eq_getElem (by omega)]
            exact List.getElem_mem _
          clear hp hf
          go_wp2_with fail
          go_ret
          exact ⟨rb HF.out.symm, HFin.out _ HB9.out⟩
    · have HA : Hid (xs.all (fun p => noneB p.1 p.2) = true) := by
        have hl := HL.out
        unfold Hid
        rw [List.all_eq_true]
        intro p hp
        obtain ⟨i, hi, e⟩ := List.getElem_of_mem hp
        have := hall i (by omega)
        rw [List.getD_eq_getElem?_getD, List.getElem?_eq_getElem hi, e] at this
        exact this
      clear hrp hbel hall
      by_cases hk : k = 0
      · have HE : Hid (bareB k xp xn xs = noneB xp xn) := by unfold Hid bareB; rw [HA.out]; simp [hk]
        have hkb : (k == 0) = true := by simp [hk]
        have hk5 : (k == 5) = false := by simp [hk]
        clear hk
        go_wp2_with fail
        refine (l5none_any xp xn wr).mono ?_
        rintro e w9 ⟨rfl, hb9⟩
        have HB9 : Hid (Below W.heap.size W w9) := HB.out.trans (hb9.mono HB.out.size)
        clear hb9 z0 z1 z2 z3 z4 z5 z6 z7 z8 z9 z10
        obtain ⟨z0, z1, z2, z3, z4, z5, z6, z7, z8, z9, z10⟩ := (HX.out _ HB9.out).cells
        by_cases hn : noneB xp xn = true
        · rw [hn]
          have HN : Hid (noneB xp xn = true) := hn
          clear hn
          go_wp2_with fail
          go_ret
          exact ⟨rb (by rw [HE.out, HN.out]), HFin.out _ HB9.out⟩
        · have hf : noneB xp xn = false := by simpa using hn
          rw [hf]
          have HN : Hid (noneB xp xn = false) := hf
          clear hn hf
          go_wp2_with fail
          go_ret
          exact ⟨rb (by rw [HE.out, HN.out]), HFin.out _ HB9.out⟩
      · have HE : Hid (bareB k xp xn xs = (k == 5)) := by unfold Hid bareB; rw [HA.out, Bool.eq_iff_iff]; simp [hk]
        have hkb : (k == 0) = false := by simpa using hk
        clear hk
        go_wp2_with fail
        all_goals
          go_ret
          exact ⟨rb (by rw [HE.out]), HFin.out _ HB.out⟩

set_option maxRecDepth 100000 in
set_option maxHeartbeats 2000000 in
theorem specEmpty_any {k f r u xp xn yp yn : Int} {ia : Option Addr} {im ic : Nat} {a b : Int} {xs : List (Int × Int)} {w : World} {lo hi : Nat} (h : RP lo hi w ia im ic xs) (hhi : hi ≤ w.heap.size) :
    Calls Try.prog 53 #[.agg #[.int .i64 k, .int .i64 f, .int .i64 r, .int .i64 u, .int .i64 xp, .int .i64 xn, .int .i64 yp, .int .i64 yn, .slice ia im ic, .int .i64 a, .int .i64 b]] w fun e w' => e = .returned (.bool (emptyB k f r u xp xn yp yn xs a b)) ∧ Below w.heap.size w w' := by
  obtain ⟨W, hW⟩ : ∃ W, W = w.alloc (.cells #[.int .i64 k, .int .i64 f, .int .i64 r, .int .i64 u, .int .i64 xp, .int .i64 xn, .int .i64 yp, .int .i64 yn, .slice ia im ic, .int .i64 a, .int .i64 b] 84) := ⟨_, rfl⟩
  have HW : Hid (W = w.alloc (.cells #[.int .i64 k, .int .i64 f, .int .i64 r, .int .i64 u, .int .i64 xp, .int .i64 xn, .int .i64 yp, .int .i64 yn, .slice ia im ic, .int .i64 a, .int .i64 b] 84)) := hW
  have hb0 : Below w.heap.size w W := by rw [hW]; exact (Below.refl _ _).alloc (Nat.le_refl _) _
  have HB0 : Hid (Below w.heap.size w W) := hb0
  have hbx : BoxK 84 W w.heap.size k f r u xp xn yp yn (.slice ia im ic) a b := by rw [hW]; exact BoxK.new _ w _ _ _ _ _ _ _ _ _ _ _
  have HX : Hid (∀ V, Below W.heap.size W V → BoxK 84 V w.heap.size k f r u xp xn yp yn (.slice ia im ic) a b) := fun V hV => hbx.below hV hbx.lt
  have HRP : Hid (∀ V, Below W.heap.size W V → RP lo hi V ia im ic xs ∧ hi ≤ V.heap.size) := fun V hV => ⟨(h.below hb0 hhi).below hV (Nat.le_trans hhi hb0.size), Nat.le_trans hhi (Nat.le_trans hb0.size hV.size)⟩
  have HL : Hid (xs.length = im) := h.len
  have HFin : Hid (∀ V, Below W.heap.size W V → Below w.heap.size w V) := fun V hV => HB0.out.trans (hV.mono HB0.out.size)
  have HRf : Hid (Below W.heap.size W W) := Below.refl _ _
  obtain ⟨z0, z1, z2, z3, z4, z5, z6, z7, z8, z9, z10⟩ := hbx.cells
  clear hW hb0 hbx h
  have HE : Hid (emptyB k f r u xp xn yp yn xs a b = (clauseB k f r u xp xn yp yn xs a b && bareB k xp xn xs)) := rfl
  go_enter Try.func53, Try.ntmps53
  go_upto_region 1 with fail
  rw [← HW.out]
  go_wp2_with fail
  refine (specClauseOk_any (HRP.out _ HRf.out).1 (HRP.out _ HRf.out).2).mono ?_
  rintro e w1 ⟨rfl, hb1⟩
  have H1 : Hid (Below W.heap.size W w1) := hb1
  clear hb1 z0 z1 z2 z3 z4 z5 z6 z7 z8 z9 z10
  obtain ⟨z0, z1, z2, z3, z4, z5, z6, z7, z8, z9, z10⟩ := (HX.out _ H1.out).cells
  obtain ⟨C, hC⟩ : ∃ C, C = clauseB k f r u xp xn yp yn xs a b := ⟨_, rfl⟩
  rw [← hC]
  have HC : Hid (C = clauseB k f r u xp xn yp yn xs a b) := hC
  clear hC
  cases C with
  | true =>
    go_wp2_with fail
    refine (l5empty_any (HRP.out _ H1.out).1 (HRP.out _ H1.out).2).mono ?_
    rintro e w2 ⟨rfl, hb2⟩
    have H2 : Hid (Below W.heap.size W w2) := H1.out.trans (hb2.mono H1.out.size)
    clear hb2
    go_wp2_with fail
    go_ret
    exact ⟨rb (by rw [HE.out, ← HC.out]; simp), HFin.out _ H2.out⟩
  | false =>
    go_wp2_with fail
    go_ret
    exact ⟨rb (by rw [HE.out, ← HC.out]; simp), HFin.out _ H1.out⟩

end Go.Proofs.Ytjnmfjfikldiiaa
