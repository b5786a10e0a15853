/- Which clauses hold whatever there is, as the document's model looks: a contract. -/
import Derived.Test.YtcaljggnihinaaaDoorTautM
import Derived.Test.YtcaljggnihinaaaDoorClSpec
namespace Go.Proofs.YtcaljggnihinaaaDoor
open Go.RowKit

theorem any_not {α : Type} {p : α → Bool} {d : α} {l : List α} {n : Nat} (hl : l.length = n) (h : ∀ m, m < n → p (l.getD m d) = false) : l.any p = false := by
  rw [List.any_eq_false]
  intro x hx
  obtain ⟨i, hi, rfl⟩ := List.mem_iff_getElem.1 hx
  have := h i (by omega)
  rw [List.getD_eq_getElem?_getD, List.getElem?_eq_getElem hi] at this
  have e : p l[i] = false := this
  rw [e]
  simp
theorem any_yes {α : Type} {p : α → Bool} {d : α} {l : List α} {m : Nat} (hm : m < l.length) (h : p (l.getD m d) = true) : l.any p = true := by
  rw [List.any_eq_true]
  refine ⟨l.getD m d, ?_, h⟩
  rw [List.getD_eq_getElem?_getD, List.getElem?_eq_getElem hm]
  exact List.getElem_mem _

theorem l5both_any (p n : Int) (w : World) : Calls Tryd.prog 33 #[.agg #[.int .i64 p, .int .i64 n]] w fun e w' => e = .returned (.bool (bothB p n)) ∧ Below w.heap.size w w' := by
  obtain ⟨W, hW⟩ : ∃ W, W = w.alloc (.cells #[.int .i64 p, .int .i64 n] 29) := ⟨_, rfl⟩
  have HW : Hid (W = w.alloc (.cells #[.int .i64 p, .int .i64 n] 29)) := hW
  have HB0 : Hid (Below w.heap.size w W) := by rw [hW]; exact (Below.refl _ _).alloc (Nat.le_refl _) _
  have hbx : BoxP 29 W w.heap.size p n := by rw [hW]; exact BoxP.new _ w _ _
  obtain ⟨z0, z1⟩ := hbx.cells
  clear hW hbx
  go_enter Tryd.func33, Tryd.ntmps33
  go_upto_region 1 with fail
  rw [← HW.out]
  go_wp2_with fail
  go_ret
  exact ⟨rfl, HB0.out⟩

set_option maxRecDepth 100000 in
set_option maxHeartbeats 4000000 in
theorem l5taut_any {k f r u xp xn yp yn : Int} {ia : Option Addr} {im ic : Nat} {a b : Int} {xs : List (Int × Int)} {w : World} {lo hi : Nat} (hR : RP lo hi w ia im ic xs) (hhi : hi ≤ w.heap.size) :
    Calls Tryd.prog 18 #[.agg #[.int .i64 k, .int .i64 f, .int .i64 r, .int .i64 u, .int .i64 xp, .int .i64 xn, .int .i64 yp, .int .i64 yn, .slice ia im ic, .int .i64 a, .int .i64 b]] w fun e w' => e = .returned (.bool (tautB k r u xp xn yp yn xs)) ∧ Below w.heap.size w w' := by
  obtain ⟨W, hW⟩ : ∃ W, W = w.alloc (.cells #[.int .i64 k, .int .i64 f, .int .i64 r, .int .i64 u, .int .i64 xp, .int .i64 xn, .int .i64 yp, .int .i64 yn, .slice ia im ic, .int .i64 a, .int .i64 b] 32) := ⟨_, rfl⟩
  have HW : Hid (W = w.alloc (.cells #[.int .i64 k, .int .i64 f, .int .i64 r, .int .i64 u, .int .i64 xp, .int .i64 xn, .int .i64 yp, .int .i64 yn, .slice ia im ic, .int .i64 a, .int .i64 b] 32)) := hW
  have hb0 : Below w.heap.size w W := by rw [hW]; exact (Below.refl _ _).alloc (Nat.le_refl _) _
  have HB0 : Hid (Below w.heap.size w W) := hb0
  have hkb : BoxK 32 W w.heap.size k f r u xp xn yp yn (.slice ia im ic) a b := by rw [hW]; exact BoxK.new _ w _ _ _ _ _ _ _ _ _ _ _
  have HK : Hid (∀ V, Below W.heap.size W V → BoxK 32 V w.heap.size k f r u xp xn yp yn (.slice ia im ic) a b) := fun V hV => hkb.below hV hkb.lt
  have HR : Hid (∀ V, Below W.heap.size W V → RP lo hi V ia im ic xs) := fun V hV => (hR.below hb0 hhi).below hV (Nat.le_trans hhi hb0.size)
  have HLn : Hid (xs.length = im) := hR.len
  have hfit := hR.fits
  have H0 : Hid (Below W.heap.size W W) := Below.refl _ _
  have HF : Hid (∀ V, Below W.heap.size W V → Below w.heap.size w V) := fun V hV => hb0.trans (hV.mono hb0.size)
  obtain ⟨y0, y1, y2, y3, y4, y5, y6, y7, y8, y9, y10⟩ := hkb.cells
  clear hb0 hW hkb hR
  go_enter Tryd.func18, Tryd.ntmps18
  go_upto_region 1 with fail
  rw [← HW.out]
  go_wp2_with fail
  go_loopw [3] (fun i wr => ∃ j : Nat, j ≤ im ∧ i = .int .i64 j ∧ (∀ m, m < j → bothB (xs.getD m (0, 0)).1 (xs.getD m (0, 0)).2 = false) ∧ Below W.heap.size W wr) (fun i _ => im - (intOf i).toNat)
  case atStart => exact ⟨0, Nat.zero_le _, rfl, fun m hm => absurd hm (by omega), H0.out⟩
  case round =>
    obtain ⟨j, hj, rfl, hall, hbel⟩ := hrel
    have HAl : Hid (∀ m, m < j → bothB (xs.getD m (0, 0)).1 (xs.getD m (0, 0)).2 = false) := hall
    have HB : Hid (Below W.heap.size W wr) := hbel
    clear y0 y1 y2 y3 y4 y5 y6 y7 y8 y9 y10
    obtain ⟨y0, y1, y2, y3, y4, y5, y6, y7, y8, y9, y10⟩ := (HK.out _ hbel).cells
    by_cases hlt : j < im
    · have hji : (j : Int) < (im : Int) := by omega
      have hrp := HR.out _ hbel
      rcases hrp.cells with h0 | ⟨bb, off, e1, _, _, hc⟩
      · omega
      · subst e1
        obtain ⟨c1, c2⟩ := hc j hlt
        obtain ⟨t, ht⟩ : ∃ t, t = xs.getD j (0, 0) := ⟨_, rfl⟩
        have HT : Hid (t = xs.getD j (0, 0)) := ht
        rw [← ht] at c1 c2
        obtain ⟨tp, tn⟩ := t
        obtain ⟨vs, hvs⟩ : ∃ v, v = bothB tp tn := ⟨_, rfl⟩
        have HV : Hid (bothB tp tn = vs) := hvs.symm
        clear hrp hc hall hbel ht hvs
        go_wp2_with fail
        refine (l5both_any tp tn wr).mono ?_
        rintro e w1 ⟨rfl, hb1⟩
        rw [HV.out]
        have H1 : Hid (Below W.heap.size W w1) := HB.out.trans (hb1.mono HB.out.size)
        clear hb1
        cases vs with
        | false =>
          have HN : Hid (∀ m, m < j + 1 → bothB (xs.getD m (0, 0)).1 (xs.getD m (0, 0)).2 = false) := fun m hm => by
            by_cases e : m = j
            · subst e; rw [← HT.out]; exact HV.out
            · exact HAl.out m (by omega)
          go_wp2_with fail
          go_roundw
          case rel => exact ⟨j + 1, by omega, by go_num, HN.out, H1.out⟩
          case measure => simp [intOf]; omega
        | true =>
          have HE : Hid (tautB k r u xp xn yp yn xs = true) := by
            unfold Hid tautB
            rw [any_yes (m := j) (d := (0, 0)) (by rw [HLn.out]; exact hlt) (by rw [← HT.out]; exact HV.out)]
            rfl
          go_wp2_with fail
          go_ret
          exact ⟨rb HE.out.symm, HF.out _ H1.out⟩
    · have HAll : Hid (xs.any (fun p => bothB p.1 p.2) = false) := any_not (d := (0, 0)) HLn.out (fun m hm => hall m (by omega))
      clear hall hbel
      go_wp2_with fail
      refine (l5both_any xp xn wr).mono ?_
      rintro e w1 ⟨rfl, hb1⟩
      have H1 : Hid (Below W.heap.size W w1) := HB.out.trans (hb1.mono HB.out.size)
      obtain ⟨vx, hvx⟩ : ∃ v, v = bothB xp xn := ⟨_, rfl⟩
      rw [← hvx]
      have HX : Hid (bothB xp xn = vx) := hvx.symm
      clear hb1 hvx y0 y1 y2 y3 y4 y5 y6 y7 y8 y9 y10
      obtain ⟨y0, y1, y2, y3, y4, y5, y6, y7, y8, y9, y10⟩ := (HK.out _ H1.out).cells
      cases vx with
      | true =>
        have HE : Hid (tautB k r u xp xn yp yn xs = true) := by unfold Hid tautB; rw [HAll.out, HX.out]; rfl
        go_wp2_with fail
        go_ret
        exact ⟨rb HE.out.symm, HF.out _ H1.out⟩
      | false =>
        go_wp2_with fail
        refine (l5both_any yp yn w1).mono ?_
        rintro e w2 ⟨rfl, hb2⟩
        have H2 : Hid (Below W.heap.size W w2) := H1.out.trans (hb2.mono H1.out.size)
        obtain ⟨vy, hvy⟩ : ∃ v, v = bothB yp yn := ⟨_, rfl⟩
        rw [← hvy]
        have HY : Hid (bothB yp yn = vy) := hvy.symm
        clear hb2 hvy y0 y1 y2 y3 y4 y5 y6 y7 y8 y9 y10
        obtain ⟨y0, y1, y2, y3, y4, y5, y6, y7, y8, y9, y10⟩ := (HK.out _ H2.out).cells
        cases vy with
        | true =>
          have HE : Hid (tautB k r u xp xn yp yn xs = true) := by unfold Hid tautB; rw [HAll.out, HX.out, HY.out]; rfl
          go_wp2_with fail
          go_ret
          exact ⟨rb HE.out.symm, HF.out _ H2.out⟩
        | false =>
          by_cases h4 : k = 4
          · have HE : Hid (tautB k r u xp xn yp yn xs = decide (r = u)) := by unfold Hid tautB; rw [HAll.out, HX.out, HY.out, decide_eq_true h4]; simp
            have h4' : (k == 4) = true := by simp [h4]
            clear h4
            go_wp2_with fail
            go_ret
            exact ⟨rb (by rw [HE.out]; rfl), HF.out _ H2.out⟩
          · have HE : Hid (tautB k r u xp xn yp yn xs = false) := by unfold Hid tautB; rw [HAll.out, HX.out, HY.out, decide_eq_false h4]; rfl
            have h4' : (k == 4) = false := by simpa using h4
            clear h4
            go_wp2_with fail
            go_ret
            exact ⟨rb HE.out.symm, HF.out _ H2.out⟩

/-- Does it hold whatever there is? -/
def isTaut (k f r u xp xn yp yn a b : Int) (xs : List (Int × Int)) : Bool := clauseB k f r u xp xn yp yn xs a b && tautB k r u xp xn yp yn xs

set_option maxRecDepth 100000 in
set_option maxHeartbeats 2000000 in
theorem specTaut_any {k f r u xp xn yp yn : Int} {ia : Option Addr} {im ic : Nat} {a b : Int} {xs : List (Int × Int)} {w : World} {lo hi : Nat} (hR : RP lo hi w ia im ic xs) (hhi : hi ≤ w.heap.size) :
    Calls Tryd.prog 6 #[.agg #[.int .i64 k, .int .i64 f, .int .i64 r, .int .i64 u, .int .i64 xp, .int .i64 xn, .int .i64 yp, .int .i64 yn, .slice ia im ic, .int .i64 a, .int .i64 b]] w fun e w' => e = .returned (.bool (isTaut k f r u xp xn yp yn a b xs)) ∧ Below w.heap.size w w' := by
  obtain ⟨W, hW⟩ : ∃ W, W = w.alloc (.cells #[.int .i64 k, .int .i64 f, .int .i64 r, .int .i64 u, .int .i64 xp, .int .i64 xn, .int .i64 yp, .int .i64 yn, .slice ia im ic, .int .i64 a, .int .i64 b] 32) := ⟨_, rfl⟩
  have HW : Hid (W = w.alloc (.cells #[.int .i64 k, .int .i64 f, .int .i64 r, .int .i64 u, .int .i64 xp, .int .i64 xn, .int .i64 yp, .int .i64 yn, .slice ia im ic, .int .i64 a, .int .i64 b] 32)) := hW
  have hb0 : Below w.heap.size w W := by rw [hW]; exact (Below.refl _ _).alloc (Nat.le_refl _) _
  have HB0 : Hid (Below w.heap.size w W) := hb0
  have hkb : BoxK 32 W w.heap.size k f r u xp xn yp yn (.slice ia im ic) a b := by rw [hW]; exact BoxK.new _ w _ _ _ _ _ _ _ _ _ _ _
  have hs0 := hb0.size
  have HK : Hid (∀ V, Below W.heap.size W V → BoxK 32 V w.heap.size k f r u xp xn yp yn (.slice ia im ic) a b) := fun V hV => hkb.below hV hkb.lt
  have HR : Hid (∀ V, Below W.heap.size W V → RP lo hi V ia im ic xs) := fun V hV => (hR.below hb0 hhi).below hV (Nat.le_trans hhi hb0.size)
  have H0 : Hid (Below W.heap.size W W) := Below.refl _ _
  obtain ⟨y0, y1, y2, y3, y4, y5, y6, y7, y8, y9, y10⟩ := hkb.cells
  clear hb0 hW hkb hR
  go_enter Tryd.func6, Tryd.ntmps6
  go_upto_region 1 with fail
  rw [← HW.out]
  go_wp2_with fail
  refine (specClauseOk_any (HR.out _ H0.out) (by omega)).mono ?_
  rintro e w1 ⟨rfl, hb1⟩
  obtain ⟨v, hv⟩ : ∃ v, v = clauseB k f r u xp xn yp yn xs a b := ⟨_, rfl⟩
  rw [← hv]
  have HV : Hid (clauseB k f r u xp xn yp yn xs a b = v) := hv.symm
  have H1 : Hid (Below W.heap.size W w1) := hb1
  have s1 := hb1.size
  clear hb1 hv y0 y1 y2 y3 y4 y5 y6 y7 y8 y9 y10
  obtain ⟨y0, y1, y2, y3, y4, y5, y6, y7, y8, y9, y10⟩ := (HK.out _ H1.out).cells
  cases v with
  | false =>
    have HE : Hid (isTaut k f r u xp xn yp yn a b xs = false) := by unfold Hid isTaut; rw [HV.out]; rfl
    go_wp2_with fail
    go_ret
    exact ⟨rb HE.out.symm, HB0.out.trans (H1.out.mono hs0)⟩
  | true =>
    have HE : Hid (isTaut k f r u xp xn yp yn a b xs = tautB k r u xp xn yp yn xs) := by unfold Hid isTaut; rw [HV.out]; rfl
    go_wp2_with fail
    refine (l5taut_any (HR.out _ H1.out) (by omega)).mono ?_
    rintro e w2 ⟨rfl, hb2⟩
    rw [← HE.out]
    obtain ⟨v2, hv2⟩ : ∃ v, v = isTaut k f r u xp xn yp yn a b xs := ⟨_, rfl⟩
    rw [← hv2]
    have H2 : Hid (Below W.heap.size W w2) := H1.out.trans (hb2.mono H1.out.size)
    have HV2 : Hid (v2 = isTaut k f r u xp xn yp yn a b xs) := hv2
    clear hb2 hv2
    go_wp2_with fail
    go_ret
    exact ⟨rb HV2.out, HB0.out.trans (H2.out.mono hs0)⟩

end Go.Proofs.YtcaljggnihinaaaDoor
