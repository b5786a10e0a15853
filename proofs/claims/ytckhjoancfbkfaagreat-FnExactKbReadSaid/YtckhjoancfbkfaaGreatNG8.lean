/- Several texts in one: ConSpec2, ConSayG. -/
import Derived.Test.YtckhjoancfbkfaaGreatNG6
import Derived.Maps.AppendAt
import Derived.Deep.AppendLies
import Derived.Deep.RegionLaw
import Derived.Deep.DeepCutAuto
namespace Go.Proofs.YtckhjoancfbkfaaGreat

section
open Go.RowKit

theorem upOk_nil_of {zs : List Int} (h : zs.length = 0) : upOk zs = false := by simp [upOk, longB, h]
theorem lowOk_nil_of {zs : List Int} (h : zs.length = 0) : lowOk zs = false := by simp [lowOk, longB, h]

set_option maxRecDepth 100000 in
set_option maxHeartbeats 4000000 in
theorem l2ok_good {d : Nat} (H : OkC d) {v : Value} {c : CN} {deep : Nat} {left : Int} {w : World} {lo hi : Nat} (h : RdC lo hi w (d + 1) v c) (hhi : hi ≤ w.heap.size) (hdp : deep ≤ 6) (h0 : 1 ≤ left) (h16 : left ≤ 16)
    (hk0 : 0 ≤ c.kind) (hk7 : c.kind ≤ 7) (hkid : ((c.kids.length : Nat) : Int) = kidS c.kind) :
    Calls Tryz.prog 60 #[v, .int .i64 deep, .int .i64 left] w fun e w' => e = .returned (.int .i64 (leftOf left (parts c deep))) ∧ Below w.heap.size w w' := by
  obtain ⟨na, nn, nc, ra, rn, rc, ka, kn, kc, rfl, hn, hr, hk⟩ := h
  have hkl := hk.len
  have hnl := hn.len
  have hrl := hr.len
  have hkf := hk.fits
  have hnf := hn.fits
  have hrf := hr.fits
  have hkN : ((c.kids.length : Nat) : Int) = kidN c.kind := by rw [hkid, kidS_kidN hk0 hk7]
  have HBad : Hid (nameFit c = false ∨ roleFit c = false → leftOf left (parts c deep) = -1) := fun h => leftOf_bad c deep left (.inr (.inr (by unfold shapeB; rcases h with h | h <;> simp [h])))
  have HGood : Hid (nameFit c = true → roleFit c = true → leftOf left (parts c deep) = leftOf (left - 1) (partsL c.kids (deep + 1))) := fun a b => leftOf_good c deep left (by omega) hdp (by unfold shapeB; rw [a, b, hkN]; simp)
  have HNF : Hid (nameFit c = if c.kind = 2 then (upOk c.name && !keptB (strOfNums c.name).toList) else decide (c.name.length = 0)) := rfl
  have HRF : Hid (roleFit c = if roleB c.kind = true then lowOk c.role else decide (c.role.length = 0)) := rfl
  obtain ⟨k, hkd⟩ : ∃ k, k = c.kind := ⟨_, rfl⟩
  rw [← hkd] at hk0 hk7 hkid HNF HRF ⊢
  rw [hkl] at hkid
  have HKL : Hid (c.kids.length = kn) := hkl
  have hb0 : Below w.heap.size w (w.alloc (.cells #[.int .i64 k, .slice na nn nc, .slice ra rn rc, .slice ka kn kc] 37)) := (Below.refl _ _).alloc (Nat.le_refl _) _
  have HB0 : Hid (Below w.heap.size w (w.alloc (.cells #[.int .i64 k, .slice na nn nc, .slice ra rn rc, .slice ka kn kc] 37))) := hb0
  have HBx0 : Hid (BoxC (w.alloc (.cells #[.int .i64 k, .slice na nn nc, .slice ra rn rc, .slice ka kn kc] 37)) w.heap.size (.int .i64 k) (.slice na nn nc) (.slice ra rn rc) (.slice ka kn kc)) := BoxC.new w _ _ _ _
  have HN : Hid (Rd lo hi w na nn nc c.name) := hn
  have HR : Hid (Rd lo hi w ra rn rc c.role) := hr
  have HK : Hid (RdL (RdC lo hi w d) lo hi w ka kn kc c.kids) := hk
  have hdi : (deep : Int) ≤ 6 := by omega
  have d1 : decide (left - 1 < 0) = false := by simp; omega
  have d2 : decide ((6 : Int) < (deep : Int)) = false := by simp; omega
  have d3 : decide (k < 0) = false := by simp; omega
  have d4 : decide (7 < k) = false := by simp; omega
  have b5 : ((kn : Int) != kidS k) = false := by simp; omega
  clear hn hr hk hkd hkl hb0
  rw [hnl] at HNF
  rw [hrl] at HRF
  clear hnl hrl
  go_enter Tryz.func60, Tryz.ntmps60
  go_wp2_with fail
  go_quiet (first | (go_at_call 105; exact Calls.quiet_of_same (l2kids_any _ _)))
  obtain ⟨W1, hW1⟩ : ∃ W1, W1 = (w.alloc (.cells #[.int .i64 k, .slice na nn nc, .slice ra rn rc, .slice ka kn kc] 37)).drewN nq := ⟨_, rfl⟩
  rw [← hW1]
  have HB1 : Hid (Below w.heap.size w W1) := by unfold Hid; rw [hW1]; exact below_drewN HB0.out nq
  have HBox : Hid (BoxC W1 w.heap.size (.int .i64 k) (.slice na nn nc) (.slice ra rn rc) (.slice ka kn kc)) := by unfold Hid; rw [hW1]; exact HBx0.out
  clear hW1 HB0 HBx0 d1 d2 d3 d4 b5
  obtain ⟨c0, c1, c2, c3⟩ := HBox.out.cells
  by_cases k2 : k = 2
  · subst k2
    have hkn : kn = 0 := by simp [kidS] at hkid; omega
    subst hkn
    rw [if_pos rfl] at HNF
    have HRF0 : Hid (roleFit c = decide (rn = 0)) := by unfold Hid; rw [HRF.out]; simp [roleB]
    clear HRF
    by_cases n0 : nn = 0
    · subst n0
      have HX : Hid (nameFit c = false) := by unfold Hid; rw [HNF.out, upOk_nil_of HN.out.len]; rfl
      go_wp2_with fail
      go_ret
      exact ⟨ri (HBad.out (.inl HX.out)).symm, HB1.out⟩
    · have hn1 : (0 : Int) < (nn : Int) := by omega
      have HN1 : Hid (Rd lo hi W1 na nn nc c.name) := HN.out.below HB1.out hhi
      cases hU : upOk c.name
      · have HX : Hid (nameFit c = false) := by unfold Hid; rw [HNF.out, hU]; rfl
        go_wp2_with (first | (go_at_call 100; refine (specUpperOk_any na nn nc c.name _ HN1.out).mono ?_; rintro e w' ⟨rfl, hw⟩; rw [hw, hU]; clear hw))
        go_ret
        exact ⟨ri (HBad.out (.inl HX.out)).symm, HB1.out⟩
      · cases hKp : keptB (strOfNums c.name).toList
        · have HX : Hid (nameFit c = true) := by unfold Hid; rw [HNF.out, hU, hKp]; rfl
          by_cases r0 : rn = 0
          · subst r0
            have HG : Hid (leftOf left (parts c deep) = left - 1) := by
              unfold Hid; rw [HGood.out HX.out (by rw [HRF0.out]; rfl), List.eq_nil_of_length_eq_zero HKL.out, partsL, leftOf_nil _ (by omega)]
            go_wp2_with (first | (go_at_call 100; refine (specUpperOk_any na nn nc c.name _ HN1.out).mono ?_; rintro e w' ⟨rfl, hw⟩; rw [hw, hU]; clear hw) | (go_at_call 106; refine (specKept_any na nn nc c.name _ HN1.out (Nat.le_trans hhi HB1.out.size)).mono ?_; rintro e W2 ⟨rfl, hb2⟩; rw [hKp]; have HBox2 : Hid (BoxC W2 w.heap.size (.int .i64 2) (.slice na nn nc) (.slice ra 0 rc) (.slice ka 0 kc)) := HBox.out.below hb2 HBox.out.lt; have HB2 : Hid (Below w.heap.size w W2) := HB1.out.trans (hb2.mono HB1.out.size); clear hb2 c0 c1 c2 c3; obtain ⟨c0, c1, c2, c3⟩ := HBox2.out.cells))
            refine wp_loop_rounds 1 ?_
            rw [rounds_succ]
            go_wp2_with fail
            go_ret
            exact ⟨ri HG.out.symm, HB2.out⟩
          · have hr1 : (0 : Int) < (rn : Int) := by omega
            have HY : Hid (roleFit c = false) := by unfold Hid; rw [HRF0.out]; simpa using r0
            go_wp2_with (first | (go_at_call 100; refine (specUpperOk_any na nn nc c.name _ HN1.out).mono ?_; rintro e w' ⟨rfl, hw⟩; rw [hw, hU]; clear hw) | (go_at_call 106; refine (specKept_any na nn nc c.name _ HN1.out (Nat.le_trans hhi HB1.out.size)).mono ?_; rintro e W2 ⟨rfl, hb2⟩; rw [hKp]; have HBox2 : Hid (BoxC W2 w.heap.size (.int .i64 2) (.slice na nn nc) (.slice ra rn rc) (.slice ka 0 kc)) := HBox.out.below hb2 HBox.out.lt; have HB2 : Hid (Below w.heap.size w W2) := HB1.out.trans (hb2.mono HB1.out.size); clear hb2 c0 c1 c2 c3; obtain ⟨c0, c1, c2, c3⟩ := HBox2.out.cells))
            go_ret
            exact ⟨ri (HBad.out (.inr HY.out)).symm, HB2.out⟩
        · have HX : Hid (nameFit c = false) := by unfold Hid; rw [HNF.out, hU, hKp]; rfl
          go_wp2_with (first | (go_at_call 100; refine (specUpperOk_any na nn nc c.name _ HN1.out).mono ?_; rintro e w' ⟨rfl, hw⟩; rw [hw, hU]; clear hw) | (go_at_call 106; refine (specKept_any na nn nc c.name _ HN1.out (Nat.le_trans hhi HB1.out.size)).mono ?_; rintro e W2 ⟨rfl, hb2⟩; rw [hKp]; have HB2 : Hid (Below w.heap.size w W2) := HB1.out.trans (hb2.mono HB1.out.size); clear hb2))
          go_ret
          exact ⟨ri (HBad.out (.inl HX.out)).symm, HB2.out⟩
  · rw [if_neg k2] at HNF
    have hk2 : (k == 2) = false := by simpa using k2
    by_cases n0 : nn = 0
    · subst n0
      have HX : Hid (nameFit c = true) := by unfold Hid; rw [HNF.out]; rfl
      have HR1 : Hid (Rd lo hi W1 ra rn rc c.role) := HR.out.below HB1.out hhi
      by_cases m : k = 6 ∨ k = 7
      · rw [if_pos (show roleB k = true from by unfold roleB; simp; exact m)] at HRF
        have hm : (k == 6) = true ∨ ((k == 6) = false ∧ (k == 7) = true) := by
          rcases m with h | h
          · exact .inl (by simp [h])
          · exact .inr ⟨by simp [h], by simp [h]⟩
        rcases hm with hm | ⟨hm, hm'⟩
        · by_cases r0 : rn = 0
          · subst r0
            have HY : Hid (roleFit c = false) := by unfold Hid; rw [HRF.out, lowOk_nil_of HR.out.len]
            go_wp2_with fail
            go_ret
            exact ⟨ri (HBad.out (.inr HY.out)).symm, HB1.out⟩
          · have hr1 : (0 : Int) < (rn : Int) := by omega
            cases hLw : lowOk c.role
            · have HY : Hid (roleFit c = false) := by unfold Hid; rw [HRF.out, hLw]
              go_wp2_with (first | (go_at_call 73; refine (specLowerOk_any ra rn rc c.role _ HR1.out).mono ?_; rintro e w' ⟨rfl, hw⟩; rw [hw, hLw]; clear hw))
              go_ret
              exact ⟨ri (HBad.out (.inr HY.out)).symm, HB1.out⟩
            · have HG : Hid (leftOf left (parts c deep) = leftOf (left - 1) (partsL c.kids (deep + 1))) := HGood.out HX.out (by rw [HRF.out, hLw])
              go_wp2_with (first | (go_at_call 73; refine (specLowerOk_any ra rn rc c.role _ HR1.out).mono ?_; rintro e w' ⟨rfl, hw⟩; rw [hw, hLw]; clear hw))
              go_loopw [2, 8] (fun l i wr => ∃ (j : Nat) (L : Int), j ≤ kn ∧ i = .int .i64 j ∧ l = .int .i64 L ∧ 0 ≤ L ∧ L ≤ 16 ∧ leftOf (left - 1) (partsL (c.kids.take j) (deep + 1)) = L ∧ Below w.heap.size w wr ∧ BoxC wr w.heap.size (.int .i64 k) (.slice na 0 nc) (.slice ra rn rc) (.slice ka kn kc)) (fun _ i _ => kn - (intOf i).toNat)
              case atStart => exact ⟨0, left - 1, Nat.zero_le _, rfl, rfl, by omega, by omega, by simp [partsL, leftOf_nil _ (show 0 ≤ left - 1 by omega)], HB1.out, HBox.out⟩
              case round =>
                obtain ⟨j, L, hj, rfl, rfl, hL0, hL1, hLe, hbel, hbox⟩ := hrel
                obtain ⟨q0, q1, q2, q3⟩ := hbox.cells
                have HB2 : Hid (Below w.heap.size w wr) := hbel
                have HLe : Hid (leftOf (left - 1) (partsL (c.kids.take j) (deep + 1)) = L) := hLe
                have HBox2 : Hid (BoxC wr w.heap.size (.int .i64 k) (.slice na 0 nc) (.slice ra rn rc) (.slice ka kn kc)) := hbox
                clear hLe
                by_cases hlt : j < kn
                · have hR := HK.out.same (Same.of_below hbel hhi)
                  rcases hR.cells with hz | ⟨b, off, e1, _, _, hc⟩
                  · omega
                  · subst e1
                    obtain ⟨v0, v1, v2, v3, c0, c1, c2, c3, hr⟩ := hc j hlt
                    have HKid : Hid (RdC lo hi wr d (.agg #[v0, v1, v2, v3]) (c.kids.getD j CN.zero)) := hr
                    have hji : (j : Int) < (kn : Int) := by omega
                    obtain ⟨r, hrr⟩ : ∃ r, r = leftOf L (parts (c.kids.getD j CN.zero) (deep + 1)) := ⟨_, rfl⟩
                    have HRR : Hid (r = leftOf L (parts (c.kids.getD j CN.zero) (deep + 1))) := hrr
                    have HST : Hid (leftOf (left - 1) (partsL (c.kids.take (j + 1)) (deep + 1)) = r) := by
                      unfold Hid; rw [partsL_take_succ _ _ _ (by rw [HKL.out]; exact hlt), leftOf_append, HLe.out, if_neg (by omega), hrr]
                    have hrL : r ≤ L := by rw [hrr]; exact leftOf_le hL0 _
                    clear hR hc hr hbel hbox hrr
                    go_wp2_with fail
                    refine (H (.agg #[v0, v1, v2, v3]) (c.kids.getD j CN.zero) (deep + 1) L wr lo hi HKid.out (Nat.le_trans hhi HB2.out.size) (by omega) hL0 hL1).mono ?_
                    rintro e w' ⟨rfl, hb'⟩
                    have HB3 : Hid (Below w.heap.size w w') := HB2.out.trans (hb'.mono HB2.out.size)
                    have HBox3 : Hid (BoxC w' w.heap.size (.int .i64 k) (.slice na 0 nc) (.slice ra rn rc) (.slice (some ⟨b, off, none⟩) kn kc)) := HBox2.out.below hb' HBox2.out.lt
                    rw [← HRR.out]
                    clear hb'
                    by_cases hneg : r < 0
                    · have HE : Hid (leftOf left (parts c deep) = -1) := by
                        unfold Hid; rw [HG.out, partsL_take_drop _ (j + 1), leftOf_append, HST.out, if_pos hneg]
                      go_wp2_with fail
                      go_ret
                      exact ⟨ri HE.out.symm, HB3.out⟩
                    · go_wp2_with fail
                      go_roundw
                      case rel => exact ⟨j + 1, r, by omega, by go_num, rfl, by omega, by omega, HST.out, HB3.out, HBox3.out⟩
                      case measure => simp [intOf]; omega
                · have HE : Hid (L = leftOf left (parts c deep)) := by
                    unfold Hid; rw [HG.out, ← HLe.out, List.take_of_length_le (by rw [HKL.out]; omega)]
                  clear hbel hbox
                  go_wp2_with fail
                  go_ret
                  exact ⟨ri HE.out, HB2.out⟩
        · by_cases r0 : rn = 0
          · subst r0
            have HY : Hid (roleFit c = false) := by unfold Hid; rw [HRF.out, lowOk_nil_of HR.out.len]
            go_wp2_with fail
            go_ret
            exact ⟨ri (HBad.out (.inr HY.out)).symm, HB1.out⟩
          · have hr1 : (0 : Int) < (rn : Int) := by omega
            cases hLw : lowOk c.role
            · have HY : Hid (roleFit c = false) := by unfold Hid; rw [HRF.out, hLw]
              go_wp2_with (first | (go_at_call 73; refine (specLowerOk_any ra rn rc c.role _ HR1.out).mono ?_; rintro e w' ⟨rfl, hw⟩; rw [hw, hLw]; clear hw))
              go_ret
              exact ⟨ri (HBad.out (.inr HY.out)).symm, HB1.out⟩
            · have HG : Hid (leftOf left (parts c deep) = leftOf (left - 1) (partsL c.kids (deep + 1))) := HGood.out HX.out (by rw [HRF.out, hLw])
              go_wp2_with (first | (go_at_call 73; refine (specLowerOk_any ra rn rc c.role _ HR1.out).mono ?_; rintro e w' ⟨rfl, hw⟩; rw [hw, hLw]; clear hw))
              go_loopw [2, 8] (fun l i wr => ∃ (j : Nat) (L : Int), j ≤ kn ∧ i = .int .i64 j ∧ l = .int .i64 L ∧ 0 ≤ L ∧ L ≤ 16 ∧ leftOf (left - 1) (partsL (c.kids.take j) (deep + 1)) = L ∧ Below w.heap.size w wr ∧ BoxC wr w.heap.size (.int .i64 k) (.slice na 0 nc) (.slice ra rn rc) (.slice ka kn kc)) (fun _ i _ => kn - (intOf i).toNat)
              case atStart => exact ⟨0, left - 1, Nat.zero_le _, rfl, rfl, by omega, by omega, by simp [partsL, leftOf_nil _ (show 0 ≤ left - 1 by omega)], HB1.out, HBox.out⟩
              case round =>
                obtain ⟨j, L, hj, rfl, rfl, hL0, hL1, hLe, hbel, hbox⟩ := hrel
                obtain ⟨q0, q1, q2, q3⟩ := hbox.cells
                have HB2 : Hid (Below w.heap.size w wr) := hbel
                have HLe : Hid (leftOf (left - 1) (partsL (c.kids.take j) (deep + 1)) = L) := hLe
                have HBox2 : Hid (BoxC wr w.heap.size (.int .i64 k) (.slice na 0 nc) (.slice ra rn rc) (.slice ka kn kc)) := hbox
                clear hLe
                by_cases hlt : j < kn
                · have hR := HK.out.same (Same.of_below hbel hhi)
                  rcases hR.cells with hz | ⟨b, off, e1, _, _, hc⟩
                  · omega
                  · subst e1
                    obtain ⟨v0, v1, v2, v3, c0, c1, c2, c3, hr⟩ := hc j hlt
                    have HKid : Hid (RdC lo hi wr d (.agg #[v0, v1, v2, v3]) (c.kids.getD j CN.zero)) := hr
                    have hji : (j : Int) < (kn : Int) := by omega
                    obtain ⟨r, hrr⟩ : ∃ r, r = leftOf L (parts (c.kids.getD j CN.zero) (deep + 1)) := ⟨_, rfl⟩
                    have HRR : Hid (r = leftOf L (parts (c.kids.getD j CN.zero) (deep + 1))) := hrr
                    have HST : Hid (leftOf (left - 1) (partsL (c.kids.take (j + 1)) (deep + 1)) = r) := by
                      unfold Hid; rw [partsL_take_succ _ _ _ (by rw [HKL.out]; exact hlt), leftOf_append, HLe.out, if_neg (by omega), hrr]
                    have hrL : r ≤ L := by rw [hrr]; exact leftOf_le hL0 _
                    clear hR hc hr hbel hbox hrr
                    go_wp2_with fail
                    refine (H (.agg #[v0, v1, v2, v3]) (c.kids.getD j CN.zero) (deep + 1) L wr lo hi HKid.out (Nat.le_trans hhi HB2.out.size) (by omega) hL0 hL1).mono ?_
                    rintro e w' ⟨rfl, hb'⟩
                    have HB3 : Hid (Below w.heap.size w w') := HB2.out.trans (hb'.mono HB2.out.size)
                    have HBox3 : Hid (BoxC w' w.heap.size (.int .i64 k) (.slice na 0 nc) (.slice ra rn rc) (.slice (some ⟨b, off, none⟩) kn kc)) := HBox2.out.below hb' HBox2.out.lt
                    rw [← HRR.out]
                    clear hb'
                    by_cases hneg : r < 0
                    · have HE : Hid (leftOf left (parts c deep) = -1) := by
                        unfold Hid; rw [HG.out, partsL_take_drop _ (j + 1), leftOf_append, HST.out, if_pos hneg]
                      go_wp2_with fail
                      go_ret
                      exact ⟨ri HE.out.symm, HB3.out⟩
                    · go_wp2_with fail
                      go_roundw
                      case rel => exact ⟨j + 1, r, by omega, by go_num, rfl, by omega, by omega, HST.out, HB3.out, HBox3.out⟩
                      case measure => simp [intOf]; omega
                · have HE : Hid (L = leftOf left (parts c deep)) := by
                    unfold Hid; rw [HG.out, ← HLe.out, List.take_of_length_le (by rw [HKL.out]; omega)]
                  clear hbel hbox
                  go_wp2_with fail
                  go_ret
                  exact ⟨ri HE.out, HB2.out⟩
      · rw [if_neg (show ¬ roleB k = true from by unfold roleB; simp; omega)] at HRF
        have m6 : (k == 6) = false := by simp; omega
        have m7 : (k == 7) = false := by simp; omega
        by_cases r0 : rn = 0
        · subst r0
          have HG : Hid (leftOf left (parts c deep) = leftOf (left - 1) (partsL c.kids (deep + 1))) := HGood.out HX.out (by rw [HRF.out]; rfl)
          go_wp2_with fail
          go_loopw [2, 8] (fun l i wr => ∃ (j : Nat) (L : Int), j ≤ kn ∧ i = .int .i64 j ∧ l = .int .i64 L ∧ 0 ≤ L ∧ L ≤ 16 ∧ leftOf (left - 1) (partsL (c.kids.take j) (deep + 1)) = L ∧ Below w.heap.size w wr ∧ BoxC wr w.heap.size (.int .i64 k) (.slice na 0 nc) (.slice ra 0 rc) (.slice ka kn kc)) (fun _ i _ => kn - (intOf i).toNat)
          case atStart => exact ⟨0, left - 1, Nat.zero_le _, rfl, rfl, by omega, by omega, by simp [partsL, leftOf_nil _ (show 0 ≤ left - 1 by omega)], HB1.out, HBox.out⟩
          case round =>
            obtain ⟨j, L, hj, rfl, rfl, hL0, hL1, hLe, hbel, hbox⟩ := hrel
            obtain ⟨q0, q1, q2, q3⟩ := hbox.cells
            have HB2 : Hid (Below w.heap.size w wr) := hbel
            have HLe : Hid (leftOf (left - 1) (partsL (c.kids.take j) (deep + 1)) = L) := hLe
            have HBox2 : Hid (BoxC wr w.heap.size (.int .i64 k) (.slice na 0 nc) (.slice ra 0 rc) (.slice ka kn kc)) := hbox
            clear hLe
            by_cases hlt : j < kn
            · have hR := HK.out.same (Same.of_below hbel hhi)
              rcases hR.cells with hz | ⟨b, off, e1, _, _, hc⟩
              · omega
              · subst e1
                obtain ⟨v0, v1, v2, v3, c0, c1, c2, c3, hr⟩ := hc j hlt
                have HKid : Hid (RdC lo hi wr d (.agg #[v0, v1, v2, v3]) (c.kids.getD j CN.zero)) := hr
                have hji : (j : Int) < (kn : Int) := by omega
                obtain ⟨r, hrr⟩ : ∃ r, r = leftOf L (parts (c.kids.getD j CN.zero) (deep + 1)) := ⟨_, rfl⟩
                have HRR : Hid (r = leftOf L (parts (c.kids.getD j CN.zero) (deep + 1))) := hrr
                have HST : Hid (leftOf (left - 1) (partsL (c.kids.take (j + 1)) (deep + 1)) = r) := by
                  unfold Hid; rw [partsL_take_succ _ _ _ (by rw [HKL.out]; exact hlt), leftOf_append, HLe.out, if_neg (by omega), hrr]
                have hrL : r ≤ L := by rw [hrr]; exact leftOf_le hL0 _
                clear hR hc hr hbel hbox hrr
                go_wp2_with fail
                refine (H (.agg #[v0, v1, v2, v3]) (c.kids.getD j CN.zero) (deep + 1) L wr lo hi HKid.out (Nat.le_trans hhi HB2.out.size) (by omega) hL0 hL1).mono ?_
                rintro e w' ⟨rfl, hb'⟩
                have HB3 : Hid (Below w.heap.size w w') := HB2.out.trans (hb'.mono HB2.out.size)
                have HBox3 : Hid (BoxC w' w.heap.size (.int .i64 k) (.slice na 0 nc) (.slice ra 0 rc) (.slice (some ⟨b, off, none⟩) kn kc)) := HBox2.out.below hb' HBox2.out.lt
                rw [← HRR.out]
                clear hb'
                by_cases hneg : r < 0
                · have HE : Hid (leftOf left (parts c deep) = -1) := by
                    unfold Hid; rw [HG.out, partsL_take_drop _ (j + 1), leftOf_append, HST.out, if_pos hneg]
                  go_wp2_with fail
                  go_ret
                  exact ⟨ri HE.out.symm, HB3.out⟩
                · go_wp2_with fail
                  go_roundw
                  case rel => exact ⟨j + 1, r, by omega, by go_num, rfl, by omega, by omega, HST.out, HB3.out, HBox3.out⟩
                  case measure => simp [intOf]; omega
            · have HE : Hid (L = leftOf left (parts c deep)) := by
                unfold Hid; rw [HG.out, ← HLe.out, List.take_of_length_le (by rw [HKL.out]; omega)]
              clear hbel hbox
              go_wp2_with fail
              go_ret
              exact ⟨ri HE.out, HB2.out⟩
        · have hr1 : (0 : Int) < (rn : Int) := by omega
          have HY : Hid (roleFit c = false) := by unfold Hid; rw [HRF.out]; simpa using r0
          go_wp2_with fail
          go_ret
          exact ⟨ri (HBad.out (.inr HY.out)).symm, HB1.out⟩
    · have hn1 : (0 : Int) < (nn : Int) := by omega
      have HX : Hid (nameFit c = false) := by unfold Hid; rw [HNF.out]; simpa using n0
      go_wp2_with fail
      go_ret
      exact ⟨ri (HBad.out (.inl HX.out)).symm, HB1.out⟩

theorem okC_any : ∀ d, OkC d
  | 0 => fun _ _ _ _ _ _ _ h => h.elim
  | d + 1 => fun v c deep left w lo hi h hhi hdp h0 h16 => by
    by_cases hbad : left = 0 ∨ deep = 7 ∨ c.kind < 0 ∨ 7 < c.kind ∨ ((c.kids.length : Nat) : Int) ≠ kidS c.kind
    · exact l2ok_bad h hdp h0 h16 hbad
    · exact l2ok_good (okC_any d) h hhi (by omega) (by omega) h16 (by omega) (by omega) (by omega)

set_option maxHeartbeats 400000 in
theorem specConOk_any {d : Nat} {v : Value} {c : CN} {w : World} {lo hi : Nat} (h : RdC lo hi w d v c) (hhi : hi ≤ w.heap.size) :
    Calls Tryz.prog 23 #[v] w fun e w' => e = .returned (.bool (conOk c)) ∧ Below w.heap.size w w' := by
  cases d with
  | zero => exact h.elim
  | succ d =>
    have HRd : Hid (RdC lo hi w (d + 1) v c) := h
    obtain ⟨na, nn, nc, ra, rn, rc, ka, kn, kc, rfl, _, _, _⟩ := h
    have hb0 : Below w.heap.size w (w.alloc (.cells #[.int .i64 c.kind, .slice na nn nc, .slice ra rn rc, .slice ka kn kc] 37)) := (Below.refl _ _).alloc (Nat.le_refl _) _
    have HB0 : Hid (Below w.heap.size w (w.alloc (.cells #[.int .i64 c.kind, .slice na nn nc, .slice ra rn rc, .slice ka kn kc] 37))) := hb0
    have HR0 : Hid (RdC lo hi (w.alloc (.cells #[.int .i64 c.kind, .slice na nn nc, .slice ra rn rc, .slice ka kn kc] 37)) (d + 1) (.agg #[.int .i64 c.kind, .slice na nn nc, .slice ra rn rc, .slice ka kn kc]) c) := HRd.out.below hb0 hhi
    obtain ⟨r, hr⟩ : ∃ r, r = leftOf 16 (parts c 1) := ⟨_, rfl⟩
    have HRr : Hid (r = leftOf 16 (parts c 1)) := hr
    have HC : Hid (conOk c = decide (0 ≤ r)) := by unfold Hid; rw [conOk_left, hr]
    clear hb0 hr
    go_enter Tryz.func23, Tryz.ntmps23
    go_wp2_with fail
    refine (okC_any (d + 1) _ c 1 16 _ lo hi HR0.out (Nat.le_trans hhi HB0.out.size) (by omega) (by omega) (by omega)).mono ?_
    rintro e w' ⟨rfl, hb'⟩
    rw [← HRr.out]
    have HB1 : Hid (Below w.heap.size w w') := HB0.out.trans (hb'.mono HB0.out.size)
    clear hb'
    go_wp2_with fail
    go_ret
    exact ⟨rb HC.out.symm, HB1.out⟩
end

section
open Go.RowKit

structure Keep6 (base : Nat) (w : World) (v : Value) (w' : World) (v' : Value) : Prop where
  k5 : Keep5 base w w'
  gr : ∀ b, b < w.heap.size → v.ownBlock ≠ some b → w'.heap[b]? = w.heap[b]?
  at' : v'.ownBlock = v.ownBlock ∨ ∃ g, v'.ownBlock = some g ∧ w.heap.size ≤ g

theorem Keep6.trans {base : Nat} {a b c : World} {u v z : Value} (h : Keep6 base a u b v) (k : Keep6 base b v c z) : Keep6 base a u c z := by
  have hs := h.k5.1.size
  refine ⟨h.k5.trans k.k5, fun x hx hne => (k.gr x (by omega) (fun e => ?_)).trans (h.gr x hx hne), ?_⟩
  · rcases h.at' with q | ⟨g, q, hg⟩
    · rw [q] at e; exact hne e
    · rw [q] at e; cases e; omega
  · rcases k.at' with q | ⟨g, q, hg⟩
    · rcases h.at' with r | ⟨g, r, hg⟩
      · exact .inl (q.trans r)
      · exact .inr ⟨g, q.trans r, hg⟩
    · exact .inr ⟨g, q, by omega⟩
theorem Keep6.of_below {base : Nat} {w w' : World} {v : Value} (h : Below w.heap.size w w') (hb : base ≤ w.heap.size) : Keep6 base w v w' v := ⟨Keep5.of_below h hb, fun b hb' _ => h.block b hb', .inl rfl⟩
theorem Keep6.refl (base : Nat) (w : World) (v : Value) : Keep6 base w v w v := ⟨Keep5.refl _ _, fun _ _ _ => rfl, .inl rfl⟩
theorem Keep6.drew {base : Nat} {w w' : World} {v v' : Value} (h : Keep6 base w v w' v') : Keep6 base w v w'.drew v' := ⟨h.k5.drew, h.gr, h.at'⟩
end

end Go.Proofs.YtckhjoancfbkfaaGreat
