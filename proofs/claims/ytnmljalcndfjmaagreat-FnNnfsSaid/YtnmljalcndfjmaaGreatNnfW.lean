/- The law of Not ahead of names: what it asks holds at every list of bytes. -/
import Derived.Test.YtnmljalcndfjmaaGreatDrawExt
import Derived.Test.YtnmljalcndfjmaaGreatNG25
import Derived.Test.YtnmljalcndfjmaaGreatNG18
import Derived.Test.YtnmljalcndfjmaaGreatSimpleA
import Derived.Test.YtnmljalcndfjmaaGreatNG9
import Derived.Test.YtnmljalcndfjmaaGreatNG26
import Derived.Test.YtnmljalcndfjmaaGreatLawWords
import Derived.Deep.RegionHeld3
namespace Go.Proofs.YtnmljalcndfjmaaGreat
open Go.RowKit

set_option maxRecDepth 100000 in
set_option maxHeartbeats 8000000 in
theorem nnfWalk {a : Option Addr} {n cap : Nat} {zs : List Int} {w : World} (h : Rd 0 w.heap.size w a n cap zs) :
    Calls Tryz.prog 3 #[.slice a n cap] w fun e w' => e = .returned (.bool true) ∧ Below w.heap.size w w' := by
  have HR0 : Hid (Rd 0 w.heap.size w a n cap zs) := h
  clear h
  go_enter Tryz.func3, Tryz.ntmps3
  go_wp2_with fail
  refine (drawExt_any HR0.out).mono ?_
  rintro e w1 hD
  obtain ⟨nx, a1, n1, c1, a2, n2, c2, a3, n3, c3, a4, n4, c4, a5, n5, c5, a6, n6, c6, x, v, c, rfl, hn, hx, hrw, hrc, hbk, hb1⟩ := hD
  obtain ⟨k, na, nn, nc, ra, rn, rc, ka, kn, kc, rfl⟩ := RdC.shape hrc
  have HN : Hid ((-1 ≤ nx ∧ nx ≤ 129) ∧ x.n = nx) := ⟨hn, hx⟩
  have HB1 : Hid (Below w.heap.size w w1) := hb1
  have HW1 : Hid (RdW 0 w1.heap.size w1 a1 n1 c1 a2 n2 c2 a3 n3 c3 a4 n4 c4 a5 n5 c5 a6 n6 c6 x) := hrw.mono (Nat.zero_le _) (Nat.le_refl _)
  have HC1 : Hid (RdC 0 w1.heap.size w1 20 (.agg #[.int .i64 k, .slice na nn nc, .slice ra rn rc, .slice ka kn kc]) c) := RdC.mono (Nat.zero_le _) (Nat.le_refl _) hrc
  have HBk1 : Hid (c.bulk ≤ 1048576) := Nat.le_trans hbk (by omega)
  clear hn hx hrw hrc hb1 hbk
  go_upto_region 2 with fail
  refine Code.wp_name (fun W2 hW2 => ?_)
  obtain ⟨p, hp⟩ : ∃ p, p = w1.heap.size := ⟨_, rfl⟩
  obtain ⟨q, hq⟩ : ∃ q, q = w1.heap.size + 1 := ⟨_, rfl⟩
  have hb12 : Below w1.heap.size w1 W2 := by rw [hW2]; exact ((Below.refl _ _).alloc (Nat.le_refl _) _).alloc (by simp) _
  have HB2 : Hid (Below w.heap.size w W2) := HB1.out.trans (hb12.mono HB1.out.size)
  have hX2 : BoxW 27 W2 p nx (.slice a1 n1 c1) (.slice a2 n2 c2) (.slice a3 n3 c3) (.slice a4 n4 c4) (.slice a5 n5 c5) (.slice a6 n6 c6) := by rw [hW2, hp]; exact (allocOld (by simp)).trans (BoxW.new _ w1 _ _ _ _ _ _ _)
  have hY2 : BoxC W2 q (.int .i64 k) (.slice na nn nc) (.slice ra rn rc) (.slice ka kn kc) := by
    rw [hW2, hq]
    have := BoxC.new (w1.alloc (.cells #[.int .i64 nx, .slice a1 n1 c1, .slice a2 n2 c2, .slice a3 n3 c3, .slice a4 n4 c4, .slice a5 n5 c5, .slice a6 n6 c6] 27)) (.int .i64 k) (.slice na nn nc) (.slice ra rn rc) (.slice ka kn kc)
    rwa [show (w1.alloc (.cells #[.int .i64 nx, .slice a1 n1 c1, .slice a2 n2 c2, .slice a3 n3 c3, .slice a4 n4 c4, .slice a5 n5 c5, .slice a6 n6 c6] 27)).heap.size = w1.heap.size + 1 from by simp] at this
  have hs1 : w1.heap.size ≤ W2.heap.size := hb12.size
  have HXs : Hid (∀ V, Below W2.heap.size W2 V → BoxW 27 V p nx (.slice a1 n1 c1) (.slice a2 n2 c2) (.slice a3 n3 c3) (.slice a4 n4 c4) (.slice a5 n5 c5) (.slice a6 n6 c6)) := fun V hV => hX2.below hV hX2.lt
  have HYs : Hid (∀ V, Below W2.heap.size W2 V → BoxC V q (.int .i64 k) (.slice na nn nc) (.slice ra rn rc) (.slice ka kn kc)) := fun V hV => BoxC.below hY2 hV (BoxC.lt hY2)
  have HWs : Hid (∀ V, Below W2.heap.size W2 V → RdW 0 w1.heap.size V a1 n1 c1 a2 n2 c2 a3 n3 c3 a4 n4 c4 a5 n5 c5 a6 n6 c6 x) := fun V hV => (HW1.out.below hb12 (Nat.le_refl _)).below hV hs1
  have HCs : Hid (∀ V, Below W2.heap.size W2 V → RdC 0 w1.heap.size V 20 (.agg #[.int .i64 k, .slice na nn nc, .slice ra rn rc, .slice ka kn kc]) c) := fun V hV => RdC.below (RdC.below HC1.out hb12 (Nat.le_refl _)) hV hs1
  rw [← hq, ← hp]
  clear hW2 hp hq hX2 hY2 hb12 HW1 HC1
  have H2 : Hid (Below W2.heap.size W2 W2) := Below.refl _ _
  obtain ⟨ok, hok⟩ : ∃ z, z = conOk c := ⟨_, rfl⟩
  have HOk : Hid (ok = conOk c) := hok
  clear hok
  obtain ⟨y0, y1, y2, y3⟩ := (HYs.out W2 H2.out).cells
  go_wp2_with fail
  refine (implNnf_any (HCs.out W2 H2.out) (Nat.le_trans hs1 H2.out.size) HBk1.out).mono ?_
  rintro e w3 ⟨vN, LN, rfl, hO, hb⟩
  have hr0 := OwnC.rd hO
  obtain ⟨kN, naN, nnN, ncN, raN, rnN, rcN, kaN, knN, kcN, rfl⟩ := RdC.shape hr0
  have hr1 : RdC 0 w3.heap.size w3 21 (.agg #[.int .i64 kN, .slice naN nnN ncN, .slice raN rnN rcN, .slice kaN knN kcN]) (ansC false c) := RdC.mono (Nat.zero_le _) (Nat.le_refl _) hr0
  have Hw3 : Hid (Below W2.heap.size W2 w3) := H2.out.trans (hb.mono H2.out.size)
  rw [← HOk.out]
  clear hO hb hr0 y0 y1 y2 y3
  go_upto_region 3 with fail
  refine Code.wp_name (fun W4 hw => ?_)
  have hb : Below w3.heap.size w3 W4 := by rw [hw]; exact (Below.refl _ _).alloc (Nat.le_refl _) _
  have H4 : Hid (Below W2.heap.size W2 W4) := Hw3.out.trans (hb.mono Hw3.out.size)
  obtain ⟨pn, hp⟩ : ∃ g, g = w3.heap.size := ⟨_, rfl⟩
  have hX : BoxC W4 pn (.int .i64 kN) (.slice naN nnN ncN) (.slice raN rnN rcN) (.slice kaN knN kcN) := by rw [hw, hp]; exact BoxC.new w3 _ _ _ _
  have HYN : Hid (∀ V, Below W4.heap.size W4 V → BoxC V pn (.int .i64 kN) (.slice naN nnN ncN) (.slice raN rnN rcN) (.slice kaN knN kcN)) := fun V hV => BoxC.below hX hV (BoxC.lt hX)
  have HRN : Hid (∀ V, Below W4.heap.size W4 V → RdC 0 w3.heap.size V 21 (.agg #[.int .i64 kN, .slice naN nnN ncN, .slice raN rnN rcN, .slice kaN knN kcN]) (ansC false c)) := fun V hV => RdC.below (RdC.below hr1 hb (Nat.le_refl _)) hV hb.size
  have hsN : w3.heap.size ≤ W4.heap.size := hb.size
  rw [← hp]
  clear hw hb hp hX hr1
  obtain ⟨y0, y1, y2, y3⟩ := (HYs.out W4 H4.out).cells
  go_wp2_with fail
  refine (implOpposite_any (HCs.out W4 H4.out) (Nat.le_trans hs1 H4.out.size) HBk1.out).mono ?_
  rintro e w5 ⟨vO, LO, rfl, hO, hb⟩
  have hr0 := OwnC.rd hO
  obtain ⟨kO, naO, nnO, ncO, raO, rnO, rcO, kaO, knO, kcO, rfl⟩ := RdC.shape hr0
  have hr1 : RdC 0 w5.heap.size w5 21 (.agg #[.int .i64 kO, .slice naO nnO ncO, .slice raO rnO rcO, .slice kaO knO kcO]) (ansC true c) := RdC.mono (Nat.zero_le _) (Nat.le_refl _) hr0
  have H45 : Hid (Below W4.heap.size W4 w5) := hb
  have Hw5 : Hid (Below W2.heap.size W2 w5) := H4.out.trans (hb.mono H4.out.size)
  rw [← HOk.out]
  clear hO hb hr0 y0 y1 y2 y3
  go_upto_region 4 with fail
  refine Code.wp_name (fun W6 hw => ?_)
  have hb : Below w5.heap.size w5 W6 := by rw [hw]; exact (Below.refl _ _).alloc (Nat.le_refl _) _
  have H46a : Hid (Below W4.heap.size W4 W6) := H45.out.trans (hb.mono H45.out.size)
  have H6 : Hid (Below W2.heap.size W2 W6) := Hw5.out.trans (hb.mono Hw5.out.size)
  obtain ⟨po, hp⟩ : ∃ g, g = w5.heap.size := ⟨_, rfl⟩
  have hX : BoxC W6 po (.int .i64 kO) (.slice naO nnO ncO) (.slice raO rnO rcO) (.slice kaO knO kcO) := by rw [hw, hp]; exact BoxC.new w5 _ _ _ _
  have HYO : Hid (∀ V, Below W6.heap.size W6 V → BoxC V po (.int .i64 kO) (.slice naO nnO ncO) (.slice raO rnO rcO) (.slice kaO knO kcO)) := fun V hV => BoxC.below hX hV (BoxC.lt hX)
  have HRO : Hid (∀ V, Below W6.heap.size W6 V → RdC 0 w5.heap.size V 21 (.agg #[.int .i64 kO, .slice naO nnO ncO, .slice raO rnO rcO, .slice kaO knO kcO]) (ansC true c)) := fun V hV => RdC.below (RdC.below hr1 hb (Nat.le_refl _)) hV hb.size
  have hsO : w5.heap.size ≤ W6.heap.size := hb.size
  rw [← hp]
  clear hw hb hp hX hr1
  have HT6 : Hid (∀ V, Below W6.heap.size W6 V → Below W2.heap.size W2 V) := fun V hV => H6.out.trans (hV.mono H6.out.size)
  have H46 : Hid (Below W4.heap.size W4 W6) := H46a.out
  have HT4 : Hid (∀ V, Below W6.heap.size W6 V → Below W4.heap.size W4 V) := fun V hV => H46.out.trans (hV.mono H46.out.size)
  cases ok
  · obtain ⟨y0, y1, y2, y3⟩ := (HYs.out W6 (HT6.out _ (Below.refl _ _))).cells
    go_wp2_with fail
    refine (specConOk_any (HCs.out W6 (HT6.out _ (Below.refl _ _))) (Nat.le_trans hs1 (HT6.out _ (Below.refl _ _)).size)).mono ?_
    rintro r w7 ⟨rfl, hb7⟩
    rw [← HOk.out]
    have Hz : Hid (Below W6.heap.size W6 w7) := hb7
    clear hb7 y0 y1 y2 y3
    go_wp2_with fail
    refine (worlds_any _).mono ?_
    rintro r wa ⟨rfl, hba⟩
    have Ha : Hid (Below W6.heap.size W6 wa) := Hz.out.trans (hba.mono Hz.out.size)
    clear hba
    go_wp2_with fail
    refine (words_any wa).mono ?_
    rintro r wb ⟨rfl, hbb⟩
    have Hb : Hid (Below W6.heap.size W6 wb) := Ha.out.trans (hbb.mono Ha.out.size)
    clear hbb
    go_wp2
    go_ret
    exact ⟨rfl, HB2.out.trans ((HT6.out _ Hb.out).mono HB2.out.size)⟩
  · have HOc : Hid (conOk c = true) := HOk.out.symm
    have HSn : Hid (simpleC (ansC false c) = true ∧ simpleC (ansC true c) = true) := by
      unfold Hid ansC
      rw [if_pos HOc.out, if_pos HOc.out]
      exact ⟨simple_nnf c false (wfC_of_ok HOc.out), simple_nnf c true (wfC_of_ok HOc.out)⟩
    obtain ⟨u0, u1, u2, u3⟩ := (HYN.out W6 (HT4.out _ (Below.refl _ _))).cells
    go_wp2_with fail
    refine (smP_any _ (HRN.out W6 (HT4.out _ (Below.refl _ _))) (Nat.le_trans hsN (HT4.out _ (Below.refl _ _)).size) HSn.out.1).mono ?_
    rintro r w7 ⟨rfl, hb7⟩
    have Hw7 : Hid (Below W6.heap.size W6 w7) := hb7
    clear hb7 u0 u1 u2 u3
    obtain ⟨u0, u1, u2, u3⟩ := (HYO.out w7 Hw7.out).cells
    go_wp2_with fail
    refine (smP_any _ (HRO.out w7 Hw7.out) (Nat.le_trans hsO Hw7.out.size) HSn.out.2).mono ?_
    rintro r w8 ⟨rfl, hb8⟩
    have Hw8 : Hid (Below W6.heap.size W6 w8) := Hw7.out.trans (hb8.mono Hw7.out.size)
    clear hb8 u0 u1 u2 u3
    obtain ⟨x0, x1, x2, x3, x4, x5, x6⟩ := (HXs.out w8 (HT6.out _ Hw8.out)).cells
    go_wp2_with fail
    refine (specWorldOk_any (HWs.out w8 (HT6.out _ Hw8.out)) HN.out.2 (Nat.le_trans hs1 (HT6.out _ Hw8.out).size)).mono ?_
    rintro r wz1 ⟨rfl, hb⟩
    have Hwz1 : Hid (Below W6.heap.size W6 wz1) := Hw8.out.trans (hb.mono Hw8.out.size)
    obtain ⟨bw, hbw⟩ : ∃ z, z = worldB x := ⟨_, rfl⟩
    rw [← hbw]
    have HBw : Hid (bw = worldB x) := hbw
    clear hb hbw x0 x1 x2 x3 x4 x5 x6
    cases bw
    · have Hz : Hid (Below W6.heap.size W6 wz1) := Hwz1.out
      go_wp2_with fail
      refine (worlds_any _).mono ?_
      rintro r wa ⟨rfl, hba⟩
      have Ha : Hid (Below W6.heap.size W6 wa) := Hz.out.trans (hba.mono Hz.out.size)
      clear hba
      go_wp2_with fail
      refine (words_any wa).mono ?_
      rintro r wb ⟨rfl, hbb⟩
      have Hb : Hid (Below W6.heap.size W6 wb) := Ha.out.trans (hbb.mono Ha.out.size)
      clear hbb
      go_wp2
      go_ret
      exact ⟨rfl, HB2.out.trans ((HT6.out _ Hb.out).mono HB2.out.size)⟩
    · have HWb : Hid (worldB x = true) := HBw.out.symm
      obtain ⟨u0, u1, u2, u3⟩ := (HYN.out wz1 (HT4.out _ Hwz1.out)).cells
      go_wp2_with fail
      refine (specConOk_any (HRN.out wz1 (HT4.out _ Hwz1.out)) (Nat.le_trans hsN (HT4.out _ Hwz1.out).size)).mono ?_
      rintro r wz2 ⟨rfl, hb⟩
      have Hwz2 : Hid (Below W6.heap.size W6 wz2) := Hwz1.out.trans (hb.mono Hwz1.out.size)
      obtain ⟨bn, hbn⟩ : ∃ z, z = conOk (ansC false c) := ⟨_, rfl⟩
      rw [← hbn]
      have Hbn : Hid (bn = conOk (ansC false c)) := hbn
      clear hb hbn u0 u1 u2 u3
      cases bn
      · have Hz : Hid (Below W6.heap.size W6 wz2) := Hwz2.out
        go_wp2_with fail
        refine (worlds_any _).mono ?_
        rintro r wa ⟨rfl, hba⟩
        have Ha : Hid (Below W6.heap.size W6 wa) := Hz.out.trans (hba.mono Hz.out.size)
        clear hba
        go_wp2_with fail
        refine (words_any wa).mono ?_
        rintro r wb ⟨rfl, hbb⟩
        have Hb : Hid (Below W6.heap.size W6 wb) := Ha.out.trans (hbb.mono Ha.out.size)
        clear hbb
        go_wp2
        go_ret
        exact ⟨rfl, HB2.out.trans ((HT6.out _ Hb.out).mono HB2.out.size)⟩
      · have HOn : Hid (conOk (ansC false c) = true) := Hbn.out.symm
        obtain ⟨u0, u1, u2, u3⟩ := (HYO.out wz2 (Hwz2.out)).cells
        go_wp2_with fail
        refine (specConOk_any (HRO.out wz2 (Hwz2.out)) (Nat.le_trans hsO (Hwz2.out).size)).mono ?_
        rintro r wz3 ⟨rfl, hb⟩
        have Hwz3 : Hid (Below W6.heap.size W6 wz3) := Hwz2.out.trans (hb.mono Hwz2.out.size)
        obtain ⟨bo, hbn⟩ : ∃ z, z = conOk (ansC true c) := ⟨_, rfl⟩
        rw [← hbn]
        have Hbo : Hid (bo = conOk (ansC true c)) := hbn
        clear hb hbn u0 u1 u2 u3
        cases bo
        · have Hz : Hid (Below W6.heap.size W6 wz3) := Hwz3.out
          go_wp2_with fail
          refine (worlds_any _).mono ?_
          rintro r wa ⟨rfl, hba⟩
          have Ha : Hid (Below W6.heap.size W6 wa) := Hz.out.trans (hba.mono Hz.out.size)
          clear hba
          go_wp2_with fail
          refine (words_any wa).mono ?_
          rintro r wb ⟨rfl, hbb⟩
          have Hb : Hid (Below W6.heap.size W6 wb) := Ha.out.trans (hbb.mono Ha.out.size)
          clear hbb
          go_wp2
          go_ret
          exact ⟨rfl, HB2.out.trans ((HT6.out _ Hb.out).mono HB2.out.size)⟩
        · have HOo : Hid (conOk (ansC true c) = true) := Hbo.out.symm
          have Hz : Hid (Below W6.heap.size W6 wz3) := Hwz3.out

          have hn1 := worldB_n HWb.out
          obtain ⟨N, hNe⟩ : ∃ N : Nat, nx = (N : Int) := ⟨nx.toNat, by have := HN.out.2; omega⟩
          subst hNe
          have HNn : Hid (x.n = (N : Int)) := HN.out.2
          have hN1 : 1 ≤ N ∧ N ≤ 128 := by have := HN.out.2; omega
          clear hn1
          have HAn : Hid (ansC false c = nnfC false c ∧ ansC true c = nnfC true c) := by unfold Hid ansC; rw [if_pos HOc.out, if_pos HOc.out]; exact ⟨rfl, rfl⟩
          go_wp2_with fail
          go_loopw [9] (fun q wr => ∃ e : Nat, e ≤ N ∧ q = .int .i64 e ∧ Below W6.heap.size W6 wr) (fun q _ => N - (intOf q).toNat)
          case atStart => exact ⟨0, Nat.zero_le _, rfl, Hz.out⟩
          case round =>
            obtain ⟨e, he, rfl, hb⟩ := hrel
            obtain ⟨wo, hwo⟩ : ∃ wo : World, wo = wr := ⟨_, rfl⟩
            subst hwo
            have HB : Hid (Below W6.heap.size W6 wo) := hb
            clear hb
            obtain ⟨x0, x1, x2, x3, x4, x5, x6⟩ := (HXs.out wo (HT6.out _ HB.out)).cells
            by_cases hlt : e < N
            · have hei : (e : Int) < (N : Int) := by omega
              have hvn : holdsB x (ansC false c) (e : Int) = holdC x N c e := by
                rw [holdsB_at HWb.out HOn.out HNn.out hlt, HAn.out.1, hold_nnf x N c false e (wfC_of_ok HOc.out), Bool.xor_false]
              have hvo : holdsB x (ansC true c) (e : Int) = !(holdC x N c e) := by
                rw [holdsB_at HWb.out HOo.out HNn.out hlt, HAn.out.2, hold_nnf x N c true e (wfC_of_ok HOc.out), Bool.xor_true]
              have hvc : holdsB x c (e : Int) = holdC x N c e := holdsB_at HWb.out HOc.out HNn.out hlt
              obtain ⟨b, hbd⟩ : ∃ b, b = holdC x N c e := ⟨_, rfl⟩
              rw [← hbd] at hvn hvo hvc
              have HCn : Hid (∀ V, Below W6.heap.size W6 V → Calls Tryz.prog 14 #[.agg #[.int .i64 (N : Int), .slice a1 n1 c1, .slice a2 n2 c2, .slice a3 n3 c3, .slice a4 n4 c4, .slice a5 n5 c5, .slice a6 n6 c6], .agg #[.int .i64 kN, .slice naN nnN ncN, .slice raN rnN rcN, .slice kaN knN kcN], .int .i64 e] V fun r w' => r = .returned (.bool b) ∧ Below V.heap.size V w') := by
                intro V hV
                rw [← hvn]
                exact implHolds_any (HWs.out V (HT6.out _ hV)) (HRN.out V (HT4.out _ hV)) HNn.out (Nat.le_trans hs1 (HT6.out _ hV).size) (Nat.le_trans hsN (HT4.out _ hV).size) (Nat.le_trans (ansC_bulk _ _) (by omega))
              have HCo : Hid (∀ V, Below W6.heap.size W6 V → Calls Tryz.prog 14 #[.agg #[.int .i64 (N : Int), .slice a1 n1 c1, .slice a2 n2 c2, .slice a3 n3 c3, .slice a4 n4 c4, .slice a5 n5 c5, .slice a6 n6 c6], .agg #[.int .i64 kO, .slice naO nnO ncO, .slice raO rnO rcO, .slice kaO knO kcO], .int .i64 e] V fun r w' => r = .returned (.bool (!b)) ∧ Below V.heap.size V w') := by
                intro V hV
                rw [← hvo]
                exact implHolds_any (HWs.out V (HT6.out _ hV)) (HRO.out V hV) HNn.out (Nat.le_trans hs1 (HT6.out _ hV).size) (Nat.le_trans hsO hV.size) (Nat.le_trans (ansC_bulk _ _) (by omega))
              have HCc : Hid (∀ V, Below W6.heap.size W6 V → Calls Tryz.prog 14 #[.agg #[.int .i64 (N : Int), .slice a1 n1 c1, .slice a2 n2 c2, .slice a3 n3 c3, .slice a4 n4 c4, .slice a5 n5 c5, .slice a6 n6 c6], .agg #[.int .i64 k, .slice na nn nc, .slice ra rn rc, .slice ka kn kc], .int .i64 e] V fun r w' => r = .returned (.bool b) ∧ Below V.heap.size V w') := by
                intro V hV
                rw [← hvc]
                exact implHolds_any (HWs.out V (HT6.out _ hV)) (HCs.out V (HT6.out _ hV)) HNn.out (Nat.le_trans hs1 (HT6.out _ hV).size) (Nat.le_trans hs1 (HT6.out _ hV).size) HBk1.out
              clear hvn hvo hvc hbd
              have HSd : Hid (∀ V, Below W6.heap.size W6 V → V.cell? ⟨p, 0, none⟩ = some (.int .i64 (N : Int)) ∧ V.cell? ⟨p, 1, none⟩ = some (.slice a1 n1 c1) ∧ V.cell? ⟨p, 2, none⟩ = some (.slice a2 n2 c2) ∧ V.cell? ⟨p, 3, none⟩ = some (.slice a3 n3 c3) ∧ V.cell? ⟨p, 4, none⟩ = some (.slice a4 n4 c4) ∧ V.cell? ⟨p, 5, none⟩ = some (.slice a5 n5 c5) ∧ V.cell? ⟨p, 6, none⟩ = some (.slice a6 n6 c6) ∧ V.cell? ⟨q, 0, none⟩ = some (.int .i64 k) ∧ V.cell? ⟨q, 1, none⟩ = some (.slice na nn nc) ∧ V.cell? ⟨q, 2, none⟩ = some (.slice ra rn rc) ∧ V.cell? ⟨q, 3, none⟩ = some (.slice ka kn kc) ∧ V.cell? ⟨pn, 0, none⟩ = some (.int .i64 kN) ∧ V.cell? ⟨pn, 1, none⟩ = some (.slice naN nnN ncN) ∧ V.cell? ⟨pn, 2, none⟩ = some (.slice raN rnN rcN) ∧ V.cell? ⟨pn, 3, none⟩ = some (.slice kaN knN kcN) ∧ V.cell? ⟨po, 0, none⟩ = some (.int .i64 kO) ∧ V.cell? ⟨po, 1, none⟩ = some (.slice naO nnO ncO) ∧ V.cell? ⟨po, 2, none⟩ = some (.slice raO rnO rcO) ∧ V.cell? ⟨po, 3, none⟩ = some (.slice kaO knO kcO)) := by
                intro V hV
                obtain ⟨x0, x1, x2, x3, x4, x5, x6⟩ := (HXs.out V (HT6.out _ hV)).cells
                obtain ⟨y0, y1, y2, y3⟩ := (HYs.out V (HT6.out _ hV)).cells
                obtain ⟨s0, s1, s2, s3⟩ := (HYN.out V (HT4.out _ hV)).cells
                obtain ⟨t0, t1, t2, t3⟩ := (HYO.out V hV).cells
                exact ⟨x0, x1, x2, x3, x4, x5, x6, y0, y1, y2, y3, s0, s1, s2, s3, t0, t1, t2, t3⟩
              have H7 : Hid (Below W6.heap.size W6 wo.drew) := HB.out.drew
              go_upto_region 13 with fail
              clear x0 x1 x2 x3 x4 x5 x6
              go_cut [94] from 75 to 93 (fun q wx => q = .bool false ∧ Below W6.heap.size W6 wx)
              case first =>
                cases b
                all_goals
                  first
                  | go_region_held3 (fun V => V.cell? ⟨p, 0, none⟩ = some (.int .i64 (N : Int)) ∧ V.cell? ⟨p, 1, none⟩ = some (.slice a1 n1 c1) ∧ V.cell? ⟨p, 2, none⟩ = some (.slice a2 n2 c2) ∧ V.cell? ⟨p, 3, none⟩ = some (.slice a3 n3 c3) ∧ V.cell? ⟨p, 4, none⟩ = some (.slice a4 n4 c4) ∧ V.cell? ⟨p, 5, none⟩ = some (.slice a5 n5 c5) ∧ V.cell? ⟨p, 6, none⟩ = some (.slice a6 n6 c6) ∧ V.cell? ⟨q, 0, none⟩ = some (.int .i64 k) ∧ V.cell? ⟨q, 1, none⟩ = some (.slice na nn nc) ∧ V.cell? ⟨q, 2, none⟩ = some (.slice ra rn rc) ∧ V.cell? ⟨q, 3, none⟩ = some (.slice ka kn kc) ∧ V.cell? ⟨pn, 0, none⟩ = some (.int .i64 kN) ∧ V.cell? ⟨pn, 1, none⟩ = some (.slice naN nnN ncN) ∧ V.cell? ⟨pn, 2, none⟩ = some (.slice raN rnN rcN) ∧ V.cell? ⟨pn, 3, none⟩ = some (.slice kaN knN kcN) ∧ V.cell? ⟨po, 0, none⟩ = some (.int .i64 kO) ∧ V.cell? ⟨po, 1, none⟩ = some (.slice naO nnO ncO) ∧ V.cell? ⟨po, 2, none⟩ = some (.slice raO rnO rcO) ∧ V.cell? ⟨po, 3, none⟩ = some (.slice kaO knO kcO)) (first | with_reducible exact HSd.out _ H7.out | with_reducible exact HSd.out _ H8.out | with_reducible exact HSd.out _ H9.out | with_reducible exact HSd.out _ H10.out | with_reducible exact HSd.out _ H11.out) (first
                    | (go_at_call_of 14 kN; (with_reducible refine (HCn.out _ H7.out).mono ?_); rintro r w8 ⟨rfl, hb8⟩; have H8 : Hid (Below W6.heap.size W6 w8) := H7.out.trans (hb8.mono H7.out.size); clear hb8)
                    | (go_at_call_of 14 kO; (with_reducible refine (HCo.out _ H9.out).mono ?_); rintro r w10 ⟨rfl, hb10⟩; have H10 : Hid (Below W6.heap.size W6 w10) := H9.out.trans (hb10.mono H9.out.size); clear hb10)
                    | (go_at_call_of 14 k; (with_reducible refine (HCc.out _ H10.out).mono ?_); rintro r w11 ⟨rfl, hb11⟩; have H11 : Hid (Below W6.heap.size W6 w11) := H10.out.trans (hb11.mono H10.out.size); clear hb11)
                    | (go_at_call_of 14 k; (with_reducible refine (HCc.out _ H8.out).mono ?_); rintro r w9 ⟨rfl, hb9⟩; have H9 : Hid (Below W6.heap.size W6 w9) := H8.out.trans (hb9.mono H8.out.size); clear hb9))
                  | fail
                all_goals
                  go_wp2_with fail
                  go_meet
                  case rel => exact ⟨rfl, H11.out⟩
              case rest =>
                obtain ⟨rfl, hbc⟩ := hcut
                have Hc : Hid (Below W6.heap.size W6 wc) := hbc
                clear hbc
                go_wp2_with fail
                go_roundw
                case rel => first | exact ⟨e + 1, by omega, by go_num, Hc.out⟩ | ((repeat apply Exists.intro); exact ⟨⟨by omega, by go_num, Hc.out⟩, rfl⟩)
                case measure => simp [intOf]; omega
            · have hei : ¬ (e : Int) < (N : Int) := by omega
              go_wp2_with fail
              refine (worlds_any wo).mono ?_
              rintro r wa ⟨rfl, hba⟩
              have Ha : Hid (Below W6.heap.size W6 wa) := HB.out.trans (hba.mono HB.out.size)
              clear hba
              go_wp2
              go_ret
              exact ⟨rfl, HB2.out.trans ((HT6.out _ Ha.out).mono HB2.out.size)⟩

end Go.Proofs.YtnmljalcndfjmaaGreat
