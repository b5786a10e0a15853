/- The law of extensions: what it asks holds at every list of bytes. -/
import Derived.Test.YtnmljalcndfjmaaDrawExt
import Derived.Test.YtnmljalcndfjmaaNG24
import Derived.Test.YtnmljalcndfjmaaExtI
import Derived.Test.YtnmljalcndfjmaaInRelA
import Derived.Test.YtnmljalcndfjmaaWdSpec
import Derived.Deep.RegionHeld3
namespace Go.Proofs.Ytnmljalcndfjmaa
open Go.RowKit

set_option maxRecDepth 100000 in
set_option maxHeartbeats 8000000 in
theorem extWalk {a : Option Addr} {n cap : Nat} {zs : List Int} {w : World} (h : Rd 0 w.heap.size w a n cap zs) :
    Calls Try.prog 3 #[.slice a n cap] w fun e w' => e = .returned (.bool true) ∧ Below w.heap.size w w' := by
  have HR0 : Hid (Rd 0 w.heap.size w a n cap zs) := h
  clear h
  go_enter Try.func3, Try.ntmps3
  go_wp2_with fail
  refine (drawExt_any HR0.out).mono ?_
  rintro e w1 hD
  obtain ⟨nx, a1, n1, c1, a2, n2, c2, a3, n3, c3, a4, n4, c4, a5, n5, c5, a6, n6, c6, x, v, c, rfl, hn, hx, hrw, hrc, hbk, hb1⟩ := hD
  obtain ⟨k, na, nn, nc, ra, rn, rc, ka, kn, kc, rfl⟩ := RdC.shape hrc
  have HN : Hid ((-1 ≤ nx ∧ nx ≤ 129) ∧ x.n = nx) := ⟨hn, hx⟩
  have HB1 : Hid (Below w.heap.size w w1) := hb1
  have HW1 : Hid (RdW 0 w1.heap.size w1 a1 n1 c1 a2 n2 c2 a3 n3 c3 a4 n4 c4 a5 n5 c5 a6 n6 c6 x) := hrw.mono (Nat.zero_le _) (Nat.le_refl _)
  have HC1 : Hid (RdC 0 w1.heap.size w1 20 (.agg #[.int .i64 k, .slice na nn nc, .slice ra rn rc, .slice ka kn kc]) c) := RdC.mono (Nat.zero_le _) (Nat.le_refl _) hrc
  have HBk : Hid (c.bulk ≤ 100000) := hbk
  have HBk1 : Hid (c.bulk ≤ 1048576) := Nat.le_trans hbk (by omega)
  clear hn hx hrw hrc hb1 hbk
  go_upto_region 2 with fail
  refine Code.wp_name (fun W2 hW2 => ?_)

  obtain ⟨p, hp⟩ : ∃ p, p = w1.heap.size := ⟨_, rfl⟩
  obtain ⟨q, hq⟩ : ∃ q, q = w1.heap.size + 1 := ⟨_, rfl⟩
  have hb12 : Below w1.heap.size w1 W2 := by rw [hW2]; exact ((Below.refl _ _).alloc (Nat.le_refl _) _).alloc (by simp) _
  have HB2 : Hid (Below w.heap.size w W2) := HB1.out.trans (hb12.mono HB1.out.size)
  have hX2 : BoxW 27 W2 p nx (.slice a1 n1 c1) (.slice a2 n2 c2) (.slice a3 n3 c3) (.slice a4 n4 c4) (.slice a5 n5 c5) (.slice a6 n6 c6) := by rw [hW2, hp]; exact (allocOld (by simp)).trans (BoxW.new _ w1 _ _ _ _ _ _ _)
  have hY2 : BoxC W2 q (.int .i64 k) (.slice na nn nc) (.slice ra rn rc) (.slice ka kn kc) := by
    rw [hW2, hq]
    have := BoxC.new (w1.alloc (.cells #[.int .i64 nx, .slice a1 n1 c1, .slice a2 n2 c2, .slice a3 n3 c3, .slice a4 n4 c4, .slice a5 n5 c5, .slice a6 n6 c6] 27)) (.int .i64 k) (.slice na nn nc) (.slice ra rn rc) (.slice ka kn kc)
    rwa [show (w1.alloc (.cells #[.int .i64 nx, .slice a1 n1 c1, .slice a2 n2 c2, .slice a3 n3 c3, .slice a4 n4 c4, .slice a5 n5 c5, .slice a6 n6 c6] 27)).heap.size = w1.heap.size + 1 from by simp] at this
  have hs1 : w1.heap.size ≤ W2.heap.size := hb12.size
  have HXs : Hid (∀ V, Below W2.heap.size W2 V → BoxW 27 V p nx (.slice a1 n1 c1) (.slice a2 n2 c2) (.slice a3 n3 c3) (.slice a4 n4 c4) (.slice a5 n5 c5) (.slice a6 n6 c6)) := fun V hV => hX2.below hV hX2.lt
  have HYs : Hid (∀ V, Below W2.heap.size W2 V → BoxC V q (.int .i64 k) (.slice na nn nc) (.slice ra rn rc) (.slice ka kn kc)) := fun V hV => BoxC.below hY2 hV (BoxC.lt hY2)
  have HWs : Hid (∀ V, Below W2.heap.size W2 V → RdW 0 w1.heap.size V a1 n1 c1 a2 n2 c2 a3 n3 c3 a4 n4 c4 a5 n5 c5 a6 n6 c6 x) := fun V hV => (HW1.out.below hb12 (Nat.le_refl _)).below hV hs1
  have HCs : Hid (∀ V, Below W2.heap.size W2 V → RdC 0 w1.heap.size V 20 (.agg #[.int .i64 k, .slice na nn nc, .slice ra rn rc, .slice ka kn kc]) c) := fun V hV => RdC.below (RdC.below HC1.out hb12 (Nat.le_refl _)) hV hs1
  have HPQ : Hid (p = w1.heap.size ∧ q = w1.heap.size + 1) := ⟨hp, hq⟩
  rw [← hq, ← hp]
  clear hW2 hp hq hX2 hY2 hb12 HW1 HC1
  have H2 : Hid (Below W2.heap.size W2 W2) := Below.refl _ _
  obtain ⟨x0, x1, x2, x3, x4, x5, x6⟩ := (HXs.out W2 H2.out).cells
  obtain ⟨y0, y1, y2, y3⟩ := (HYs.out W2 H2.out).cells
  go_wp2_with fail
  refine (implExt_any (HWs.out W2 H2.out) (HCs.out W2 H2.out) HN.out.2 hs1 hs1 HBk1.out).mono ?_
  rintro e w3 ⟨u, rfl, hO3, hb3⟩
  obtain ⟨la, lc, rfl, hri⟩ := ownI_rd hO3
  obtain ⟨L, hL⟩ : ∃ L, L = extL x c := ⟨_, rfl⟩
  rw [← hL] at hri ⊢
  obtain ⟨ln, hln⟩ : ∃ ln, ln = L.length := ⟨_, rfl⟩
  rw [← hln] at hri ⊢
  have HL : Hid (L = extL x c) := hL
  have HLn : Hid (ln = L.length) := hln
  have HI : Hid (RI W2.heap.size w3.heap.size w3 la ln lc L) := hri
  have H3 : Hid (Below W2.heap.size W2 w3) := hb3
  clear hO3 hri hL hln hb3 x0 x1 x2 x3 x4 x5 x6 y0 y1 y2 y3
  obtain ⟨x0, x1, x2, x3, x4, x5, x6⟩ := (HXs.out w3 H3.out).cells
  go_wp2_with fail
  refine (specWorldOk_any (HWs.out w3 H3.out) HN.out.2 (Nat.le_trans hs1 H3.out.size)).mono ?_
  rintro e w4 ⟨rfl, hb4⟩
  have H4 : Hid (Below W2.heap.size W2 w4) := H3.out.trans (hb4.mono H3.out.size)
  have H34 : Hid (Below w3.heap.size w3 w4) := hb4
  obtain ⟨bw, hbw⟩ : ∃ bw, bw = worldB x := ⟨_, rfl⟩
  have HBw : Hid (bw = worldB x) := hbw
  rw [← hbw]
  clear hb4 hbw x0 x1 x2 x3 x4 x5 x6
  obtain ⟨y0, y1, y2, y3⟩ := (HYs.out w4 H4.out).cells
  cases bw
  · have HNo : Hid ((worldB x && conOk c) = false) := by unfold Hid; rw [← HBw.out]; rfl
    have H5 : Hid (Below W2.heap.size W2 w4) := H4.out
    clear y0 y1 y2 y3
    obtain ⟨w5, hw5⟩ : ∃ w5 : World, w5 = w4 := ⟨_, rfl⟩
    subst hw5
    have hL0 : ln = 0 := by rw [HLn.out, HL.out]; unfold extL; rw [if_neg (by simp [HNo.out])]; rfl
    have HH0 : Hid (holdsB x c 0 = false) := by
      unfold Hid holdsB
      have := HNo.out
      revert this
      cases worldB x <;> cases conOk c <;> simp
    subst hL0
    go_wp2_with fail
    refine (worlds_any w5).mono ?_
    rintro e w6 ⟨rfl, hb6⟩
    have H6 : Hid (Below W2.heap.size W2 w6) := H5.out.trans (hb6.mono H5.out.size)
    clear hb6
    obtain ⟨x0, x1, x2, x3, x4, x5, x6⟩ := (HXs.out w6 H6.out).cells
    obtain ⟨y0, y1, y2, y3⟩ := (HYs.out w6 H6.out).cells
    go_wp2_with fail
    refine (implHolds_any (HWs.out w6 H6.out) (HCs.out w6 H6.out) HN.out.2 (Nat.le_trans hs1 H6.out.size) (Nat.le_trans hs1 H6.out.size) HBk1.out).mono ?_
    rintro e w7 ⟨rfl, hb7⟩
    rw [HH0.out]
    have H7 : Hid (Below W2.heap.size W2 w7) := H6.out.trans (hb7.mono H6.out.size)
    clear hb7
    go_wp2
    go_ret
    exact ⟨rfl, HB2.out.trans (H7.out.mono HB2.out.size)⟩
  · go_wp2_with fail
    refine (specConOk_any (HCs.out w4 H4.out) (Nat.le_trans hs1 H4.out.size)).mono ?_
    rintro e w5 ⟨rfl, hb5⟩
    have H5 : Hid (Below W2.heap.size W2 w5) := H4.out.trans (hb5.mono H4.out.size)
    have H35 : Hid (Below w3.heap.size w3 w5) := H34.out.trans (hb5.mono H34.out.size)
    obtain ⟨bc, hbc⟩ : ∃ bc, bc = conOk c := ⟨_, rfl⟩
    have HBc : Hid (bc = conOk c) := hbc
    rw [← hbc]
    clear hb5 hbc y0 y1 y2 y3
    cases bc
    · have HNo : Hid ((worldB x && conOk c) = false) := by unfold Hid; rw [← HBc.out, Bool.and_false]
      have hL0 : ln = 0 := by rw [HLn.out, HL.out]; unfold extL; rw [if_neg (by simp [HNo.out])]; rfl
      have HH0 : Hid (holdsB x c 0 = false) := by
        unfold Hid holdsB
        have := HNo.out
        revert this
        cases worldB x <;> cases conOk c <;> simp
      subst hL0
      go_wp2_with fail
      refine (worlds_any w5).mono ?_
      rintro e w6 ⟨rfl, hb6⟩
      have H6 : Hid (Below W2.heap.size W2 w6) := H5.out.trans (hb6.mono H5.out.size)
      clear hb6
      obtain ⟨x0, x1, x2, x3, x4, x5, x6⟩ := (HXs.out w6 H6.out).cells
      obtain ⟨y0, y1, y2, y3⟩ := (HYs.out w6 H6.out).cells
      go_wp2_with fail
      refine (implHolds_any (HWs.out w6 H6.out) (HCs.out w6 H6.out) HN.out.2 (Nat.le_trans hs1 H6.out.size) (Nat.le_trans hs1 H6.out.size) HBk1.out).mono ?_
      rintro e w7 ⟨rfl, hb7⟩
      rw [HH0.out]
      have H7 : Hid (Below W2.heap.size W2 w7) := H6.out.trans (hb7.mono H6.out.size)
      clear hb7
      go_wp2
      go_ret
      exact ⟨rfl, HB2.out.trans (H7.out.mono HB2.out.size)⟩
    · have hwb : worldB x = true := HBw.out.symm
      have hok : conOk c = true := HBc.out.symm
      have hn1 := worldB_n hwb
      obtain ⟨N, hNe⟩ : ∃ N : Nat, nx = (N : Int) := ⟨nx.toNat, by have := HN.out.2; omega⟩
      subst hNe
      have HNn : Hid (x.n = (N : Int)) := HN.out.2
      have hN1 : 1 ≤ N ∧ N ≤ 128 := by have := HN.out.2; omega
      have HWb : Hid (worldB x = true) := hwb
      have HOk : Hid (conOk c = true) := hok
      have HLp : Hid (L = pickI (fun j => holdC x N c j) N) := by
        unfold Hid; rw [HL.out]; unfold extL
        rw [if_pos (by rw [hwb, hok]; rfl), HNn.out]
        rfl
      have hln1 : ln ≤ 128 := by rw [HLn.out, HLp.out]; exact Nat.le_trans (pickI_len _ _) hN1.2
      have HIx : Hid (∀ V, Below w3.heap.size w3 V → ∀ j, j < ln → ∃ lb lo, la = some ⟨lb, lo, none⟩ ∧ V.cell? ⟨lb, lo + j, none⟩ = some (.int .i64 (L.getD j 0))) := by
        intro V hV j hj
        rcases HI.out.cells with h0 | ⟨lb, lo, e, _, q2, q3⟩
        · omega
        · obtain ⟨v, hv, hr⟩ := q3 j hj
          exact ⟨lb, lo, e, by rw [World.cell?_of_block (w := w3) (hV.block lb q2), hv, hr]⟩
      have HTo : Hid (∀ V, Below w3.heap.size w3 V → Below W2.heap.size W2 V) := fun V hV => H3.out.trans (hV.mono H3.out.size)
      have hs13 : w1.heap.size ≤ w3.heap.size := Nat.le_trans hs1 H3.out.size
      clear hwb hok hn1
      go_wp2_with fail
      go_loopw [6, 7] (fun q6 q7 wr => ∃ e : Nat, e ≤ N ∧ q6 = .int .i64 (cntP x N c e : Nat) ∧ q7 = .int .i64 e ∧ Below w3.heap.size w3 wr) (fun _ q7 _ => N - (intOf q7).toNat)
      case atStart => exact ⟨0, Nat.zero_le _, rfl, rfl, H35.out⟩
      case round =>
        obtain ⟨e, he, rfl, rfl, hb⟩ := hrel
        obtain ⟨wo, hwo⟩ : ∃ wo : World, wo = wr := ⟨_, rfl⟩
        subst hwo
        have HB : Hid (Below w3.heap.size w3 wo) := hb
        clear hb
        obtain ⟨x0, x1, x2, x3, x4, x5, x6⟩ := (HXs.out wo (HTo.out _ HB.out)).cells
        obtain ⟨y0, y1, y2, y3⟩ := (HYs.out wo (HTo.out _ HB.out)).cells
        by_cases hlt : e < N
        · have hei : (e : Int) < (N : Int) := by omega
          obtain ⟨kk, hkk⟩ : ∃ kk, kk = cntP x N c e := ⟨_, rfl⟩
          have HKk : Hid (kk = cntP x N c e) := hkk
          have hkb : kk ≤ 128 := by have := cntP_le x N c e; omega
          rw [← hkk]
          obtain ⟨is, his⟩ : ∃ is, is = holdC x N c e := ⟨_, rfl⟩
          have HIs : Hid (is = holdC x N c e) := his
          clear hkk his
          go_upto_region 9 with fail
          go_cut [8] from 48 to 59 (fun q wx => q = .bool is ∧ wx = wo)
          case first =>
            cases is
            · by_cases hkl : kk < ln
              · have hki : (kk : Int) < (ln : Int) := by omega
                obtain ⟨lb, lo, hla, hc0⟩ := HIx.out wo HB.out kk hkl
                subst hla
                have hne := cntP_skip (x := x) (L := N) (c := c) (e := e) (n := N) hlt HIs.out.symm (by rw [← HKk.out, ← HLp.out, ← HLn.out]; exact hkl)
                rw [← HKk.out, ← HLp.out] at hne
                obtain ⟨z, hz⟩ : ∃ z, z = L.getD kk 0 := ⟨_, rfl⟩
                rw [← hz] at hc0 hne
                have hneb : (z == (e : Int)) = false := by simpa using hne
                clear hz hne
                go_wp2_with fail
                go_meet
                case rel => exact ⟨rfl, rfl⟩
              · have hki : ¬ (kk : Int) < (ln : Int) := by omega
                go_wp2_with fail
                go_meet
                case rel => exact ⟨rfl, rfl⟩
            · have hat := cntP_at (x := x) (L := N) (c := c) (e := e) (n := N) hlt HIs.out.symm
              rw [← HKk.out, ← HLp.out, ← HLn.out] at hat
              obtain ⟨hkl, hv⟩ := hat
              have hki : (kk : Int) < (ln : Int) := by omega
              obtain ⟨lb, lo, hla, hc0⟩ := HIx.out wo HB.out kk hkl
              subst hla
              rw [hv] at hc0
              clear hv
              go_wp2_with fail
              go_meet
              case rel => exact ⟨rfl, rfl⟩
          case rest =>
            obtain ⟨rfl, hwc⟩ := hcut
            subst hwc
            go_upto_if 60 with fail
            go_cut [6] from 61 to 62 (fun q wx => q = .int .i64 (cntP x N c (e + 1) : Nat) ∧ wx = wc)
            case first =>
              cases is
              · go_wp2_with fail
                go_meet
                case rel => exact ⟨by rw [cntP_no HIs.out.symm, HKk.out], rfl⟩
              · go_wp2_with fail
                go_meet
                case rel => exact ⟨by rw [cntP_yes HIs.out.symm, ← HKk.out]; go_num, rfl⟩
            case rest =>
              obtain ⟨rfl, hwd⟩ := hcut
              subst hwd
              obtain ⟨wk, hwk⟩ : ∃ wk : World, wk = wc := ⟨_, rfl⟩
              subst hwk
              go_wp2_with fail
              refine (implHolds_any (HWs.out wk (HTo.out _ HB.out)) (HCs.out wk (HTo.out _ HB.out)) HNn.out (Nat.le_trans hs13 HB.out.size) (Nat.le_trans hs13 HB.out.size) HBk1.out).mono ?_
              rintro r w6 ⟨rfl, hb6⟩
              rw [holdsB_at HWb.out HOk.out HNn.out hlt, ← HIs.out]
              have H6 : Hid (Below w3.heap.size w3 w6) := HB.out.trans (hb6.mono HB.out.size)
              have hne : (is != is) = false := by cases is <;> rfl
              clear hb6 x0 x1 x2 x3 x4 x5 x6 y0 y1 y2 y3
              go_wp2_with fail
              go_loopw [9, 10, 11] (fun q9 q10 q11 wr => ∃ y : Nat, y ≤ N ∧ q9 = .bool (someU x N [114] c e y) ∧ q10 = .bool (allU x N [114] c e y) ∧ q11 = .int .i64 y ∧ Below w3.heap.size w3 wr) (fun _ _ q _ => N - (intOf q).toNat)
              case atStart => exact ⟨0, Nat.zero_le _, rfl, rfl, rfl, H6.out⟩
              case round =>
                obtain ⟨y, hy, rfl, rfl, rfl, hb⟩ := hrel
                obtain ⟨wi, hwi⟩ : ∃ wi : World, wi = wr := ⟨_, rfl⟩
                subst hwi
                have HBi : Hid (Below w3.heap.size w3 wi) := hb
                clear hb
                obtain ⟨x0, x1, x2, x3, x4, x5, x6⟩ := (HXs.out wi (HTo.out _ HBi.out)).cells
                by_cases hyl : y < N
                · have hyi : (y : Int) < (N : Int) := by omega
                  obtain ⟨so, hso⟩ : ∃ so, so = someU x N [114] c e y := ⟨_, rfl⟩
                  obtain ⟨al, hal⟩ : ∃ al, al = allU x N [114] c e y := ⟨_, rfl⟩
                  have HSo : Hid (so = someU x N [114] c e y ∧ al = allU x N [114] c e y) := ⟨hso, hal⟩
                  rw [← hso, ← hal]
                  have kc0 := kcAt wi wi.heap.size 114 rfl
                  obtain ⟨wA, HWA⟩ : ∃ W, Hid (W = wi.alloc (.cells #[.int .u8 114] 5 (1, 2))) := ⟨_, rfl⟩
                  have HRA : Hid (Rd 0 wA.heap.size wA (some ⟨wi.heap.size, 0, none⟩) 1 1 [114]) := by unfold Hid; rw [HWA.out]; exact (rdOne wi 114 (by omega) (1, 2)).mono (Nat.le_refl _) (by simp)
                  have hbA : Below wi.heap.size wi wA := by rw [HWA.out]; exact (Below.refl _ _).alloc (Nat.le_refl _) _
                  have HBA : Hid (Below w3.heap.size w3 wA) := HBi.out.trans (hbA.mono HBi.out.size)
                  clear hso hal hbA
                  go_wp2_with fail
                  rw [← HWA.out]
                  refine (implInRel_any (HWs.out wA (HTo.out _ HBA.out)) HRA.out HNn.out (Nat.le_trans hs13 HBA.out.size) (Nat.le_refl _)).mono ?_
                  rintro r w7 ⟨rfl, hb7⟩
                  rw [inRelB_at HWb.out HNn.out hlt hyl]
                  obtain ⟨rl, hrl⟩ : ∃ rl, rl = relO x [114] e y N := ⟨_, rfl⟩
                  have HRl : Hid (rl = relO x [114] e y N) := hrl
                  have H7 : Hid (Below w3.heap.size w3 w7) := HBA.out.trans (hb7.mono HBA.out.size)
                  rw [← hrl]
                  clear hrl hb7 kc0 x0 x1 x2 x3 x4 x5 x6
                  cases rl
                  · go_wp2_with fail
                    go_roundw
                    case rel => first | exact ⟨y + 1, by omega, by rw [someU_succ, ← HSo.out.1, ← HRl.out]; simp, by rw [allU_succ, ← HSo.out.2, ← HRl.out]; simp, by go_num, H7.out⟩ | ((repeat apply Exists.intro); exact ⟨⟨by omega, by rw [someU_succ, ← HSo.out.1, ← HRl.out]; simp, by rw [allU_succ, ← HSo.out.2, ← HRl.out]; simp, by go_num, H7.out⟩, rfl⟩)
                    case measure => simp [intOf]; omega
                  · obtain ⟨x0, x1, x2, x3, x4, x5, x6⟩ := (HXs.out w7 (HTo.out _ H7.out)).cells
                    obtain ⟨y0, y1, y2, y3⟩ := (HYs.out w7 (HTo.out _ H7.out)).cells
                    have HHy : Hid (holdsB x c (y : Int) = holdC x N c y) := holdsB_at HWb.out HOk.out HNn.out hyl
                    go_upto_region 20 with fail
                    go_cut [9] from 81 to 87 (fun q wx => q = .bool (so || holdC x N c y) ∧ Below w3.heap.size w3 wx)
                    case first =>
                      cases so
                      · go_wp2_with fail
                        refine (implHolds_any (HWs.out w7 (HTo.out _ H7.out)) (HCs.out w7 (HTo.out _ H7.out)) HNn.out (Nat.le_trans hs13 H7.out.size) (Nat.le_trans hs13 H7.out.size) HBk1.out).mono ?_
                        rintro r w8 ⟨rfl, hb8⟩
                        rw [HHy.out]
                        have H8 : Hid (Below w3.heap.size w3 w8) := H7.out.trans (hb8.mono H7.out.size)
                        clear hb8
                        go_wp2_with fail
                        go_meet
                        case rel => exact ⟨by simp, H8.out⟩
                      · go_wp2_with fail
                        go_meet
                        case rel => exact ⟨by simp, H7.out⟩
                    case rest =>
                      obtain ⟨rfl, hbc⟩ := hcut
                      obtain ⟨w8, hw8⟩ : ∃ w8 : World, w8 = wc := ⟨_, rfl⟩
                      subst hw8
                      have H8 : Hid (Below w3.heap.size w3 w8) := hbc
                      clear hbc x0 x1 x2 x3 x4 x5 x6 y0 y1 y2 y3
                      obtain ⟨x0, x1, x2, x3, x4, x5, x6⟩ := (HXs.out w8 (HTo.out _ H8.out)).cells
                      obtain ⟨y0, y1, y2, y3⟩ := (HYs.out w8 (HTo.out _ H8.out)).cells
                      obtain ⟨so2, hso2⟩ : ∃ so2, so2 = (so || holdC x N c y) := ⟨_, rfl⟩
                      have HSo2 : Hid (so2 = (so || holdC x N c y)) := hso2
                      rw [← hso2]
                      clear hso2
                      have hfs : Hid (so2 = someU x N [114] c e (y + 1)) := by unfold Hid; rw [someU_succ, ← HSo.out.1, ← HRl.out, HSo2.out]; simp
                      cases al
                      · go_wp2_with fail
                        go_roundw
                        case rel => first | exact ⟨y + 1, by omega, by rw [hfs.out], by rw [allU_succ, ← HSo.out.2]; rfl, by go_num, H8.out⟩ | ((repeat apply Exists.intro); exact ⟨⟨by omega, by rw [hfs.out], by rw [allU_succ, ← HSo.out.2]; rfl, by go_num, H8.out⟩, rfl⟩)
                        case measure => simp [intOf]; omega
                      · go_wp2_with fail
                        refine (implHolds_any (HWs.out w8 (HTo.out _ H8.out)) (HCs.out w8 (HTo.out _ H8.out)) HNn.out (Nat.le_trans hs13 H8.out.size) (Nat.le_trans hs13 H8.out.size) HBk1.out).mono ?_
                        rintro r w9 ⟨rfl, hb9⟩
                        rw [HHy.out]
                        have H9 : Hid (Below w3.heap.size w3 w9) := H8.out.trans (hb9.mono H8.out.size)
                        have hfa : Hid (holdC x N c y = allU x N [114] c e (y + 1)) := by unfold Hid; rw [allU_succ, ← HSo.out.2, ← HRl.out]; simp
                        clear hb9
                        go_wp2_with fail
                        go_roundw
                        case rel => first | exact ⟨y + 1, by omega, by rw [hfs.out], by rw [hfa.out], by go_num, H9.out⟩ | ((repeat apply Exists.intro); exact ⟨⟨by omega, by rw [hfs.out], by rw [hfa.out], by go_num, H9.out⟩, rfl⟩)
                        case measure => simp [intOf]; omega
                · have hyi : ¬ (y : Int) < (N : Int) := by omega
                  obtain rfl : N = y := by omega
                  have hso' := hold_some x N [114] c e
                  have hal' := hold_all x N [114] c e
                  obtain ⟨so, hso⟩ : ∃ so, so = someU x N [114] c e N := ⟨_, rfl⟩
                  obtain ⟨al, hal⟩ : ∃ al, al = allU x N [114] c e N := ⟨_, rfl⟩
                  rw [← hso] at hso'
                  rw [← hal] at hal'
                  have HSo : Hid (holdC x N (.mk 6 [] [114] [c]) e = so) := hso'
                  have HAl : Hid (holdC x N (.mk 7 [] [114] [c]) e = al) := hal'
                  rw [← hso, ← hal]
                  clear hso' hal' hso hal
                  obtain ⟨y0, y1, y2, y3⟩ := (HYs.out wi (HTo.out _ HBi.out)).cells
                  have hqi : q < wi.heap.size := BoxC.lt (HYs.out wi (HTo.out _ HBi.out))
                  have hsi : w1.heap.size ≤ wi.heap.size := Nat.le_trans hs13 HBi.out.size
                  have kc0 := kcAt wi wi.heap.size 114 rfl
                  go_upto_region 23 with fail
                  refine Code.wp_name (fun wS hw => ?_)
                  have hb : Below wi.heap.size wi wS := by rw [hw]; exact (((Below.refl _ _).alloc (Nat.le_refl _) _).alloc (by simp) _).alloc (by simp; omega) _
                  have HBS : Hid (Below w3.heap.size w3 wS) := HBi.out.trans (hb.mono HBi.out.size)
                  have HBS2 : Hid (Below wi.heap.size wi wS) := hb
                  obtain ⟨g1S, hg1⟩ : ∃ g, g = wi.heap.size := ⟨_, rfl⟩
                  obtain ⟨g2S, hg2⟩ : ∃ g, g = wi.heap.size + 1 := ⟨_, rfl⟩
                  obtain ⟨bs, hg3⟩ : ∃ g, g = wi.heap.size + 1 + 1 := ⟨_, rfl⟩
                  have hq0 : wS.heap[g1S]? = some (.cells #[.int .u8 114] 5 (1, 2)) := by rw [hw, hg1]; exact (allocOld (by simp; omega)).trans ((allocOld (by simp)).trans (allocAt rfl))
                  have hq1 : BoxC wS g2S (.int .i64 k) (.slice na nn nc) (.slice ra rn rc) (.slice ka kn kc) := by rw [hw, hg2]; exact (allocOld (by simp)).trans (allocAt (by simp))
                  have hq2 : BoxC wS bs (.int .i64 6) (.slice none 0 0) (.slice (some ⟨g1S, 0, none⟩) 1 1) (.slice (some ⟨g2S, 0, none⟩) 1 1) := by rw [hw, hg1, hg2, hg3]; exact allocAt (by simp)
                  have hrd : Rd 0 wS.heap.size wS (some ⟨g1S, 0, none⟩) 1 1 [114] := by
                    obtain ⟨_, _, _, e1, h1⟩ := (word_lit (base := 0) hq0 (Nat.zero_le _) (by omega)).slb
                    injection e1 with e2 e3 e4
                    subst e2 e3 e4
                    exact h1
                  have HRS : Hid (∀ V, Below wS.heap.size wS V → RdC 0 wS.heap.size V 21 (.agg #[.int .i64 6, .slice none 0 0, .slice (some ⟨g1S, 0, none⟩) 1 1, .slice (some ⟨g2S, 0, none⟩) 1 1]) (.mk 6 [] [114] [c])) := fun V hV => RdC.below (rdWrap hrd hq1 (BoxC.lt hq1) (RdC.mono (Nat.le_refl _) (Nat.le_trans hsi hb.size) (HCs.out wS (HTo.out _ HBS.out)))) hV (Nat.le_refl _)
                  have HYS : Hid (∀ V, Below wS.heap.size wS V → BoxC V bs (.int .i64 6) (.slice none 0 0) (.slice (some ⟨g1S, 0, none⟩) 1 1) (.slice (some ⟨g2S, 0, none⟩) 1 1)) := fun V hV => BoxC.below hq2 hV (BoxC.lt hq2)
                  rw [← hg3]
                  clear hw hb hg1 hg2 hg3 hq0 hq1 hq2 hrd kc0 hqi y0 y1 y2 y3 hsi
                  obtain ⟨y0, y1, y2, y3⟩ := (HYs.out wS (HTo.out _ HBS.out)).cells
                  have hqi : q < wS.heap.size := BoxC.lt (HYs.out wS (HTo.out _ HBS.out))
                  have hsi : w1.heap.size ≤ wS.heap.size := Nat.le_trans hs13 HBS.out.size
                  have kc0 := kcAt wS wS.heap.size 114 rfl
                  go_upto_region 24 with fail
                  refine Code.wp_name (fun wT hw => ?_)
                  have hb : Below wS.heap.size wS wT := by rw [hw]; exact (((Below.refl _ _).alloc (Nat.le_refl _) _).alloc (by simp) _).alloc (by simp; omega) _
                  have HBT : Hid (Below w3.heap.size w3 wT) := HBS.out.trans (hb.mono HBS.out.size)
                  have HBT2 : Hid (Below wS.heap.size wS wT) := hb
                  obtain ⟨g1T, hg1⟩ : ∃ g, g = wS.heap.size := ⟨_, rfl⟩
                  obtain ⟨g2T, hg2⟩ : ∃ g, g = wS.heap.size + 1 := ⟨_, rfl⟩
                  obtain ⟨bt, hg3⟩ : ∃ g, g = wS.heap.size + 1 + 1 := ⟨_, rfl⟩
                  have hq0 : wT.heap[g1T]? = some (.cells #[.int .u8 114] 5 (1, 2)) := by rw [hw, hg1]; exact (allocOld (by simp; omega)).trans ((allocOld (by simp)).trans (allocAt rfl))
                  have hq1 : BoxC wT g2T (.int .i64 k) (.slice na nn nc) (.slice ra rn rc) (.slice ka kn kc) := by rw [hw, hg2]; exact (allocOld (by simp)).trans (allocAt (by simp))
                  have hq2 : BoxC wT bt (.int .i64 7) (.slice none 0 0) (.slice (some ⟨g1T, 0, none⟩) 1 1) (.slice (some ⟨g2T, 0, none⟩) 1 1) := by rw [hw, hg1, hg2, hg3]; exact allocAt (by simp)
                  have hrd : Rd 0 wT.heap.size wT (some ⟨g1T, 0, none⟩) 1 1 [114] := by
                    obtain ⟨_, _, _, e1, h1⟩ := (word_lit (base := 0) hq0 (Nat.zero_le _) (by omega)).slb
                    injection e1 with e2 e3 e4
                    subst e2 e3 e4
                    exact h1
                  have HRT : Hid (∀ V, Below wT.heap.size wT V → RdC 0 wT.heap.size V 21 (.agg #[.int .i64 7, .slice none 0 0, .slice (some ⟨g1T, 0, none⟩) 1 1, .slice (some ⟨g2T, 0, none⟩) 1 1]) (.mk 7 [] [114] [c])) := fun V hV => RdC.below (rdWrap hrd hq1 (BoxC.lt hq1) (RdC.mono (Nat.le_refl _) (Nat.le_trans hsi hb.size) (HCs.out wT (HTo.out _ HBT.out)))) hV (Nat.le_refl _)
                  have HYT : Hid (∀ V, Below wT.heap.size wT V → BoxC V bt (.int .i64 7) (.slice none 0 0) (.slice (some ⟨g1T, 0, none⟩) 1 1) (.slice (some ⟨g2T, 0, none⟩) 1 1)) := fun V hV => BoxC.below hq2 hV (BoxC.lt hq2)
                  rw [← hg3]
                  clear hw hb hg1 hg2 hg3 hq0 hq1 hq2 hrd kc0 hqi y0 y1 y2 y3 hsi
                  have HTS : Hid (∀ V, Below wT.heap.size wT V → Below wS.heap.size wS V) := fun V hV => HBT2.out.trans (hV.mono HBT2.out.size)
                  have HTT : Hid (∀ V, Below wT.heap.size wT V → Below w3.heap.size w3 V) := fun V hV => HBT.out.trans (hV.mono HBT.out.size)
                  have hst : wS.heap.size ≤ wT.heap.size := HBT2.out.size
                  have HBk2 : Hid (∀ kd, (CN.mk kd [] [114] [c]).bulk ≤ 1048576) := by intro kd; have := HBk.out; simp only [CN.bulk, bulks, List.length_nil, List.length_cons]; omega
                  obtain ⟨s0, s1, s2, s3⟩ := (HYS.out wT (HTS.out _ (Below.refl _ _))).cells
                  obtain ⟨bk, hbk⟩ : ∃ bk, bk = conOk (.mk 6 [] [114] [c]) := ⟨_, rfl⟩
                  have HBK : Hid (bk = conOk (.mk 6 [] [114] [c])) := hbk
                  go_upto_region 24 with fail
                  go_cut [122] from 105 to 121 (fun q wx => q = .bool false ∧ Below w3.heap.size w3 wx)
                  case first =>
                    go_wp2_with fail
                    refine (specConOk_any (HRS.out wT (HTS.out _ (Below.refl _ _))) hst).mono ?_
                    rintro r w8 ⟨rfl, hb8⟩
                    rw [← HBK.out]
                    have H8 : Hid (Below wT.heap.size wT w8) := hb8
                    clear hb8 hbk s0 s1 s2 s3
                    cases bk
                    · go_wp2_with fail
                      go_meet
                      case rel => exact ⟨rfl, HTT.out _ H8.out⟩
                    · obtain ⟨x0, x1, x2, x3, x4, x5, x6⟩ := (HXs.out w8 (HTo.out _ (HTT.out _ H8.out))).cells
                      obtain ⟨s0, s1, s2, s3⟩ := (HYS.out w8 (HTS.out _ H8.out)).cells
                      go_wp2_with fail
                      refine (implHolds_any (HWs.out w8 (HTo.out _ (HTT.out _ H8.out))) (HRS.out w8 (HTS.out _ H8.out)) HNn.out (Nat.le_trans hs13 (HTT.out _ H8.out).size) (HTS.out _ H8.out).size (HBk2.out _)).mono ?_
                      rintro r w9 ⟨rfl, hb9⟩
                      rw [holdsB_at HWb.out HBK.out.symm HNn.out hlt, HSo.out]
                      have H9 : Hid (Below wT.heap.size wT w9) := H8.out.trans (hb9.mono H8.out.size)
                      have hne1 : (so != so) = false := by cases so <;> rfl
                      clear hb9 x0 x1 x2 x3 x4 x5 x6 s0 s1 s2 s3
                      obtain ⟨x0, x1, x2, x3, x4, x5, x6⟩ := (HXs.out w9 (HTo.out _ (HTT.out _ H9.out))).cells
                      obtain ⟨t0, t1, t2, t3⟩ := (HYT.out w9 H9.out).cells
                      go_wp2_with fail
                      refine (implHolds_any (HWs.out w9 (HTo.out _ (HTT.out _ H9.out))) (HRT.out w9 H9.out) HNn.out (Nat.le_trans hs13 (HTT.out _ H9.out).size) H9.out.size (HBk2.out _)).mono ?_
                      rintro r w10 ⟨rfl, hb10⟩
                      rw [holdsB_at HWb.out (by rw [conOk_all]; exact HBK.out.symm) HNn.out hlt, HAl.out]
                      have H10 : Hid (Below wT.heap.size wT w10) := H9.out.trans (hb10.mono H9.out.size)
                      have hne2 : (al != al) = false := by cases al <;> rfl
                      clear hb10
                      go_wp2_with fail
                      go_meet
                      case rel => exact ⟨rfl, HTT.out _ H10.out⟩
                  case rest =>
                    obtain ⟨rfl, hbc⟩ := hcut
                    obtain ⟨w11, hw11⟩ : ∃ w11 : World, w11 = wc := ⟨_, rfl⟩
                    subst hw11
                    have H11 : Hid (Below w3.heap.size w3 w11) := hbc
                    clear hbc s0 s1 s2 s3
                    go_wp2_with fail
                    go_roundw
                    case rel => first | exact ⟨e + 1, by omega, rfl, by go_num, H11.out⟩ | ((repeat apply Exists.intro); exact ⟨⟨by omega, rfl, by go_num, H11.out⟩, rfl⟩)
                    case measure => simp [intOf]; omega
        · have hei : ¬ (e : Int) < (N : Int) := by omega
          obtain rfl : N = e := by omega
          have hkl : cntP x N c N = ln := by rw [HLn.out, HLp.out]; rfl
          rw [hkl]
          clear hkl x0 y0 y1 y2 y3
          obtain ⟨x0, _, _, _, _, _, _⟩ := (HXs.out wo (HTo.out _ HB.out)).cells
          go_wp2_with fail
          refine (worlds_any wo).mono ?_
          rintro r w6 ⟨rfl, hb6⟩
          have H6 : Hid (Below w3.heap.size w3 w6) := HB.out.trans (hb6.mono HB.out.size)
          clear hb6
          go_wp2
          go_ret
          exact ⟨rfl, HB2.out.trans ((HTo.out _ H6.out).mono HB2.out.size)⟩

end Go.Proofs.Ytnmljalcndfjmaa
