/- The law of roles above roles: what it asks holds at every list of bytes. -/
import Derived.Test.YtnmljalcndfjmaaGreatDrawAb
import Derived.Test.YtnmljalcndfjmaaGreatNG19
import Derived.Test.YtnmljalcndfjmaaGreatAboveW0
namespace Go.Proofs.YtnmljalcndfjmaaGreat
open Go.RowKit

set_option maxRecDepth 100000 in
set_option maxHeartbeats 8000000 in
theorem aboveWalk {a : Option Addr} {n cap : Nat} {zs : List Int} {w : World} (h : Rd 0 w.heap.size w a n cap zs) :
    Calls Tryz.prog 4 #[.slice a n cap] w fun e w' => e = .returned (.bool true) ∧ Below w.heap.size w w' := by
  have HR0 : Hid (Rd 0 w.heap.size w a n cap zs) := h
  clear h
  go_enter Tryz.func4, Tryz.ntmps4
  go_wp2_with fail
  refine (drawAbove_any HR0.out).mono ?_
  rintro e w1 hD
  obtain ⟨va, m, vc, ra, rn, rc, xs, role, rfl, hk, hsm, hm, hr, hrl, hb1⟩ := hD
  have HB1 : Hid (Below w.heap.size w w1) := hb1
  have HSm : Hid (∀ x ∈ xs, x.c.bulk ≤ 1048576 ∧ x.d.bulk ≤ 1048576) := fun x hx => ⟨Nat.le_trans (hsm x hx).1 (by omega), Nat.le_trans (hsm x hx).2.1 (by omega)⟩
  have HK1 : Hid (RdK w.heap.size w1.heap.size w1 20 va m vc xs) := hk
  have HR1 : Hid (Rd w.heap.size w1.heap.size w1 ra rn rc role) := hr
  have HRl : Hid (role.length ≤ 1) := hrl
  clear hk hsm hr hrl hb1
  go_upto_region 2 with fail
  refine Code.wp_nameK (fun W2 hW2 => ?_)
  obtain ⟨p, hp⟩ : ∃ p, p = w1.heap.size := ⟨_, rfl⟩
  have hb12 : Below w1.heap.size w1 W2 := by rw [hW2]; exact (Below.refl _ _).alloc (Nat.le_refl _) _
  have HB2 : Hid (Below w.heap.size w W2) := HB1.out.trans (hb12.mono HB1.out.size)
  have hX2 : W2.heap[p]? = some (.cells #[.slice va m vc] 42 (0, 0)) := by rw [hW2, hp]; exact allocAtA rfl
  have hpW : p < W2.heap.size := (Array.getElem?_eq_some_iff.1 hX2).1
  have hs1 : w1.heap.size ≤ W2.heap.size := hb12.size
  have hs01 : w.heap.size ≤ w1.heap.size := HB1.out.size
  have HXs : Hid (∀ V, Below W2.heap.size W2 V → V.cell? ⟨p, 0, none⟩ = some (.slice va m vc) ∧ V.frozen? ⟨p, 0, none⟩ = false) := by
    intro V hV
    have hh := (hV.block p hpW).trans hX2
    constructor
    · simp [World.cell?, hh]
    · simp [World.frozen?, hh]
  have HKs : Hid (∀ V, Below W2.heap.size W2 V → RdK w.heap.size w1.heap.size V 20 va m vc xs) := fun V hV => (HK1.out.below hb12 (Nat.le_refl _)).below hV hs1
  have HRs : Hid (∀ V, Below W2.heap.size W2 V → Rd w.heap.size w1.heap.size V ra rn rc role) := fun V hV => (HR1.out.below hb12 (Nat.le_refl _)).below hV hs1
  rw [← hp]
  clear hW2 hp hX2 hb12 HK1 HR1 hpW
  have H2 : Hid (Below W2.heap.size W2 W2) := Below.refl _ _
  obtain ⟨x0, xf0⟩ := HXs.out W2 H2.out
  go_wp2_with fail
  refine (implAbove_any (HKs.out W2 H2.out) (HRs.out W2 H2.out) hs1 hs1 HSm.out).mono ?_
  rintro e w3 ⟨v3, gs, rfl, hO3, hb3⟩
  obtain ⟨ua, uc, hv3, hua⟩ := ownW_form hO3
  subst hv3
  obtain ⟨un, hun⟩ : ∃ un, un = (aboveN xs role).length := ⟨_, rfl⟩
  rw [← hun] at hO3 hua ⊢
  have HUn : Hid (un = (aboveN xs role).length) := hun
  have HUa : Hid (0 < un → ∃ g, ua = some ⟨g, 0, none⟩) := hua
  have HUs : Hid (∀ V, Below w3.heap.size w3 V → OwnW W2.heap.size V (.slice ua un uc) (aboveN xs role) gs) := fun V hV => hO3.below hV
  have H3 : Hid (Below W2.heap.size W2 w3) := hb3
  have HTo : Hid (∀ V, Below w3.heap.size w3 V → Below W2.heap.size W2 V) := fun V hV => H3.out.trans (hV.mono H3.out.size)
  clear hO3 hua hun hb3 x0 xf0
  obtain ⟨x0, xf0⟩ := HXs.out w3 H3.out
  go_wp2_with fail
  refine (specKbOk_any (HKs.out w3 H3.out) (Nat.le_trans hs1 H3.out.size) (Nat.le_trans hs01 (Nat.le_trans hs1 H3.out.size))).mono ?_
  rintro e w4 ⟨rfl, hb4⟩
  have H4 : Hid (Below W2.heap.size W2 w4) := H3.out.trans (hb4.mono H3.out.size)
  have H34 : Hid (Below w3.heap.size w3 w4) := hb4
  obtain ⟨bk, hbk⟩ : ∃ z, z = kbB xs := ⟨_, rfl⟩
  rw [← hbk]
  have HKb : Hid (bk = kbB xs) := hbk
  clear hb4 hbk x0 xf0
  cases bk
  · have HNo : Hid ((kbB xs && lowOk role) = false) := by unfold Hid; rw [← HKb.out]; rfl
    have Hz : Hid (Below W2.heap.size W2 w4) := H4.out
    have hu0 : un = 0 := by rw [HUn.out]; unfold aboveN; rw [if_neg (by rw [HNo.out]; simp)]; rfl
    subst hu0
    go_wp2_with fail
    refine (words_any _).mono ?_
    rintro r wa ⟨rfl, hba⟩
    have Ha : Hid (Below W2.heap.size W2 wa) := Hz.out.trans (hba.mono Hz.out.size)
    clear hba
    go_wp2
    go_ret
    exact ⟨rfl, HB2.out.trans (Ha.out.mono HB2.out.size)⟩
  · go_wp2_with fail
    refine (specLowerOk_any _ _ _ _ w4 (HRs.out w4 H4.out)).mono ?_
    rintro e w5 ⟨rfl, hw5⟩
    subst hw5
    have H5 : Hid (Below W2.heap.size W2 w5) := H4.out
    have H35 : Hid (Below w3.heap.size w3 w5) := H34.out
    obtain ⟨bl, hbl⟩ : ∃ z, z = lowOk role := ⟨_, rfl⟩
    rw [← hbl]
    have HLo : Hid (bl = lowOk role) := hbl
    clear hbl
    cases bl
    · have HNo : Hid ((kbB xs && lowOk role) = false) := by unfold Hid; rw [← HLo.out, Bool.and_false]
      have Hz : Hid (Below W2.heap.size W2 w5) := H5.out
      have hu0 : un = 0 := by rw [HUn.out]; unfold aboveN; rw [if_neg (by rw [HNo.out]; simp)]; rfl
      subst hu0
      go_wp2_with fail
      refine (words_any _).mono ?_
      rintro r wa ⟨rfl, hba⟩
      have Ha : Hid (Below W2.heap.size W2 wa) := Hz.out.trans (hba.mono Hz.out.size)
      clear hba
      go_wp2
      go_ret
      exact ⟨rfl, HB2.out.trans (Ha.out.mono HB2.out.size)⟩
    · have hkb : kbB xs = true := HKb.out.symm
      have hlo : lowOk role = true := HLo.out.symm
      have hax : ∀ x ∈ xs, AxB x := RdK.axb (HKs.out w5 H5.out) (kbB_all hkb)
      have HAx : Hid (∀ x ∈ xs, AxB x) := hax
      have HF : Hid (KbF xs) := KbF.of hkb hax
      have HKt : Hid (kbB xs = true ∧ lowOk role = true) := ⟨hkb, hlo⟩
      have hby : Byt role := (HRs.out w5 H5.out).byte
      have HBy : Hid (Byt role) := hby
      have hself : role ∈ aboveN xs role := above_self HF.out hby hkb hlo
      have hfa := aboveN_facts (HKs.out w5 H5.out) hby
      have HFa : Hid ((aboveN xs role).length ≤ 4 ∧ GoodV (aboveN xs role)) := ⟨hfa.1, hfa.2.1⟩
      have hu4 : un ≤ 4 := by rw [HUn.out]; exact hfa.1
      have HSelf : Hid (decide (role ∈ aboveN xs role) = true) := decide_eq_true hself
      clear hkb hlo hax hby hself hfa
      go_wp2_with fail
      refine (has_all (HUs.out w5 H35.out) (HRs.out w5 H5.out) (by have := HFa.out.1; omega)).mono ?_
      rintro r w6 ⟨rfl, hw6⟩
      subst hw6
      rw [HSelf.out]
      go_wp2_with fail
      go_loopw [6] (fun q wr => ∃ i : Nat, i ≤ un ∧ q = .int .i64 i ∧ Below w3.heap.size w3 wr) (fun q _ => un - (intOf q).toNat)
      case atStart => exact ⟨0, Nat.zero_le _, rfl, H35.out⟩
      case round =>
        obtain ⟨i, hi, rfl, hb⟩ := hrel
        obtain ⟨wo, hwo⟩ : ∃ wo : World, wo = wr := ⟨_, rfl⟩
        subst hwo
        have HB : Hid (Below w3.heap.size w3 wo) := hb
        clear hb
        by_cases hlt : i < un
        · have hii : (i : Int) < (un : Int) := by omega
          obtain ⟨gu, hgu⟩ : ∃ gu, ua = some ⟨gu, 0, none⟩ := HUa.out (by omega)
          subst hgu
          obtain ⟨gy, cy, my, hcy, hry⟩ := ownW_at (HUs.out wo HB.out) HUn.out hlt
          obtain ⟨y, hy⟩ : ∃ y, y = (aboveN xs role).getD i [] := ⟨_, rfl⟩
          rw [← hy] at hry
          have hym : y ∈ aboveN xs role := by
            rw [HUn.out] at hlt
            rw [hy]; simp [List.getD, hlt]
          have HYm : Hid (y ∈ aboveN xs role) := hym
          have HRy : Hid (∀ V, Below wo.heap.size wo V → Rd 0 wo.heap.size V (some ⟨gy, 0, none⟩) my cy y) := fun V hV => hry.below hV (Nat.le_refl _)
          have HByY : Hid (Byt y) := hry.byte
          obtain ⟨x0, xf0⟩ := HXs.out wo (HTo.out _ HB.out)
          have Hd : Hid (Below w3.heap.size w3 wo.drew) := HB.out.drew
          have Hdo : Hid (Below wo.heap.size wo wo.drew) := (Below.refl _ _).drew
          have hs1o : w1.heap.size ≤ wo.drew.heap.size := Nat.le_trans hs1 (HTo.out _ HB.out).size
          clear hry hy hym
          go_upto_region 10 with fail
          first
          | go_region_with (go_at_call 16; refine (implAbove_any (w := wo.drew) (HKs.out _ (HTo.out _ Hd.out)) (HRy.out _ Hdo.out) hs1o (Nat.le_refl _) HSm.out).mono ?_; rintro r w7 ⟨vm, gm, rfl, hom, hb7⟩; obtain ⟨ma, mc, hvm, hma⟩ := ownW_form hom; subst hvm; obtain ⟨mn, hmn⟩ : ∃ mn, mn = (aboveN xs y).length := ⟨_, rfl⟩; rw [← hmn] at hom hma ⊢; have HMn : Hid (mn = (aboveN xs y).length) := hmn; have HOm : Hid (∀ V, Below w7.heap.size w7 V → OwnW wo.drew.heap.size V (.slice ma mn mc) (aboveN xs y) gm) := fun V hV => hom.below hV; have HMa : Hid (0 < mn → ∃ g, ma = some ⟨g, 0, none⟩) := hma; have H7 : Hid (Below w3.heap.size w3 w7) := Hd.out.trans (hb7.mono Hd.out.size); clear hom hb7 hma hmn)
          | fail
          all_goals
            have hm4 : mn ≤ 4 := by rw [HMn.out]; exact (aboveN_facts (HKs.out w7 (HTo.out _ H7.out)) HByY.out).1
            have HT7 : Hid (∀ V, Below w7.heap.size w7 V → Below w3.heap.size w3 V) := fun V hV => H7.out.trans (hV.mono H7.out.size)
            go_wp2_with fail
            go_loopw [8] (fun q wr => ∃ j : Nat, j ≤ mn ∧ q = .int .i64 j ∧ Below w7.heap.size w7 wr) (fun q _ => mn - (intOf q).toNat)
            case atStart => exact ⟨0, Nat.zero_le _, rfl, Below.refl _ _⟩
            case round =>
              obtain ⟨j, hj, rfl, hb⟩ := hrel
              obtain ⟨wi, hwi⟩ : ∃ wi : World, wi = wr := ⟨_, rfl⟩
              subst hwi
              have HBi : Hid (Below w7.heap.size w7 wi) := hb
              clear hb
              by_cases hjl : j < mn
              · have hji : (j : Int) < (mn : Int) := by omega
                obtain ⟨gq, hgq⟩ : ∃ gq, ma = some ⟨gq, 0, none⟩ := HMa.out (by omega)
                subst hgq
                obtain ⟨gz, cz, mz, hcz, hrz⟩ := ownW_at (HOm.out wi HBi.out) HMn.out hjl
                obtain ⟨z, hz⟩ : ∃ z, z = (aboveN xs y).getD j [] := ⟨_, rfl⟩
                rw [← hz] at hrz
                have hzm : z ∈ aboveN xs y := by
                  rw [HMn.out] at hjl
                  rw [hz]; simp [List.getD, hjl]
                have HZm : Hid (decide (z ∈ aboveN xs role) = true) := decide_eq_true (above_trans HF.out HBy.out HByY.out HYm.out hzm)
                have HRz : Hid (Rd 0 wi.heap.size wi (some ⟨gz, 0, none⟩) mz cz z) := hrz
                clear hrz hz hzm
                go_wp2_with fail
                refine (has_all (HUs.out wi (HT7.out _ HBi.out)) HRz.out (by have := HFa.out.1; omega)).mono ?_
                rintro r w8 ⟨rfl, hw8⟩
                subst hw8
                rw [HZm.out]
                go_wp2_with fail
                go_roundw
                case rel => first | exact ⟨j + 1, by omega, by go_num, HBi.out⟩ | ((repeat apply Exists.intro); exact ⟨⟨by omega, by go_num, HBi.out⟩, rfl⟩)
                case measure => simp [intOf]; omega
              · have hji : ¬ (j : Int) < (mn : Int) := by omega
                go_wp2_with fail
                go_roundw
                case rel => first | exact ⟨i + 1, by omega, by go_num, HT7.out _ HBi.out⟩ | ((repeat apply Exists.intro); exact ⟨⟨by omega, by go_num, HT7.out _ HBi.out⟩, rfl⟩)
                case measure => simp [intOf]; omega
        · have hii : ¬ (i : Int) < (un : Int) := by omega
          go_wp2_with fail
          go_loopw [9] (fun q wr => ∃ t : Nat, t ≤ m ∧ q = .int .i64 t ∧ Below w3.heap.size w3 wr) (fun q _ => m - (intOf q).toNat)
          case atStart => exact ⟨0, Nat.zero_le _, rfl, HB.out⟩
          case round =>
            obtain ⟨t, ht, rfl, hb⟩ := hrel
            obtain ⟨wi, hwi⟩ : ∃ wi : World, wi = wr := ⟨_, rfl⟩
            subst hwi
            have HBi : Hid (Below w3.heap.size w3 wi) := hb
            clear hb
            obtain ⟨x0, xf0⟩ := HXs.out wi (HTo.out _ HBi.out)
            by_cases htl : t < m
            · have hti : (t : Int) < (m : Int) := by omega
              have hkk := HKs.out wi (HTo.out _ HBi.out)
              obtain ⟨b1, o1, hva, hcell⟩ : ∃ b1 o1, va = some ⟨b1, o1, none⟩ ∧ Ax13 w.heap.size w1.heap.size wi 20 b1 (o1 + t * 13) (xs.getD t AX.zero) := by
                rcases hkk.cells with h0 | ⟨b1, o1, e, _, _, hc⟩
                · omega
                · exact ⟨b1, o1, e, hc t htl⟩
              subst hva
              obtain ⟨x, hx⟩ : ∃ x, x = xs.getD t AX.zero := ⟨_, rfl⟩
              rw [← hx] at hcell
              have hxm : x ∈ xs := by
                have hl := hkk.len
                rw [hx]; simp [List.getD, show t < xs.length from by omega]
              have HXm : Hid (x ∈ xs) := hxm
              obtain ⟨c0, c1, c2, c3, d0, d1, d2, d3, fra, frn, frc, fsa, fsn, fsc, faa, fan, fac, fba, fbn, fbc, q0, q1, q2, q3, q4, q5, q6, q7, q8, q9, q10, q11, q12, hrd⟩ := hcell
              obtain ⟨rfl, ⟨c1a, c1n, c1c, rfl⟩, ⟨c2a, c2n, c2c, rfl⟩, ⟨c3a, c3n, c3c, rfl⟩⟩ := hrd.c.formS
              obtain ⟨rfl, ⟨d1a, d1n, d1c, rfl⟩, ⟨d2a, d2n, d2c, rfl⟩, ⟨d3a, d3n, d3c, rfl⟩⟩ := hrd.d.formS
              obtain ⟨kd, hkd⟩ : ∃ k, k = x.kind := ⟨_, rfl⟩
              obtain ⟨ck, hck⟩ : ∃ k, k = x.c.kind := ⟨_, rfl⟩
              obtain ⟨dk, hdk⟩ : ∃ k, k = x.d.kind := ⟨_, rfl⟩
              rw [← hkd] at q0
              rw [← hck] at q1
              rw [← hdk] at q5
              have HKd : Hid (kd = x.kind) := hkd
              have HRr : Hid (Rd w.heap.size w1.heap.size wi fra frn frc x.r) := hrd.r
              have HRs' : Hid (Rd w.heap.size w1.heap.size wi fsa fsn fsc x.s) := hrd.s
              have HRa : Hid (Rd w.heap.size w1.heap.size wi faa fan fac x.a) := hrd.a
              have hs1i : w1.heap.size ≤ wi.heap.size := Nat.le_trans hs1 (HTo.out _ HBi.out).size
              clear hrd hx hxm hkk hkd hck hdk
              go_upto_region 20 with fail
              refine Code.wp_nameK (fun W6 hW6 => ?_)
              obtain ⟨q, hq⟩ : ∃ q, q = wi.heap.size := ⟨_, rfl⟩
              have hb6 : Below wi.heap.size wi W6 := by rw [hW6]; exact (Below.refl _ _).alloc (Nat.le_refl _) _
              have hxb : W6.heap[q]? = some (.cells #[.int .i64 kd, .int .i64 ck, .slice c1a c1n c1c, .slice c2a c2n c2c, .slice c3a c3n c3c, .int .i64 dk, .slice d1a d1n d1c, .slice d2a d2n d2c, .slice d3a d3n d3c, .slice fra frn frc, .slice fsa fsn fsc, .slice faa fan fac, .slice fba fbn fbc] 49 (0, 0)) := by rw [hW6, hq]; exact allocAtA rfl
              have hqW : q < W6.heap.size := (Array.getElem?_eq_some_iff.1 hxb).1
              have HQc : Hid (∀ V, Below W6.heap.size W6 V → V.cell? ⟨q, 0, none⟩ = some (.int .i64 kd) ∧ V.cell? ⟨q, 9, none⟩ = some (.slice fra frn frc) ∧ V.cell? ⟨q, 10, none⟩ = some (.slice fsa fsn fsc) ∧ V.cell? ⟨q, 11, none⟩ = some (.slice faa fan fac)) := by
                intro V hV
                have hh := (hV.block q hqW).trans hxb
                refine ⟨?_, ?_, ?_, ?_⟩ <;> simp [World.cell?, hh]
              have H6 : Hid (Below w3.heap.size w3 W6) := HBi.out.trans (hb6.mono HBi.out.size)
              have HT6 : Hid (∀ V, Below W6.heap.size W6 V → Below w3.heap.size w3 V) := fun V hV => H6.out.trans (hV.mono H6.out.size)
              have HRrs : Hid (∀ V, Below W6.heap.size W6 V → Rd w.heap.size w1.heap.size V fra frn frc x.r) := fun V hV => (HRr.out.below hb6 hs1i).below hV (Nat.le_trans hs1i hb6.size)
              have HRss : Hid (∀ V, Below W6.heap.size W6 V → Rd w.heap.size w1.heap.size V fsa fsn fsc x.s) := fun V hV => (HRs'.out.below hb6 hs1i).below hV (Nat.le_trans hs1i hb6.size)
              have HRas : Hid (∀ V, Below W6.heap.size W6 V → Rd w.heap.size w1.heap.size V faa fan fac x.a) := fun V hV => (HRa.out.below hb6 hs1i).below hV (Nat.le_trans hs1i hb6.size)
              rw [← hq]
              clear hW6 hq hb6 hxb hqW q0 q1 q2 q3 q4 q5 q6 q7 q8 q9 q10 q11 q12 HRr HRs' HRa x0 xf0
              have H66 : Hid (Below W6.heap.size W6 W6) := Below.refl _ _
              obtain ⟨y0, y9, y10, y11⟩ := HQc.out W6 H66.out
              go_cut [89] from 74 to 88 (fun q wx => q = .bool false ∧ wx = W6)
              case first =>
                by_cases hk3 : kd = 3
                · obtain ⟨bi, hbi⟩ : ∃ z, z = decide (x.r ∈ aboveN xs role) := ⟨_, rfl⟩
                  have HBi2 : Hid (bi = decide (x.r ∈ aboveN xs role)) := hbi
                  have HK3 : Hid (x.kind = 3) := by unfold Hid; rw [← HKd.out]; exact hk3
                  subst hk3
                  clear hbi
                  go_wp2_with fail
                  refine (has_all (HUs.out W6 H6.out) (HRrs.out W6 H66.out) (by have := HFa.out.1; omega)).mono ?_
                  rintro r w8 ⟨rfl, hw8⟩
                  subst hw8
                  rw [← HBi2.out]
                  cases bi
                  · go_wp2_with fail
                    go_meet
                    case rel => exact ⟨rfl, rfl⟩
                  · have HSs : Hid (decide (x.s ∈ aboveN xs role) = true) := decide_eq_true (above_edge HF.out HBy.out HXm.out HK3.out (of_decide_eq_true HBi2.out.symm))
                    go_wp2_with fail
                    refine (has_all (HUs.out w8 H6.out) (HRss.out w8 H66.out) (by have := HFa.out.1; omega)).mono ?_
                    rintro r w9 ⟨rfl, hw9⟩
                    subst hw9
                    rw [HSs.out]
                    go_wp2_with fail
                    go_meet
                    case rel => exact ⟨rfl, rfl⟩
                · have hk3b : (kd == 3) = false := by simpa using hk3
                  go_wp2_with fail
                  go_meet
                  case rel => exact ⟨rfl, rfl⟩
              case rest =>
                obtain ⟨rfl, hwc⟩ := hcut
                subst hwc
                go_upto_region 22 with fail
                have Hd : Hid (Below wc.heap.size wc wc.drew) := (Below.refl _ _).drew
                have hsd : w1.heap.size ≤ wc.drew.heap.size := Nat.le_trans hs1 (HTo.out _ (HT6.out _ Hd.out)).size
                have HLr : Hid ((ansK kbR xs).length ≤ 1000000) := by
                  unfold Hid ansK; rw [if_pos HKt.out.1]; have := kbB_true HKt.out.1; omega
                have HLa : Hid ((ansK kbI xs).length ≤ 1000000) := by
                  unfold Hid ansK; rw [if_pos HKt.out.1]; have := kbB_true HKt.out.1; omega
                have hlr := (HRrs.out wc H66.out).len
                have hla := (HRas.out wc H66.out).len
                have HRin : Hid (frn ≠ 0 → decide (x.r ∈ ansK kbR xs) = true) := fun hne => decide_eq_true (by unfold ansK; rw [if_pos HKt.out.1]; exact kbR_has HAx.out HXm.out (by omega))
                have HAin : Hid (fan ≠ 0 → decide (x.a ∈ ansK kbI xs) = true) := fun hne => decide_eq_true (by unfold ansK; rw [if_pos HKt.out.1]; exact kbI_has HAx.out HXm.out (by omega))
                obtain ⟨x0, xf0⟩ := HXs.out wc (HTo.out _ (HT6.out _ H66.out))
                clear hlr hla
                have HSd : Hid (∀ V, Below wc.heap.size wc V → V.cell? ⟨p, 0, none⟩ = some (.slice (some ⟨b1, o1, none⟩) m vc) ∧ V.cell? ⟨q, 0, none⟩ = some (.int .i64 kd) ∧ V.cell? ⟨q, 9, none⟩ = some (.slice fra frn frc) ∧ V.cell? ⟨q, 11, none⟩ = some (.slice faa fan fac)) := by
                  intro V hV
                  obtain ⟨y0, y9, _, y11⟩ := HQc.out V hV
                  exact ⟨(HXs.out V (HTo.out _ (HT6.out _ hV))).1, y0, y9, y11⟩
                go_cut [115] from 90 to 114 (fun q wx => q = .bool false ∧ Below w3.heap.size w3 wx)
                case first =>
                  by_cases hr0 : frn = 0
                  · subst hr0
                    by_cases ha0 : fan = 0
                    · subst ha0
                      go_quiet (fail)
                      go_wp2
                      go_meet
                      case rel => exact ⟨rfl, HT6.out _ (below_drewN (Below.refl _ _) _)⟩
                    · have hai : (0 : Int) < (fan : Int) := by omega
                      have HAin : Hid (decide (x.a ∈ ansK kbI xs) = true) := HAin.out ha0
                      have hna : 0 < fan := by omega
                      refine wp_region_held_drew (S := (fun V => V.cell? ⟨p, 0, none⟩ = some (.slice (some ⟨b1, o1, none⟩) m vc) ∧ V.cell? ⟨q, 0, none⟩ = some (.int .i64 kd) ∧ V.cell? ⟨q, 9, none⟩ = some (.slice fra 0 frc) ∧ V.cell? ⟨q, 11, none⟩ = some (.slice faa fan fac))) (by kernel_rfl) (HSd.out _ Hd.out) (fun hHeld => ?_)
                      (refine wpAnyH_take (i := 0) (v := ?_) rfl (by kernel_rfl) (by kernel_rfl) (by kernel_rfl) (fun _ _ _ h => h) (Or.inl ⟨by rfl, ?hy0⟩) (by assumption) ?_; case hy0 => ((intro w hSw); (try dsimp only at hSw); (try go_simp); (try with_reducible rfl))); (try simp only [List.getElem_toArray, List.getElem_cons_zero, Act.put, List.setIfInBounds_toArray, List.set_cons_zero, List.set_cons_succ])
                      (refine wpAnyH_take (i := 1) (v := ?_) rfl (by kernel_rfl) (by kernel_rfl) (by kernel_rfl) (fun _ _ _ h => h) (Or.inl ⟨by rfl, ?hy1⟩) (by assumption) ?_; case hy1 => ((intro w hSw); (try dsimp only at hSw); (try go_simp); (try with_reducible rfl))); (try simp only [List.getElem_toArray, List.getElem_cons_succ, List.getElem_cons_zero, Act.put, List.setIfInBounds_toArray, List.set_cons_zero, List.set_cons_succ])
                      (refine wpAnyH_take (i := 2) (v := ?_) rfl (by kernel_rfl) (by kernel_rfl) (by kernel_rfl) (fun _ _ _ h => h) (Or.inl ⟨by rfl, ?hy2⟩) (by assumption) ?_; case hy2 => ((intro w hSw); (try dsimp only at hSw); (try go_simp); (try with_reducible rfl))); (try simp only [List.getElem_toArray, List.getElem_cons_succ, List.getElem_cons_zero, Act.put, List.setIfInBounds_toArray, List.set_cons_zero, List.set_cons_succ])
                      (refine wpAnyH_take (i := 3) (v := ?_) rfl (by kernel_rfl) (by kernel_rfl) (by kernel_rfl) (fun _ _ _ h => h) (Or.inl ⟨by rfl, ?hy3⟩) (by assumption) ?_; case hy3 => ((intro w hSw); (try dsimp only at hSw); (try go_simp); (try with_reducible rfl))); (try simp only [List.getElem_toArray, List.getElem_cons_succ, List.getElem_cons_zero, Act.put, List.setIfInBounds_toArray, List.set_cons_zero, List.set_cons_succ])
                      (refine wpAnyH_take (i := 4) (v := ?_) rfl (by kernel_rfl) (by kernel_rfl) (by kernel_rfl) (fun _ _ _ h => h) (Or.inl ⟨by rfl, ?hy4⟩) (by assumption) ?_; case hy4 => ((intro w hSw); (try dsimp only at hSw); (try go_simp); (try with_reducible rfl))); (try simp only [List.getElem_toArray, List.getElem_cons_succ, List.getElem_cons_zero, Act.put, List.setIfInBounds_toArray, List.set_cons_zero, List.set_cons_succ])
                      (refine wpAnyH_take (i := 5) (v := undef) rfl (by kernel_rfl) (by kernel_rfl) (by kernel_rfl) (fun _ _ _ h => h) (Or.inr ⟨by rfl, rfl⟩) (by assumption) ?_); (try simp only [List.getElem_toArray, List.getElem_cons_succ, List.getElem_cons_zero, Act.put, List.setIfInBounds_toArray, List.set_cons_zero, List.set_cons_succ])
                      (refine wpAnyH_take (i := 6) (v := undef) rfl (by kernel_rfl) (by kernel_rfl) (by kernel_rfl) (fun _ _ _ h => h) (Or.inr ⟨by rfl, rfl⟩) (by assumption) ?_); (try simp only [List.getElem_toArray, List.getElem_cons_succ, List.getElem_cons_zero, Act.put, List.setIfInBounds_toArray, List.set_cons_zero, List.set_cons_succ])
                      (refine wpAnyH_take (i := 7) (v := undef) rfl (by kernel_rfl) (by kernel_rfl) (by kernel_rfl) (fun _ _ _ h => h) (Or.inr ⟨by rfl, rfl⟩) (by assumption) ?_); (try simp only [List.getElem_toArray, List.getElem_cons_succ, List.getElem_cons_zero, Act.put, List.setIfInBounds_toArray, List.set_cons_zero, List.set_cons_succ])
                      (refine wpAnyH_take (i := 8) (v := undef) rfl (by kernel_rfl) (by kernel_rfl) (by kernel_rfl) (fun _ _ _ h => h) (Or.inr ⟨by rfl, rfl⟩) (by assumption) ?_); (try simp only [List.getElem_toArray, List.getElem_cons_succ, List.getElem_cons_zero, Act.put, List.setIfInBounds_toArray, List.set_cons_zero, List.set_cons_succ])
                      (refine wpAnyH_take (i := 9) (v := undef) rfl (by kernel_rfl) (by kernel_rfl) (by kernel_rfl) (fun _ _ _ h => h) (Or.inr ⟨by rfl, rfl⟩) (by assumption) ?_); (try simp only [List.getElem_toArray, List.getElem_cons_succ, List.getElem_cons_zero, Act.put, List.setIfInBounds_toArray, List.set_cons_zero, List.set_cons_succ])
                      (refine wpAnyH_take (i := 10) (v := undef) rfl (by kernel_rfl) (by kernel_rfl) (by kernel_rfl) (fun _ _ _ h => h) (Or.inr ⟨by rfl, rfl⟩) (by assumption) ?_); (try simp only [List.getElem_toArray, List.getElem_cons_succ, List.getElem_cons_zero, Act.put, List.setIfInBounds_toArray, List.set_cons_zero, List.set_cons_succ])
                      (refine wpAnyH_take (i := 11) (v := ?_) rfl (by kernel_rfl) (by kernel_rfl) (by kernel_rfl) (fun _ _ _ h => h) (Or.inl ⟨by rfl, ?hy11⟩) (by assumption) ?_; case hy11 => ((intro w hSw); (try dsimp only at hSw); (try go_simp); (try with_reducible rfl))); (try simp only [List.getElem_toArray, List.getElem_cons_succ, List.getElem_cons_zero, Act.put, List.setIfInBounds_toArray, List.set_cons_zero, List.set_cons_succ])
                      (refine wpAnyH_take (i := 12) (v := ?_) rfl (by kernel_rfl) (by kernel_rfl) (by kernel_rfl) (fun _ _ _ h => h) (Or.inl ⟨by rfl, ?hy12⟩) (by assumption) ?_; case hy12 => ((intro w hSw); (try dsimp only at hSw); (try go_simp); (try with_reducible rfl))); (try simp only [List.getElem_toArray, List.getElem_cons_succ, List.getElem_cons_zero, Act.put, List.setIfInBounds_toArray, List.set_cons_zero, List.set_cons_succ])
                      (refine wpAnyH_take (i := 13) (v := ?_) rfl (by kernel_rfl) (by kernel_rfl) (by kernel_rfl) (fun _ _ _ h => h) (Or.inl ⟨by rfl, ?hy13⟩) (by assumption) ?_; case hy13 => ((intro w hSw); (try dsimp only at hSw); (try go_simp); (try with_reducible rfl))); (try simp only [List.getElem_toArray, List.getElem_cons_succ, List.getElem_cons_zero, Act.put, List.setIfInBounds_toArray, List.set_cons_zero, List.set_cons_succ])
                      (refine wpAnyH_take (i := 14) (v := ?_) rfl (by kernel_rfl) (by kernel_rfl) (by kernel_rfl) (fun _ _ _ h => h) (Or.inl ⟨by rfl, ?hy14⟩) (by assumption) ?_; case hy14 => ((intro w hSw); (try dsimp only at hSw); (try go_simp); (try with_reducible rfl))); (try simp only [List.getElem_toArray, List.getElem_cons_succ, List.getElem_cons_zero, Act.put, List.setIfInBounds_toArray, List.set_cons_zero, List.set_cons_succ])
                      (refine wpAnyH_take (i := 15) (v := ?_) rfl (by kernel_rfl) (by kernel_rfl) (by kernel_rfl) (fun _ _ _ h => h) (Or.inl ⟨by rfl, ?hy15⟩) (by assumption) ?_; case hy15 => ((intro w hSw); (try dsimp only at hSw); (try go_simp); (try with_reducible rfl))); (try simp only [List.getElem_toArray, List.getElem_cons_succ, List.getElem_cons_zero, Act.put, List.setIfInBounds_toArray, List.set_cons_zero, List.set_cons_succ])
                      (refine wpAnyH_take (i := 16) (v := .bool true) rfl (by kernel_rfl) (by kernel_rfl) (by kernel_rfl) (fun _ _ _ h => h) (Or.inl ⟨by rfl, ?hy16⟩) (by assumption) ?_; case hy16 => ((intro w hSw); (try dsimp only at hSw); (try go_simp); (try simp [hai, hna]))); (try simp only [List.getElem_toArray, List.getElem_cons_succ, List.getElem_cons_zero, Act.put, List.setIfInBounds_toArray, List.set_cons_zero, List.set_cons_succ])
                      (refine wpAnyH_take (i := 17) (v := ?_) rfl (by kernel_rfl) (by kernel_rfl) (by kernel_rfl) (fun _ _ _ h => h) (Or.inl ⟨by rfl, ?hy17⟩) (by assumption) ?_; case hy17 => ((intro w hSw); (try dsimp only at hSw); (try go_simp); (try with_reducible rfl))); (try simp only [List.getElem_toArray, List.getElem_cons_succ, List.getElem_cons_zero, Act.put, List.setIfInBounds_toArray, List.set_cons_zero, List.set_cons_succ])
                      (refine wpAnyH_take (i := 18) (v := ?_) rfl (by kernel_rfl) (by kernel_rfl) (by kernel_rfl) (fun _ _ _ h => h) (Or.inl ⟨by rfl, ?hy18⟩) (by assumption) ?_; case hy18 => ((intro w hSw); (try dsimp only at hSw); (try go_simp); (try with_reducible rfl))); (try simp only [List.getElem_toArray, List.getElem_cons_succ, List.getElem_cons_zero, Act.put, List.setIfInBounds_toArray, List.set_cons_zero, List.set_cons_succ])
                      (refine wpAnyH_take (i := 20) (v := ?_) rfl (by kernel_rfl) (by kernel_rfl) (by kernel_rfl) (fun _ _ _ h => h) (Or.inl ⟨by rfl, ?hy20⟩) (by assumption) ?_; case hy20 => ((intro w hSw); (try dsimp only at hSw); (try go_simp); (try with_reducible rfl))); (try simp only [List.getElem_toArray, List.getElem_cons_succ, List.getElem_cons_zero, Act.put, List.setIfInBounds_toArray, List.set_cons_zero, List.set_cons_succ])
                      (refine wpAnyH_take (i := 21) (v := ?_) rfl (by kernel_rfl) (by kernel_rfl) (by kernel_rfl) (fun _ _ _ h => h) (Or.inl ⟨by rfl, ?hy21⟩) (by assumption) ?_; case hy21 => ((intro w hSw); (try dsimp only at hSw); (try go_simp); (try with_reducible rfl))); (try simp only [List.getElem_toArray, List.getElem_cons_succ, List.getElem_cons_zero, Act.put, List.setIfInBounds_toArray, List.set_cons_zero, List.set_cons_succ])
                      refine wpAnyH_ready (rs := [19]) (by kernel_rfl) (by simp) ?_
                      refine AllReadyH.cons (i := 19) rfl (fun K hK => ?_) AllReadyH.nil
                      (try simp only [List.getElem_toArray, List.getElem_cons_succ, List.getElem_cons_zero, Act.put, List.setIfInBounds_toArray, List.set_cons_zero, List.set_cons_succ])
                      go_simp
                      (go_at_call 21; refine (implKbInds_any (w := wc.drew) (HKs.out _ (HTo.out _ (HT6.out _ Hd.out))) hsd HSm.out).mono ?_; rintro r w9 ⟨v7, g9, rfl, ho7, hb7⟩; obtain ⟨ra9, rc9, hv7, _⟩ := ownW_form ho7; subst hv7; obtain ⟨rn9, hrn⟩ : ∃ z, z = (ansK kbI xs).length := ⟨_, rfl⟩; rw [← hrn] at ho7 ⊢; have HRn9 : Hid (rn9 = (ansK kbI xs).length) := hrn; have H9 : Hid (Below wc.heap.size wc w9) := Hd.out.trans (hb7.mono Hd.out.size); have HO9 : Hid (OwnW wc.drew.heap.size w9 (.slice ra9 rn9 rc9) (ansK kbI xs) g9) := ho7; obtain ⟨y0, y9, y10, y11⟩ := HQc.out w9 H9.out; obtain ⟨x0, xf0⟩ := HXs.out w9 (HTo.out _ (HT6.out _ H9.out)); have hs9 : w1.heap.size ≤ w9.heap.size := Nat.le_trans hs1 (HTo.out _ (HT6.out _ H9.out)).size; clear ho7 hb7 hrn)
                      (try go_wp2_with fail)
                      refine hK.out _ _ (HSd.out _ H9.out) (fun hHeld => ?_)
                      clear hK K
                      (try simp only [List.getElem_toArray, List.getElem_cons_succ, List.getElem_cons_zero, Act.put, List.setIfInBounds_toArray, List.set_cons_zero, List.set_cons_succ])
                      refine wpAnyH_ready (rs := [22]) (by kernel_rfl) (by simp) ?_
                      refine AllReadyH.cons (i := 22) rfl (fun K hK => ?_) AllReadyH.nil
                      (try simp only [List.getElem_toArray, List.getElem_cons_succ, List.getElem_cons_zero, Act.put, List.setIfInBounds_toArray, List.set_cons_zero, List.set_cons_succ])
                      go_simp
                      (go_at_call 19; (with_reducible refine (has_all (w := w9) HO9.out (HRas.out _ H9.out) HLa.out).mono ?_); rintro r w8 ⟨rfl, hw8⟩; rw [hw8, HAin.out]; clear hw8)
                      (try go_wp2_with fail)
                      refine hK.out _ _ (HSd.out _ H9.out) (fun hHeld => ?_)
                      clear hK K
                      (try simp only [List.getElem_toArray, List.getElem_cons_succ, List.getElem_cons_zero, Act.put, List.setIfInBounds_toArray, List.set_cons_zero, List.set_cons_succ])
                      (refine wpAnyH_take (i := 23) (v := ?_) rfl (by kernel_rfl) (by kernel_rfl) (by kernel_rfl) (fun _ _ _ h => h) (Or.inl ⟨by rfl, ?hy23⟩) (by assumption) ?_; case hy23 => ((intro w hSw); (try dsimp only at hSw); (try go_simp); (try with_reducible rfl))); (try simp only [List.getElem_toArray, List.getElem_cons_succ, List.getElem_cons_zero, Act.put, List.setIfInBounds_toArray, List.set_cons_zero, List.set_cons_succ])
                      (refine wpAnyH_take (i := 24) (v := ?_) rfl (by kernel_rfl) (by kernel_rfl) (by kernel_rfl) (fun _ _ _ h => h) (Or.inl ⟨by rfl, ?hy24⟩) (by assumption) ?_; case hy24 => ((intro w hSw); (try dsimp only at hSw); (try go_simp); (try with_reducible rfl))); (try simp only [List.getElem_toArray, List.getElem_cons_succ, List.getElem_cons_zero, Act.put, List.setIfInBounds_toArray, List.set_cons_zero, List.set_cons_succ])
                      (refine wpAnyH_take (i := 25) (v := ?_) rfl (by kernel_rfl) (by kernel_rfl) (by kernel_rfl) (fun _ _ _ h => h) (Or.inl ⟨by rfl, ?hy25⟩) (by assumption) ?_; case hy25 => ((intro w hSw); (try dsimp only at hSw); (try go_simp); (try with_reducible rfl))); (try simp only [List.getElem_toArray, List.getElem_cons_succ, List.getElem_cons_zero, Act.put, List.setIfInBounds_toArray, List.set_cons_zero, List.set_cons_succ])
                      refine wpAnyH_done (by kernel_rfl) ?_ _
                      all_goals
                        go_wp2_with fail
                        go_meet
                        case rel => exact ⟨rfl, HT6.out _ H9.out⟩
                  · have hri : (0 : Int) < (frn : Int) := by omega
                    have HRin : Hid (decide (x.r ∈ ansK kbR xs) = true) := HRin.out hr0
                    by_cases ha0 : fan = 0
                    · subst ha0
                      have hnr : 0 < frn := by omega
                      refine wp_region_held_drew (S := (fun V => V.cell? ⟨p, 0, none⟩ = some (.slice (some ⟨b1, o1, none⟩) m vc) ∧ V.cell? ⟨q, 0, none⟩ = some (.int .i64 kd) ∧ V.cell? ⟨q, 9, none⟩ = some (.slice fra frn frc) ∧ V.cell? ⟨q, 11, none⟩ = some (.slice faa 0 fac))) (by kernel_rfl) (HSd.out _ Hd.out) (fun hHeld => ?_)
                      (refine wpAnyH_take (i := 0) (v := ?_) rfl (by kernel_rfl) (by kernel_rfl) (by kernel_rfl) (fun _ _ _ h => h) (Or.inl ⟨by rfl, ?hy0⟩) (by assumption) ?_; case hy0 => ((intro w hSw); (try dsimp only at hSw); (try go_simp); (try with_reducible rfl))); (try simp only [List.getElem_toArray, List.getElem_cons_zero, Act.put, List.setIfInBounds_toArray, List.set_cons_zero, List.set_cons_succ])
                      (refine wpAnyH_take (i := 1) (v := ?_) rfl (by kernel_rfl) (by kernel_rfl) (by kernel_rfl) (fun _ _ _ h => h) (Or.inl ⟨by rfl, ?hy1⟩) (by assumption) ?_; case hy1 => ((intro w hSw); (try dsimp only at hSw); (try go_simp); (try with_reducible rfl))); (try simp only [List.getElem_toArray, List.getElem_cons_succ, List.getElem_cons_zero, Act.put, List.setIfInBounds_toArray, List.set_cons_zero, List.set_cons_succ])
                      (refine wpAnyH_take (i := 2) (v := ?_) rfl (by kernel_rfl) (by kernel_rfl) (by kernel_rfl) (fun _ _ _ h => h) (Or.inl ⟨by rfl, ?hy2⟩) (by assumption) ?_; case hy2 => ((intro w hSw); (try dsimp only at hSw); (try go_simp); (try with_reducible rfl))); (try simp only [List.getElem_toArray, List.getElem_cons_succ, List.getElem_cons_zero, Act.put, List.setIfInBounds_toArray, List.set_cons_zero, List.set_cons_succ])
                      (refine wpAnyH_take (i := 3) (v := .bool true) rfl (by kernel_rfl) (by kernel_rfl) (by kernel_rfl) (fun _ _ _ h => h) (Or.inl ⟨by rfl, ?hy3⟩) (by assumption) ?_; case hy3 => ((intro w hSw); (try dsimp only at hSw); (try go_simp); (try simp [hri, hnr]))); (try simp only [List.getElem_toArray, List.getElem_cons_succ, List.getElem_cons_zero, Act.put, List.setIfInBounds_toArray, List.set_cons_zero, List.set_cons_succ])
                      (refine wpAnyH_take (i := 4) (v := ?_) rfl (by kernel_rfl) (by kernel_rfl) (by kernel_rfl) (fun _ _ _ h => h) (Or.inl ⟨by rfl, ?hy4⟩) (by assumption) ?_; case hy4 => ((intro w hSw); (try dsimp only at hSw); (try go_simp); (try with_reducible rfl))); (try simp only [List.getElem_toArray, List.getElem_cons_succ, List.getElem_cons_zero, Act.put, List.setIfInBounds_toArray, List.set_cons_zero, List.set_cons_succ])
                      (refine wpAnyH_take (i := 5) (v := ?_) rfl (by kernel_rfl) (by kernel_rfl) (by kernel_rfl) (fun _ _ _ h => h) (Or.inl ⟨by rfl, ?hy5⟩) (by assumption) ?_; case hy5 => ((intro w hSw); (try dsimp only at hSw); (try go_simp); (try with_reducible rfl))); (try simp only [List.getElem_toArray, List.getElem_cons_succ, List.getElem_cons_zero, Act.put, List.setIfInBounds_toArray, List.set_cons_zero, List.set_cons_succ])
                      (refine wpAnyH_take (i := 7) (v := ?_) rfl (by kernel_rfl) (by kernel_rfl) (by kernel_rfl) (fun _ _ _ h => h) (Or.inl ⟨by rfl, ?hy7⟩) (by assumption) ?_; case hy7 => ((intro w hSw); (try dsimp only at hSw); (try go_simp); (try with_reducible rfl))); (try simp only [List.getElem_toArray, List.getElem_cons_succ, List.getElem_cons_zero, Act.put, List.setIfInBounds_toArray, List.set_cons_zero, List.set_cons_succ])
                      (refine wpAnyH_take (i := 8) (v := ?_) rfl (by kernel_rfl) (by kernel_rfl) (by kernel_rfl) (fun _ _ _ h => h) (Or.inl ⟨by rfl, ?hy8⟩) (by assumption) ?_; case hy8 => ((intro w hSw); (try dsimp only at hSw); (try go_simp); (try with_reducible rfl))); (try simp only [List.getElem_toArray, List.getElem_cons_succ, List.getElem_cons_zero, Act.put, List.setIfInBounds_toArray, List.set_cons_zero, List.set_cons_succ])
                      refine wpAnyH_ready (rs := [6]) (by kernel_rfl) (by simp) ?_
                      refine AllReadyH.cons (i := 6) rfl (fun K hK => ?_) AllReadyH.nil
                      (try simp only [List.getElem_toArray, List.getElem_cons_succ, List.getElem_cons_zero, Act.put, List.setIfInBounds_toArray, List.set_cons_zero, List.set_cons_succ])
                      go_simp
                      (go_at_call 20; refine (implKbRoles_any (w := wc.drew) (HKs.out _ (HTo.out _ (HT6.out _ Hd.out))) hsd HSm.out).mono ?_; rintro r w7 ⟨v7, g7, rfl, ho7, hb7⟩; obtain ⟨ra7, rc7, hv7, _⟩ := ownW_form ho7; subst hv7; obtain ⟨rn7, hrn⟩ : ∃ z, z = (ansK kbR xs).length := ⟨_, rfl⟩; rw [← hrn] at ho7 ⊢; have HRn7 : Hid (rn7 = (ansK kbR xs).length) := hrn; have H7 : Hid (Below wc.heap.size wc w7) := Hd.out.trans (hb7.mono Hd.out.size); have HO7 : Hid (OwnW wc.drew.heap.size w7 (.slice ra7 rn7 rc7) (ansK kbR xs) g7) := ho7; obtain ⟨y0, y9, y10, y11⟩ := HQc.out w7 H7.out; obtain ⟨x0, xf0⟩ := HXs.out w7 (HTo.out _ (HT6.out _ H7.out)); have hs7 : w1.heap.size ≤ w7.heap.size := Nat.le_trans hs1 (HTo.out _ (HT6.out _ H7.out)).size; clear ho7 hb7 hrn)
                      (try go_wp2_with fail)
                      refine hK.out _ _ (HSd.out _ H7.out) (fun hHeld => ?_)
                      clear hK K
                      (try simp only [List.getElem_toArray, List.getElem_cons_succ, List.getElem_cons_zero, Act.put, List.setIfInBounds_toArray, List.set_cons_zero, List.set_cons_succ])
                      refine wpAnyH_ready (rs := [9]) (by kernel_rfl) (by simp) ?_
                      refine AllReadyH.cons (i := 9) rfl (fun K hK => ?_) AllReadyH.nil
                      (try simp only [List.getElem_toArray, List.getElem_cons_succ, List.getElem_cons_zero, Act.put, List.setIfInBounds_toArray, List.set_cons_zero, List.set_cons_succ])
                      go_simp
                      (go_at_call 19; (with_reducible refine (has_all (w := w7) HO7.out (HRrs.out _ H7.out) HLr.out).mono ?_); rintro r w8 ⟨rfl, hw8⟩; rw [hw8, HRin.out]; clear hw8)
                      (try go_wp2_with fail)
                      refine hK.out _ _ (HSd.out _ H7.out) (fun hHeld => ?_)
                      clear hK K
                      (try simp only [List.getElem_toArray, List.getElem_cons_succ, List.getElem_cons_zero, Act.put, List.setIfInBounds_toArray, List.set_cons_zero, List.set_cons_succ])
                      (refine wpAnyH_take (i := 10) (v := ?_) rfl (by kernel_rfl) (by kernel_rfl) (by kernel_rfl) (fun _ _ _ h => h) (Or.inl ⟨by rfl, ?hy10⟩) (by assumption) ?_; case hy10 => ((intro w hSw); (try dsimp only at hSw); (try go_simp); (try with_reducible rfl))); (try simp only [List.getElem_toArray, List.getElem_cons_succ, List.getElem_cons_zero, Act.put, List.setIfInBounds_toArray, List.set_cons_zero, List.set_cons_succ])
                      (refine wpAnyH_take (i := 11) (v := ?_) rfl (by kernel_rfl) (by kernel_rfl) (by kernel_rfl) (fun _ _ _ h => h) (Or.inl ⟨by rfl, ?hy11⟩) (by assumption) ?_; case hy11 => ((intro w hSw); (try dsimp only at hSw); (try go_simp); (try with_reducible rfl))); (try simp only [List.getElem_toArray, List.getElem_cons_succ, List.getElem_cons_zero, Act.put, List.setIfInBounds_toArray, List.set_cons_zero, List.set_cons_succ])
                      (refine wpAnyH_take (i := 12) (v := ?_) rfl (by kernel_rfl) (by kernel_rfl) (by kernel_rfl) (fun _ _ _ h => h) (Or.inl ⟨by rfl, ?hy12⟩) (by assumption) ?_; case hy12 => ((intro w hSw); (try dsimp only at hSw); (try go_simp); (try with_reducible rfl))); (try simp only [List.getElem_toArray, List.getElem_cons_succ, List.getElem_cons_zero, Act.put, List.setIfInBounds_toArray, List.set_cons_zero, List.set_cons_succ])
                      (refine wpAnyH_take (i := 13) (v := ?_) rfl (by kernel_rfl) (by kernel_rfl) (by kernel_rfl) (fun _ _ _ h => h) (Or.inl ⟨by rfl, ?hy13⟩) (by assumption) ?_; case hy13 => ((intro w hSw); (try dsimp only at hSw); (try go_simp); (try with_reducible rfl))); (try simp only [List.getElem_toArray, List.getElem_cons_succ, List.getElem_cons_zero, Act.put, List.setIfInBounds_toArray, List.set_cons_zero, List.set_cons_succ])
                      (refine wpAnyH_take (i := 14) (v := ?_) rfl (by kernel_rfl) (by kernel_rfl) (by kernel_rfl) (fun _ _ _ h => h) (Or.inl ⟨by rfl, ?hy14⟩) (by assumption) ?_; case hy14 => ((intro w hSw); (try dsimp only at hSw); (try go_simp); (try with_reducible rfl))); (try simp only [List.getElem_toArray, List.getElem_cons_succ, List.getElem_cons_zero, Act.put, List.setIfInBounds_toArray, List.set_cons_zero, List.set_cons_succ])
                      (refine wpAnyH_take (i := 15) (v := ?_) rfl (by kernel_rfl) (by kernel_rfl) (by kernel_rfl) (fun _ _ _ h => h) (Or.inl ⟨by rfl, ?hy15⟩) (by assumption) ?_; case hy15 => ((intro w hSw); (try dsimp only at hSw); (try go_simp); (try with_reducible rfl))); (try simp only [List.getElem_toArray, List.getElem_cons_succ, List.getElem_cons_zero, Act.put, List.setIfInBounds_toArray, List.set_cons_zero, List.set_cons_succ])
                      (refine wpAnyH_take (i := 16) (v := ?_) rfl (by kernel_rfl) (by kernel_rfl) (by kernel_rfl) (fun _ _ _ h => h) (Or.inl ⟨by rfl, ?hy16⟩) (by assumption) ?_; case hy16 => ((intro w hSw); (try dsimp only at hSw); (try go_simp); (try with_reducible rfl))); (try simp only [List.getElem_toArray, List.getElem_cons_succ, List.getElem_cons_zero, Act.put, List.setIfInBounds_toArray, List.set_cons_zero, List.set_cons_succ])
                      (refine wpAnyH_take (i := 17) (v := ?_) rfl (by kernel_rfl) (by kernel_rfl) (by kernel_rfl) (fun _ _ _ h => h) (Or.inl ⟨by rfl, ?hy17⟩) (by assumption) ?_; case hy17 => ((intro w hSw); (try dsimp only at hSw); (try go_simp); (try with_reducible rfl))); (try simp only [List.getElem_toArray, List.getElem_cons_succ, List.getElem_cons_zero, Act.put, List.setIfInBounds_toArray, List.set_cons_zero, List.set_cons_succ])
                      (refine wpAnyH_take (i := 18) (v := undef) rfl (by kernel_rfl) (by kernel_rfl) (by kernel_rfl) (fun _ _ _ h => h) (Or.inr ⟨by rfl, rfl⟩) (by assumption) ?_); (try simp only [List.getElem_toArray, List.getElem_cons_succ, List.getElem_cons_zero, Act.put, List.setIfInBounds_toArray, List.set_cons_zero, List.set_cons_succ])
                      (refine wpAnyH_take (i := 19) (v := undef) rfl (by kernel_rfl) (by kernel_rfl) (by kernel_rfl) (fun _ _ _ h => h) (Or.inr ⟨by rfl, rfl⟩) (by assumption) ?_); (try simp only [List.getElem_toArray, List.getElem_cons_succ, List.getElem_cons_zero, Act.put, List.setIfInBounds_toArray, List.set_cons_zero, List.set_cons_succ])
                      (refine wpAnyH_take (i := 20) (v := undef) rfl (by kernel_rfl) (by kernel_rfl) (by kernel_rfl) (fun _ _ _ h => h) (Or.inr ⟨by rfl, rfl⟩) (by assumption) ?_); (try simp only [List.getElem_toArray, List.getElem_cons_succ, List.getElem_cons_zero, Act.put, List.setIfInBounds_toArray, List.set_cons_zero, List.set_cons_succ])
                      (refine wpAnyH_take (i := 21) (v := undef) rfl (by kernel_rfl) (by kernel_rfl) (by kernel_rfl) (fun _ _ _ h => h) (Or.inr ⟨by rfl, rfl⟩) (by assumption) ?_); (try simp only [List.getElem_toArray, List.getElem_cons_succ, List.getElem_cons_zero, Act.put, List.setIfInBounds_toArray, List.set_cons_zero, List.set_cons_succ])
                      (refine wpAnyH_take (i := 22) (v := undef) rfl (by kernel_rfl) (by kernel_rfl) (by kernel_rfl) (fun _ _ _ h => h) (Or.inr ⟨by rfl, rfl⟩) (by assumption) ?_); (try simp only [List.getElem_toArray, List.getElem_cons_succ, List.getElem_cons_zero, Act.put, List.setIfInBounds_toArray, List.set_cons_zero, List.set_cons_succ])
                      (refine wpAnyH_take (i := 23) (v := undef) rfl (by kernel_rfl) (by kernel_rfl) (by kernel_rfl) (fun _ _ _ h => h) (Or.inr ⟨by rfl, rfl⟩) (by assumption) ?_); (try simp only [List.getElem_toArray, List.getElem_cons_succ, List.getElem_cons_zero, Act.put, List.setIfInBounds_toArray, List.set_cons_zero, List.set_cons_succ])
                      (refine wpAnyH_take (i := 24) (v := ?_) rfl (by kernel_rfl) (by kernel_rfl) (by kernel_rfl) (fun _ _ _ h => h) (Or.inl ⟨by rfl, ?hy24⟩) (by assumption) ?_; case hy24 => ((intro w hSw); (try dsimp only at hSw); (try go_simp); (try with_reducible rfl))); (try simp only [List.getElem_toArray, List.getElem_cons_succ, List.getElem_cons_zero, Act.put, List.setIfInBounds_toArray, List.set_cons_zero, List.set_cons_succ])
                      (refine wpAnyH_take (i := 25) (v := ?_) rfl (by kernel_rfl) (by kernel_rfl) (by kernel_rfl) (fun _ _ _ h => h) (Or.inl ⟨by rfl, ?hy25⟩) (by assumption) ?_; case hy25 => ((intro w hSw); (try dsimp only at hSw); (try go_simp); (try with_reducible rfl))); (try simp only [List.getElem_toArray, List.getElem_cons_succ, List.getElem_cons_zero, Act.put, List.setIfInBounds_toArray, List.set_cons_zero, List.set_cons_succ])
                      refine wpAnyH_done (by kernel_rfl) ?_ _
                      all_goals
                        go_wp2_with fail
                        go_meet
                        case rel => exact ⟨rfl, HT6.out _ H7.out⟩
                    · have hai : (0 : Int) < (fan : Int) := by omega
                      have HAin : Hid (decide (x.a ∈ ansK kbI xs) = true) := HAin.out ha0
                      have hna : 0 < fan := by omega
                      have hnr : 0 < frn := by omega
                      refine wp_region_held_drew (S := (fun V => V.cell? ⟨p, 0, none⟩ = some (.slice (some ⟨b1, o1, none⟩) m vc) ∧ V.cell? ⟨q, 0, none⟩ = some (.int .i64 kd) ∧ V.cell? ⟨q, 9, none⟩ = some (.slice fra frn frc) ∧ V.cell? ⟨q, 11, none⟩ = some (.slice faa fan fac))) (by kernel_rfl) (HSd.out _ Hd.out) (fun hHeld => ?_)
                      (refine wpAnyH_take (i := 0) (v := ?_) rfl (by kernel_rfl) (by kernel_rfl) (by kernel_rfl) (fun _ _ _ h => h) (Or.inl ⟨by rfl, ?hy0⟩) (by assumption) ?_; case hy0 => ((intro w hSw); (try dsimp only at hSw); (try go_simp); (try with_reducible rfl))); (try simp only [List.getElem_toArray, List.getElem_cons_zero, Act.put, List.setIfInBounds_toArray, List.set_cons_zero, List.set_cons_succ])
                      (refine wpAnyH_take (i := 1) (v := ?_) rfl (by kernel_rfl) (by kernel_rfl) (by kernel_rfl) (fun _ _ _ h => h) (Or.inl ⟨by rfl, ?hy1⟩) (by assumption) ?_; case hy1 => ((intro w hSw); (try dsimp only at hSw); (try go_simp); (try with_reducible rfl))); (try simp only [List.getElem_toArray, List.getElem_cons_succ, List.getElem_cons_zero, Act.put, List.setIfInBounds_toArray, List.set_cons_zero, List.set_cons_succ])
                      (refine wpAnyH_take (i := 2) (v := ?_) rfl (by kernel_rfl) (by kernel_rfl) (by kernel_rfl) (fun _ _ _ h => h) (Or.inl ⟨by rfl, ?hy2⟩) (by assumption) ?_; case hy2 => ((intro w hSw); (try dsimp only at hSw); (try go_simp); (try with_reducible rfl))); (try simp only [List.getElem_toArray, List.getElem_cons_succ, List.getElem_cons_zero, Act.put, List.setIfInBounds_toArray, List.set_cons_zero, List.set_cons_succ])
                      (refine wpAnyH_take (i := 3) (v := .bool true) rfl (by kernel_rfl) (by kernel_rfl) (by kernel_rfl) (fun _ _ _ h => h) (Or.inl ⟨by rfl, ?hy3⟩) (by assumption) ?_; case hy3 => ((intro w hSw); (try dsimp only at hSw); (try go_simp); (try simp [hri, hnr]))); (try simp only [List.getElem_toArray, List.getElem_cons_succ, List.getElem_cons_zero, Act.put, List.setIfInBounds_toArray, List.set_cons_zero, List.set_cons_succ])
                      (refine wpAnyH_take (i := 4) (v := ?_) rfl (by kernel_rfl) (by kernel_rfl) (by kernel_rfl) (fun _ _ _ h => h) (Or.inl ⟨by rfl, ?hy4⟩) (by assumption) ?_; case hy4 => ((intro w hSw); (try dsimp only at hSw); (try go_simp); (try with_reducible rfl))); (try simp only [List.getElem_toArray, List.getElem_cons_succ, List.getElem_cons_zero, Act.put, List.setIfInBounds_toArray, List.set_cons_zero, List.set_cons_succ])
                      (refine wpAnyH_take (i := 5) (v := ?_) rfl (by kernel_rfl) (by kernel_rfl) (by kernel_rfl) (fun _ _ _ h => h) (Or.inl ⟨by rfl, ?hy5⟩) (by assumption) ?_; case hy5 => ((intro w hSw); (try dsimp only at hSw); (try go_simp); (try with_reducible rfl))); (try simp only [List.getElem_toArray, List.getElem_cons_succ, List.getElem_cons_zero, Act.put, List.setIfInBounds_toArray, List.set_cons_zero, List.set_cons_succ])
                      (refine wpAnyH_take (i := 7) (v := ?_) rfl (by kernel_rfl) (by kernel_rfl) (by kernel_rfl) (fun _ _ _ h => h) (Or.inl ⟨by rfl, ?hy7⟩) (by assumption) ?_; case hy7 => ((intro w hSw); (try dsimp only at hSw); (try go_simp); (try with_reducible rfl))); (try simp only [List.getElem_toArray, List.getElem_cons_succ, List.getElem_cons_zero, Act.put, List.setIfInBounds_toArray, List.set_cons_zero, List.set_cons_succ])
                      (refine wpAnyH_take (i := 8) (v := ?_) rfl (by kernel_rfl) (by kernel_rfl) (by kernel_rfl) (fun _ _ _ h => h) (Or.inl ⟨by rfl, ?hy8⟩) (by assumption) ?_; case hy8 => ((intro w hSw); (try dsimp only at hSw); (try go_simp); (try with_reducible rfl))); (try simp only [List.getElem_toArray, List.getElem_cons_succ, List.getElem_cons_zero, Act.put, List.setIfInBounds_toArray, List.set_cons_zero, List.set_cons_succ])
                      refine wpAnyH_ready (rs := [6]) (by kernel_rfl) (by simp) ?_
                      refine AllReadyH.cons (i := 6) rfl (fun K hK => ?_) AllReadyH.nil
                      (try simp only [List.getElem_toArray, List.getElem_cons_succ, List.getElem_cons_zero, Act.put, List.setIfInBounds_toArray, List.set_cons_zero, List.set_cons_succ])
                      go_simp
                      (go_at_call 20; refine (implKbRoles_any (w := wc.drew) (HKs.out _ (HTo.out _ (HT6.out _ Hd.out))) hsd HSm.out).mono ?_; rintro r w7 ⟨v7, g7, rfl, ho7, hb7⟩; obtain ⟨ra7, rc7, hv7, _⟩ := ownW_form ho7; subst hv7; obtain ⟨rn7, hrn⟩ : ∃ z, z = (ansK kbR xs).length := ⟨_, rfl⟩; rw [← hrn] at ho7 ⊢; have HRn7 : Hid (rn7 = (ansK kbR xs).length) := hrn; have H7 : Hid (Below wc.heap.size wc w7) := Hd.out.trans (hb7.mono Hd.out.size); have HO7 : Hid (OwnW wc.drew.heap.size w7 (.slice ra7 rn7 rc7) (ansK kbR xs) g7) := ho7; obtain ⟨y0, y9, y10, y11⟩ := HQc.out w7 H7.out; obtain ⟨x0, xf0⟩ := HXs.out w7 (HTo.out _ (HT6.out _ H7.out)); have hs7 : w1.heap.size ≤ w7.heap.size := Nat.le_trans hs1 (HTo.out _ (HT6.out _ H7.out)).size; clear ho7 hb7 hrn)
                      (try go_wp2_with fail)
                      refine hK.out _ _ (HSd.out _ H7.out) (fun hHeld => ?_)
                      clear hK K
                      (try simp only [List.getElem_toArray, List.getElem_cons_succ, List.getElem_cons_zero, Act.put, List.setIfInBounds_toArray, List.set_cons_zero, List.set_cons_succ])
                      refine wpAnyH_ready (rs := [9]) (by kernel_rfl) (by simp) ?_
                      refine AllReadyH.cons (i := 9) rfl (fun K hK => ?_) AllReadyH.nil
                      (try simp only [List.getElem_toArray, List.getElem_cons_succ, List.getElem_cons_zero, Act.put, List.setIfInBounds_toArray, List.set_cons_zero, List.set_cons_succ])
                      go_simp
                      (go_at_call 19; (with_reducible refine (has_all (w := w7) HO7.out (HRrs.out _ H7.out) HLr.out).mono ?_); rintro r w8 ⟨rfl, hw8⟩; rw [hw8, HRin.out]; clear hw8)
                      (try go_wp2_with fail)
                      refine hK.out _ _ (HSd.out _ H7.out) (fun hHeld => ?_)
                      clear hK K
                      (try simp only [List.getElem_toArray, List.getElem_cons_succ, List.getElem_cons_zero, Act.put, List.setIfInBounds_toArray, List.set_cons_zero, List.set_cons_succ])
                      (refine wpAnyH_take (i := 10) (v := ?_) rfl (by kernel_rfl) (by kernel_rfl) (by kernel_rfl) (fun _ _ _ h => h) (Or.inl ⟨by rfl, ?hy10⟩) (by assumption) ?_; case hy10 => ((intro w hSw); (try dsimp only at hSw); (try go_simp); (try with_reducible rfl))); (try simp only [List.getElem_toArray, List.getElem_cons_succ, List.getElem_cons_zero, Act.put, List.setIfInBounds_toArray, List.set_cons_zero, List.set_cons_succ])
                      (refine wpAnyH_take (i := 11) (v := ?_) rfl (by kernel_rfl) (by kernel_rfl) (by kernel_rfl) (fun _ _ _ h => h) (Or.inl ⟨by rfl, ?hy11⟩) (by assumption) ?_; case hy11 => ((intro w hSw); (try dsimp only at hSw); (try go_simp); (try with_reducible rfl))); (try simp only [List.getElem_toArray, List.getElem_cons_succ, List.getElem_cons_zero, Act.put, List.setIfInBounds_toArray, List.set_cons_zero, List.set_cons_succ])
                      (refine wpAnyH_take (i := 12) (v := ?_) rfl (by kernel_rfl) (by kernel_rfl) (by kernel_rfl) (fun _ _ _ h => h) (Or.inl ⟨by rfl, ?hy12⟩) (by assumption) ?_; case hy12 => ((intro w hSw); (try dsimp only at hSw); (try go_simp); (try with_reducible rfl))); (try simp only [List.getElem_toArray, List.getElem_cons_succ, List.getElem_cons_zero, Act.put, List.setIfInBounds_toArray, List.set_cons_zero, List.set_cons_succ])
                      (refine wpAnyH_take (i := 13) (v := ?_) rfl (by kernel_rfl) (by kernel_rfl) (by kernel_rfl) (fun _ _ _ h => h) (Or.inl ⟨by rfl, ?hy13⟩) (by assumption) ?_; case hy13 => ((intro w hSw); (try dsimp only at hSw); (try go_simp); (try with_reducible rfl))); (try simp only [List.getElem_toArray, List.getElem_cons_succ, List.getElem_cons_zero, Act.put, List.setIfInBounds_toArray, List.set_cons_zero, List.set_cons_succ])
                      (refine wpAnyH_take (i := 14) (v := ?_) rfl (by kernel_rfl) (by kernel_rfl) (by kernel_rfl) (fun _ _ _ h => h) (Or.inl ⟨by rfl, ?hy14⟩) (by assumption) ?_; case hy14 => ((intro w hSw); (try dsimp only at hSw); (try go_simp); (try with_reducible rfl))); (try simp only [List.getElem_toArray, List.getElem_cons_succ, List.getElem_cons_zero, Act.put, List.setIfInBounds_toArray, List.set_cons_zero, List.set_cons_succ])
                      (refine wpAnyH_take (i := 15) (v := ?_) rfl (by kernel_rfl) (by kernel_rfl) (by kernel_rfl) (fun _ _ _ h => h) (Or.inl ⟨by rfl, ?hy15⟩) (by assumption) ?_; case hy15 => ((intro w hSw); (try dsimp only at hSw); (try go_simp); (try with_reducible rfl))); (try simp only [List.getElem_toArray, List.getElem_cons_succ, List.getElem_cons_zero, Act.put, List.setIfInBounds_toArray, List.set_cons_zero, List.set_cons_succ])
                      (refine wpAnyH_take (i := 16) (v := .bool true) rfl (by kernel_rfl) (by kernel_rfl) (by kernel_rfl) (fun _ _ _ h => h) (Or.inl ⟨by rfl, ?hy16⟩) (by assumption) ?_; case hy16 => ((intro w hSw); (try dsimp only at hSw); (try go_simp); (try simp [hai, hna]))); (try simp only [List.getElem_toArray, List.getElem_cons_succ, List.getElem_cons_zero, Act.put, List.setIfInBounds_toArray, List.set_cons_zero, List.set_cons_succ])
                      (refine wpAnyH_take (i := 17) (v := ?_) rfl (by kernel_rfl) (by kernel_rfl) (by kernel_rfl) (fun _ _ _ h => h) (Or.inl ⟨by rfl, ?hy17⟩) (by assumption) ?_; case hy17 => ((intro w hSw); (try dsimp only at hSw); (try go_simp); (try with_reducible rfl))); (try simp only [List.getElem_toArray, List.getElem_cons_succ, List.getElem_cons_zero, Act.put, List.setIfInBounds_toArray, List.set_cons_zero, List.set_cons_succ])
                      (refine wpAnyH_take (i := 18) (v := ?_) rfl (by kernel_rfl) (by kernel_rfl) (by kernel_rfl) (fun _ _ _ h => h) (Or.inl ⟨by rfl, ?hy18⟩) (by assumption) ?_; case hy18 => ((intro w hSw); (try dsimp only at hSw); (try go_simp); (try with_reducible rfl))); (try simp only [List.getElem_toArray, List.getElem_cons_succ, List.getElem_cons_zero, Act.put, List.setIfInBounds_toArray, List.set_cons_zero, List.set_cons_succ])
                      (refine wpAnyH_take (i := 20) (v := ?_) rfl (by kernel_rfl) (by kernel_rfl) (by kernel_rfl) (fun _ _ _ h => h) (Or.inl ⟨by rfl, ?hy20⟩) (by assumption) ?_; case hy20 => ((intro w hSw); (try dsimp only at hSw); (try go_simp); (try with_reducible rfl))); (try simp only [List.getElem_toArray, List.getElem_cons_succ, List.getElem_cons_zero, Act.put, List.setIfInBounds_toArray, List.set_cons_zero, List.set_cons_succ])
                      (refine wpAnyH_take (i := 21) (v := ?_) rfl (by kernel_rfl) (by kernel_rfl) (by kernel_rfl) (fun _ _ _ h => h) (Or.inl ⟨by rfl, ?hy21⟩) (by assumption) ?_; case hy21 => ((intro w hSw); (try dsimp only at hSw); (try go_simp); (try with_reducible rfl))); (try simp only [List.getElem_toArray, List.getElem_cons_succ, List.getElem_cons_zero, Act.put, List.setIfInBounds_toArray, List.set_cons_zero, List.set_cons_succ])
                      refine wpAnyH_ready (rs := [19]) (by kernel_rfl) (by simp) ?_
                      refine AllReadyH.cons (i := 19) rfl (fun K hK => ?_) AllReadyH.nil
                      (try simp only [List.getElem_toArray, List.getElem_cons_succ, List.getElem_cons_zero, Act.put, List.setIfInBounds_toArray, List.set_cons_zero, List.set_cons_succ])
                      go_simp
                      (go_at_call 21; refine (implKbInds_any (w := w7) (HKs.out _ (HTo.out _ (HT6.out _ H7.out))) hs7 HSm.out).mono ?_; rintro r w9 ⟨v7, g9, rfl, ho7, hb7⟩; obtain ⟨ra9, rc9, hv7, _⟩ := ownW_form ho7; subst hv7; obtain ⟨rn9, hrn⟩ : ∃ z, z = (ansK kbI xs).length := ⟨_, rfl⟩; rw [← hrn] at ho7 ⊢; have HRn9 : Hid (rn9 = (ansK kbI xs).length) := hrn; have H9 : Hid (Below wc.heap.size wc w9) := H7.out.trans (hb7.mono H7.out.size); have HO9 : Hid (OwnW w7.heap.size w9 (.slice ra9 rn9 rc9) (ansK kbI xs) g9) := ho7; obtain ⟨y0, y9, y10, y11⟩ := HQc.out w9 H9.out; obtain ⟨x0, xf0⟩ := HXs.out w9 (HTo.out _ (HT6.out _ H9.out)); have hs9 : w1.heap.size ≤ w9.heap.size := Nat.le_trans hs1 (HTo.out _ (HT6.out _ H9.out)).size; clear ho7 hb7 hrn)
                      (try go_wp2_with fail)
                      refine hK.out _ _ (HSd.out _ H9.out) (fun hHeld => ?_)
                      clear hK K
                      (try simp only [List.getElem_toArray, List.getElem_cons_succ, List.getElem_cons_zero, Act.put, List.setIfInBounds_toArray, List.set_cons_zero, List.set_cons_succ])
                      refine wpAnyH_ready (rs := [22]) (by kernel_rfl) (by simp) ?_
                      refine AllReadyH.cons (i := 22) rfl (fun K hK => ?_) AllReadyH.nil
                      (try simp only [List.getElem_toArray, List.getElem_cons_succ, List.getElem_cons_zero, Act.put, List.setIfInBounds_toArray, List.set_cons_zero, List.set_cons_succ])
                      go_simp
                      (go_at_call 19; (with_reducible refine (has_all (w := w9) HO9.out (HRas.out _ H9.out) HLa.out).mono ?_); rintro r w8 ⟨rfl, hw8⟩; rw [hw8, HAin.out]; clear hw8)
                      (try go_wp2_with fail)
                      refine hK.out _ _ (HSd.out _ H9.out) (fun hHeld => ?_)
                      clear hK K
                      (try simp only [List.getElem_toArray, List.getElem_cons_succ, List.getElem_cons_zero, Act.put, List.setIfInBounds_toArray, List.set_cons_zero, List.set_cons_succ])
                      (refine wpAnyH_take (i := 23) (v := ?_) rfl (by kernel_rfl) (by kernel_rfl) (by kernel_rfl) (fun _ _ _ h => h) (Or.inl ⟨by rfl, ?hy23⟩) (by assumption) ?_; case hy23 => ((intro w hSw); (try dsimp only at hSw); (try go_simp); (try with_reducible rfl))); (try simp only [List.getElem_toArray, List.getElem_cons_succ, List.getElem_cons_zero, Act.put, List.setIfInBounds_toArray, List.set_cons_zero, List.set_cons_succ])
                      (refine wpAnyH_take (i := 24) (v := ?_) rfl (by kernel_rfl) (by kernel_rfl) (by kernel_rfl) (fun _ _ _ h => h) (Or.inl ⟨by rfl, ?hy24⟩) (by assumption) ?_; case hy24 => ((intro w hSw); (try dsimp only at hSw); (try go_simp); (try with_reducible rfl))); (try simp only [List.getElem_toArray, List.getElem_cons_succ, List.getElem_cons_zero, Act.put, List.setIfInBounds_toArray, List.set_cons_zero, List.set_cons_succ])
                      (refine wpAnyH_take (i := 25) (v := ?_) rfl (by kernel_rfl) (by kernel_rfl) (by kernel_rfl) (fun _ _ _ h => h) (Or.inl ⟨by rfl, ?hy25⟩) (by assumption) ?_; case hy25 => ((intro w hSw); (try dsimp only at hSw); (try go_simp); (try with_reducible rfl))); (try simp only [List.getElem_toArray, List.getElem_cons_succ, List.getElem_cons_zero, Act.put, List.setIfInBounds_toArray, List.set_cons_zero, List.set_cons_succ])
                      refine wpAnyH_done (by kernel_rfl) ?_ _
                      all_goals
                        go_wp2_with fail
                        go_meet
                        case rel => exact ⟨rfl, HT6.out _ H9.out⟩
                case rest =>
                  obtain ⟨rfl, hbc⟩ := hcut
                  obtain ⟨w11, hw11⟩ : ∃ w11 : World, w11 = wc := ⟨_, rfl⟩
                  subst hw11
                  have H11 : Hid (Below w3.heap.size w3 w11) := hbc
                  clear hbc
                  go_wp2_with fail
                  go_roundw
                  case rel => first | exact ⟨t + 1, by omega, by go_num, H11.out⟩ | ((repeat apply Exists.intro); exact ⟨⟨by omega, by go_num, H11.out⟩, rfl⟩)
                  case measure => simp [intOf]; omega
            · have hti : ¬ (t : Int) < (m : Int) := by omega
              go_wp2_with fail
              refine (implKbNames_any (HKs.out wi (HTo.out _ HBi.out)) (Nat.le_trans hs1 (HTo.out _ HBi.out).size) HSm.out).mono ?_
              rintro r w9 ⟨v9, g9, rfl, ho9, hb9⟩
              obtain ⟨na9, nc9, hv9, _⟩ := ownW_form ho9
              subst hv9
              obtain ⟨nn9, hnn⟩ : ∃ z, z = (ansK kbN xs).length := ⟨_, rfl⟩
              have hn5 : (nn9 : Int) ≤ 5 := by
                have h5 : (kbN xs).length ≤ 5 := by
                  have := HKt.out.1
                  unfold kbB at this
                  simp only [Bool.and_eq_true, decide_eq_true_eq] at this
                  exact this.2.2.1
                rw [hnn]; unfold ansK; rw [if_pos HKt.out.1]; omega
              rw [← hnn]
              have H9 : Hid (Below w3.heap.size w3 w9) := HBi.out.trans (hb9.mono HBi.out.size)
              clear hnn ho9 hb9
              go_wp2
              go_ret
              exact ⟨rfl, HB2.out.trans ((HTo.out _ H9.out).mono HB2.out.size)⟩

end Go.Proofs.YtnmljalcndfjmaaGreat
