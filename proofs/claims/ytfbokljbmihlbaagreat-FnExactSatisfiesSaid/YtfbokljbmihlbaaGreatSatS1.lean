/- spec.l4rule, l4roles: what is told of two concepts, of two roles, in a world. -/
import Derived.Test.YtfbokljbmihlbaaGreatNSatM
import Derived.Test.YtfbokljbmihlbaaGreatHoldS
import Derived.Deep.RegionHeld3
import Derived.Deep.DeepCutAuto
import Derived.BigQuiet
namespace Go.Proofs.YtfbokljbmihlbaaGreat
open Go.RowKit Go.Deep
set_option linter.unusedVariables false

set_option maxRecDepth 100000 in
set_option maxHeartbeats 8000000 in
theorem l4rule_any {na : Option Addr} {nn nc : Nat} {sa : Option Addr} {sn sc : Nat} {ra : Option Addr} {rn rc : Nat} {la : Option Addr} {ln lc : Nat} {ia : Option Addr} {im ic : Nat} {ta : Option Addr} {tn tc : Nat} {x : WD} {dc dd : Nat} {vc vd : Value} {c d : CN} {w : World} {lo hi lo' hi' lo2 hi2 : Nat} {k : Int} {L : Nat} (hok : worldB x = true) (hn : x.n = (L : Int)) (hL : L ≤ 128) (h : RdW lo hi w na nn nc sa sn sc ra rn rc la ln lc ia im ic ta tn tc x) (hc : RdC lo' hi' w dc vc c) (hd : RdC lo2 hi2 w dd vd d) (wc : wfC c = true) (wd : wfC d = true) (hhi : hi ≤ w.heap.size) (hhi' : hi' ≤ w.heap.size) (hhi2 : hi2 ≤ w.heap.size) (hk : k = 0 ∨ k = 1 ∨ k = 2) :
    Calls Tryz.prog 57 #[.agg #[.int .i64 L, .slice na nn nc, .slice sa sn sc, .slice ra rn rc, .slice la ln lc, .slice ia im ic, .slice ta tn tc], vc, vd, .int .i64 k] w fun r w' => r = .returned (.bool (ruleB x L c d k)) ∧ Below w.heap.size w w' := by
  obtain ⟨xk, xna, xnn, xnc, xra, xrn, xrc, xka, xkn, xkc, rfl⟩ := hc.shape
  obtain ⟨yk, yna, ynn, ync, yra, yrn, yrc, yka, ykn, ykc, rfl⟩ := hd.shape
  obtain ⟨W0, hW0⟩ : ∃ W0, W0 = ((w.alloc (.cells #[.int .i64 L, .slice na nn nc, .slice sa sn sc, .slice ra rn rc, .slice la ln lc, .slice ia im ic, .slice ta tn tc] 36)).alloc (.cells #[.int .i64 xk, .slice xna xnn xnc, .slice xra xrn xrc, .slice xka xkn xkc] 40)).alloc (.cells #[.int .i64 yk, .slice yna ynn ync, .slice yra yrn yrc, .slice yka ykn ykc] 40) := ⟨_, rfl⟩
  have HW0 : Hid (W0 = ((w.alloc (.cells #[.int .i64 L, .slice na nn nc, .slice sa sn sc, .slice ra rn rc, .slice la ln lc, .slice ia im ic, .slice ta tn tc] 36)).alloc (.cells #[.int .i64 xk, .slice xna xnn xnc, .slice xra xrn xrc, .slice xka xkn xkc] 40)).alloc (.cells #[.int .i64 yk, .slice yna ynn ync, .slice yra yrn yrc, .slice yka ykn ykc] 40)) := hW0
  have hs0 : W0.heap.size = w.heap.size + 3 := by rw [hW0]; simp
  have hb0 : Below w.heap.size w W0 := by rw [hW0]; exact (((Below.refl _ _).alloc (Nat.le_refl _) _).alloc (by simp) _).alloc (by simp; omega) _
  have HB0 : Hid (Below w.heap.size w W0) := hb0
  have hbw : BoxW 36 W0 w.heap.size (L : Int) (.slice na nn nc) (.slice sa sn sc) (.slice ra rn rc) (.slice la ln lc) (.slice ia im ic) (.slice ta tn tc) := by rw [hW0]; exact ((BoxW.new _ w _ _ _ _ _ _ _).below ((Below.refl _ _).alloc (Nat.le_refl _) _) (by simp)).below ((Below.refl _ _).alloc (Nat.le_refl _) _) (by simp; omega)
  have hbx : BoxC W0 (w.heap.size + 1) (.int .i64 xk) (.slice xna xnn xnc) (.slice xra xrn xrc) (.slice xka xkn xkc) := by
    rw [hW0]
    have := (BoxC.new (w.alloc (.cells #[.int .i64 L, .slice na nn nc, .slice sa sn sc, .slice ra rn rc, .slice la ln lc, .slice ia im ic, .slice ta tn tc] 36)) (.int .i64 xk) (.slice xna xnn xnc) (.slice xra xrn xrc) (.slice xka xkn xkc)).below ((Below.refl _ _).alloc (Nat.le_refl _) (.cells #[.int .i64 yk, .slice yna ynn ync, .slice yra yrn yrc, .slice yka ykn ykc] 40)) (by simp)
    rwa [World.size_alloc] at this
  have hby : BoxC W0 (w.heap.size + 1 + 1) (.int .i64 yk) (.slice yna ynn ync) (.slice yra yrn yrc) (.slice yka ykn ykc) := by
    rw [hW0]
    have := BoxC.new ((w.alloc (.cells #[.int .i64 L, .slice na nn nc, .slice sa sn sc, .slice ra rn rc, .slice la ln lc, .slice ia im ic, .slice ta tn tc] 36)).alloc (.cells #[.int .i64 xk, .slice xna xnn xnc, .slice xra xrn xrc, .slice xka xkn xkc] 40)) (.int .i64 yk) (.slice yna ynn ync) (.slice yra yrn yrc) (.slice yka ykn ykc)
    rwa [World.size_alloc, World.size_alloc] at this
  have HSat : Hid (∀ V, Below W0.heap.size W0 V → (V.cell? ⟨w.heap.size, 0, none⟩ = some (.int .i64 L) ∧ V.cell? ⟨w.heap.size, 1, none⟩ = some (.slice na nn nc) ∧ V.cell? ⟨w.heap.size, 2, none⟩ = some (.slice sa sn sc) ∧ V.cell? ⟨w.heap.size, 3, none⟩ = some (.slice ra rn rc) ∧ V.cell? ⟨w.heap.size, 4, none⟩ = some (.slice la ln lc) ∧ V.cell? ⟨w.heap.size, 5, none⟩ = some (.slice ia im ic) ∧ V.cell? ⟨w.heap.size, 6, none⟩ = some (.slice ta tn tc)) ∧ (V.cell? ⟨w.heap.size + 1, 0, none⟩ = some (.int .i64 xk) ∧ V.cell? ⟨w.heap.size + 1, 1, none⟩ = some (.slice xna xnn xnc) ∧ V.cell? ⟨w.heap.size + 1, 2, none⟩ = some (.slice xra xrn xrc) ∧ V.cell? ⟨w.heap.size + 1, 3, none⟩ = some (.slice xka xkn xkc)) ∧ (V.cell? ⟨w.heap.size + 1 + 1, 0, none⟩ = some (.int .i64 yk) ∧ V.cell? ⟨w.heap.size + 1 + 1, 1, none⟩ = some (.slice yna ynn ync) ∧ V.cell? ⟨w.heap.size + 1 + 1, 2, none⟩ = some (.slice yra yrn yrc) ∧ V.cell? ⟨w.heap.size + 1 + 1, 3, none⟩ = some (.slice yka ykn ykc))) := fun V hV => ⟨(hbw.below hV (by omega)).cells, (hbx.below hV (by omega)).cells, (hby.below hV (by omega)).cells⟩
  have HCx : Hid (∀ V, Below W0.heap.size W0 V → ∀ e : Nat, e < L → Calls Tryz.prog 55 #[.agg #[.int .i64 L, .slice na nn nc, .slice sa sn sc, .slice ra rn rc, .slice la ln lc, .slice ia im ic, .slice ta tn tc], .agg #[.int .i64 xk, .slice xna xnn xnc, .slice xra xrn xrc, .slice xka xkn xkc], .int .i64 e] V fun r w' => r = .returned (.bool (holdC x L c e)) ∧ Below V.heap.size V w') := fun V hV e he => hoP_any hok hn hL dc _ c e V lo' hi' ((h.below hb0 hhi).below hV (by omega)) ((hc.below hb0 hhi').below hV (by omega)) (by have := hV.size; omega) (by have := hV.size; omega) wc he
  have HCy : Hid (∀ V, Below W0.heap.size W0 V → ∀ e : Nat, e < L → Calls Tryz.prog 55 #[.agg #[.int .i64 L, .slice na nn nc, .slice sa sn sc, .slice ra rn rc, .slice la ln lc, .slice ia im ic, .slice ta tn tc], .agg #[.int .i64 yk, .slice yna ynn ync, .slice yra yrn yrc, .slice yka ykn ykc], .int .i64 e] V fun r w' => r = .returned (.bool (holdC x L d e)) ∧ Below V.heap.size V w') := fun V hV e he => hoP_any hok hn hL dd _ d e V lo2 hi2 ((h.below hb0 hhi).below hV (by omega)) ((hd.below hb0 hhi2).below hV (by omega)) (by have := hV.size; omega) (by have := hV.size; omega) wd he
  have HFin : Hid (∀ {V : World}, Below W0.heap.size W0 V → Below w.heap.size w V) := fun {V} hV => HB0.out.trans (hV.mono HB0.out.size)
  have HK : Hid (k = 0 ∨ k = 1 ∨ k = 2) := hk
  clear h hc hd hhi hhi' hhi2 wc wd hb0 hbw hbx hby hW0 hs0 hk hok hn
  go_enter Tryz.func57, Tryz.ntmps57
  go_upto_region 1 with fail
  rw [← HW0.out]
  go_wp2_with fail
  go_loopw [9] (fun i wr => ∃ e : Nat, e ≤ L ∧ i = .int .i64 e ∧ (∀ j, j < e → ruleE k (holdC x L c j) (holdC x L d j) = true) ∧ Below W0.heap.size W0 wr) (fun i _ => L - (intOf i).toNat)
  case atStart => exact ⟨0, Nat.zero_le _, rfl, fun j hj => by omega, Below.refl _ _⟩
  case round =>
    obtain ⟨e, he, rfl, hall, hbel⟩ := hrel
    have HAll : Hid (∀ j, j < e → ruleE k (holdC x L c j) (holdC x L d j) = true) := hall
    have HBr : Hid (Below W0.heap.size W0 wr) := hbel
    have HBd : Hid (Below W0.heap.size W0 wr.drew) := hbel.drew
    obtain ⟨⟨a0, a1, a2, a3, a4, a5, a6⟩, ⟨b0, b1, b2, b3⟩, d0, d1, d2, d3⟩ := HSat.out wr hbel
    clear hall hbel
    by_cases hlt : e < L
    · have hei : (e : Int) < (L : Int) := by omega
      obtain ⟨ha, hha⟩ : ∃ b, b = holdC x L c e := ⟨_, rfl⟩
      have HHa : Hid (ha = holdC x L c e) := hha
      obtain ⟨hb, hhb⟩ : ∃ b, b = holdC x L d e := ⟨_, rfl⟩
      have HHb : Hid (hb = holdC x L d e) := hhb
      have HNext : Hid (ruleE k ha hb = true → ∀ j, j < e + 1 → ruleE k (holdC x L c j) (holdC x L d j) = true) := fun hr j hj => by
        by_cases e' : j = e
        · subst e'; rw [← hha, ← hhb]; exact hr
        · exact HAll.out j (by omega)
      have HNo : Hid (ruleE k ha hb = false → ruleB x L c d k = false) := fun hr => ruleB_at hlt (by rw [← hha, ← hhb]; exact hr)
      clear hha hhb
      go_upto_region 4 with fail
      clear a0 a1 a2 a3 a4 a5 a6 b0 b1 b2 b3 d0 d1 d2 d3
      first | go_region_held3 (fun V => (V.cell? ⟨w.heap.size, 0, none⟩ = some (.int .i64 L) ∧ V.cell? ⟨w.heap.size, 1, none⟩ = some (.slice na nn nc) ∧ V.cell? ⟨w.heap.size, 2, none⟩ = some (.slice sa sn sc) ∧ V.cell? ⟨w.heap.size, 3, none⟩ = some (.slice ra rn rc) ∧ V.cell? ⟨w.heap.size, 4, none⟩ = some (.slice la ln lc) ∧ V.cell? ⟨w.heap.size, 5, none⟩ = some (.slice ia im ic) ∧ V.cell? ⟨w.heap.size, 6, none⟩ = some (.slice ta tn tc)) ∧ (V.cell? ⟨w.heap.size + 1, 0, none⟩ = some (.int .i64 xk) ∧ V.cell? ⟨w.heap.size + 1, 1, none⟩ = some (.slice xna xnn xnc) ∧ V.cell? ⟨w.heap.size + 1, 2, none⟩ = some (.slice xra xrn xrc) ∧ V.cell? ⟨w.heap.size + 1, 3, none⟩ = some (.slice xka xkn xkc)) ∧ (V.cell? ⟨w.heap.size + 1 + 1, 0, none⟩ = some (.int .i64 yk) ∧ V.cell? ⟨w.heap.size + 1 + 1, 1, none⟩ = some (.slice yna ynn ync) ∧ V.cell? ⟨w.heap.size + 1 + 1, 2, none⟩ = some (.slice yra yrn yrc) ∧ V.cell? ⟨w.heap.size + 1 + 1, 3, none⟩ = some (.slice yka ykn ykc))) (first | with_reducible exact HSat.out _ Hw2.out | with_reducible exact HSat.out _ Hw1.out | with_reducible exact HSat.out _ Hw3.out | with_reducible exact HSat.out _ HBd.out) (first | (go_at_call_of 55 xk; first | (refine (HCx.out wr.drew HBd.out e hlt).mono ?_; rintro r w1 ⟨rfl, hbq⟩; rw [← HHa.out]; have Hw1 : Hid (Below W0.heap.size W0 w1) := HBd.out.trans (hbq.mono HBd.out.size); clear hbq) | (refine (HCx.out w3 Hw3.out e hlt).mono ?_; rintro r w2 ⟨rfl, hbq⟩; rw [← HHa.out]; have Hw2 : Hid (Below W0.heap.size W0 w2) := Hw3.out.trans (hbq.mono Hw3.out.size); clear hbq)) | (go_at_call_of 55 yk; first | (refine (HCy.out w1 Hw1.out e hlt).mono ?_; rintro r w2 ⟨rfl, hbq⟩; rw [← HHb.out]; have Hw2 : Hid (Below W0.heap.size W0 w2) := Hw1.out.trans (hbq.mono Hw1.out.size); clear hbq) | (refine (HCy.out wr.drew HBd.out e hlt).mono ?_; rintro r w3 ⟨rfl, hbq⟩; rw [← HHb.out]; have Hw3 : Hid (Below W0.heap.size W0 w3) := HBd.out.trans (hbq.mono HBd.out.size); clear hbq))) | fail
      all_goals
        rcases HK.out with rfl | rfl | rfl
        · cases ha <;> cases hb
          · have HN := HNext.out rfl
            go_wp2_with fail
            go_roundw
            case rel => exact ⟨e + 1, by omega, by go_num, HN, Hw2.out⟩
            case measure => simp [intOf]; omega
          · have HN := HNext.out rfl
            go_wp2_with fail
            go_roundw
            case rel => exact ⟨e + 1, by omega, by go_num, HN, Hw2.out⟩
            case measure => simp [intOf]; omega
          · have HN : Hid (ruleB x L c d _ = false) := HNo.out rfl
            go_wp2_with fail
            go_ret
            exact ⟨rb' HN.out.symm, HFin.out Hw2.out⟩
          · have HN := HNext.out rfl
            go_wp2_with fail
            go_roundw
            case rel => exact ⟨e + 1, by omega, by go_num, HN, Hw2.out⟩
            case measure => simp [intOf]; omega
        · cases ha <;> cases hb
          · have HN := HNext.out rfl
            go_wp2_with fail
            go_roundw
            case rel => exact ⟨e + 1, by omega, by go_num, HN, Hw2.out⟩
            case measure => simp [intOf]; omega
          · have HN : Hid (ruleB x L c d _ = false) := HNo.out rfl
            go_wp2_with fail
            go_ret
            exact ⟨rb' HN.out.symm, HFin.out Hw2.out⟩
          · have HN : Hid (ruleB x L c d _ = false) := HNo.out rfl
            go_wp2_with fail
            go_ret
            exact ⟨rb' HN.out.symm, HFin.out Hw2.out⟩
          · have HN := HNext.out rfl
            go_wp2_with fail
            go_roundw
            case rel => exact ⟨e + 1, by omega, by go_num, HN, Hw2.out⟩
            case measure => simp [intOf]; omega
        · cases ha <;> cases hb
          · have HN := HNext.out rfl
            go_wp2_with fail
            go_roundw
            case rel => exact ⟨e + 1, by omega, by go_num, HN, Hw2.out⟩
            case measure => simp [intOf]; omega
          · have HN := HNext.out rfl
            go_wp2_with fail
            go_roundw
            case rel => exact ⟨e + 1, by omega, by go_num, HN, Hw2.out⟩
            case measure => simp [intOf]; omega
          · have HN := HNext.out rfl
            go_wp2_with fail
            go_roundw
            case rel => exact ⟨e + 1, by omega, by go_num, HN, Hw2.out⟩
            case measure => simp [intOf]; omega
          · have HN : Hid (ruleB x L c d _ = false) := HNo.out rfl
            go_wp2_with fail
            go_ret
            exact ⟨rb' HN.out.symm, HFin.out Hw2.out⟩
    · have hei : ¬ ((e : Int) < (L : Int)) := by omega
      have HN : Hid (ruleB x L c d k = true) := ruleB_all (fun j hj => HAll.out j (by omega))
      go_wp2_with fail
      go_ret
      exact ⟨rb' HN.out.symm, HFin.out HBr.out⟩

set_option maxRecDepth 100000 in
set_option maxHeartbeats 8000000 in
theorem l4roles_any {na : Option Addr} {nn nc : Nat} {sa : Option Addr} {sn sc : Nat} {ra : Option Addr} {rn rc : Nat} {la : Option Addr} {ln lc : Nat} {ia : Option Addr} {im ic : Nat} {ta : Option Addr} {tn tc : Nat} {x : WD} {qa : Option Addr} {qn qc : Nat} {qs : List Int} {ua : Option Addr} {un uc : Nat} {us : List Int} {w : World} {lo hi lo' hi' lo2 hi2 : Nat} {L : Nat} (hok : worldB x = true) (hn : x.n = (L : Int)) (hL : L ≤ 128) (h : RdW lo hi w na nn nc sa sn sc ra rn rc la ln lc ia im ic ta tn tc x) (hq : Rd lo' hi' w qa qn qc qs) (hu : Rd lo2 hi2 w ua un uc us) (hhi : hi ≤ w.heap.size) (hhi' : hi' ≤ w.heap.size) (hhi2 : hi2 ≤ w.heap.size) :
    Calls Tryz.prog 53 #[.agg #[.int .i64 L, .slice na nn nc, .slice sa sn sc, .slice ra rn rc, .slice la ln lc, .slice ia im ic, .slice ta tn tc], .slice qa qn qc, .slice ua un uc] w fun r w' => r = .returned (.bool (rolesB x L qs us)) ∧ Below w.heap.size w w' := by
  obtain ⟨W0, hW0⟩ : ∃ W0, W0 = w.alloc (.cells #[.int .i64 L, .slice na nn nc, .slice sa sn sc, .slice ra rn rc, .slice la ln lc, .slice ia im ic, .slice ta tn tc] 36) := ⟨_, rfl⟩
  have HW0 : Hid (W0 = w.alloc (.cells #[.int .i64 L, .slice na nn nc, .slice sa sn sc, .slice ra rn rc, .slice la ln lc, .slice ia im ic, .slice ta tn tc] 36)) := hW0
  have hs0 : W0.heap.size = w.heap.size + 1 := by rw [hW0]; simp
  have hb0 : Below w.heap.size w W0 := by rw [hW0]; exact (Below.refl _ _).alloc (Nat.le_refl _) _
  have HB0 : Hid (Below w.heap.size w W0) := hb0
  have hbw : BoxW 36 W0 w.heap.size (L : Int) (.slice na nn nc) (.slice sa sn sc) (.slice ra rn rc) (.slice la ln lc) (.slice ia im ic) (.slice ta tn tc) := by rw [hW0]; exact BoxW.new _ w _ _ _ _ _ _ _
  have HSat : Hid (∀ V, Below W0.heap.size W0 V → V.cell? ⟨w.heap.size, 0, none⟩ = some (.int .i64 L) ∧ V.cell? ⟨w.heap.size, 1, none⟩ = some (.slice na nn nc) ∧ V.cell? ⟨w.heap.size, 2, none⟩ = some (.slice sa sn sc) ∧ V.cell? ⟨w.heap.size, 3, none⟩ = some (.slice ra rn rc) ∧ V.cell? ⟨w.heap.size, 4, none⟩ = some (.slice la ln lc) ∧ V.cell? ⟨w.heap.size, 5, none⟩ = some (.slice ia im ic) ∧ V.cell? ⟨w.heap.size, 6, none⟩ = some (.slice ta tn tc)) := fun V hV => (hbw.below hV (by omega)).cells
  have HCq : Hid (∀ V, Below W0.heap.size W0 V → ∀ p q : Nat, p < L → q < L → Calls Tryz.prog 56 #[.agg #[.int .i64 L, .slice na nn nc, .slice sa sn sc, .slice ra rn rc, .slice la ln lc, .slice ia im ic, .slice ta tn tc], .slice qa qn qc, .int .i64 p, .int .i64 q] V fun r w' => r = .returned (.bool (relO x qs p q L)) ∧ Below V.heap.size V w') := fun V hV p q hp hq' => l4rel_any ((h.below hb0 hhi).below hV (by omega)) ((hq.below hb0 hhi').below hV (by omega)) hn (by have := hV.size; omega) (by have := hV.size; omega) hok hp hq'
  have HCu : Hid (∀ V, Below W0.heap.size W0 V → ∀ p q : Nat, p < L → q < L → Calls Tryz.prog 56 #[.agg #[.int .i64 L, .slice na nn nc, .slice sa sn sc, .slice ra rn rc, .slice la ln lc, .slice ia im ic, .slice ta tn tc], .slice ua un uc, .int .i64 p, .int .i64 q] V fun r w' => r = .returned (.bool (relO x us p q L)) ∧ Below V.heap.size V w') := fun V hV p q hp hq' => l4rel_any ((h.below hb0 hhi).below hV (by omega)) ((hu.below hb0 hhi2).below hV (by omega)) hn (by have := hV.size; omega) (by have := hV.size; omega) hok hp hq'
  have HFin : Hid (∀ {V : World}, Below W0.heap.size W0 V → Below w.heap.size w V) := fun {V} hV => HB0.out.trans (hV.mono HB0.out.size)
  clear h hq hu hhi hhi' hhi2 hb0 hbw hW0 hs0 hok hn
  go_enter Tryz.func53, Tryz.ntmps53
  go_upto_region 1 with fail
  rw [← HW0.out]
  go_wp2_with fail
  go_loopw [7] (fun i wr => ∃ p : Nat, p ≤ L ∧ i = .int .i64 p ∧ (∀ a b, a < p → b < L → (relO x qs a b L && !(relO x us a b L)) = false) ∧ Below W0.heap.size W0 wr) (fun i _ => L - (intOf i).toNat)
  case atStart => exact ⟨0, Nat.zero_le _, rfl, fun a b ha hb => by omega, Below.refl _ _⟩
  case round =>
    rename World => wo
    obtain ⟨p, hp, rfl, hall, hbel⟩ := hrel
    have HAll : Hid (∀ a b, a < p → b < L → (relO x qs a b L && !(relO x us a b L)) = false) := hall
    have HBo : Hid (Below W0.heap.size W0 wo) := hbel
    obtain ⟨a0, a1, a2, a3, a4, a5, a6⟩ := HSat.out wo hbel
    clear hall hbel
    by_cases hlt : p < L
    · have hpi : (p : Int) < (L : Int) := by omega
      go_wp2_with fail
      go_loopw [8] (fun i wr => ∃ q : Nat, q ≤ L ∧ i = .int .i64 q ∧ (∀ b, b < q → (relO x qs p b L && !(relO x us p b L)) = false) ∧ Below W0.heap.size W0 wr) (fun i _ => L - (intOf i).toNat)
      case atStart => exact ⟨0, Nat.zero_le _, rfl, fun b hb => by omega, HBo.out⟩
      case round =>
        rename World => wi
        obtain ⟨q, hq, rfl, hall, hbel⟩ := hrel
        have HAl2 : Hid (∀ b, b < q → (relO x qs p b L && !(relO x us p b L)) = false) := hall
        have HBi : Hid (Below W0.heap.size W0 wi) := hbel
        clear a0 a1 a2 a3 a4 a5 a6
        obtain ⟨a0, a1, a2, a3, a4, a5, a6⟩ := HSat.out wi hbel
        clear hall hbel
        by_cases hlq : q < L
        · have hqi : (q : Int) < (L : Int) := by omega
          obtain ⟨r1, hr1⟩ : ∃ b, b = relO x qs p q L := ⟨_, rfl⟩
          obtain ⟨r2, hr2⟩ : ∃ b, b = relO x us p q L := ⟨_, rfl⟩
          have HR1 : Hid (r1 = relO x qs p q L) := hr1
          have HR2 : Hid (r2 = relO x us p q L) := hr2
          have HNext : Hid ((r1 && !r2) = false → ∀ b, b < q + 1 → (relO x qs p b L && !(relO x us p b L)) = false) := fun hr b hb => by
            by_cases e' : b = q
            · subst e'; rw [← hr1, ← hr2]; exact hr
            · exact HAl2.out b (by omega)
          have HNo : Hid ((r1 && !r2) = true → rolesB x L qs us = false) := fun hr => rolesB_at hlt hlq (by rw [← hr1, ← hr2]; exact hr)
          clear hr1 hr2
          go_wp2_with fail
          refine (HCq.out wi HBi.out p q hlt hlq).mono ?_
          rintro r w1 ⟨rfl, hb1⟩
          rw [← HR1.out]
          have H1 : Hid (Below W0.heap.size W0 w1) := HBi.out.trans (hb1.mono HBi.out.size)
          clear hb1 a0 a1 a2 a3 a4 a5 a6
          obtain ⟨a0, a1, a2, a3, a4, a5, a6⟩ := HSat.out w1 H1.out
          cases r1 with
          | false =>
            have HN := HNext.out rfl
            go_wp2_with fail
            go_roundw
            case rel => exact ⟨q + 1, by omega, by go_num, HN, H1.out⟩
            case measure => simp [intOf]; omega
          | true =>
            go_wp2_with fail
            refine (HCu.out w1 H1.out p q hlt hlq).mono ?_
            rintro r w2 ⟨rfl, hb2⟩
            rw [← HR2.out]
            have H2 : Hid (Below W0.heap.size W0 w2) := H1.out.trans (hb2.mono H1.out.size)
            clear hb2 a0 a1 a2 a3 a4 a5 a6
            cases r2 with
            | false =>
              have HN : Hid (rolesB x L qs us = false) := HNo.out rfl
              go_wp2_with fail
              go_ret
              exact ⟨rb' HN.out.symm, HFin.out H2.out⟩
            | true =>
              have HN := HNext.out rfl
              go_wp2_with fail
              go_roundw
              case rel => exact ⟨q + 1, by omega, by go_num, HN, H2.out⟩
              case measure => simp [intOf]; omega
        · have hqi : ¬ ((q : Int) < (L : Int)) := by omega
          have HN : Hid (∀ a b, a < p + 1 → b < L → (relO x qs a b L && !(relO x us a b L)) = false) := fun a b ha hb => by
            by_cases e' : a = p
            · subst e'; exact HAl2.out b (by omega)
            · exact HAll.out a b (by omega) hb
          go_wp2_with fail
          go_roundw
          case rel => exact ⟨p + 1, by omega, by go_num, HN.out, HBi.out⟩
          case measure => simp [intOf]; omega
    · have hpi : ¬ ((p : Int) < (L : Int)) := by omega
      have HN : Hid (rolesB x L qs us = true) := rolesB_all (fun a b ha hb => HAll.out a b (by omega) hb)
      go_wp2_with fail
      go_ret
      exact ⟨rb' HN.out.symm, HFin.out HBo.out⟩

end Go.Proofs.YtfbokljbmihlbaaGreat
