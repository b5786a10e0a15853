/- Who is related to whom, by the program, with the flags told where they lie. -/
import Derived.Test.YtnmljalcndfjmaaNG17
namespace Go.Proofs.Ytnmljalcndfjmaa
open Go.RowKit

set_option maxRecDepth 100000 in
set_option maxHeartbeats 8000000 in
theorem implInRel_any {na : Option Addr} {nn nc : Nat} {sa : Option Addr} {sn sc : Nat} {ra : Option Addr} {rn rc : Nat} {la : Option Addr} {ln lc : Nat} {ia : Option Addr} {im ic : Nat} {ta : Option Addr} {tn tc : Nat} {x : WD} {wa : Option Addr} {wn wc : Nat} {wd : List Int} {w : World} {lo hi lo' hi' : Nat} {nx y z : Int} (h : RdW lo hi w na nn nc sa sn sc ra rn rc la ln lc ia im ic ta tn tc x) (h' : Rd lo' hi' w wa wn wc wd) (hn : x.n = nx) (hhi : hi ≤ w.heap.size) (hhi' : hi' ≤ w.heap.size) :
    Calls Try.prog 10 #[.agg #[.int .i64 nx, .slice na nn nc, .slice sa sn sc, .slice ra rn rc, .slice la ln lc, .slice ia im ic, .slice ta tn tc], .slice wa wn wc, .int .i64 y, .int .i64 z] w fun e w' => e = .returned (.bool (inRelB x wd y z)) ∧ Below w.heap.size w w' := by
  obtain ⟨W0, hW0⟩ : ∃ W0, W0 = w.alloc (.cells #[.int .i64 nx, .slice na nn nc, .slice sa sn sc, .slice ra rn rc, .slice la ln lc, .slice ia im ic, .slice ta tn tc] 27) := ⟨_, rfl⟩
  have HW0 : Hid (W0 = w.alloc (.cells #[.int .i64 nx, .slice na nn nc, .slice sa sn sc, .slice ra rn rc, .slice la ln lc, .slice ia im ic, .slice ta tn tc] 27)) := hW0
  have hb0 : Below w.heap.size w W0 := by rw [hW0]; exact (Below.refl _ _).alloc (Nat.le_refl _) _
  have HB0 : Hid (Below w.heap.size w W0) := hb0
  have hbx : BoxW 27 W0 w.heap.size nx (.slice na nn nc) (.slice sa sn sc) (.slice ra rn rc) (.slice la ln lc) (.slice ia im ic) (.slice ta tn tc) := by rw [hW0]; exact BoxW.new _ w _ _ _ _ _ _ _
  have HR : Hid (RdW lo hi W0 na nn nc sa sn sc ra rn rc la ln lc ia im ic ta tn tc x) := h.below hb0 hhi
  have HWd : Hid (Rd lo' hi' W0 wa wn wc wd) := h'.below hb0 hhi'
  have HHi : Hid (hi ≤ W0.heap.size ∧ hi' ≤ W0.heap.size) := ⟨Nat.le_trans hhi hb0.size, Nat.le_trans hhi' hb0.size⟩
  have HN : Hid (x.n = nx) := hn
  obtain ⟨S, hS⟩ : ∃ S, S = inRelB x wd y z := ⟨_, rfl⟩
  rw [← hS]
  have HS : Hid (S = (worldB x && (hasB nx y && (hasB nx z && relO x wd y.toNat z.toNat nx.toNat)))) := by unfold Hid; rw [hS, ← hn]; rfl
  obtain ⟨z0, z1, z2, z3, z4, z5, z6⟩ := hbx.cells
  clear h h' hb0 hW0 hbx hn hS
  go_enter Try.func10, Try.ntmps10
  go_upto_region 1 with fail
  rw [← HW0.out]
  go_wp2_with fail
  refine (sceneOf_any HR.out HN.out HHi.out.1).mono ?_
  rintro e wA ⟨rfl, hA⟩
  have HwA : Hid (Below W0.heap.size W0 wA) := hA
  clear hA z0 z1 z2 z3 z4 z5 z6
  cases hok : worldB x
  · have HG : Hid (S = false) := by unfold Hid; rw [HS.out, hok]; rfl
    rw [show ∀ u v, whichV false u v = v from fun _ _ => rfl]
    obtain ⟨U, hU⟩ : ∃ U, U = wA.alloc (.cells #[.int .i64 0, .slice none 0 0, .slice none 0 0, .int .i64 0, .slice none 0 0, .slice none 0 0, .slice none 0 0, .slice none 0 0, .slice none 0 0, .slice none 0 0] 47) := ⟨_, rfl⟩
    have HU : Hid (U = wA.alloc (.cells #[.int .i64 0, .slice none 0 0, .slice none 0 0, .int .i64 0, .slice none 0 0, .slice none 0 0, .slice none 0 0, .slice none 0 0, .slice none 0 0, .slice none 0 0] 47)) := hU
    have HB1 : Hid (Below w.heap.size w U.drew) := by unfold Hid; rw [hU]; exact ((HB0.out.trans (HwA.out.mono HB0.out.size)).alloc (Nat.le_trans HB0.out.size HwA.out.size) _).drew
    clear hok hU
    go_upto_region 2 with fail
    rw [← HU.out]
    first | go_region | fail
    all_goals
      go_wp2_with fail
      go_ret
      exact ⟨rb HG.out.symm, HB1.out⟩
  · rw [show ∀ u v, whichV true u v = u from fun _ _ => rfl]
    obtain ⟨U, hU⟩ : ∃ U, U = wA.alloc (.cells #[.int .i64 nx, .slice ia im ic, .slice ta tn tc, .int .i64 nx, .slice na nn nc, .slice sa sn sc, .slice ra rn rc, .slice la ln lc, .slice ia im ic, .slice ta tn tc] 47) := ⟨_, rfl⟩
    have HU : Hid (U = wA.alloc (.cells #[.int .i64 nx, .slice ia im ic, .slice ta tn tc, .int .i64 nx, .slice na nn nc, .slice sa sn sc, .slice ra rn rc, .slice la ln lc, .slice ia im ic, .slice ta tn tc] 47)) := hU
    have hbs : BoxS U wA.heap.size (.int .i64 nx) (.slice ia im ic) (.slice ta tn tc) (.int .i64 nx) (.slice na nn nc) (.slice sa sn sc) (.slice ra rn rc) (.slice la ln lc) (.slice ia im ic) (.slice ta tn tc) := by rw [hU]; exact BoxS.new wA _ _ _ _ _ _ _ _ _ _
    have HwU : Hid (Below W0.heap.size W0 U) := by unfold Hid; rw [hU]; exact HwA.out.alloc HwA.out.size _
    have HBU : Hid (∀ W, Below U.heap.size U W → Below w.heap.size w W) := fun W hW => (HB0.out.trans (HwU.out.mono HB0.out.size)).trans (hW.mono (Nat.le_trans HB0.out.size HwU.out.size))
    have HSc : Hid (∀ W, Below U.heap.size U W → W.cell? ⟨wA.heap.size, 0, none⟩ = some (.int .i64 nx) ∧ W.cell? ⟨wA.heap.size, 1, none⟩ = some (.slice ia im ic) ∧ W.cell? ⟨wA.heap.size, 2, none⟩ = some (.slice ta tn tc) ∧ W.cell? ⟨wA.heap.size, 3, none⟩ = some (.int .i64 nx) ∧ W.cell? ⟨wA.heap.size, 4, none⟩ = some (.slice na nn nc) ∧ W.cell? ⟨wA.heap.size, 5, none⟩ = some (.slice sa sn sc) ∧ W.cell? ⟨wA.heap.size, 6, none⟩ = some (.slice ra rn rc) ∧ W.cell? ⟨wA.heap.size, 7, none⟩ = some (.slice la ln lc) ∧ W.cell? ⟨wA.heap.size, 8, none⟩ = some (.slice ia im ic) ∧ W.cell? ⟨wA.heap.size, 9, none⟩ = some (.slice ta tn tc)) := fun W hW => (hbs.below hW hbs.lt).cells
    have HRU : Hid (∀ W, Below U.heap.size U W → RdW lo hi W na nn nc sa sn sc ra rn rc la ln lc ia im ic ta tn tc x ∧ Rd lo' hi' W wa wn wc wd ∧ hi ≤ W.heap.size ∧ hi' ≤ W.heap.size) := fun W hW => ⟨(HR.out.below HwU.out HHi.out.1).below hW (Nat.le_trans HHi.out.1 HwU.out.size), (HWd.out.below HwU.out HHi.out.2).below hW (Nat.le_trans HHi.out.2 HwU.out.size), Nat.le_trans (Nat.le_trans HHi.out.1 HwU.out.size) hW.size, Nat.le_trans (Nat.le_trans HHi.out.2 HwU.out.size) hW.size⟩
    have HZU : Hid (Below U.heap.size U U.drew) := (Below.refl _ _).drew
    have HOk : Hid (worldB x = true) := hok
    obtain ⟨m0, m1, m2, m3, m4, m5, m6, m7, m8, m9⟩ := hbs.cells
    clear hU hbs
    cases hhy : hasB nx y
    · have HG : Hid (S = false) := by unfold Hid; rw [HS.out, hok, hhy]; rfl
      clear hok
      go_upto_region 2 with fail
      rw [← HU.out]
      first | go_region_with (go_at_call 23; refine (has_any _ y U.drew).mono ?_; rintro e wB ⟨rfl, hq⟩; rw [hhy]; have HwB : Hid (Below U.heap.size U wB) := HZU.out.trans (hq.mono HZU.out.size); clear hq; clear m0 m1 m2 m3 m4 m5 m6 m7 m8 m9; obtain ⟨m0, m1, m2, m3, m4, m5, m6, m7, m8, m9⟩ := HSc.out _ HwB.out; go_wp2_with fail; (refine wpAny_take (i := 6) (v := (.bool false)) rfl (by kernel_rfl) (by kernel_rfl) (by kernel_rfl) (fun _ _ _ h => h) (Or.inl ⟨by rfl, fun w => by first | rfl | go_simp⟩) ?_; try simp only [List.getElem_toArray, List.getElem_cons_succ, List.getElem_cons_zero, Act.put, List.setIfInBounds_toArray, List.set_cons_zero, List.set_cons_succ]); (refine wpAny_take (i := 7) (v := (.bool false)) rfl (by kernel_rfl) (by kernel_rfl) (by kernel_rfl) (fun _ _ _ h => h) (Or.inl ⟨by rfl, fun w => by first | rfl | go_simp⟩) ?_; try simp only [List.getElem_toArray, List.getElem_cons_succ, List.getElem_cons_zero, Act.put, List.setIfInBounds_toArray, List.set_cons_zero, List.set_cons_succ]); (refine wpAny_take (i := 8) (v := undef) rfl (by kernel_rfl) (by kernel_rfl) (by kernel_rfl) (fun _ _ _ h => h) (Or.inr ⟨by rfl, rfl⟩) ?_; try simp only [List.getElem_toArray, List.getElem_cons_succ, List.getElem_cons_zero, Act.put, List.setIfInBounds_toArray, List.set_cons_zero, List.set_cons_succ]); (refine wpAny_take (i := 10) (v := undef) rfl (by kernel_rfl) (by kernel_rfl) (by kernel_rfl) (fun _ _ _ h => h) (Or.inr ⟨by rfl, rfl⟩) ?_; try simp only [List.getElem_toArray, List.getElem_cons_succ, List.getElem_cons_zero, Act.put, List.setIfInBounds_toArray, List.set_cons_zero, List.set_cons_succ]); (refine wpAny_take (i := 9) (v := undef) rfl (by kernel_rfl) (by kernel_rfl) (by kernel_rfl) (fun _ _ _ h => h) (Or.inr ⟨by rfl, rfl⟩) ?_; try simp only [List.getElem_toArray, List.getElem_cons_succ, List.getElem_cons_zero, Act.put, List.setIfInBounds_toArray, List.set_cons_zero, List.set_cons_succ]); (refine wpAny_all (rs := [11]) (by kernel_rfl) (by simp) ?_; intro jop hjop; (have hkop := List.mem_singleton.1 hjop); subst hkop; clear hjop; refine Yields.wpOp (v := undef) rfl (Or.inr ⟨by rfl, rfl⟩) ?_; try simp only [List.getElem_toArray, List.getElem_cons_succ, List.getElem_cons_zero, Act.put, List.setIfInBounds_toArray, List.set_cons_zero, List.set_cons_succ]); (refine wpAny_take (i := 12) (v := (.bool false)) rfl (by kernel_rfl) (by kernel_rfl) (by kernel_rfl) (fun _ _ _ h => h) (Or.inl ⟨by rfl, fun w => by first | rfl | go_simp⟩) ?_; try simp only [List.getElem_toArray, List.getElem_cons_succ, List.getElem_cons_zero, Act.put, List.setIfInBounds_toArray, List.set_cons_zero, List.set_cons_succ]); (refine wpAny_take (i := 13) (v := (.bool false)) rfl (by kernel_rfl) (by kernel_rfl) (by kernel_rfl) (fun _ _ _ h => h) (Or.inl ⟨by rfl, fun w => by first | rfl | go_simp⟩) ?_; try simp only [List.getElem_toArray, List.getElem_cons_succ, List.getElem_cons_zero, Act.put, List.setIfInBounds_toArray, List.set_cons_zero, List.set_cons_succ]); (refine wpAny_take (i := 16) (v := undef) rfl (by kernel_rfl) (by kernel_rfl) (by kernel_rfl) (fun _ _ _ h => h) (Or.inr ⟨by rfl, rfl⟩) ?_; try simp only [List.getElem_toArray, List.getElem_cons_succ, List.getElem_cons_zero, Act.put, List.setIfInBounds_toArray, List.set_cons_zero, List.set_cons_succ]); (refine wpAny_take (i := 18) (v := undef) rfl (by kernel_rfl) (by kernel_rfl) (by kernel_rfl) (fun _ _ _ h => h) (Or.inr ⟨by rfl, rfl⟩) ?_; try simp only [List.getElem_toArray, List.getElem_cons_succ, List.getElem_cons_zero, Act.put, List.setIfInBounds_toArray, List.set_cons_zero, List.set_cons_succ]); (refine wpAny_take (i := 20) (v := undef) rfl (by kernel_rfl) (by kernel_rfl) (by kernel_rfl) (fun _ _ _ h => h) (Or.inr ⟨by rfl, rfl⟩) ?_; try simp only [List.getElem_toArray, List.getElem_cons_succ, List.getElem_cons_zero, Act.put, List.setIfInBounds_toArray, List.set_cons_zero, List.set_cons_succ])) | fail
      all_goals
        go_wp2_with fail
        go_ret
        exact ⟨rb HG.out.symm, HBU.out _ HwB.out⟩
    cases hhz : hasB nx z
    · have HG : Hid (S = false) := by unfold Hid; rw [HS.out, hok, hhy, hhz]; rfl
      have hyz : y ≠ z := by intro hyz; rw [hyz, hhz] at hhy; cases hhy
      clear hok
      go_upto_region 2 with fail
      rw [← HU.out]
      first | go_region_with (first
        | (go_at_call_of 23 y; refine (has_any _ y U.drew).mono ?_; rintro e wB ⟨rfl, hq⟩; rw [hhy]; have HwB : Hid (Below U.heap.size U wB) := HZU.out.trans (hq.mono HZU.out.size); clear hq; clear m0 m1 m2 m3 m4 m5 m6 m7 m8 m9; obtain ⟨m0, m1, m2, m3, m4, m5, m6, m7, m8, m9⟩ := HSc.out _ HwB.out)
        | (go_at_call_of 23 z; refine (has_any _ z wB).mono ?_; rintro e wC ⟨rfl, hq⟩; rw [hhz]; have HwC : Hid (Below U.heap.size U wC) := HwB.out.trans (hq.mono HwB.out.size); clear hq; clear m0 m1 m2 m3 m4 m5 m6 m7 m8 m9; obtain ⟨m0, m1, m2, m3, m4, m5, m6, m7, m8, m9⟩ := HSc.out _ HwC.out; go_wp2_with fail; (refine wpAny_take (i := 12) (v := (.bool false)) rfl (by kernel_rfl) (by kernel_rfl) (by kernel_rfl) (fun _ _ _ h => h) (Or.inl ⟨by rfl, fun w => by first | rfl | go_simp⟩) ?_; try simp only [List.getElem_toArray, List.getElem_cons_succ, List.getElem_cons_zero, Act.put, List.setIfInBounds_toArray, List.set_cons_zero, List.set_cons_succ]); (refine wpAny_take (i := 13) (v := (.bool false)) rfl (by kernel_rfl) (by kernel_rfl) (by kernel_rfl) (fun _ _ _ h => h) (Or.inl ⟨by rfl, fun w => by first | rfl | go_simp⟩) ?_; try simp only [List.getElem_toArray, List.getElem_cons_succ, List.getElem_cons_zero, Act.put, List.setIfInBounds_toArray, List.set_cons_zero, List.set_cons_succ]); (refine wpAny_take (i := 16) (v := undef) rfl (by kernel_rfl) (by kernel_rfl) (by kernel_rfl) (fun _ _ _ h => h) (Or.inr ⟨by rfl, rfl⟩) ?_; try simp only [List.getElem_toArray, List.getElem_cons_succ, List.getElem_cons_zero, Act.put, List.setIfInBounds_toArray, List.set_cons_zero, List.set_cons_succ]); (refine wpAny_take (i := 18) (v := undef) rfl (by kernel_rfl) (by kernel_rfl) (by kernel_rfl) (fun _ _ _ h => h) (Or.inr ⟨by rfl, rfl⟩) ?_; try simp only [List.getElem_toArray, List.getElem_cons_succ, List.getElem_cons_zero, Act.put, List.setIfInBounds_toArray, List.set_cons_zero, List.set_cons_succ]); (refine wpAny_take (i := 20) (v := undef) rfl (by kernel_rfl) (by kernel_rfl) (by kernel_rfl) (fun _ _ _ h => h) (Or.inr ⟨by rfl, rfl⟩) ?_; try simp only [List.getElem_toArray, List.getElem_cons_succ, List.getElem_cons_zero, Act.put, List.setIfInBounds_toArray, List.set_cons_zero, List.set_cons_succ]))) | fail
      all_goals
        go_wp2_with fail
        go_ret
        exact ⟨rb HG.out.symm, HBU.out _ HwC.out⟩
    have hy := hhy
    have hz := hhz
    unfold hasB at hy hz
    rw [decide_eq_true_eq] at hy hz
    obtain ⟨p, HP⟩ : ∃ p : Nat, Hid (y = (p : Int)) := ⟨y.toNat, by unfold Hid; omega⟩
    obtain ⟨q, HQ⟩ : ∃ q : Nat, Hid (z = (q : Int)) := ⟨z.toNat, by unfold Hid; omega⟩
    obtain ⟨L, HL⟩ : ∃ L : Nat, Hid (nx = (L : Int)) := ⟨nx.toNat, by unfold Hid; omega⟩
    have hpl : p < L := by have h1 := HP.out; have h2 := HL.out; omega
    have hql : q < L := by have h1 := HQ.out; have h2 := HL.out; omega
    have hnl : nx = (L : Int) := HL.out
    have hyp : y = (p : Int) := HP.out
    have hzq : z = (q : Int) := HQ.out
    subst hyp
    subst hzq
    subst hnl
    have HG : Hid (S = relO x wd p q L) := by unfold Hid; rw [HS.out, hok, hhy, hhz]; simp
    have hL1 : L ≤ 128 := by have h1 := ((worldB_iff x).1 hok).1.1; rw [HN.out] at h1; omega
    have HL1 : Hid (L ≤ 128 ∧ p < L) := ⟨hL1, hpl⟩
    obtain ⟨sq, hsq⟩ : ∃ sq, sq = L * L := ⟨_, rfl⟩
    obtain ⟨pp, hpp⟩ : ∃ pp, pp = p * L := ⟨_, rfl⟩
    have HSq : Hid (sq = L * L) := hsq
    have HPp : Hid (pp = p * L) := hpp
    have HRel : Hid (∀ V, Below U.heap.size U V → Calls Try.prog 25 #[.agg #[.int .i64 (L : Int), .slice ia im ic, .slice ta tn tc, .int .i64 (L : Int), .slice na nn nc, .slice sa sn sc, .slice ra rn rc, .slice la ln lc, .slice ia im ic, .slice ta tn tc], .slice wa wn wc] V fun e w' => ∃ b2 o2 c, e = .returned (.slice (some ⟨b2, o2, none⟩) sq c) ∧ (sq ≤ c ∧ c ≤ 9223372036854775807) ∧ b2 < w'.heap.size ∧ w'.cell? ⟨b2, o2 + pp + q, none⟩ = some (.bool S) ∧ Below V.heap.size V w') := fun V hV => by
      refine (related_any (HRU.out V hV).1 (HRU.out V hV).2.1 HN.out (HRU.out V hV).2.2.1 (HRU.out V hV).2.2.2 HOk.out).mono ?_
      rintro e w' ⟨b2, o2, c, rfl, ⟨hc, _⟩, hcell, hb⟩
      have hlt : p * L + q < L * L := cell_lt HL1.out.2 hql
      have h1 := hcell _ hlt
      refine ⟨b2, o2, c, by rw [HSq.out], by rw [HSq.out]; exact hc, World.block_lt_of_cell? w' _ h1, ?_, hb⟩
      rw [HG.out, HPp.out, Nat.add_assoc]
      exact h1
    have HRow : Hid (∀ V b2 o2 c, (sq ≤ c ∧ c ≤ 9223372036854775807) → Calls Try.prog 24 #[.agg #[.int .i64 (L : Int), .slice ia im ic, .slice ta tn tc, .int .i64 (L : Int), .slice na nn nc, .slice sa sn sc, .slice ra rn rc, .slice la ln lc, .slice ia im ic, .slice ta tn tc], .slice (some ⟨b2, o2, none⟩) sq c, .int .i64 p] V fun e w' => e = .returned (.slice (some ⟨b2, o2 + pp, none⟩) L (c - pp)) ∧ Below V.heap.size V w') := fun V b2 o2 c hc => by
      rw [HSq.out] at hc ⊢
      rw [HPp.out]
      exact row_any HL1.out.1 HL1.out.2 hc
    clear hy hz HP HQ HL hok hsq hpp
    go_upto_region 2 with fail
    rw [← HU.out]
    first | go_region_with (first
      | (go_at_call_of 23 p; refine (has_any _ (p : Int) U.drew).mono ?_; rintro e wB ⟨rfl, hq⟩; rw [hhy]; have HwB : Hid (Below U.heap.size U wB) := HZU.out.trans (hq.mono HZU.out.size); clear hq; clear m0 m1 m2 m3 m4 m5 m6 m7 m8 m9; obtain ⟨m0, m1, m2, m3, m4, m5, m6, m7, m8, m9⟩ := HSc.out _ HwB.out)
      | (go_at_call_of 23 q; refine (has_any _ (q : Int) wB).mono ?_; rintro e wC ⟨rfl, hq⟩; rw [hhz]; have HwC : Hid (Below U.heap.size U wC) := HwB.out.trans (hq.mono HwB.out.size); clear hq; clear m0 m1 m2 m3 m4 m5 m6 m7 m8 m9; obtain ⟨m0, m1, m2, m3, m4, m5, m6, m7, m8, m9⟩ := HSc.out _ HwC.out)
      | (go_at_call 25; refine (HRel.out wC HwC.out).mono ?_; rintro e wD ⟨b2, o2, c, rfl, hcc, hlt, hcell, hq⟩; have HwD : Hid (Below U.heap.size U wD) := HwC.out.trans (hq.mono HwC.out.size); have HCc : Hid (sq ≤ c ∧ c ≤ 9223372036854775807) := hcc; have HCell : Hid (∀ V, Below wD.heap.size wD V → V.cell? ⟨b2, o2 + pp + q, none⟩ = some (.bool S)) := fun V hV => (hV.cell (p := ⟨b2, o2 + pp + q, none⟩) hlt).trans hcell; clear hq hcc hlt hcell; clear m0 m1 m2 m3 m4 m5 m6 m7 m8 m9; obtain ⟨m0, m1, m2, m3, m4, m5, m6, m7, m8, m9⟩ := HSc.out _ HwD.out)
      | (go_at_call 24; refine (HRow.out wD b2 o2 c HCc.out).mono ?_; rintro e wE ⟨rfl, hq⟩; have HwE : Hid (Below U.heap.size U wE) := HwD.out.trans (hq.mono HwD.out.size); have hcell := HCell.out _ hq; clear hq; clear m0 m1 m2 m3 m4 m5 m6 m7 m8 m9; obtain ⟨m0, m1, m2, m3, m4, m5, m6, m7, m8, m9⟩ := HSc.out _ HwE.out)) | fail
    all_goals
      go_wp2_with fail
      go_ret
      exact ⟨rfl, HBU.out _ HwE.out⟩

end Go.Proofs.Ytnmljalcndfjmaa
