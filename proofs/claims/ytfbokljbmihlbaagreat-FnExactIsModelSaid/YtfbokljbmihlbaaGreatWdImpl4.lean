/- impl.WorldOk: for every world that can be read it answers what 'worldB' says. -/
import Derived.Test.YtfbokljbmihlbaaGreatNWdI
import Derived.Test.YtfbokljbmihlbaaGreatWdImpl3
namespace Go.Proofs.YtfbokljbmihlbaaGreat
open Go.RowKit

set_option maxRecDepth 100000 in
set_option maxHeartbeats 16000000 in
theorem implWorldOk_any {na : Option Addr} {nn nc : Nat} {sa : Option Addr} {sn sc : Nat} {ra : Option Addr} {rn rc : Nat} {la : Option Addr} {ln lc : Nat} {ia : Option Addr} {im ic : Nat} {ta : Option Addr} {tn tc : Nat} {x : WD} {w : World} {lo hi : Nat} {nx : Int} (h : RdW lo hi w na nn nc sa sn sc ra rn rc la ln lc ia im ic ta tn tc x) (hn : x.n = nx) (hhi : hi ≤ w.heap.size) :
    Calls Tryz.prog 60 #[.agg #[.int .i64 nx, .slice na nn nc, .slice sa sn sc, .slice ra rn rc, .slice la ln lc, .slice ia im ic, .slice ta tn tc]] w fun e w' => e = .returned (.bool (worldB x)) ∧ Below w.heap.size w w' := by
  obtain ⟨W0, hW0⟩ : ∃ W0, W0 = w.alloc (.cells #[.int .i64 nx, .slice na nn nc, .slice sa sn sc, .slice ra rn rc, .slice la ln lc, .slice ia im ic, .slice ta tn tc] 36) := ⟨_, rfl⟩
  have HW0 : Hid (W0 = w.alloc (.cells #[.int .i64 nx, .slice na nn nc, .slice sa sn sc, .slice ra rn rc, .slice la ln lc, .slice ia im ic, .slice ta tn tc] 36)) := hW0
  have hb0 : Below w.heap.size w W0 := by rw [hW0]; exact (Below.refl _ _).alloc (Nat.le_refl _) _
  have HB0 : Hid (Below w.heap.size w W0) := hb0
  have hbx : BoxW 36 W0 w.heap.size nx (.slice na nn nc) (.slice sa sn sc) (.slice ra rn rc) (.slice la ln lc) (.slice ia im ic) (.slice ta tn tc) := by rw [hW0]; exact BoxW.new _ w _ _ _ _ _ _ _
  have HAt : Hid (∀ W, Below W0.heap.size W0 W → BoxW 36 W w.heap.size nx (.slice na nn nc) (.slice sa sn sc) (.slice ra rn rc) (.slice la ln lc) (.slice ia im ic) (.slice ta tn tc)) := fun W hW => hbx.below hW hbx.lt
  have HRd : Hid (∀ W, Below W0.heap.size W0 W → RdW lo hi W na nn nc sa sn sc ra rn rc la ln lc ia im ic ta tn tc x) := fun W hW => (h.below hb0 hhi).below hW (Nat.le_trans hhi hb0.size)
  have HHi : Hid (∀ W, Below W0.heap.size W0 W → hi ≤ W.heap.size) := fun W hW => Nat.le_trans (Nat.le_trans hhi hb0.size) hW.size
  have HBd : Hid (∀ W, Below W0.heap.size W0 W → Below w.heap.size w W) := fun W hW => hb0.trans (hW.mono hb0.size)
  have HZ : Hid (Below W0.heap.size W0 W0) := Below.refl _ _
  obtain ⟨z0, z1, z2, z3, z4, z5, z6⟩ := hbx.cells
  have HI : Hid _ := worldB_iff x
  rw [hn, h.names.len, h.sets.len, h.roles.len, h.rels.len, h.inds.len, h.at'.len] at HI
  have f1 := h.names.fits
  have f2 := h.sets.fits
  have f3 := h.roles.fits
  have f4 := h.rels.fits
  have f5 := h.inds.fits
  have f6 := h.at'.fits
  clear h hb0 hW0 hbx hn
  by_cases t0 : 1 ≤ nx
  case neg =>
    have HE : Hid (worldB x = false) := worldB_no (fun e => by have e2 := (HI.out.1 e).1; omega)
    have g0 : decide (1 ≤ nx) = false := decide_eq_false t0
    clear t0
    go_enter Tryz.func60, Tryz.ntmps60
    go_upto_region 1 with fail
    rw [← HW0.out]
    go_wp2_with fail
    go_ret
    exact ⟨rb HE.out.symm, HB0.out⟩
  have g0 : decide (1 ≤ nx) = true := decide_eq_true t0
  by_cases t1 : nx ≤ 128
  case neg =>
    have HE : Hid (worldB x = false) := worldB_no (fun e => by have e2 := (HI.out.1 e).1; omega)
    have g1 : decide (nx ≤ 128) = false := decide_eq_false t1
    clear t1
    go_enter Tryz.func60, Tryz.ntmps60
    go_upto_region 1 with fail
    rw [← HW0.out]
    go_wp2_with fail
    go_ret
    exact ⟨rb HE.out.symm, HB0.out⟩
  have g1 : decide (nx ≤ 128) = true := decide_eq_true t1
  obtain ⟨m, HM⟩ : ∃ m, Hid (nx * nx = m) := ⟨_, rfl⟩
  have hmb : 0 ≤ m ∧ m ≤ 16384 := by
    have h2 : nx * nx ≤ 128 * 128 := Int.mul_le_mul t1 t1 (by omega) (by omega)
    have h3 : 0 ≤ nx * nx := Int.mul_nonneg (by omega) (by omega)
    rw [HM.out] at h2 h3
    omega
  have hmm : nx * nx = m := HM.out
  have HT : Hid (1 ≤ nx ∧ nx ≤ 128) := ⟨t0, t1⟩
  clear t0 t1
  cases hA : (decide (nn ≤ 12) && namesB true x.names)
  · have HE : Hid (worldB x = false) := worldB_no (fun e => by
        obtain ⟨⟨n1, n2, n3, n4, n5, n6, n7⟩, ⟨m1, m2, m3⟩, l1, l2, l3⟩ := HI.out.1 e
        simp [n2, m1] at hA)
    go_enter Tryz.func60, Tryz.ntmps60
    go_upto_region 1 with fail
    rw [← HW0.out]
    go_wp2_with (first | (go_at_call_of 87 na; refine (wordsFitU_any na nn nc 12 x.names _ (HRd.out _ HZ.out).names).mono ?_; rintro e wq ⟨rfl, hq⟩; rw [hq, hA]; clear hq))
    go_ret
    exact ⟨rb HE.out.symm, HBd.out _ HZ.out⟩
  cases hB : (decide (sn = nn) && flagsB x.sets nx)
  · have HE : Hid (worldB x = false) := worldB_no (fun e => by
        obtain ⟨⟨n1, n2, n3, n4, n5, n6, n7⟩, ⟨m1, m2, m3⟩, l1, l2, l3⟩ := HI.out.1 e
        simp [n5, l1] at hB)
    go_enter Tryz.func60, Tryz.ntmps60
    go_upto_region 1 with fail
    rw [← HW0.out]
    go_wp2_with (first | (go_at_call_of 87 na; refine (wordsFitU_any na nn nc 12 x.names _ (HRd.out _ HZ.out).names).mono ?_; rintro e wq ⟨rfl, hq⟩; rw [hq, hA]; clear hq) | (go_at_call_of 89 sa; refine (flagsFit_any sa sn sc nn nx x.sets _ (HRd.out _ HZ.out).sets (HHi.out _ HZ.out)).mono ?_; rintro e wB ⟨rfl, hq⟩; rw [hB]; have HwB : Hid (Below W0.heap.size W0 wB) := HZ.out.trans (hq.mono HZ.out.size); clear hq z0 z1 z2 z3 z4 z5 z6; obtain ⟨z0, z1, z2, z3, z4, z5, z6⟩ := (HAt.out _ HwB.out).cells))
    go_ret
    exact ⟨rb HE.out.symm, HBd.out _ HwB.out⟩
  cases hC : (decide (rn ≤ 6) && namesB false x.roles)
  · have HE : Hid (worldB x = false) := worldB_no (fun e => by
        obtain ⟨⟨n1, n2, n3, n4, n5, n6, n7⟩, ⟨m1, m2, m3⟩, l1, l2, l3⟩ := HI.out.1 e
        simp [n3, m2] at hC)
    go_enter Tryz.func60, Tryz.ntmps60
    go_upto_region 1 with fail
    rw [← HW0.out]
    go_wp2_with (first | (go_at_call_of 87 na; refine (wordsFitU_any na nn nc 12 x.names _ (HRd.out _ HZ.out).names).mono ?_; rintro e wq ⟨rfl, hq⟩; rw [hq, hA]; clear hq) | (go_at_call_of 89 sa; refine (flagsFit_any sa sn sc nn nx x.sets _ (HRd.out _ HZ.out).sets (HHi.out _ HZ.out)).mono ?_; rintro e wB ⟨rfl, hq⟩; rw [hB]; have HwB : Hid (Below W0.heap.size W0 wB) := HZ.out.trans (hq.mono HZ.out.size); clear hq z0 z1 z2 z3 z4 z5 z6; obtain ⟨z0, z1, z2, z3, z4, z5, z6⟩ := (HAt.out _ HwB.out).cells) | (go_at_call_of 87 ra; refine (wordsFitL_any ra rn rc 6 x.roles _ (HRd.out _ HwB.out).roles).mono ?_; rintro e wq ⟨rfl, hq⟩; rw [hq, hC]; clear hq))
    go_ret
    exact ⟨rb HE.out.symm, HBd.out _ HwB.out⟩
  cases hD : (decide (ln = rn) && flagsB x.rels m)
  · have HE : Hid (worldB x = false) := worldB_no (fun e => by
        obtain ⟨⟨n1, n2, n3, n4, n5, n6, n7⟩, ⟨m1, m2, m3⟩, l1, l2, l3⟩ := HI.out.1 e
        rw [HM.out] at l2; simp [n6, l2] at hD)
    go_enter Tryz.func60, Tryz.ntmps60
    go_upto_region 1 with fail
    rw [← HW0.out]
    go_wp2_with (first | (go_at_call_of 87 na; refine (wordsFitU_any na nn nc 12 x.names _ (HRd.out _ HZ.out).names).mono ?_; rintro e wq ⟨rfl, hq⟩; rw [hq, hA]; clear hq) | (go_at_call_of 89 sa; refine (flagsFit_any sa sn sc nn nx x.sets _ (HRd.out _ HZ.out).sets (HHi.out _ HZ.out)).mono ?_; rintro e wB ⟨rfl, hq⟩; rw [hB]; have HwB : Hid (Below W0.heap.size W0 wB) := HZ.out.trans (hq.mono HZ.out.size); clear hq z0 z1 z2 z3 z4 z5 z6; obtain ⟨z0, z1, z2, z3, z4, z5, z6⟩ := (HAt.out _ HwB.out).cells) | (go_at_call_of 87 ra; refine (wordsFitL_any ra rn rc 6 x.roles _ (HRd.out _ HwB.out).roles).mono ?_; rintro e wq ⟨rfl, hq⟩; rw [hq, hC]; clear hq) | (go_at_call_of 89 la; refine (flagsFit_any la ln lc rn m x.rels _ (HRd.out _ HwB.out).rels (HHi.out _ HwB.out)).mono ?_; rintro e wD ⟨rfl, hq⟩; rw [hD]; have HwD : Hid (Below W0.heap.size W0 wD) := HwB.out.trans (hq.mono HwB.out.size); clear hq z0 z1 z2 z3 z4 z5 z6; obtain ⟨z0, z1, z2, z3, z4, z5, z6⟩ := (HAt.out _ HwD.out).cells))
    go_ret
    exact ⟨rb HE.out.symm, HBd.out _ HwD.out⟩
  cases hE : (decide (im ≤ 6) && namesB false x.inds)
  · have HE : Hid (worldB x = false) := worldB_no (fun e => by
        obtain ⟨⟨n1, n2, n3, n4, n5, n6, n7⟩, ⟨m1, m2, m3⟩, l1, l2, l3⟩ := HI.out.1 e
        simp [n4, m3] at hE)
    go_enter Tryz.func60, Tryz.ntmps60
    go_upto_region 1 with fail
    rw [← HW0.out]
    go_wp2_with (first | (go_at_call_of 87 na; refine (wordsFitU_any na nn nc 12 x.names _ (HRd.out _ HZ.out).names).mono ?_; rintro e wq ⟨rfl, hq⟩; rw [hq, hA]; clear hq) | (go_at_call_of 89 sa; refine (flagsFit_any sa sn sc nn nx x.sets _ (HRd.out _ HZ.out).sets (HHi.out _ HZ.out)).mono ?_; rintro e wB ⟨rfl, hq⟩; rw [hB]; have HwB : Hid (Below W0.heap.size W0 wB) := HZ.out.trans (hq.mono HZ.out.size); clear hq z0 z1 z2 z3 z4 z5 z6; obtain ⟨z0, z1, z2, z3, z4, z5, z6⟩ := (HAt.out _ HwB.out).cells) | (go_at_call_of 87 ra; refine (wordsFitL_any ra rn rc 6 x.roles _ (HRd.out _ HwB.out).roles).mono ?_; rintro e wq ⟨rfl, hq⟩; rw [hq, hC]; clear hq) | (go_at_call_of 89 la; refine (flagsFit_any la ln lc rn m x.rels _ (HRd.out _ HwB.out).rels (HHi.out _ HwB.out)).mono ?_; rintro e wD ⟨rfl, hq⟩; rw [hD]; have HwD : Hid (Below W0.heap.size W0 wD) := HwB.out.trans (hq.mono HwB.out.size); clear hq z0 z1 z2 z3 z4 z5 z6; obtain ⟨z0, z1, z2, z3, z4, z5, z6⟩ := (HAt.out _ HwD.out).cells) | (go_at_call_of 87 ia; refine (wordsFitL_any ia im ic 6 x.inds _ (HRd.out _ HwD.out).inds).mono ?_; rintro e wq ⟨rfl, hq⟩; rw [hq, hE]; clear hq))
    go_ret
    exact ⟨rb HE.out.symm, HBd.out _ HwD.out⟩
  by_cases t7 : tn = im
  case neg =>
    have HE : Hid (worldB x = false) := worldB_no (fun e => by have e2 := (HI.out.1 e).1; omega)
    have g7 : ((tn : Int) == (im : Int)) = false := by simp; omega
    have g7' : decide (tn = im) = false := decide_eq_false t7
    clear t7
    go_enter Tryz.func60, Tryz.ntmps60
    go_upto_region 1 with fail
    rw [← HW0.out]
    go_wp2_with (first | (go_at_call_of 87 na; refine (wordsFitU_any na nn nc 12 x.names _ (HRd.out _ HZ.out).names).mono ?_; rintro e wq ⟨rfl, hq⟩; rw [hq, hA]; clear hq) | (go_at_call_of 89 sa; refine (flagsFit_any sa sn sc nn nx x.sets _ (HRd.out _ HZ.out).sets (HHi.out _ HZ.out)).mono ?_; rintro e wB ⟨rfl, hq⟩; rw [hB]; have HwB : Hid (Below W0.heap.size W0 wB) := HZ.out.trans (hq.mono HZ.out.size); clear hq z0 z1 z2 z3 z4 z5 z6; obtain ⟨z0, z1, z2, z3, z4, z5, z6⟩ := (HAt.out _ HwB.out).cells) | (go_at_call_of 87 ra; refine (wordsFitL_any ra rn rc 6 x.roles _ (HRd.out _ HwB.out).roles).mono ?_; rintro e wq ⟨rfl, hq⟩; rw [hq, hC]; clear hq) | (go_at_call_of 89 la; refine (flagsFit_any la ln lc rn m x.rels _ (HRd.out _ HwB.out).rels (HHi.out _ HwB.out)).mono ?_; rintro e wD ⟨rfl, hq⟩; rw [hD]; have HwD : Hid (Below W0.heap.size W0 wD) := HwB.out.trans (hq.mono HwB.out.size); clear hq z0 z1 z2 z3 z4 z5 z6; obtain ⟨z0, z1, z2, z3, z4, z5, z6⟩ := (HAt.out _ HwD.out).cells) | (go_at_call_of 87 ia; refine (wordsFitL_any ia im ic 6 x.inds _ (HRd.out _ HwD.out).inds).mono ?_; rintro e wq ⟨rfl, hq⟩; rw [hq, hE]; clear hq))
    go_ret
    exact ⟨rb HE.out.symm, HBd.out _ HwD.out⟩
  have g7 : ((tn : Int) == (im : Int)) = true := by simp; omega
  have g7' : decide (tn = im) = true := decide_eq_true t7
  have HT7 : Hid (tn = im) := t7
  clear t7
  cases hG : atB x.at' nx
  · have HE : Hid (worldB x = false) := worldB_no (fun e => by have e2 := (HI.out.1 e).2.2.2.2; rw [hG] at e2; exact absurd e2 (by simp))
    go_enter Tryz.func60, Tryz.ntmps60
    go_upto_region 1 with fail
    rw [← HW0.out]
    go_wp2_with (first | (go_at_call_of 87 na; refine (wordsFitU_any na nn nc 12 x.names _ (HRd.out _ HZ.out).names).mono ?_; rintro e wq ⟨rfl, hq⟩; rw [hq, hA]; clear hq) | (go_at_call_of 89 sa; refine (flagsFit_any sa sn sc nn nx x.sets _ (HRd.out _ HZ.out).sets (HHi.out _ HZ.out)).mono ?_; rintro e wB ⟨rfl, hq⟩; rw [hB]; have HwB : Hid (Below W0.heap.size W0 wB) := HZ.out.trans (hq.mono HZ.out.size); clear hq z0 z1 z2 z3 z4 z5 z6; obtain ⟨z0, z1, z2, z3, z4, z5, z6⟩ := (HAt.out _ HwB.out).cells) | (go_at_call_of 87 ra; refine (wordsFitL_any ra rn rc 6 x.roles _ (HRd.out _ HwB.out).roles).mono ?_; rintro e wq ⟨rfl, hq⟩; rw [hq, hC]; clear hq) | (go_at_call_of 89 la; refine (flagsFit_any la ln lc rn m x.rels _ (HRd.out _ HwB.out).rels (HHi.out _ HwB.out)).mono ?_; rintro e wD ⟨rfl, hq⟩; rw [hD]; have HwD : Hid (Below W0.heap.size W0 wD) := HwB.out.trans (hq.mono HwB.out.size); clear hq z0 z1 z2 z3 z4 z5 z6; obtain ⟨z0, z1, z2, z3, z4, z5, z6⟩ := (HAt.out _ HwD.out).cells) | (go_at_call_of 87 ia; refine (wordsFitL_any ia im ic 6 x.inds _ (HRd.out _ HwD.out).inds).mono ?_; rintro e wq ⟨rfl, hq⟩; rw [hq, hE]; clear hq) | (go_at_call 91; refine (hasAt_any ta tn tc x.at' _ (HRd.out _ HwD.out).at' (HHi.out _ HwD.out) (HAt.out _ HwD.out)).mono ?_; rintro e wG ⟨rfl, hq⟩; rw [hG]; have HwG : Hid (Below W0.heap.size W0 wG) := HwD.out.trans (hq.mono HwD.out.size); clear hq))
    go_ret
    exact ⟨rb HE.out.symm, HBd.out _ HwG.out⟩
  have HE : Hid (worldB x = true) := by
    have a1 := hA
    have a2 := hB
    have a3 := hC
    have a4 := hD
    have a5 := hE
    simp only [Bool.and_eq_true, decide_eq_true_eq] at a1 a2 a3 a4 a5
    exact HI.out.2 ⟨⟨HT.out, a1.1, a3.1, a5.1, a2.1, a4.1, HT7.out⟩, ⟨a1.2, a3.2, a5.2⟩, a2.2, by rw [HM.out]; exact a4.2, hG⟩
  go_enter Tryz.func60, Tryz.ntmps60
  go_upto_region 1 with fail
  rw [← HW0.out]
  go_wp2_with (first | (go_at_call_of 87 na; refine (wordsFitU_any na nn nc 12 x.names _ (HRd.out _ HZ.out).names).mono ?_; rintro e wq ⟨rfl, hq⟩; rw [hq, hA]; clear hq) | (go_at_call_of 89 sa; refine (flagsFit_any sa sn sc nn nx x.sets _ (HRd.out _ HZ.out).sets (HHi.out _ HZ.out)).mono ?_; rintro e wB ⟨rfl, hq⟩; rw [hB]; have HwB : Hid (Below W0.heap.size W0 wB) := HZ.out.trans (hq.mono HZ.out.size); clear hq z0 z1 z2 z3 z4 z5 z6; obtain ⟨z0, z1, z2, z3, z4, z5, z6⟩ := (HAt.out _ HwB.out).cells) | (go_at_call_of 87 ra; refine (wordsFitL_any ra rn rc 6 x.roles _ (HRd.out _ HwB.out).roles).mono ?_; rintro e wq ⟨rfl, hq⟩; rw [hq, hC]; clear hq) | (go_at_call_of 89 la; refine (flagsFit_any la ln lc rn m x.rels _ (HRd.out _ HwB.out).rels (HHi.out _ HwB.out)).mono ?_; rintro e wD ⟨rfl, hq⟩; rw [hD]; have HwD : Hid (Below W0.heap.size W0 wD) := HwB.out.trans (hq.mono HwB.out.size); clear hq z0 z1 z2 z3 z4 z5 z6; obtain ⟨z0, z1, z2, z3, z4, z5, z6⟩ := (HAt.out _ HwD.out).cells) | (go_at_call_of 87 ia; refine (wordsFitL_any ia im ic 6 x.inds _ (HRd.out _ HwD.out).inds).mono ?_; rintro e wq ⟨rfl, hq⟩; rw [hq, hE]; clear hq) | (go_at_call 91; refine (hasAt_any ta tn tc x.at' _ (HRd.out _ HwD.out).at' (HHi.out _ HwD.out) (HAt.out _ HwD.out)).mono ?_; rintro e wG ⟨rfl, hq⟩; rw [hG]; have HwG : Hid (Below W0.heap.size W0 wG) := HwD.out.trans (hq.mono HwD.out.size); clear hq))
  go_ret
  exact ⟨rb HE.out.symm, HBd.out _ HwG.out⟩

end Go.Proofs.YtfbokljbmihlbaaGreat
