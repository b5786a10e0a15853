/- markWorld. -/
import Derived.Test.YtfbokljbmihlbaaWdMark
import Derived.Test.YtfbokljbmihlbaaWdLaw3
namespace Go.Proofs.Ytfbokljbmihlbaa
open Go.RowKit
set_option linter.unusedVariables false

set_option maxRecDepth 100000 in
set_option maxHeartbeats 4000000 in
theorem markWorld_any {na : Option Addr} {nn nc : Nat} {sa : Option Addr} {sn sc : Nat} {ra : Option Addr} {rn rc : Nat} {la : Option Addr} {ln lc : Nat} {ia : Option Addr} {im ic : Nat} {ta : Option Addr} {tn tc : Nat} {x : WD} {w : World} {lo hi : Nat} {nx k : Int} (h : RdW lo hi w na nn nc sa sn sc ra rn rc la ln lc ia im ic ta tn tc x) (hF : Free lo hi w) (hhi : hi ≤ w.heap.size) (hbd : BdW x nn sn rn ln im tn) (hk : 0 ≤ k ∧ k ≤ 1073741824) :
    Calls Try.prog 14 #[.agg #[.int .i64 nx, .slice na nn nc, .slice sa sn sc, .slice ra rn rc, .slice la ln lc, .slice ia im ic, .slice ta tn tc], .int .i64 k] w fun e w' => ∃ t : Nat, e = .returned (.int .i64 (k + t)) ∧ t ≤ 8796093022208 ∧ MarkW lo hi w w' := by
  obtain ⟨hk0, hk1⟩ := hk
  obtain ⟨W0, hW0⟩ : ∃ W0, W0 = w.alloc (.cells #[.int .i64 nx, .slice na nn nc, .slice sa sn sc, .slice ra rn rc, .slice la ln lc, .slice ia im ic, .slice ta tn tc] 34) := ⟨_, rfl⟩
  have HW0 : Hid (W0 = w.alloc (.cells #[.int .i64 nx, .slice na nn nc, .slice sa sn sc, .slice ra rn rc, .slice la ln lc, .slice ia im ic, .slice ta tn tc] 34)) := hW0
  have hb0 : Below w.heap.size w W0 := by rw [hW0]; exact (Below.refl _ _).alloc (Nat.le_refl _) _
  have hs0 : W0.heap.size = w.heap.size + 1 := by rw [hW0]; simp
  have hbx : BoxW 34 W0 w.heap.size nx (.slice na nn nc) (.slice sa sn sc) (.slice ra rn rc) (.slice la ln lc) (.slice ia im ic) (.slice ta tn tc) := by rw [hW0]; exact BoxW.new _ w _ _ _ _ _ _ _
  have HM0 : Hid (MarkW lo hi w W0) := (MarkRel.of_below hb0).toW
  have HX : Hid (∀ V, MarkW lo hi W0 V → BoxW 34 V w.heap.size nx (.slice na nn nc) (.slice sa sn sc) (.slice ra rn rc) (.slice la ln lc) (.slice ia im ic) (.slice ta tn tc)) := fun V hV => (hV.out _ (by omega) (.inr hhi)).trans hbx
  have HBd : Hid (BdW x nn sn rn ln im tn) := hbd
  have HS : Hid (∀ V, MarkW lo hi W0 V → markBBSh lo hi V na nn nc ∧ markFFSh lo hi V sa sn sc ∧ markBBSh lo hi V ra rn rc ∧ markFFSh lo hi V la ln lc ∧ markBBSh lo hi V ia im ic ∧ ShI lo hi V ta tn tc ∧ Free lo hi V ∧ hi ≤ V.heap.size) := fun V hV => by
    have h0 := h.below hb0 hhi
    exact ⟨(h0.names.sh hbd.n.2).mark hV, (h0.sets.sh hbd.s.2).mark hV, (h0.roles.sh hbd.r.2).mark hV, (h0.rels.sh hbd.l.2).mark hV, (h0.inds.sh hbd.i.2).mark hV, ShI.mark hV (RI.sh h0.at'), (hF.markW HM0.out hhi).markW hV (by omega), by have := hV.size; omega⟩
  have htn : tn ≤ 1048576 := hbd.t
  obtain ⟨z0, z1, z2, z3, z4, z5, z6⟩ := hbx.cells
  clear h hF hb0 hbx hW0 hbd hs0
  go_enter Try.func14, Try.ntmps14
  go_upto_region 1 with fail
  rw [← HW0.out]
  go_wp2_with fail
  refine (markBB_any na nn nc (k) W0 (HS.out W0 (MarkW.refl lo hi W0)).1 (HS.out W0 (MarkW.refl lo hi W0)).2.2.2.2.2.2.1 (HS.out W0 (MarkW.refl lo hi W0)).2.2.2.2.2.2.2 HBd.out.n.1 (by omega)).mono ?_
  rintro e w1 ⟨t1, rfl, ht1, hm1⟩
  have HM1 : Hid (MarkW lo hi W0 w1) := hm1
  clear hm1 z0 z1 z2 z3 z4 z5 z6
  obtain ⟨z0, z1, z2, z3, z4, z5, z6⟩ := (HX.out w1 HM1.out).cells
  go_wp2_with fail
  refine (markFF_any sa sn sc (k + (t1 : Int)) w1 (HS.out w1 (HM1.out)).2.1 (HS.out w1 (HM1.out)).2.2.2.2.2.2.1 (HS.out w1 (HM1.out)).2.2.2.2.2.2.2 HBd.out.s.1 (by omega)).mono ?_
  rintro e w2 ⟨t2, rfl, ht2, hm2⟩
  have HM2 : Hid (MarkW lo hi W0 w2) := HM1.out.trans hm2
  clear hm2 z0 z1 z2 z3 z4 z5 z6
  obtain ⟨z0, z1, z2, z3, z4, z5, z6⟩ := (HX.out w2 HM2.out).cells
  go_wp2_with fail
  refine (markBB_any ra rn rc (k + (t1 : Int) + (t2 : Int)) w2 (HS.out w2 (HM2.out)).2.2.1 (HS.out w2 (HM2.out)).2.2.2.2.2.2.1 (HS.out w2 (HM2.out)).2.2.2.2.2.2.2 HBd.out.r.1 (by omega)).mono ?_
  rintro e w3 ⟨t3, rfl, ht3, hm3⟩
  have HM3 : Hid (MarkW lo hi W0 w3) := HM2.out.trans hm3
  clear hm3 z0 z1 z2 z3 z4 z5 z6
  obtain ⟨z0, z1, z2, z3, z4, z5, z6⟩ := (HX.out w3 HM3.out).cells
  go_wp2_with fail
  refine (markFF_any la ln lc (k + (t1 : Int) + (t2 : Int) + (t3 : Int)) w3 (HS.out w3 (HM3.out)).2.2.2.1 (HS.out w3 (HM3.out)).2.2.2.2.2.2.1 (HS.out w3 (HM3.out)).2.2.2.2.2.2.2 HBd.out.l.1 (by omega)).mono ?_
  rintro e w4 ⟨t4, rfl, ht4, hm4⟩
  have HM4 : Hid (MarkW lo hi W0 w4) := HM3.out.trans hm4
  clear hm4 z0 z1 z2 z3 z4 z5 z6
  obtain ⟨z0, z1, z2, z3, z4, z5, z6⟩ := (HX.out w4 HM4.out).cells
  go_wp2_with fail
  refine (markBB_any ia im ic (k + (t1 : Int) + (t2 : Int) + (t3 : Int) + (t4 : Int)) w4 (HS.out w4 (HM4.out)).2.2.2.2.1 (HS.out w4 (HM4.out)).2.2.2.2.2.2.1 (HS.out w4 (HM4.out)).2.2.2.2.2.2.2 HBd.out.i.1 (by omega)).mono ?_
  rintro e w5 ⟨t5, rfl, ht5, hm5⟩
  have HM5 : Hid (MarkW lo hi W0 w5) := HM4.out.trans hm5
  clear hm5 z0 z1 z2 z3 z4 z5 z6
  obtain ⟨z0, z1, z2, z3, z4, z5, z6⟩ := (HX.out w5 HM5.out).cells
  go_wp2_with fail
  refine (markIW_any ta tn tc (k + (t1 : Int) + (t2 : Int) + (t3 : Int) + (t4 : Int) + (t5 : Int)) w5 (HS.out w5 (HM5.out)).2.2.2.2.2.1 (HS.out w5 (HM5.out)).2.2.2.2.2.2.1 (HS.out w5 (HM5.out)).2.2.2.2.2.2.2 HBd.out.t (by omega)).mono ?_
  rintro e w6 ⟨rfl, hm6⟩
  have HM6 : Hid (MarkW lo hi W0 w6) := HM5.out.trans hm6
  clear hm6 z0 z1 z2 z3 z4 z5 z6
  obtain ⟨z0, z1, z2, z3, z4, z5, z6⟩ := (HX.out w6 HM6.out).cells
  go_wp2_with fail
  go_ret
  exact ⟨t1 + t2 + t3 + t4 + t5 + tn, ri (by omega), by omega, HM0.out.trans HM6.out⟩

end Go.Proofs.Ytfbokljbmihlbaa
