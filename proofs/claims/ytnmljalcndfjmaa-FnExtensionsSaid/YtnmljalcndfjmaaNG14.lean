/- Several texts in one: HoldM, WdImpl4, HoldS, TokFin. -/
import Derived.Test.YtnmljalcndfjmaaNG13
import Derived.Test.YtnmljalcndfjmaaNG8
import Derived.Test.YtnmljalcndfjmaaNG7
import Derived.Test.YtnmljalcndfjmaaNG12
import Derived.Deep.RegionHeld3
namespace Go.Proofs.Ytnmljalcndfjmaa

section
open Go.RowKit

mutual
/-- Does the concept hold of the element e? -/
def holdC (x : WD) (L : Nat) : CN → Nat → Bool
  | .mk k n r ks, e =>
    if k = 0 then true else if k = 1 then false else if k = 2 then flagO x.names x.sets n e
    else if k = 3 then !(holdK x L ks 0 e)
    else if k = 4 then holdK x L ks 0 e && holdK x L ks 1 e
    else if k = 5 then holdK x L ks 0 e || holdK x L ks 1 e
    else if k = 6 then (List.range L).any (fun y => relO x r e y L && holdK x L ks 0 y)
    else (List.range L).all (fun y => !(relO x r e y L) || holdK x L ks 0 y)
def holdK (x : WD) (L : Nat) : List CN → Nat → Nat → Bool
  | [], _, _ => false
  | c :: _, 0, e => holdC x L c e
  | _ :: cs, i + 1, e => holdK x L cs i e
end

theorem holdK_getD (x : WD) (L : Nat) : ∀ (cs : List CN) (i e : Nat), i < cs.length → holdK x L cs i e = holdC x L (cs.getD i CN.zero) e
  | [], _, _, h => by simp at h
  | c :: cs, 0, e, _ => by rw [holdK]; rfl
  | c :: cs, i + 1, e, h => by
    rw [holdK, holdK_getD x L cs i e (by simpa using h)]
    rfl

theorem holdC_eq (x : WD) (L : Nat) (c : CN) (e : Nat) : holdC x L c e =
    if c.kind = 0 then true else if c.kind = 1 then false else if c.kind = 2 then flagO x.names x.sets c.name e
    else if c.kind = 3 then !(holdK x L c.kids 0 e)
    else if c.kind = 4 then holdK x L c.kids 0 e && holdK x L c.kids 1 e
    else if c.kind = 5 then holdK x L c.kids 0 e || holdK x L c.kids 1 e
    else if c.kind = 6 then (List.range L).any (fun y => relO x c.role e y L && holdK x L c.kids 0 y)
    else (List.range L).all (fun y => !(relO x c.role e y L) || holdK x L c.kids 0 y) := by
  cases c with
  | mk k n r ks => rw [holdC]; rfl

theorem wf_kids {c : CN} (h : wfC c = true) : (c.kids.length : Int) = kidN c.kind ∧ wfL c.kids = true ∧ 0 ≤ c.kind ∧ c.kind ≤ 7 := by
  rw [wfC_eq, Bool.and_eq_true] at h
  have hs := shape_facts h.1
  have h2 := h.1
  unfold shapeB at h2
  simp only [Bool.and_eq_true, decide_eq_true_eq] at h2
  exact ⟨h2.2.2, h.2, hs.1.1, hs.1.2⟩
end

section
open Go.RowKit

set_option maxRecDepth 100000 in
set_option maxHeartbeats 16000000 in
theorem implWorldOk_any {na : Option Addr} {nn nc : Nat} {sa : Option Addr} {sn sc : Nat} {ra : Option Addr} {rn rc : Nat} {la : Option Addr} {ln lc : Nat} {ia : Option Addr} {im ic : Nat} {ta : Option Addr} {tn tc : Nat} {x : WD} {w : World} {lo hi : Nat} {nx : Int} (h : RdW lo hi w na nn nc sa sn sc ra rn rc la ln lc ia im ic ta tn tc x) (hn : x.n = nx) (hhi : hi ≤ w.heap.size) :
    Calls Try.prog 20 #[.agg #[.int .i64 nx, .slice na nn nc, .slice sa sn sc, .slice ra rn rc, .slice la ln lc, .slice ia im ic, .slice ta tn tc]] w fun e w' => e = .returned (.bool (worldB x)) ∧ Below w.heap.size w w' := by
  obtain ⟨W0, hW0⟩ : ∃ W0, W0 = w.alloc (.cells #[.int .i64 nx, .slice na nn nc, .slice sa sn sc, .slice ra rn rc, .slice la ln lc, .slice ia im ic, .slice ta tn tc] 27) := ⟨_, rfl⟩
  have HW0 : Hid (W0 = w.alloc (.cells #[.int .i64 nx, .slice na nn nc, .slice sa sn sc, .slice ra rn rc, .slice la ln lc, .slice ia im ic, .slice ta tn tc] 27)) := hW0
  have hb0 : Below w.heap.size w W0 := by rw [hW0]; exact (Below.refl _ _).alloc (Nat.le_refl _) _
  have HB0 : Hid (Below w.heap.size w W0) := hb0
  have hbx : BoxW 27 W0 w.heap.size nx (.slice na nn nc) (.slice sa sn sc) (.slice ra rn rc) (.slice la ln lc) (.slice ia im ic) (.slice ta tn tc) := by rw [hW0]; exact BoxW.new _ w _ _ _ _ _ _ _
  have HAt : Hid (∀ W, Below W0.heap.size W0 W → BoxW 27 W w.heap.size nx (.slice na nn nc) (.slice sa sn sc) (.slice ra rn rc) (.slice la ln lc) (.slice ia im ic) (.slice ta tn tc)) := fun W hW => hbx.below hW hbx.lt
  have HRd : Hid (∀ W, Below W0.heap.size W0 W → RdW lo hi W na nn nc sa sn sc ra rn rc la ln lc ia im ic ta tn tc x) := fun W hW => (h.below hb0 hhi).below hW (Nat.le_trans hhi hb0.size)
  have HHi : Hid (∀ W, Below W0.heap.size W0 W → hi ≤ W.heap.size) := fun W hW => Nat.le_trans (Nat.le_trans hhi hb0.size) hW.size
  have HBd : Hid (∀ W, Below W0.heap.size W0 W → Below w.heap.size w W) := fun W hW => hb0.trans (hW.mono hb0.size)
  have HZ : Hid (Below W0.heap.size W0 W0) := Below.refl _ _
  obtain ⟨z0, z1, z2, z3, z4, z5, z6⟩ := hbx.cells
  have HI : Hid _ := worldB_iff x
  rw [hn, h.names.len, h.sets.len, h.roles.len, h.rels.len, h.inds.len, h.at'.len] at HI
  have f1 := h.names.fits
  have f2 := h.sets.fits
  have f3 := h.roles.fits
  have f4 := h.rels.fits
  have f5 := h.inds.fits
  have f6 := h.at'.fits
  clear h hb0 hW0 hbx hn
  by_cases t0 : 1 ≤ nx
  case neg =>
    have HE : Hid (worldB x = false) := worldB_no (fun e => by have e2 := (HI.out.1 e).1; omega)
    have g0 : decide (1 ≤ nx) = false := decide_eq_false t0
    clear t0
    go_enter Try.func20, Try.ntmps20
    go_upto_region 1 with fail
    rw [← HW0.out]
    go_wp2_with fail
    go_ret
    exact ⟨rb HE.out.symm, HB0.out⟩
  have g0 : decide (1 ≤ nx) = true := decide_eq_true t0
  by_cases t1 : nx ≤ 128
  case neg =>
    have HE : Hid (worldB x = false) := worldB_no (fun e => by have e2 := (HI.out.1 e).1; omega)
    have g1 : decide (nx ≤ 128) = false := decide_eq_false t1
    clear t1
    go_enter Try.func20, Try.ntmps20
    go_upto_region 1 with fail
    rw [← HW0.out]
    go_wp2_with fail
    go_ret
    exact ⟨rb HE.out.symm, HB0.out⟩
  have g1 : decide (nx ≤ 128) = true := decide_eq_true t1
  obtain ⟨m, HM⟩ : ∃ m, Hid (nx * nx = m) := ⟨_, rfl⟩
  have hmb : 0 ≤ m ∧ m ≤ 16384 := by
    have h2 : nx * nx ≤ 128 * 128 := Int.mul_le_mul t1 t1 (by omega) (by omega)
    have h3 : 0 ≤ nx * nx := Int.mul_nonneg (by omega) (by omega)
    rw [HM.out] at h2 h3
    omega
  have hmm : nx * nx = m := HM.out
  have HT : Hid (1 ≤ nx ∧ nx ≤ 128) := ⟨t0, t1⟩
  clear t0 t1
  cases hA : (decide (nn ≤ 12) && namesB true x.names)
  · have HE : Hid (worldB x = false) := worldB_no (fun e => by
        obtain ⟨⟨n1, n2, n3, n4, n5, n6, n7⟩, ⟨m1, m2, m3⟩, l1, l2, l3⟩ := HI.out.1 e
        simp [n2, m1] at hA)
    go_enter Try.func20, Try.ntmps20
    go_upto_region 1 with fail
    rw [← HW0.out]
    go_wp2_with (first | (go_at_call_of 50 na; refine (wordsFitU_any na nn nc 12 x.names _ (HRd.out _ HZ.out).names).mono ?_; rintro e wq ⟨rfl, hq⟩; rw [hq, hA]; clear hq))
    go_ret
    exact ⟨rb HE.out.symm, HBd.out _ HZ.out⟩
  cases hB : (decide (sn = nn) && flagsB x.sets nx)
  · have HE : Hid (worldB x = false) := worldB_no (fun e => by
        obtain ⟨⟨n1, n2, n3, n4, n5, n6, n7⟩, ⟨m1, m2, m3⟩, l1, l2, l3⟩ := HI.out.1 e
        simp [n5, l1] at hB)
    go_enter Try.func20, Try.ntmps20
    go_upto_region 1 with fail
    rw [← HW0.out]
    go_wp2_with (first | (go_at_call_of 50 na; refine (wordsFitU_any na nn nc 12 x.names _ (HRd.out _ HZ.out).names).mono ?_; rintro e wq ⟨rfl, hq⟩; rw [hq, hA]; clear hq) | (go_at_call_of 52 sa; refine (flagsFit_any sa sn sc nn nx x.sets _ (HRd.out _ HZ.out).sets (HHi.out _ HZ.out)).mono ?_; rintro e wB ⟨rfl, hq⟩; rw [hB]; have HwB : Hid (Below W0.heap.size W0 wB) := HZ.out.trans (hq.mono HZ.out.size); clear hq z0 z1 z2 z3 z4 z5 z6; obtain ⟨z0, z1, z2, z3, z4, z5, z6⟩ := (HAt.out _ HwB.out).cells))
    go_ret
    exact ⟨rb HE.out.symm, HBd.out _ HwB.out⟩
  cases hC : (decide (rn ≤ 6) && namesB false x.roles)
  · have HE : Hid (worldB x = false) := worldB_no (fun e => by
        obtain ⟨⟨n1, n2, n3, n4, n5, n6, n7⟩, ⟨m1, m2, m3⟩, l1, l2, l3⟩ := HI.out.1 e
        simp [n3, m2] at hC)
    go_enter Try.func20, Try.ntmps20
    go_upto_region 1 with fail
    rw [← HW0.out]
    go_wp2_with (first | (go_at_call_of 50 na; refine (wordsFitU_any na nn nc 12 x.names _ (HRd.out _ HZ.out).names).mono ?_; rintro e wq ⟨rfl, hq⟩; rw [hq, hA]; clear hq) | (go_at_call_of 52 sa; refine (flagsFit_any sa sn sc nn nx x.sets _ (HRd.out _ HZ.out).sets (HHi.out _ HZ.out)).mono ?_; rintro e wB ⟨rfl, hq⟩; rw [hB]; have HwB : Hid (Below W0.heap.size W0 wB) := HZ.out.trans (hq.mono HZ.out.size); clear hq z0 z1 z2 z3 z4 z5 z6; obtain ⟨z0, z1, z2, z3, z4, z5, z6⟩ := (HAt.out _ HwB.out).cells) | (go_at_call_of 50 ra; refine (wordsFitL_any ra rn rc 6 x.roles _ (HRd.out _ HwB.out).roles).mono ?_; rintro e wq ⟨rfl, hq⟩; rw [hq, hC]; clear hq))
    go_ret
    exact ⟨rb HE.out.symm, HBd.out _ HwB.out⟩
  cases hD : (decide (ln = rn) && flagsB x.rels m)
  · have HE : Hid (worldB x = false) := worldB_no (fun e => by
        obtain ⟨⟨n1, n2, n3, n4, n5, n6, n7⟩, ⟨m1, m2, m3⟩, l1, l2, l3⟩ := HI.out.1 e
        rw [HM.out] at l2; simp [n6, l2] at hD)
    go_enter Try.func20, Try.ntmps20
    go_upto_region 1 with fail
    rw [← HW0.out]
    go_wp2_with (first | (go_at_call_of 50 na; refine (wordsFitU_any na nn nc 12 x.names _ (HRd.out _ HZ.out).names).mono ?_; rintro e wq ⟨rfl, hq⟩; rw [hq, hA]; clear hq) | (go_at_call_of 52 sa; refine (flagsFit_any sa sn sc nn nx x.sets _ (HRd.out _ HZ.out).sets (HHi.out _ HZ.out)).mono ?_; rintro e wB ⟨rfl, hq⟩; rw [hB]; have HwB : Hid (Below W0.heap.size W0 wB) := HZ.out.trans (hq.mono HZ.out.size); clear hq z0 z1 z2 z3 z4 z5 z6; obtain ⟨z0, z1, z2, z3, z4, z5, z6⟩ := (HAt.out _ HwB.out).cells) | (go_at_call_of 50 ra; refine (wordsFitL_any ra rn rc 6 x.roles _ (HRd.out _ HwB.out).roles).mono ?_; rintro e wq ⟨rfl, hq⟩; rw [hq, hC]; clear hq) | (go_at_call_of 52 la; refine (flagsFit_any la ln lc rn m x.rels _ (HRd.out _ HwB.out).rels (HHi.out _ HwB.out)).mono ?_; rintro e wD ⟨rfl, hq⟩; rw [hD]; have HwD : Hid (Below W0.heap.size W0 wD) := HwB.out.trans (hq.mono HwB.out.size); clear hq z0 z1 z2 z3 z4 z5 z6; obtain ⟨z0, z1, z2, z3, z4, z5, z6⟩ := (HAt.out _ HwD.out).cells))
    go_ret
    exact ⟨rb HE.out.symm, HBd.out _ HwD.out⟩
  cases hE : (decide (im ≤ 6) && namesB false x.inds)
  · have HE : Hid (worldB x = false) := worldB_no (fun e => by
        obtain ⟨⟨n1, n2, n3, n4, n5, n6, n7⟩, ⟨m1, m2, m3⟩, l1, l2, l3⟩ := HI.out.1 e
        simp [n4, m3] at hE)
    go_enter Try.func20, Try.ntmps20
    go_upto_region 1 with fail
    rw [← HW0.out]
    go_wp2_with (first | (go_at_call_of 50 na; refine (wordsFitU_any na nn nc 12 x.names _ (HRd.out _ HZ.out).names).mono ?_; rintro e wq ⟨rfl, hq⟩; rw [hq, hA]; clear hq) | (go_at_call_of 52 sa; refine (flagsFit_any sa sn sc nn nx x.sets _ (HRd.out _ HZ.out).sets (HHi.out _ HZ.out)).mono ?_; rintro e wB ⟨rfl, hq⟩; rw [hB]; have HwB : Hid (Below W0.heap.size W0 wB) := HZ.out.trans (hq.mono HZ.out.size); clear hq z0 z1 z2 z3 z4 z5 z6; obtain ⟨z0, z1, z2, z3, z4, z5, z6⟩ := (HAt.out _ HwB.out).cells) | (go_at_call_of 50 ra; refine (wordsFitL_any ra rn rc 6 x.roles _ (HRd.out _ HwB.out).roles).mono ?_; rintro e wq ⟨rfl, hq⟩; rw [hq, hC]; clear hq) | (go_at_call_of 52 la; refine (flagsFit_any la ln lc rn m x.rels _ (HRd.out _ HwB.out).rels (HHi.out _ HwB.out)).mono ?_; rintro e wD ⟨rfl, hq⟩; rw [hD]; have HwD : Hid (Below W0.heap.size W0 wD) := HwB.out.trans (hq.mono HwB.out.size); clear hq z0 z1 z2 z3 z4 z5 z6; obtain ⟨z0, z1, z2, z3, z4, z5, z6⟩ := (HAt.out _ HwD.out).cells) | (go_at_call_of 50 ia; refine (wordsFitL_any ia im ic 6 x.inds _ (HRd.out _ HwD.out).inds).mono ?_; rintro e wq ⟨rfl, hq⟩; rw [hq, hE]; clear hq))
    go_ret
    exact ⟨rb HE.out.symm, HBd.out _ HwD.out⟩
  by_cases t7 : tn = im
  case neg =>
    have HE : Hid (worldB x = false) := worldB_no (fun e => by have e2 := (HI.out.1 e).1; omega)
    have g7 : ((tn : Int) == (im : Int)) = false := by simp; omega
    have g7' : decide (tn = im) = false := decide_eq_false t7
    clear t7
    go_enter Try.func20, Try.ntmps20
    go_upto_region 1 with fail
    rw [← HW0.out]
    go_wp2_with (first | (go_at_call_of 50 na; refine (wordsFitU_any na nn nc 12 x.names _ (HRd.out _ HZ.out).names).mono ?_; rintro e wq ⟨rfl, hq⟩; rw [hq, hA]; clear hq) | (go_at_call_of 52 sa; refine (flagsFit_any sa sn sc nn nx x.sets _ (HRd.out _ HZ.out).sets (HHi.out _ HZ.out)).mono ?_; rintro e wB ⟨rfl, hq⟩; rw [hB]; have HwB : Hid (Below W0.heap.size W0 wB) := HZ.out.trans (hq.mono HZ.out.size); clear hq z0 z1 z2 z3 z4 z5 z6; obtain ⟨z0, z1, z2, z3, z4, z5, z6⟩ := (HAt.out _ HwB.out).cells) | (go_at_call_of 50 ra; refine (wordsFitL_any ra rn rc 6 x.roles _ (HRd.out _ HwB.out).roles).mono ?_; rintro e wq ⟨rfl, hq⟩; rw [hq, hC]; clear hq) | (go_at_call_of 52 la; refine (flagsFit_any la ln lc rn m x.rels _ (HRd.out _ HwB.out).rels (HHi.out _ HwB.out)).mono ?_; rintro e wD ⟨rfl, hq⟩; rw [hD]; have HwD : Hid (Below W0.heap.size W0 wD) := HwB.out.trans (hq.mono HwB.out.size); clear hq z0 z1 z2 z3 z4 z5 z6; obtain ⟨z0, z1, z2, z3, z4, z5, z6⟩ := (HAt.out _ HwD.out).cells) | (go_at_call_of 50 ia; refine (wordsFitL_any ia im ic 6 x.inds _ (HRd.out _ HwD.out).inds).mono ?_; rintro e wq ⟨rfl, hq⟩; rw [hq, hE]; clear hq))
    go_ret
    exact ⟨rb HE.out.symm, HBd.out _ HwD.out⟩
  have g7 : ((tn : Int) == (im : Int)) = true := by simp; omega
  have g7' : decide (tn = im) = true := decide_eq_true t7
  have HT7 : Hid (tn = im) := t7
  clear t7
  cases hG : atB x.at' nx
  · have HE : Hid (worldB x = false) := worldB_no (fun e => by have e2 := (HI.out.1 e).2.2.2.2; rw [hG] at e2; exact absurd e2 (by simp))
    go_enter Try.func20, Try.ntmps20
    go_upto_region 1 with fail
    rw [← HW0.out]
    go_wp2_with (first | (go_at_call_of 50 na; refine (wordsFitU_any na nn nc 12 x.names _ (HRd.out _ HZ.out).names).mono ?_; rintro e wq ⟨rfl, hq⟩; rw [hq, hA]; clear hq) | (go_at_call_of 52 sa; refine (flagsFit_any sa sn sc nn nx x.sets _ (HRd.out _ HZ.out).sets (HHi.out _ HZ.out)).mono ?_; rintro e wB ⟨rfl, hq⟩; rw [hB]; have HwB : Hid (Below W0.heap.size W0 wB) := HZ.out.trans (hq.mono HZ.out.size); clear hq z0 z1 z2 z3 z4 z5 z6; obtain ⟨z0, z1, z2, z3, z4, z5, z6⟩ := (HAt.out _ HwB.out).cells) | (go_at_call_of 50 ra; refine (wordsFitL_any ra rn rc 6 x.roles _ (HRd.out _ HwB.out).roles).mono ?_; rintro e wq ⟨rfl, hq⟩; rw [hq, hC]; clear hq) | (go_at_call_of 52 la; refine (flagsFit_any la ln lc rn m x.rels _ (HRd.out _ HwB.out).rels (HHi.out _ HwB.out)).mono ?_; rintro e wD ⟨rfl, hq⟩; rw [hD]; have HwD : Hid (Below W0.heap.size W0 wD) := HwB.out.trans (hq.mono HwB.out.size); clear hq z0 z1 z2 z3 z4 z5 z6; obtain ⟨z0, z1, z2, z3, z4, z5, z6⟩ := (HAt.out _ HwD.out).cells) | (go_at_call_of 50 ia; refine (wordsFitL_any ia im ic 6 x.inds _ (HRd.out _ HwD.out).inds).mono ?_; rintro e wq ⟨rfl, hq⟩; rw [hq, hE]; clear hq) | (go_at_call 54; refine (hasAt_any ta tn tc x.at' _ (HRd.out _ HwD.out).at' (HHi.out _ HwD.out) (HAt.out _ HwD.out)).mono ?_; rintro e wG ⟨rfl, hq⟩; rw [hG]; have HwG : Hid (Below W0.heap.size W0 wG) := HwD.out.trans (hq.mono HwD.out.size); clear hq))
    go_ret
    exact ⟨rb HE.out.symm, HBd.out _ HwG.out⟩
  have HE : Hid (worldB x = true) := by
    have a1 := hA
    have a2 := hB
    have a3 := hC
    have a4 := hD
    have a5 := hE
    simp only [Bool.and_eq_true, decide_eq_true_eq] at a1 a2 a3 a4 a5
    exact HI.out.2 ⟨⟨HT.out, a1.1, a3.1, a5.1, a2.1, a4.1, HT7.out⟩, ⟨a1.2, a3.2, a5.2⟩, a2.2, by rw [HM.out]; exact a4.2, hG⟩
  go_enter Try.func20, Try.ntmps20
  go_upto_region 1 with fail
  rw [← HW0.out]
  go_wp2_with (first | (go_at_call_of 50 na; refine (wordsFitU_any na nn nc 12 x.names _ (HRd.out _ HZ.out).names).mono ?_; rintro e wq ⟨rfl, hq⟩; rw [hq, hA]; clear hq) | (go_at_call_of 52 sa; refine (flagsFit_any sa sn sc nn nx x.sets _ (HRd.out _ HZ.out).sets (HHi.out _ HZ.out)).mono ?_; rintro e wB ⟨rfl, hq⟩; rw [hB]; have HwB : Hid (Below W0.heap.size W0 wB) := HZ.out.trans (hq.mono HZ.out.size); clear hq z0 z1 z2 z3 z4 z5 z6; obtain ⟨z0, z1, z2, z3, z4, z5, z6⟩ := (HAt.out _ HwB.out).cells) | (go_at_call_of 50 ra; refine (wordsFitL_any ra rn rc 6 x.roles _ (HRd.out _ HwB.out).roles).mono ?_; rintro e wq ⟨rfl, hq⟩; rw [hq, hC]; clear hq) | (go_at_call_of 52 la; refine (flagsFit_any la ln lc rn m x.rels _ (HRd.out _ HwB.out).rels (HHi.out _ HwB.out)).mono ?_; rintro e wD ⟨rfl, hq⟩; rw [hD]; have HwD : Hid (Below W0.heap.size W0 wD) := HwB.out.trans (hq.mono HwB.out.size); clear hq z0 z1 z2 z3 z4 z5 z6; obtain ⟨z0, z1, z2, z3, z4, z5, z6⟩ := (HAt.out _ HwD.out).cells) | (go_at_call_of 50 ia; refine (wordsFitL_any ia im ic 6 x.inds _ (HRd.out _ HwD.out).inds).mono ?_; rintro e wq ⟨rfl, hq⟩; rw [hq, hE]; clear hq) | (go_at_call 54; refine (hasAt_any ta tn tc x.at' _ (HRd.out _ HwD.out).at' (HHi.out _ HwD.out) (HAt.out _ HwD.out)).mono ?_; rintro e wG ⟨rfl, hq⟩; rw [hG]; have HwG : Hid (Below W0.heap.size W0 wG) := HwD.out.trans (hq.mono HwD.out.size); clear hq))
  go_ret
  exact ⟨rb HE.out.symm, HBd.out _ HwG.out⟩
end

section
open Go.RowKit Go.Deep
end

section
open Go.RowKit

theorem toksFrom_bound (zs : List Int) : ∀ (f i : Nat) (acc : List Tok), i ≤ zs.length → acc.length ≤ i → (∀ t ∈ acc, t.text.length ≤ zs.length) → (toksFrom zs f i acc).1.length ≤ zs.length ∧ ∀ t ∈ (toksFrom zs f i acc).1, t.text.length ≤ zs.length
  | 0, i, acc, hi, hl, ht => ⟨by simp only [toksFrom]; omega, ht⟩
  | f + 1, i, acc, hi, hl, ht => by
    by_cases h : i < zs.length
    · cases hb : blankB (zs.getD i 0)
      · by_cases hk : kindOf (piece zs i) = 0
        · rw [toksFrom_bad zs f i acc h hb hk]; exact ⟨by simp, fun t h => by simp at h⟩
        · rw [toksFrom_tok zs f i acc h hb hk]
          refine toksFrom_bound zs f _ _ (pend_le zs i h) (by have := pend_gt zs i; simp; omega) ?_
          intro t h'
          rcases List.mem_append.1 h' with h' | h'
          · exact ht t h'
          · simp at h'; subst h'
            simp only [tokAt]
            split
            · rw [piece_length zs i h]; have := pend_le zs i h; omega
            · simp
      · rw [toksFrom_blank zs f i acc h hb]; exact toksFrom_bound zs f _ _ (by omega) (by omega) ht
    · rw [toksFrom_stop zs _ i acc (by omega)]; exact ⟨by show acc.length ≤ _; omega, ht⟩

theorem toks_bound (zs : List Int) : (toks zs).1.length ≤ 1500 ∧ ∀ i, ((toks zs).1.getD i Tok.zero).text.length ≤ 1500 := by
  have key : (toks zs).1.length ≤ 1500 ∧ ∀ t ∈ (toks zs).1, t.text.length ≤ 1500 := by
    unfold toks
    split
    · exact ⟨by simp, fun t h => by simp at h⟩
    · have := toksFrom_bound zs (zs.length + 1) 0 [] (by omega) (by simp) (fun t h => by simp at h)
      exact ⟨by omega, fun t h => by have := this.2 t h; omega⟩
  refine ⟨key.1, fun i => ?_⟩
  by_cases hi : i < (toks zs).1.length
  · have := key.2 ((toks zs).1[i]) (List.getElem_mem hi)
    simpa [List.getD, hi] using this
  · simp only [List.getD]
    rw [List.getElem?_eq_none (by omega)]
    simp [Tok.zero]

theorem HeadT.same {w w' : World} {b off n lo hi : Nat} {tx : Nat → Nat × Nat × Nat} (h : HeadT w b off tx n) (hs : Same lo hi w w') (h1 : n = 0 ∨ lo ≤ b) (h2 : n = 0 ∨ b < hi) : HeadT w' b off tx n := by
  intro i hi'
  obtain ⟨ta, tc, hc, r⟩ := h i hi'
  exact ⟨ta, tc, (hs.cell (p := ⟨b, _, none⟩) (by show lo ≤ b; omega) (by show b < hi; omega)).trans hc, r⟩
end

end Go.Proofs.Ytnmljalcndfjmaa
