/- The program's reader of a concept with a role; the whole. -/
import Derived.Test.YtckhjoancfbkfaaGreatReadI4
namespace Go.Proofs.YtckhjoancfbkfaaGreat
open Go.RowKit

theorem BoxC.set2 {W : World} {b : Nat} {v0 v1 v2 v3 : Value} (h : BoxC W b v0 v1 v2 v3) (v : Value) : BoxC (W.setCell ⟨b, 2, none⟩ v) b v0 v1 v v3 := by
  unfold BoxC
  rw [heap_setCell_same W b 2 _ _ v h]
  rfl

set_option maxRecDepth 100000 in
set_option maxHeartbeats 2000000 in
theorem read_kids1 (f : Nat) (dp : Int) (hd0 : 1 ≤ dp) (hd6 : dp ≤ 6) (base pb g i : Nat) (ts : List Tok) (gs : List (Nat × Nat)) (en : Int) (w : World) (hR : RdrAt w pb g i ts en) (hT : TkM base pb w g ts gs) (h1 : isI ts 1 i = true) (h2 : kindI ts i ≠ 2) (h3 : kidN (kindI ts i) ≠ 0) (h4 : isI ts 3 (i + 1) = true) (h5 : roleB (kindI ts i) = true) (h6 : isI ts 2 (i + 2) = true) (hdf : dp + (f : Int) = 6) (H : ReadC f) :
    Calls Tryz.prog 86 #[.pointer (some ⟨pb, 0, none⟩), .int .i64 dp] w (RP ts gs en g pb i w (f + 1) (conR ts en (f + 1) i)) := by
  have HC : Hid (conR ts en (f + 1) i = closeR ts en (kindI ts i) (roleI ts (kindI ts i) i) (kidsR (conR ts en f) (startI (kindI ts i) i) (kidN (kindI ts i)).toNat)) := conR_kids h1 h2 h3 h4 (.inr h6)
  have H5 : Hid (roleB (kindI ts i) = true) := h5
  have HH : Hid (ReadC f) := H
  have HTw : Hid (TkM base pb w g ts gs) := hT
  clear h5 H
  have H2 : Hid (kindI ts i ≠ 2) := h2
  have H3 : Hid (kidN (kindI ts i) ≠ 0) := h3
  clear h2 h3
  have hpl := hR.lt
  have hb0 : Below w.heap.size w (w.alloc (.cells #[.int .i64 0, .slice none 0 0, .slice none 0 0, .slice none 0 0] 37)) := (Below.refl _ _).alloc (Nat.le_refl _) _
  have HB0 : Hid (Below w.heap.size w (w.alloc (.cells #[.int .i64 0, .slice none 0 0, .slice none 0 0, .slice none 0 0] 37))) := hb0
  have HR0 : Hid (RdrAt (w.alloc (.cells #[.int .i64 0, .slice none 0 0, .slice none 0 0, .slice none 0 0] 37)) pb g i ts en) := hR.below hb0
  have HT0 : Hid (TkM base pb (w.alloc (.cells #[.int .i64 0, .slice none 0 0, .slice none 0 0, .slice none 0 0] 37)) g ts gs) := hT.below (hb0.mono (Nat.le_of_lt hpl))
  have HZ0 : Hid (BoxC (w.alloc (.cells #[.int .i64 0, .slice none 0 0, .slice none 0 0, .slice none 0 0] 37)) w.heap.size (.int .i64 0) (.slice none 0 0) (.slice none 0 0) (.slice none 0 0)) := BoxC.new w _ _ _ _
  clear hb0 hR hT
  have hlt := isI_lt h1
  obtain ⟨ta, tc, hx, _, _, _⟩ := HT0.out.word hlt
  obtain ⟨tn, htn⟩ : ∃ tn, tn = (wordI ts i).length := ⟨_, rfl⟩
  have HX : Hid (txv (ts.getD i Tok.zero) (gs.getD i (0, 0)) = .slice ta (wordI ts i).length tc) := hx
  have HTN : Hid (tn = (wordI ts i).length) := htn
  obtain ⟨p, hp⟩ : ∃ p, p = hereI ts en i := ⟨_, rfl⟩
  have HP : Hid (p = hereI ts en i) := hp
  obtain ⟨kd, hkd⟩ : ∃ kd, kd = kindI ts i := ⟨_, rfl⟩
  have HKD : Hid (kd = kindI ts i) := hkd
  clear hx htn hp hkd
  go_enter Tryz.func86, Tryz.ntmps86
  go_wp2_with fail
  refine (take_ok base pb g i ts gs en 1 _ HR0.out HT0.out h1).mono ?_
  rintro e w1 ⟨rfl, hR1, hb1⟩
  rw [HX.out, ← HTN.out, ← HP.out]
  have HR1 : Hid (RdrAt w1 pb g (i + 1) ts en) := hR1
  have HT1 : Hid (TkM base pb w1 g ts gs) := HT0.out.bt hb1 (by simp; omega)
  have HZ1 : Hid (BoxC w1 w.heap.size (.int .i64 0) (.slice none 0 0) (.slice none 0 0) (.slice none 0 0)) := (hb1.block _ HZ0.out.lt (by omega)).trans HZ0.out
  have HBt1 : Hid (Bt pb w.heap.size w w1) := (Bt.of_below HB0.out).trans (hb1.mono HB0.out.size)
  have hs1 : w.heap.size < w1.heap.size := HZ1.out.lt
  clear hR1 hb1
  go_wp2_with fail
  obtain ⟨W1, HW1⟩ : ∃ W1, Hid (W1 = w1.alloc (.cells #[.int .i64 1, .int .i64 p, .slice ta tn tc] 134)) := ⟨_, rfl⟩
  rw [← HW1.out]
  have hbb : Below w1.heap.size w1 W1 := by rw [HW1.out]; exact (Below.refl _ _).alloc (Nat.le_refl _) _
  have HK1 : Hid (BoxK3 W1 w1.heap.size (.int .i64 1) (.int .i64 p) (.slice ta tn tc)) := by unfold Hid; rw [HW1.out]; exact BoxK3.new w1 _ _ _
  have HRd1 : Hid (Rd 0 pb W1 ta tn tc (wordI ts i)) := by
    obtain ⟨a', c', hx', _, hr, _⟩ := (HT1.out.below (hbb.mono (by omega))).word hlt
    rw [HX.out] at hx'
    simp only [Value.slice.injEq, true_and] at hx'
    obtain ⟨rfl, rfl⟩ := hx'
    unfold Hid; rw [HTN.out]; exact hr
  refine (conKind_any ta tn tc (wordI ts i) W1 HRd1.out).mono ?_
  rintro e w2 ⟨rfl, nd, hw2⟩
  rw [show kindW (strOfNums (wordI ts i)).toList = kd from HKD.out.symm]
  have hb2 : Below w1.heap.size w1 w2 := by rw [hw2]; exact below_drewN hbb nd
  have HB2 : Hid (Below w1.heap.size w1 w2) := hb2
  have HRd2 : Hid (Rd 0 pb w2 ta tn tc (wordI ts i)) := by unfold Hid; rw [hw2]; exact HRd1.out.same (fun _ _ _ => rfl)
  have HK2 : Hid (BoxK3 w2 w1.heap.size (.int .i64 1) (.int .i64 p) (.slice ta tn tc)) := by unfold Hid; rw [hw2]; exact HK1.out
  have HR2 : Hid (RdrAt w2 pb g (i + 1) ts en) := HR1.out.below hb2
  have HT2 : Hid (TkM base pb w2 g ts gs) := HT1.out.below (hb2.mono (by omega))
  have HZ2 : Hid (BoxC w2 w.heap.size (.int .i64 0) (.slice none 0 0) (.slice none 0 0) (.slice none 0 0)) := HZ1.out.below hb2 hs1
  have HBt2 : Hid (Bt pb w.heap.size w w2) := HBt1.out.trans (Bt.of_below (hb2.mono (by omega)))
  have hs2 : w1.heap.size < w2.heap.size := by rw [hw2]; show w1.heap.size < W1.heap.size; rw [HW1.out, World.size_alloc]; omega
  obtain ⟨t0, t1, t2⟩ := HK2.out.cells
  obtain ⟨z0, z1, z2, z3⟩ := HZ2.out.cells
  have zf0 := HZ2.out.frz 0
  have zf1 := HZ2.out.frz 1
  have zf2 := HZ2.out.frz 2
  have zf3 := HZ2.out.frz 3
  clear hw2 hb2 hbb HW1 HK1 HRd1
  have hk2 : (kd == 2) = false := by rw [HKD.out]; simpa using H2.out
  go_wp2_with fail
  obtain ⟨W3, HW3⟩ : ∃ W3, Hid (W3 = w2.alloc (.cells #[.int .i64 kd, .slice none 0 0, .slice none 0 0, .slice none 0 0] 37)) := ⟨_, rfl⟩
  rw [← HW3.out]
  have hb3 : Below w2.heap.size w2 W3 := by rw [HW3.out]; exact (Below.refl _ _).alloc (Nat.le_refl _) _
  have HO3 : Hid (BoxC W3 w2.heap.size (.int .i64 kd) (.slice none 0 0) (.slice none 0 0) (.slice none 0 0)) := by unfold Hid; rw [HW3.out]; exact BoxC.new w2 _ _ _ _
  have hs3 : w2.heap.size < W3.heap.size := HO3.out.lt
  have HR3 : Hid (RdrAt W3 pb g (i + 1) ts en) := HR2.out.below hb3
  have HT3 : Hid (TkM base pb W3 g ts gs) := HT2.out.below (hb3.mono (by omega))
  have HZ3 : Hid (BoxC W3 w.heap.size (.int .i64 0) (.slice none 0 0) (.slice none 0 0) (.slice none 0 0)) := HZ2.out.below hb3 (by omega)
  have HBt3 : Hid (Bt pb w.heap.size w W3) := HBt2.out.trans (Bt.of_below (hb3.mono (by omega)))
  clear hb3 HW3 t0 t1 t2 z0 z1 z2 z3 zf0 zf1 zf2 zf3
  refine (kidCount_any kd _).mono ?_
  rintro e w3 ⟨rfl, hw3⟩
  rw [hw3]; clear hw3
  obtain ⟨n, hn⟩ : ∃ n : Nat, kidN kd = (n : Int) := ⟨(kidN kd).toNat, by have h := H3.out; rw [← HKD.out] at h; have := kidN_kind (HKD.out ▸ kindI_range ts i); omega⟩
  have HN : Hid (kidN kd = (n : Int)) := hn
  have hn1 : 1 ≤ n := by have h := H3.out; rw [← HKD.out, hn] at h; omega
  have hn0 : ((n : Int) == 0) = false := by simp; omega
  rw [hn]
  clear hn
  have HRole : Hid (roleB kd = true) := by unfold Hid; rw [HKD.out]; exact H5.out
  go_wp2_with fail
  refine (take_ok base pb g (i + 1) ts gs en 3 W3 HR3.out HT3.out h4).mono ?_
  rintro e w4 ⟨rfl, hR4, hb4⟩
  obtain ⟨xa, xn, xc, hxv⟩ : ∃ xa xn xc, txv (ts.getD (i + 1) Tok.zero) (gs.getD (i + 1) (0, 0)) = .slice xa xn xc := by
    obtain ⟨a, c, h⟩ := txv_form (ts.getD (i + 1) Tok.zero) (gs.getD (i + 1) (0, 0)); exact ⟨_, _, _, h⟩
  rw [hxv]
  have HR4 : Hid (RdrAt w4 pb g (i + 2) ts en) := hR4
  have HT4 : Hid (TkM base pb w4 g ts gs) := HT3.out.bt hb4 (by omega)
  have HO4 : Hid (BoxC w4 w2.heap.size (.int .i64 kd) (.slice none 0 0) (.slice none 0 0) (.slice none 0 0)) := (hb4.block _ hs3 (by omega)).trans HO3.out
  have HZ4 : Hid (BoxC w4 w.heap.size (.int .i64 0) (.slice none 0 0) (.slice none 0 0) (.slice none 0 0)) := (hb4.block _ (by omega) (by omega)).trans HZ3.out
  have HBt4 : Hid (Bt pb w.heap.size w w4) := HBt3.out.trans (hb4.mono (by omega))
  have hs4 : w2.heap.size < w4.heap.size := HO4.out.lt
  have hl4 := isI_lt h4
  clear hR4 hb4 hxv
  go_wp2_with fail
  refine (hasRole_any kd _).mono ?_
  rintro e w4' ⟨rfl, hw4⟩
  rw [hw4, HRole.out]; clear hw4
  have hl6 := isI_lt h6
  obtain ⟨ra, rc, hx6, _, _, _⟩ := HT4.out.word hl6
  obtain ⟨rn, hrn⟩ : ∃ rn, rn = (wordI ts (i + 2)).length := ⟨_, rfl⟩
  have HRN : Hid (rn = (wordI ts (i + 2)).length) := hrn
  have HX6 : Hid (txv (ts.getD (i + 2) Tok.zero) (gs.getD (i + 2) (0, 0)) = .slice ra (wordI ts (i + 2)).length rc) := hx6
  clear hrn hx6
  go_wp2_with fail
  refine (take_ok base pb g (i + 2) ts gs en 2 w4 HR4.out HT4.out h6).mono ?_
  rintro e w5 ⟨rfl, hR5, hb5⟩
  rw [HX6.out, ← HRN.out]
  obtain ⟨pr, hpr⟩ : ∃ pr, pr = hereI ts en (i + 2) := ⟨_, rfl⟩
  rw [← hpr]
  clear hpr
  have hfld : (Instr.field 134 (.agg #[.int .i64 2, .int .i64 pr, .slice ra rn rc]) 2).run Tryz.prog w5 = .ok (.slice ra rn rc) w5 := by kernel_rfl
  have HO5 : Hid (BoxC w5 w2.heap.size (.int .i64 kd) (.slice none 0 0) (.slice none 0 0) (.slice none 0 0)) := (hb5.block _ hs4 (by omega)).trans HO4.out
  have HZ5 : Hid (BoxC w5 w.heap.size (.int .i64 0) (.slice none 0 0) (.slice none 0 0) (.slice none 0 0)) := (hb5.block _ (by omega) (by omega)).trans HZ4.out
  have HBt5 : Hid (Bt pb w.heap.size w w5) := HBt4.out.trans (hb5.mono (by omega))
  have HT5 : Hid (TkM base pb w5 g ts gs) := HT4.out.bt hb5 (by omega)
  have HR5 : Hid (RdrAt w5 pb g (i + 3) ts en) := hR5
  have hs5 : w2.heap.size < w5.heap.size := HO5.out.lt
  obtain ⟨o0, o1, o2, o3⟩ := HO5.out.cells
  have of2 := HO5.out.frz 2
  clear hR5 hb5
  go_wp2_with fail
  obtain ⟨Wc, hWc⟩ : ∃ W, W = w5.setCell ⟨w2.heap.size, 2, none⟩ (.slice ra rn rc) := ⟨_, rfl⟩
  obtain ⟨st, hst⟩ : ∃ st, st = i + 3 := ⟨_, rfl⟩
  obtain ⟨role, hrole⟩ : ∃ role : List Int, role = wordI ts (i + 2) := ⟨_, rfl⟩
  obtain ⟨br, hbr⟩ : ∃ br : Nat, br = (gs.getD (i + 2) (0, 0)).1 := ⟨_, rfl⟩
  have HCk : Hid (conR ts en (f + 1) i = closeR ts en kd role (kidsR (conR ts en f) st n)) := by
    have e1 : (kidN (kindI ts i)).toNat = n := by rw [← HKD.out, HN.out]; rfl
    have e2 : startI (kindI ts i) i = st := by rw [hst, startI, H5.out]; rfl
    have e3 : roleI ts (kindI ts i) i = role := by rw [hrole, roleI, H5.out]; rfl
    unfold Hid; rw [HC.out, e1, e2, e3, ← HKD.out]
  have HStl : Hid (st ≤ ts.length) := by unfold Hid; omega
  have hsc : Wc.heap.size = w5.heap.size := by rw [hWc]; simp
  have hbrl : role ≠ [] → br < pb := fun h => by rw [hbr]; rw [hrole] at h; exact ((HTw.out.txt (i + 2) hl6 h).1).2
  have HSt : Hid (StatR pb w Wc.heap.size w2.heap.size br role) := ⟨by omega, by omega, hpl, fun h => by have := hbrl h; omega⟩
  have hTc : TkM base pb Wc g ts gs := by rw [hWc]; exact HT5.out.below ((Below.refl _ _).setCell (by show pb ≤ w2.heap.size; omega) _)
  have HI0 : Hid (InvR pb ts gs st w Wc.heap.size w2.heap.size f kd (.slice ra rn rc) role br Wc (.slice none 0 0) [] [] [] st) := by
    unfold Hid
    refine ⟨RowK.nil _ _ _, by simp, fun x hx => by simp at hx, Use.nil _ _ _ _ _ _, by rw [hWc]; exact HO5.out.set2 _, ?_, by rw [hWc]; exact HBt5.out.set (.inl (by show w.heap.size ≤ w2.heap.size; omega)) _, Nat.le_refl _⟩
    obtain ⟨a', c', hx', hO, _, hf⟩ := hTc.word hl6
    rw [HX6.out] at hx'
    simp only [Value.slice.injEq, true_and] at hx'
    obtain ⟨rfl, rfl⟩ := hx'
    exact ⟨ra, rc, by rw [HRN.out, hrole], by rw [hrole, hbr]; exact hO, fun h o _ => by rw [hbr]; exact hf (by rw [← hrole]; exact h) o⟩
  have HRc : Hid (RdrAt Wc pb g st ts en) := by unfold Hid; rw [hWc, hst]; exact HR5.out.of (Below.heap_setCell _ _ _ _ (by show pb ≠ w2.heap.size; omega))
  have HRu : Hid (Use ts gs i st (w.heap.size + 1) Wc.heap.size (leafB br 0 role.length)) := by
    intro x hx
    obtain ⟨q, hq, rfl⟩ := mem_leafB.1 hx
    refine .inr ⟨i + 2, by omega, by omega, hl6, fun e => ?_, hbr⟩
    rw [hrole, show wordI ts (i + 2) = [] from e] at hq
    simp at hq
  have HZc : Hid (BoxC Wc w.heap.size (.int .i64 0) (.slice none 0 0) (.slice none 0 0) (.slice none 0 0)) := by unfold Hid; rw [hWc]; exact (Below.heap_setCell w5 ⟨w2.heap.size, 2, none⟩ _ w.heap.size (by show w.heap.size ≠ w2.heap.size; omega)).trans HZ5.out
  have hist : i ≤ st := by omega
  have hobc : w2.heap.size < Wc.heap.size := by omega
  have hpWc : pb < Wc.heap.size := by omega
  have hwWc : w.heap.size < Wc.heap.size := by omega
  rw [← hWc]
  clear hst hrole hbr hWc HR4 HT4 HO4 HZ4 HBt4 o0 o1 o2 o3 of2 hsc hTc hbrl HR5 HT5 HO5 HZ5 HBt5 HX6 HRN
  -- at the loop: the world is Wc
  obtain ⟨i0, hi0, hz0, hz1, hz2⟩ := info_parts Tryz.infoCon4
  have hdw : IntKind.i64.wrap (dp + 1) = dp + 1 := wrap64_id (by omega)
  have hn2 : n ≤ 2 := by have h := kidN_kind (HKD.out ▸ kindI_range ts i); rw [HN.out] at h; omega
  refine (kidCount_any kd _).mono ?_
  rintro e wk ⟨rfl, hwk⟩
  rw [hwk, HN.out]; clear hwk
  go_wp2_with fail
  go_loopw [45] (fun q wr => ∃ (m j : Nat) (kv : Value) (cs : List CN) (Ls : List (List (Addr × IntKind))) (xs : List Value), m ≤ n ∧ q = .int .i64 m ∧ kidsR (conR ts en f) st m = .ok cs j ∧ st ≤ j ∧ j ≤ ts.length ∧ InvR pb ts gs st w Wc.heap.size w2.heap.size f kd (.slice ra rn rc) role br wr kv cs Ls xs j ∧ RdrAt wr pb g j ts en ∧ BoxC wr w.heap.size (.int .i64 0) (.slice none 0 0) (.slice none 0 0) (.slice none 0 0)) (fun q _ => n - (intOf q).toNat)
  case atStart => exact ⟨0, st, .slice none 0 0, [], [], [], Nat.zero_le _, rfl, rfl, Nat.le_refl _, HStl.out, HI0.out, HRc.out, HZc.out⟩
  case round =>
    obtain ⟨m, j, kv, cs, Ls, xs, hm, rfl, hkr, hsj, hjl, hinv, hRr, hZr⟩ := hrel
    have HI : Hid (InvR pb ts gs st w Wc.heap.size w2.heap.size f kd (.slice ra rn rc) role br wr kv cs Ls xs j) := hinv
    have HRr : Hid (RdrAt wr pb g j ts en) := hRr
    have HKr : Hid (kidsR (conR ts en f) st m = .ok cs j) := hkr
    have HTr : Hid (TkM base pb wr g ts gs) := HTw.out.bt hinv.bt (by omega)
    have HCl : Hid (cs.length = m) := kidsR_len hkr
    have hszr : Wc.heap.size ≤ wr.heap.size := hinv.sz
    have hpr : pb < wr.heap.size := hRr.lt
    have HZr : Hid (BoxC wr w.heap.size (.int .i64 0) (.slice none 0 0) (.slice none 0 0) (.slice none 0 0)) := hZr
    clear hZr
    by_cases hlt' : m < n
    · have hmi : (m : Int) < (n : Int) := by omega
      obtain ⟨o0, o1, o2, o3⟩ := hinv.box.cells
      have hobr : w2.heap.size < wr.heap.size := hinv.box.lt
      clear hkr hinv hRr
      cases hres : conR ts en f j with
      | bad a =>
        have HCb : Hid (conR ts en (f + 1) i = .bad a) := by
          unfold Hid; rw [HCk.out, kidsR_bad (kidsR_fell HKr.out hres) n (by omega)]; rfl
        go_wp2_with fail
        refine wp_region_any (by kernel_rfl) ?_
        change wpAny _ _ _ _ _ _ _ (World.drew _)
        (refine wpAny_take (i := 0) (v := .pointer (some ⟨w2.heap.size, 3, none⟩)) rfl (by kernel_rfl) (by kernel_rfl) (by kernel_rfl) (fun _ _ _ h => h) (Or.inl ⟨by rfl, fun w => by first | rfl | go_simp⟩) ?_; try simp only [List.getElem_toArray, List.getElem_cons_zero, Act.put, List.setIfInBounds_toArray, List.set_cons_zero, List.set_cons_succ])
        (refine wpAny_take (i := 2) (v := .pointer (some ⟨pb, 0, none⟩)) rfl (by kernel_rfl) (by kernel_rfl) (by kernel_rfl) (fun _ _ _ h => h) (Or.inl ⟨by rfl, fun w => by first | rfl | go_simp⟩) ?_; try simp only [List.getElem_toArray, List.getElem_cons_succ, List.getElem_cons_zero, Act.put, List.setIfInBounds_toArray, List.set_cons_zero, List.set_cons_succ])
        (refine wpAny_take (i := 3) (v := .int .i64 dp) rfl (by kernel_rfl) (by kernel_rfl) (by kernel_rfl) (fun _ _ _ h => h) (Or.inl ⟨by rfl, fun w => by first | rfl | go_simp⟩) ?_; try simp only [List.getElem_toArray, List.getElem_cons_succ, List.getElem_cons_zero, Act.put, List.setIfInBounds_toArray, List.set_cons_zero, List.set_cons_succ])
        (refine wpAny_take (i := 4) (v := .int .i64 (dp + 1)) rfl (by kernel_rfl) (by kernel_rfl) (by kernel_rfl) (fun _ _ _ h => h) (Or.inl ⟨by rfl, fun w => by first | rfl | go_simp⟩) ?_; try simp only [List.getElem_toArray, List.getElem_cons_succ, List.getElem_cons_zero, Act.put, List.setIfInBounds_toArray, List.set_cons_zero, List.set_cons_succ])
        refine wpAny_ready (rs := [1, 5]) (by kernel_rfl) (by simp) ?_
        refine AllReady.cons rfl (fun K hK => ?_) ?_
        · go_simp
          refine hK _ _ ?_
          clear hK K
          refine wpAny_ready (rs := [5]) (by kernel_rfl) (by simp) ?_
          refine AllReady.cons rfl (fun K hK => ?_) AllReady.nil
          go_simp
          refine (HH.out (dp + 1) (by omega) (by omega) base pb g j ts gs en wr.drew (HRr.out.of rfl) (HTr.out.below (Below.refl _ _).drew) hjl).mono ?_; rintro e w5 hP; rw [hres] at hP; obtain ⟨hb5, he5⟩ := hP; subst he5; have HBf : Hid (Bt pb w.heap.size w w5) := (HI.out.bt.trans (((Bt.refl _ _ _).drew.trans hb5).mono HI.out.bt.size)); simp only [gaveUp]; clear hb5; go_simp; exact ⟨rfl, RP.fell HBf.out HCb.out rfl⟩
        · refine AllReady.cons rfl (fun K hK => ?_) AllReady.nil
          go_simp
          refine (HH.out (dp + 1) (by omega) (by omega) base pb g j ts gs en wr.drew (HRr.out.of rfl) (HTr.out.below (Below.refl _ _).drew) hjl).mono ?_; rintro e w5 hP; rw [hres] at hP; obtain ⟨hb5, he5⟩ := hP; subst he5; have HBf : Hid (Bt pb w.heap.size w w5) := (HI.out.bt.trans (((Bt.refl _ _ _).drew.trans hb5).mono HI.out.bt.size)); simp only [gaveUp]; clear hb5; go_simp; exact ⟨rfl, RP.fell HBf.out HCb.out rfl⟩
      | ok c j' =>
        have hje := conR_end ts en f j c j' hres
        have HKm : Hid (kidsR (conR ts en f) st (m + 1) = .ok (cs ++ [c]) j') := kidsR_step HKr.out hres
        go_wp2_with fail
        first | go_region_law
          (first
          | (refine step_append_lies _ rfl (.tmp 48) (.tmp 53) 35 rfl Wc.heap.size 37 i0 (.agg #[.int .i64 0, .slice none 0 0, .slice none 0 0, .slice none 0 0]) 4 80 Tryz.underlying35 hi0 hz0 hz1 hz2 rfl (by decide) kv m xs (by simp [Act.eval]) HRow5.out ⟨w5.heap.size, 0, none⟩ 1 1 [.int .i64 zk, .slice zna znn znc, .slice zra zrn zrc, .slice zka zkn zkc] (by simp [Act.eval]) rfl (new4 _ _ _ _ _ _ _ rfl) (one4 _ _ _ _ _ _ _ _ _ _) (by decide) (by unfold maxLen; omega) (by omega) hsz5 _ rfl ?_; intro g1 cap1 w6 hown hgrow hat hlt6; have HA : Hid (BoxC w6 w2.heap.size (.int .i64 kd) (.slice none 0 0) (.slice ra rn rc) kv ∧ InvR pb ts gs st w Wc.heap.size w2.heap.size f kd (.slice ra rn rc) role br (w6.setCell ⟨w2.heap.size, 3, none⟩ (.slice (some ⟨g1, 0, none⟩) (m + 1) cap1)) (.slice (some ⟨g1, 0, none⟩) (m + 1) cap1) (cs ++ [c]) (Ls ++ [L5]) (xs ++ [.int .i64 zk, .slice zna znn znc, .slice zra zrn zrc, .slice zka zkn zkc]) j') := InvR.app HSt.out HTw.out HI5.out HI.out.us HkB.out hszr HO5.out hsj (Nat.le_of_lt hje.1) (by rw [HCl.out]) hown hgrow hat; have HR6 : Hid (RdrAt (w6.setCell ⟨w2.heap.size, 3, none⟩ (.slice (some ⟨g1, 0, none⟩) (m + 1) cap1)) pb g j' ts en) := ((HR5.out.below HB5b.out).of (hgrow.block pb (Nat.lt_of_lt_of_le HR5.out.lt HB5b.out.size) (fun e => HkN.out pb hpWc e.symm))).of (Below.heap_setCell _ _ _ _ (by show pb ≠ w2.heap.size; omega)); have HZ6 : Hid (BoxC (w6.setCell ⟨w2.heap.size, 3, none⟩ (.slice (some ⟨g1, 0, none⟩) (m + 1) cap1)) w.heap.size (.int .i64 0) (.slice none 0 0) (.slice none 0 0) (.slice none 0 0)) := (Below.heap_setCell w6 ⟨w2.heap.size, 3, none⟩ _ w.heap.size (by show w.heap.size ≠ w2.heap.size; omega)).trans ((hgrow.block w.heap.size (Nat.lt_of_lt_of_le HZ5.out.lt HB5b.out.size) (fun e => HkN.out w.heap.size hwWc e.symm)).trans ((HB5b.out.block _ HZ5.out.lt).trans HZ5.out)); obtain ⟨_, _, _, o36⟩ := HA.out.1.cells; have f36 := HA.out.1.frz 3; clear hown hgrow hat)
          | (go_simp; refine (HH.out (dp + 1) (by omega) (by omega) base pb g j ts gs en wr.drew (HRr.out.of rfl) (HTr.out.below (Below.refl _ _).drew) hjl).mono ?_; rintro e w5 hP; rw [hres] at hP; obtain ⟨hb5, v5, L5, he5, hO5, hR5⟩ := hP; subst he5; obtain ⟨zna, znn, znc, zra, zrn, zrc, zka, zkn, zkc, rfl⟩ := hO5.ow.agg; obtain ⟨zk, hzk⟩ : ∃ zk, zk = c.kind := ⟨_, rfl⟩; rw [← hzk] at hO5; rw [← hzk]; have HB5 : Hid (Bt pb wr.heap.size wr w5) := (Bt.refl _ _ _).drew.trans hb5; have HI5a : Hid (InvR pb ts gs st w Wc.heap.size w2.heap.size f kd (.slice ra rn rc) role br w5 kv cs Ls xs j) := HI.out.keep HSt.out HTw.out HB5.out; have HB5b : Hid (Below w5.heap.size w5 (w5.alloc (.cells #[.int .i64 zk, .slice zna znn znc, .slice zra zrn zrc, .slice zka zkn zkc] 37))) := (Below.refl _ _).alloc (Nat.le_refl _) _; have HI5 : Hid (InvR pb ts gs st w Wc.heap.size w2.heap.size f kd (.slice ra rn rc) role br (w5.alloc (.cells #[.int .i64 zk, .slice zna znn znc, .slice zra zrn zrc, .slice zka zkn zkc] 37)) kv cs Ls xs j) := HI5a.out.keep HSt.out HTw.out (Bt.of_below HB5b.out); have HR5 : Hid (RdrAt w5 pb g j' ts en) := hR5; have HO5 : Hid (OwnR ts gs j j' wr.heap.size (w5.alloc (.cells #[.int .i64 zk, .slice zna znn znc, .slice zra zrn zrc, .slice zka zkn zkc] 37)) f (.agg #[.int .i64 zk, .slice zna znn znc, .slice zra zrn zrc, .slice zka zkn zkc]) c L5) := OwnR.bt hO5 HTw.out hpr (Bt.of_below HB5b.out) (Nat.le_of_lt hR5.lt); have HRow5 : Hid ((w5.alloc (.cells #[.int .i64 zk, .slice zna znn znc, .slice zra zrn zrc, .slice zka zkn zkc] 37)).ownsRow Wc.heap.size 37 4 kv m xs) := (by have := HI5.out.row.row; rw [HCl.out] at this; exact this); have HkB : Hid (∀ g, kv.ownBlock = some g → g < wr.heap.size) := (fun g hg => (HI.out.row.row.lt g hg).2); have HkN : Hid (∀ b, b < Wc.heap.size → kv.ownBlock ≠ some b) := (fun b hb e => absurd (HI.out.row.row.lt _ e).1 (by omega)); have hsz5 : Wc.heap.size ≤ (w5.alloc (.cells #[.int .i64 zk, .slice zna znn znc, .slice zra zrn zrc, .slice zka zkn zkc] 37)).heap.size := HI5.out.sz; have HZ5 : Hid (BoxC w5 w.heap.size (.int .i64 0) (.slice none 0 0) (.slice none 0 0) (.slice none 0 0)) := (HB5.out.block _ HZr.out.lt (by omega)).trans HZr.out; obtain ⟨_, _, _, o35⟩ := HI5a.out.box.cells; have hlo5 : w2.heap.size < w5.heap.size := HI5a.out.box.lt; clear hO5 hb5 hzk hR5)) | fail
        all_goals
          go_wp2_with fail
          go_roundw
          case rel => exact ⟨m + 1, j', _, _, _, _, by omega, by go_num, HKm.out, by omega, hje.2, HA.out.2, HR6.out, HZ6.out⟩
          case measure => simp [intOf]; omega
    · have hmn : m = n := by omega
      have HKn : Hid (conR ts en (f + 1) i = closeR ts en kd role (.ok cs j)) := by unfold Hid; rw [HCk.out, ← hmn, HKr.out]
      clear hkr hinv hRr
      cases h7 : isI ts 4 j
      · have HCb : Hid (conR ts en (f + 1) i = .bad (hereI ts en j)) := by unfold Hid; rw [HKn.out, closeR, if_neg (by rw [h7]; simp)]
        go_wp2_with fail
        refine (take_bad base pb g j ts gs en 4 wr HRr.out HTr.out hjl h7).mono ?_
        rintro e w5 ⟨rfl, hb5⟩
        have HBf : Hid (Bt pb w.heap.size w w5) := HI.out.bt.trans (Bt.of_below (hb5.mono HI.out.bt.size))
        clear hb5
        simp only [gaveUp]
        go_wp2
        exact ⟨rfl, RP.fell HBf.out HCb.out rfl⟩
      · have HCg : Hid (conR ts en (f + 1) i = .ok (.mk kd [] role cs) (j + 1)) := by unfold Hid; rw [HKn.out, closeR, if_pos h7]
        go_wp2_with fail
        refine (take_ok base pb g j ts gs en 4 wr HRr.out HTr.out h7).mono ?_
        rintro e w5 ⟨rfl, hR5, hb5⟩
        obtain ⟨ya, yn, yc, hyv⟩ : ∃ ya yn yc, txv (ts.getD j Tok.zero) (gs.getD j (0, 0)) = .slice ya yn yc := by
          obtain ⟨a, c, h⟩ := txv_form (ts.getD j Tok.zero) (gs.getD j (0, 0)); exact ⟨_, _, _, h⟩
        rw [hyv]
        have HI5 : Hid (InvR pb ts gs st w Wc.heap.size w2.heap.size f kd (.slice ra rn rc) role br w5 kv cs Ls xs j) := HI.out.keep HSt.out HTw.out hb5
        have HZ5 : Hid (BoxC w5 w.heap.size (.int .i64 0) (.slice none 0 0) (.slice none 0 0) (.slice none 0 0)) := (hb5.block _ HZr.out.lt (by omega)).trans HZr.out
        have HR5 : Hid (RdrAt w5 pb g (j + 1) ts en) := hR5
        obtain ⟨kka, kkn, kkc, hkv⟩ := HI.out.row.isSlice
        rw [hkv] at HI5
        obtain ⟨o0, o1, o2, o3⟩ := HI5.out.box.cells
        obtain ⟨z0, z1, z2, z3⟩ := HZ5.out.cells
        have zf0 := HZ5.out.frz 0
        have zf1 := HZ5.out.frz 1
        have zf2 := HZ5.out.frz 2
        have zf3 := HZ5.out.frz 3
        clear hyv hb5 hR5 hkv
        go_wp2
        obtain ⟨s0, s1, s2, s3⟩ := (HZ5.out.set4 (.int .i64 kd) (.slice none 0 0) (.slice ra rn rc) (.slice kka kkn kkc)).cells
        refine bodyPost_ret (v := .agg #[.int .i64 kd, .slice none 0 0, .slice ra rn rc, .slice kka kkn kkc]) (by simp [results, Tryz.results86, go_sem, s0, s1, s2, s3]) rfl ?_
        obtain ⟨L, hL⟩ := HI5.out.whole HTw.out (i := i) (s := w.heap.size + 1) (by omega) (by omega) hist hsj HRu.out
        have hne := hL.us.ne HTw.out (o := w.heap.size) (by omega) (Nat.lt_succ_self _)
        have hL' := (OwnR.to hL (w' := ((((w5.setCell ⟨w.heap.size, 0, none⟩ (.int .i64 kd)).setCell ⟨w.heap.size, 1, none⟩ (.slice none 0 0)).setCell ⟨w.heap.size, 2, none⟩ (.slice ra rn rc)).setCell ⟨w.heap.size, 3, none⟩ (.slice kka kkn kkc))) (fun x hx => heap_set4 _ _ _ _ _ (hne x hx)) (by simp)).low (Nat.le_succ _)
        exact RP.good ((((HI5.out.bt.set (.inl (Nat.le_refl _)) _).set (.inl (Nat.le_refl _)) _).set (.inl (Nat.le_refl _)) _).set (.inl (Nat.le_refl _)) _) HCg.out ⟨hL'.ow, hL'.nd, hL'.fr, hL'.us.mono (Nat.le_refl _) (Nat.le_succ _) (Nat.le_refl _) (Nat.le_refl _)⟩ (HR5.out.of (heap_set4 _ _ _ _ _ (by omega)))

theorem readC_any : ∀ f, ReadC f := by
  intro f
  induction f with
  | zero =>
    intro dp hd0 hdf base pb g i ts gs en w hR hT hi
    rw [show dp = 7 by omega]
    exact read_deep base pb g i ts gs en w hR hT hi
  | succ f ih =>
    intro dp hd0 hdf base pb g i ts gs en w hR hT hi
    have h6 : dp ≤ 6 := by omega
    have hdf' : dp + (f : Int) = 6 := by omega
    cases h1 : isI ts 1 i
    · exact read_first f dp hd0 h6 base pb g i ts gs en w hR hT hi h1
    · by_cases h2 : kindI ts i = 2
      · cases h3 : keptB (strOfNums (wordI ts i)).toList
        · exact read_name f dp hd0 h6 base pb g i ts gs en w hR hT h1 h2 h3
        · exact read_kept f dp hd0 h6 base pb g i ts gs en w hR hT h1 h2 h3
      · by_cases h3 : kidN (kindI ts i) = 0
        · exact read_leaf f dp hd0 h6 base pb g i ts gs en w hR hT h1 h2 h3
        · cases h4 : isI ts 3 (i + 1)
          · exact read_open f dp hd0 h6 base pb g i ts gs en w hR hT h1 h2 h3 h4
          · cases h5 : roleB (kindI ts i)
            · exact read_kids0 f dp hd0 h6 base pb g i ts gs en w hR hT h1 h2 h3 h4 h5 hdf' ih
            · cases h6' : isI ts 2 (i + 2)
              · exact read_role f dp hd0 h6 base pb g i ts gs en w hR hT h1 h2 h3 h4 h5 h6'
              · exact read_kids1 f dp hd0 h6 base pb g i ts gs en w hR hT h1 h2 h3 h4 h5 h6' hdf' ih

end Go.Proofs.YtckhjoancfbkfaaGreat
