/- The document's look at an order: a contract. -/
import Derived.Test.YtpedjcabapldgaaDoorOrdI4
import Derived.Test.YtpedjcabapldgaaDoorKbIns
import Derived.Deep.DeepCutAuto
namespace Go.Proofs.YtpedjcabapldgaaDoor
open Go.RowKit

/-- Words so far, all of them in a row of the call's own. -/
structure InvW (W0 : World) (lo hi : Nat) (L : List (List Int)) (v : Value) (wr : World) : Prop where
  row : RW W0.heap.size lo hi wr v L
  fine : Fine L
  bel : Below W0.heap.size W0 wr

theorem order_false {x : OD} (h : decide (x.cls.length ≤ 7) = false ∨ decide (x.edg.length ≤ 50) = false ∨ decide (0 ≤ x.code) = false ∨ decide (x.code ≤ 3) = false ∨ clsB x.cls = false ∨ edgB x.cls.length x.edg = false) : orderB x = false := by
  unfold orderB
  rcases h with h | h | h | h | h | h <;> simp [h]
theorem order_true {x : OD} (h1 : x.cls.length ≤ 7) (h2 : x.edg.length ≤ 50) (h3 : 0 ≤ x.code) (h4 : x.code ≤ 3) (h5 : clsB x.cls = true) (h6 : edgB x.cls.length x.edg = true) : orderB x = true := by
  unfold orderB
  simp [h1, h2, h3, h4, h5, h6]

set_option maxRecDepth 100000 in
set_option maxHeartbeats 8000000 in
theorem specOrderOk_any {ca : Option Addr} {cn cc : Nat} {ea : Option Addr} {en ec : Nat} {x : OD} {kx : Int} {w : World} {lo hi : Nat} (h : RdO lo hi w ca cn cc ea en ec x) (hk : x.code = kx) (hhi : hi ≤ w.heap.size) (hlo : lo ≤ w.heap.size) (hbd : BdO x cn en) :
    Calls Tryd.prog 15 #[.agg #[.slice ca cn cc, .slice ea en ec, .int .i64 kx]] w fun e w' => e = .returned (.bool (orderB x)) ∧ Below w.heap.size w w' := by
  obtain ⟨W0, hW0⟩ : ∃ W0, W0 = w.alloc (.cells #[.slice ca cn cc, .slice ea en ec, .int .i64 kx] 31) := ⟨_, rfl⟩
  have HW0 : Hid (W0 = w.alloc (.cells #[.slice ca cn cc, .slice ea en ec, .int .i64 kx] 31)) := hW0
  have hb0 : Below w.heap.size w W0 := by rw [hW0]; exact (Below.refl _ _).alloc (Nat.le_refl _) _
  have HB0 : Hid (Below w.heap.size w W0) := hb0
  have hs0 : w.heap.size < W0.heap.size := by rw [hW0]; simp
  have hbx : BoxO 31 W0 w.heap.size (.slice ca cn cc) (.slice ea en ec) kx := by rw [hW0]; exact BoxO.new _ w _ _ _
  have HBx : Hid (∀ V, Below W0.heap.size W0 V → BoxO 31 V w.heap.size (.slice ca cn cc) (.slice ea en ec) kx) := fun V hV => hbx.below hV hbx.lt
  have HR : Hid (∀ V, Below W0.heap.size W0 V → RdO lo hi V ca cn cc ea en ec x) := fun V hV => (h.below hb0 hhi).below hV (by omega)
  have HRf : Hid (Below W0.heap.size W0 W0) := Below.refl _ _
  obtain ⟨z0, z1, z2⟩ := hbx.cells
  have HCl : Hid (x.cls.length = cn) := h.cls.len
  have HEl : Hid (x.edg.length = en) := h.edg.len
  have HK : Hid (x.code = kx) := hk
  have HBd : Hid (∀ j, j < cn → (x.cls.getD j []).length ≤ 1048576) := fun j hj => (hbd.c.2 j hj).1
  have hfc := h.cls.fits
  have hfe := h.edg.fits
  clear h hb0 hW0 hbx hk hbd
  by_cases h7 : 7 < cn
  · have HF : Hid (orderB x = false) := order_false (.inl (by rw [HCl.out]; exact decide_eq_false (by omega)))
    have hg0 : (7 : Int) < (cn : Int) := by omega
    go_enter Tryd.func15, Tryd.ntmps15
    go_upto_region 1 with fail
    rw [← HW0.out]
    go_wp2_with fail
    go_ret
    exact ⟨rb HF.out.symm, HB0.out⟩
  have hg0 : ¬ (7 : Int) < (cn : Int) := by omega
  have hg0' : decide ((7 : Int) < (cn : Int)) = false := decide_eq_false hg0
  by_cases h50 : 50 < en
  · have HF : Hid (orderB x = false) := order_false (.inr (.inl (by rw [HEl.out]; exact decide_eq_false (by omega))))
    have hg1 : (50 : Int) < (en : Int) := by omega
    go_enter Tryd.func15, Tryd.ntmps15
    go_upto_region 1 with fail
    rw [← HW0.out]
    go_wp2_with fail
    go_ret
    exact ⟨rb HF.out.symm, HB0.out⟩
  have hg1 : ¬ (50 : Int) < (en : Int) := by omega
  by_cases hc0 : kx < 0
  · have HF : Hid (orderB x = false) := order_false (.inr (.inr (.inl (by rw [HK.out]; exact decide_eq_false (by omega)))))
    go_enter Tryd.func15, Tryd.ntmps15
    go_upto_region 1 with fail
    rw [← HW0.out]
    go_wp2_with fail
    go_ret
    exact ⟨rb HF.out.symm, HB0.out⟩
  by_cases hc3 : 3 < kx
  · have HF : Hid (orderB x = false) := order_false (.inr (.inr (.inr (.inl (by rw [HK.out]; exact decide_eq_false (by omega))))))
    go_enter Tryd.func15, Tryd.ntmps15
    go_upto_region 1 with fail
    rw [← HW0.out]
    go_wp2_with fail
    go_ret
    exact ⟨rb HF.out.symm, HB0.out⟩
  have HLim : Hid (cn ≤ 7 ∧ en ≤ 50 ∧ 0 ≤ kx ∧ kx ≤ 3) := ⟨by omega, by omega, by omega, by omega⟩
  have HFc : Hid (clsB x.cls = false → orderB x = false) := fun q => order_false (.inr (.inr (.inr (.inr (.inl q)))))
  have HFe : Hid (edgB cn x.edg = false → orderB x = false) := fun q => order_false (.inr (.inr (.inr (.inr (.inr (by rw [HCl.out]; exact q))))))
  obtain ⟨i0, hi0, hz0, hz1, hz2⟩ := info_parts Tryd.infoBS
  clear h7 h50
  go_enter Tryd.func15, Tryd.ntmps15
  go_upto_region 1 with fail
  rw [← HW0.out]
  go_upto_region 3 with fail
  clear hg0 hg0' hg1 hc0 hc3 z0 z1 z2
  go_wp2_with fail
  go_loopw [3, 4] (fun v i wr => ∃ (k : Nat) (ov : Value), k ≤ cn ∧ i = .int .i64 k ∧ v = ov ∧ InvW W0 lo hi (x.cls.take k).flatten ov wr ∧ (∀ j, j < k → (x.cls.getD j []).length ≠ 0)) (fun _ i _ => cn - (intOf i).toNat)
  case atStart => exact ⟨0, _, Nat.zero_le _, rfl, rfl, ⟨RW.nil _ _ _ _, Fine.nil, HRf.out⟩, fun j hj => by omega⟩
  case round =>
    obtain ⟨k, ov, hk, rfl, hov, hI, hne⟩ := hrel
    have HI : Hid (InvW W0 lo hi (x.cls.take k).flatten ov wr) := hI
    have HNe : Hid (∀ j, j < k → (x.cls.getD j []).length ≠ 0) := hne
    clear hI hne
    rw [hov]
    clear hov
    obtain ⟨z0, z1, z2⟩ := (HBx.out _ HI.out.bel).cells
    by_cases hlt : k < cn
    · have hR := (HR.out _ HRf.out).cls
      obtain ⟨b, off, rfl⟩ := hR.block (by omega)
      obtain ⟨da, dn, dc, c00, hr⟩ := hR.class hlt
      have HC0 : Hid (∀ V, Below W0.heap.size W0 V → V.cell? ⟨b, off + k, none⟩ = some (.slice da dn dc) ∧ RSS lo hi V da dn dc (x.cls.getD k [])) := fun V hV => ⟨(hV.cell (p := ⟨b, off + k, none⟩) (block_lt_of_cell c00)).trans c00, hr.below hV (by omega)⟩
      obtain ⟨c0, _⟩ := HC0.out _ HI.out.bel
      have hki : (k : Int) < (cn : Int) := by omega
      have HEn : Hid ((x.cls.getD k []).length = dn) := hr.len
      have hef := hr.fits
      clear hR hr c00
      by_cases he0 : dn = 0
      · have HF : Hid (orderB x = false) := HFc.out (cls_empty (by rw [HCl.out]; exact hlt) (by rw [HEn.out]; exact he0))
        have hz0 : ((dn : Int) == 0) = true := by simp [he0]
        clear he0
        go_wp2_with fail
        go_ret
        exact ⟨rb HF.out.symm, HB0.out.trans (HI.out.bel.mono (by omega))⟩
      · have hz0 : ((dn : Int) == 0) = false := by simp; omega
        have HE0 : Hid (dn ≠ 0) := he0
        have HBk : Hid (dn ≤ 1048576) := by have := HBd.out k hlt; rw [HEn.out] at this; exact this
        have HFl : Hid ((x.cls.take k).flatten.length ≤ 7 * 1048576) := by
          have h1 := flat_len k (xs := x.cls) (by rw [HCl.out]; omega) (fun j hj => HBd.out j (by omega))
          have h2 := HLim.out.1
          have h3 : k * 1048576 ≤ 7 * 1048576 := Nat.mul_le_mul_right _ (by omega)
          exact Nat.le_trans h1 h3
        clear he0
        go_wp2_with fail
        clear hz0 c0 z0 z1 z2
        rename World => wo
        go_loopw [3, 5] (fun v i wr => ∃ (j : Nat) (ou : Value), j ≤ dn ∧ i = .int .i64 j ∧ v = ou ∧ InvW W0 lo hi ((x.cls.take k).flatten ++ (x.cls.getD k []).take j) ou wr) (fun _ i _ => dn - (intOf i).toNat)
        case atStart => exact ⟨0, _, Nat.zero_le _, rfl, rfl, by simpa using HI.out⟩
        case round =>
          obtain ⟨j, ou, hj, rfl, hou, hJ⟩ := hrel
          have HJ : Hid (InvW W0 lo hi ((x.cls.take k).flatten ++ (x.cls.getD k []).take j) ou wr) := hJ
          clear hJ
          rw [hou]
          clear hou
          obtain ⟨z0, z1, z2⟩ := (HBx.out _ HJ.out.bel).cells
          obtain ⟨c0, hE1⟩ := HC0.out _ HJ.out.bel
          by_cases hlj : j < dn
          · obtain ⟨L, hL⟩ : ∃ L, L = (x.cls.take k).flatten ++ (x.cls.getD k []).take j := ⟨_, rfl⟩
            have HL : Hid (L = (x.cls.take k).flatten ++ (x.cls.getD k []).take j) := hL
            have HJL : Hid (InvW W0 lo hi L ou wr) := by unfold Hid; rw [hL]; exact HJ.out
            have HLb : Hid (L.length ≤ 8 * 1048576) := by
              have h1 := HFl.out
              have h2 := HBk.out
              rw [Hid, hL, List.length_append, List.length_take]
              omega
            obtain ⟨b2, off2, rfl⟩ := hE1.block (by omega)
            obtain ⟨za, zn, zc, c1, hz⟩ := hE1.word hlj
            obtain ⟨z, hzz⟩ : ∃ z, z = (x.cls.getD k []).getD j [] := ⟨_, rfl⟩
            rw [← hzz] at hz
            have HZ : Hid (Rd lo hi wr za zn zc z) := hz
            have hji : (j : Int) < (dn : Int) := by omega
            have HBad : Hid (¬ Fine (L ++ [z]) → orderB x = false) := fun q => HFc.out (cls_word (by rw [HCl.out]; exact hlt) (by rw [HEn.out]; exact hlj) (by rw [← hzz, ← hL]; exact q))
            have HTk : Hid ((x.cls.take k).flatten ++ (x.cls.getD k []).take (j + 1) = L ++ [z]) := by rw [Hid, hL, hzz, List.append_assoc, ← take_one (by rw [HEn.out]; exact hlj)]
            obtain ⟨aa, ac, hou, hRs⟩ := HJL.out.row.slice (by omega) (by have := HJL.out.bel.size; omega)
            have HRs : Hid (RSS lo wr.heap.size wr aa L.length ac L) := hRs
            obtain ⟨ix, hix⟩ : ∃ ix, ix = idxZ L z := ⟨_, rfl⟩
            have HIx : Hid (ix = idxZ L z) := hix
            have HMem : Hid (decide (0 ≤ ix) = decide (z ∈ L)) := by rw [Hid, hix]; exact idx_mem (fun i hi => hRs.byts hi) hz.byte
            have HOu : Hid (ou = .slice aa L.length ac) := hou
            clear hE1 hz hzz hL hRs hix
            subst hou
            cases hok : upOk z
            · have HOk : Hid (upOk z = false) := hok
              have HF : Hid (orderB x = false) := HBad.out (fun q => by have := (fine_snoc.1 q).2.1; rw [hok] at this; cases this)
              clear hok
              go_wp2_with (first | (go_at_call 26; refine (specUpperOk_any za zn zc z _ HZ.out).mono ?_; rintro e w5 ⟨rfl, hw5⟩; rw [hw5, HOk.out]; clear hw5))
              go_ret
              exact ⟨rb HF.out.symm, HB0.out.trans (HJ.out.bel.mono (by omega))⟩
            · have HOk : Hid (upOk z = true) := hok
              clear hok
              by_cases hin : z ∈ L
              · have hd0 : decide (0 ≤ ix) = true := by rw [HMem.out]; exact decide_eq_true hin
                have hd1 : 0 ≤ ix := of_decide_eq_true hd0
                have HF : Hid (orderB x = false) := HBad.out (fun q => (fine_snoc.1 q).2.2 hin)
                clear hin
                go_wp2_with (first | (go_at_call 26; refine (specUpperOk_any za zn zc z _ HZ.out).mono ?_; rintro e w5 ⟨rfl, hw5⟩; rw [hw5, HOk.out]; clear hw5) | (go_at_call 27; refine (l4find_any aa L.length ac L za zn zc z _ HRs.out HZ.out).mono ?_; rintro e w6 ⟨rfl, nd, hw6⟩; rw [← HIx.out]; have HV : Hid (w6 = wr.drewN nd) := hw6; clear hw6))
                go_ret
                exact ⟨rb HF.out.symm, by rw [HV.out]; exact below_drewN (HB0.out.trans (HJ.out.bel.mono (by omega))) nd⟩
              · have hd0 : decide (0 ≤ ix) = false := by rw [HMem.out]; exact decide_eq_false hin
                have hd1 : ¬ 0 ≤ ix := of_decide_eq_false hd0
                have HFn : Hid (Fine (L ++ [z])) := fine_snoc.2 ⟨HJL.out.fine, HOk.out, hin⟩
                clear hin
                go_upto_region 14 with (first | (go_at_call 26; refine (specUpperOk_any za zn zc z _ HZ.out).mono ?_; rintro e w5 ⟨rfl, hw5⟩; rw [hw5, HOk.out]; clear hw5) | (go_at_call 27; refine (l4find_any aa L.length ac L za zn zc z _ HRs.out HZ.out).mono ?_; rintro e w6 ⟨rfl, nd, hw6⟩; rw [← HIx.out]; have HV : Hid (w6 = wr.drewN nd) := hw6; clear hw6))
                have hbV : Below W0.heap.size W0 w6 := by rw [HV.out]; exact below_drewN HJL.out.bel nd
                have HBV : Hid (Below W0.heap.size W0 w6) := hbV
                have c1' : w6.cell? ⟨b2, off2 + j, none⟩ = some (.slice za zn zc) := by rw [HV.out]; exact c1
                have HZ6 : Hid (Rd lo hi w6 za zn zc z) := by rw [Hid, HV.out]; exact HZ.out.same (fun _ _ _ => rfl)
                obtain ⟨xs, hown, hxs⟩ := HJL.out.row
                have hxl := own_len hown
                have HGe : Hid (∀ k, (Value.slice aa L.length ac).ownBlock = some k → W0.heap.size ≤ k) := own_ge hown
                have HO6 : Hid (w6.ownsRow W0.heap.size 27 1 (.slice aa L.length ac) L.length xs) := by rw [Hid, HV.out]; exact hown
                have HX6 : Hid (∀ i, i < L.length → SlB lo hi w6 (xs.getD i undef) (L.getD i [])) := by rw [Hid, HV.out]; exact fun i hi => (hxs i hi).same (fun _ _ _ => rfl)
                have s6 := hbV.size
                have hlb := HLb.out
                clear z0 z1 z2 c0 c1 hd0 hd1 hown hxs
                obtain ⟨z0, z1, z2⟩ := (HBx.out _ hbV).cells
                obtain ⟨c0, _⟩ := HC0.out _ hbV
                clear hbV
                go_wp2_with (first | (at_builtin; refine wpList_append_own _ rfl (.tmp 75) (.tmp 84) 42 rfl W0.heap.size 27 i0 (.slice none 0 0) 1 24 Tryd.undBSS hi0 hz0 hz1 hz2 rfl (by decide) (.slice aa L.length ac) L.length xs rfl (HO6.out.alloc _) ⟨w6.heap.size, 0, none⟩ 1 1 [.slice za zn zc] rfl rfl (cell_one_new _ _ _) (by simp [Value.oneCell']) (by unfold maxLen; omega) (by omega) (by simp; omega) ?_; intro v1 w7 hown1 hgrow1 hnil1) | fail)
                go_roundw
                case rel =>
                  have hbb := (HBV.out.alloc HBV.out.size (.cells #[.slice za zn zc] 27)).grown hgrow1 (by simp; omega) HGe.out
                  refine ⟨j + 1, v1, by omega, by go_num, rfl, ?_⟩
                  rw [HTk.out]
                  exact ⟨RW.word (w := w6) HX6.out hxl ⟨_, _, _, rfl, HZ6.out⟩ (fun b h1 h2 => (hbb.block b (by omega)).trans (HBV.out.block b (by omega)).symm) hown1, HFn.out, hbb⟩
                case measure => simp [intOf]; omega
          · have hje : j = dn := by omega
            have HJ2 : Hid (InvW W0 lo hi (x.cls.take (k + 1)).flatten ou wr) := by
              unfold Hid
              rw [take_flat (by rw [HCl.out]; exact hlt)]
              have := HJ.out
              rwa [hje, ← HEn.out, List.take_length] at this
            clear hje
            go_wp2_with fail
            go_roundw
            case rel => exact ⟨k + 1, _, by omega, by go_num, rfl, HJ2.out, fun i hi => by
              by_cases hik : i < k
              · exact HNe.out i hik
              · obtain rfl : i = k := by omega
                rw [HEn.out]; exact HE0.out⟩
            case measure => simp [intOf]; omega
    · have hkn : k = cn := by omega
      have HCg : Hid (clsB x.cls = true) := cls_good HCl.out (fun i hi => HNe.out i (by omega)) (by have := HI.out.fine; rwa [hkn] at this)
      have HFb : Hid (Below W0.heap.size W0 wr) := HI.out.bel
      clear hkn
      go_upto_region 15 with fail
      clear z0 z1 z2 HI
      go_wp2_with fail
      rename World => wo
      go_loopw [6] (fun i wr => ∃ k : Nat, k ≤ en ∧ i = .int .i64 k ∧ (List.range k).all (edgeAt cn x.edg) = true ∧ Below W0.heap.size W0 wr) (fun i _ => en - (intOf i).toNat)
      case atStart => exact ⟨0, Nat.zero_le _, rfl, by simp, HFb.out⟩
      case round =>
        obtain ⟨m, hm, rfl, hall, hbel⟩ := hrel
        have HAll : Hid ((List.range m).all (edgeAt cn x.edg) = true) := hall
        have HB : Hid (Below W0.heap.size W0 wr) := hbel
        have sw := hbel.size
        clear hall
        obtain ⟨z0, z1, z2⟩ := (HBx.out _ hbel).cells
        by_cases hlm : m < en
        · have hR := (HR.out _ hbel).edg
          obtain ⟨b, off, rfl⟩ : ∃ b off, ea = some ⟨b, off, none⟩ := by
            rcases hR.cells with h0 | ⟨b, off, e, _⟩
            · omega
            · exact ⟨b, off, e⟩
          obtain ⟨c0, c1, hbh⟩ := hR.at hlm
          obtain ⟨t, ht⟩ : ∃ t, t = x.edg.getD m (0, 0) := ⟨_, rfl⟩
          rw [← ht] at c0 c1
          obtain ⟨p, q⟩ := t
          have hki : (m : Int) < (en : Int) := by omega
          obtain ⟨W, hW⟩ : ∃ W, W = wr.alloc (.cells #[.int .i64 p, .int .i64 q] 44) := ⟨_, rfl⟩
          have HW : Hid (W = wr.alloc (.cells #[.int .i64 p, .int .i64 q] 44)) := hW
          have HBW : Hid (Below W0.heap.size W0 W) := by unfold Hid; rw [hW]; exact HB.out.alloc HB.out.size _
          have HBf : Hid (Below w.heap.size w W) := HB0.out.trans (HBW.out.mono (by omega))
          have hbx : BoxP 44 W wr.heap.size p q := by rw [hW]; exact BoxP.new _ wr _ _
          have HAt : Hid (edgeAt cn x.edg m = (edgeIn cn (p, q) && (decide (m = 0) || edgeLt (x.edg.getD (m - 1) (0, 0)) (p, q)))) := by unfold Hid edgeAt; rw [← ht]
          have HSt : Hid (edgeAt cn x.edg m = true → (List.range (m + 1)).all (edgeAt cn x.edg) = true) := fun h1 => range_all_snoc HAll.out h1
          have HFa : Hid (edgeAt cn x.edg m = false → orderB x = false) := fun h1 => HFe.out (edg_bad (by rw [HEl.out]; exact hlm) h1)
          clear hR hbel ht hW
          go_upto_region 19 with fail
          rw [← HW.out]
          clear c0 c1 z0 z1 z2
          obtain ⟨z0, z1, z2⟩ := (HBx.out _ HBW.out).cells
          obtain ⟨y0, y1⟩ := hbx.cells
          clear hbx
          by_cases e1 : p < 0
          · have HF : Hid (orderB x = false) := HFa.out (by rw [HAt.out, edgeIn, numB, if_pos rfl, decide_eq_false (by omega)]; rfl)
            go_wp2_with fail
            go_ret
            exact ⟨rb HF.out.symm, HBf.out⟩
          by_cases e2 : (cn : Int) ≤ p
          · have HF : Hid (orderB x = false) := HFa.out (by rw [HAt.out, edgeIn, numB, if_pos rfl, decide_eq_false (by omega)]; rfl)
            go_wp2_with fail
            go_ret
            exact ⟨rb HF.out.symm, HBf.out⟩
          by_cases e3 : q < 0
          · have HF : Hid (orderB x = false) := HFa.out (by rw [HAt.out, edgeIn, numB, numB, if_pos rfl, if_pos rfl, decide_eq_false (show ¬ (0 ≤ q ∧ q < (cn : Int)) by omega)]; simp)
            go_wp2_with fail
            go_ret
            exact ⟨rb HF.out.symm, HBf.out⟩
          by_cases e4 : (cn : Int) ≤ q
          · have HF : Hid (orderB x = false) := HFa.out (by rw [HAt.out, edgeIn, numB, numB, if_pos rfl, if_pos rfl, decide_eq_false (show ¬ (0 ≤ q ∧ q < (cn : Int)) by omega)]; simp)
            go_wp2_with fail
            go_ret
            exact ⟨rb HF.out.symm, HBf.out⟩
          have HPQ : Hid (numB p cn true = true ∧ numB q cn true = true) := ⟨by rw [numB, if_pos rfl]; exact decide_eq_true (by omega), by rw [numB, if_pos rfl]; exact decide_eq_true (by omega)⟩
          cases hpq : (p == q)
          · have HIn : Hid (edgeIn cn (p, q) = true) := by unfold Hid edgeIn; rw [HPQ.out.1, HPQ.out.2, hpq]; rfl
            go_upto_region 21 with fail
            clear e1 e2 e3 e4 hpq
            by_cases hm0 : m = 0
            · have hd0 : decide (0 < m) = false := by simp; omega
              have HE : Hid (edgeAt cn x.edg m = true) := by rw [Hid, HAt.out, HIn.out, decide_eq_true hm0]; rfl
              clear hm0
              go_quiet (fail)
              go_wp2_with fail
              go_roundw
              case rel => exact ⟨m + 1, by omega, by go_num, HSt.out HE.out, below_drewN HBW.out _⟩
              case measure => simp [intOf]; omega
            · obtain ⟨j, HJ⟩ : ∃ j, Hid (m = j + 1) := ⟨m - 1, by unfold Hid; omega⟩
              have hjn : j < en := by have := HJ.out; omega
              obtain ⟨c2, c3, _⟩ := (HR.out _ HBW.out).edg.at hjn
              obtain ⟨u, hu⟩ : ∃ u, u = x.edg.getD j (0, 0) := ⟨_, rfl⟩
              rw [← hu] at c2 c3
              have HU : Hid (u = x.edg.getD (m - 1) (0, 0)) := by unfold Hid; rw [hu, show m - 1 = j from by have := HJ.out; omega]
              obtain ⟨p', q'⟩ := u
              have hd0 : decide (0 < m) = true := by simp; omega
              have hd1 : 0 < m := by omega
              have hj1 : IntKind.i64.wrap ((m : Int) - 1) = (j : Int) := by rw [show (m : Int) - 1 = (j : Int) by have := HJ.out; omega]; exact wrap64_id (by have := HLim.out.2.1; omega)
              have hj2 : (j : Int) < (en : Int) := by omega
              have HM0 : Hid (m ≠ 0) := hm0
              have HYes : Hid (edgeLt (p', q') (p, q) = true → edgeAt cn x.edg m = true) := fun e => by rw [HAt.out, ← HU.out, e, HIn.out]; simp
              have HNo : Hid (edgeLt (p', q') (p, q) = false → orderB x = false) := fun e => HFa.out (by rw [HAt.out, ← HU.out, e, decide_eq_false HM0.out]; simp)
              clear hm0 hu hjn
              by_cases g1 : p < p'
              · have HF : Hid (orderB x = false) := HNo.out (by unfold edgeLt; simp; omega)
                go_quiet (fail)
                go_wp2_with fail
                go_ret
                exact ⟨rb HF.out.symm, below_drewN HBf.out _⟩
              · cases g2 : (p' == p)
                · have HE : Hid (edgeAt cn x.edg m = true) := HYes.out (by have : p' ≠ p := by simpa using g2
                                                                           unfold edgeLt; simp; omega)
                  go_quiet (fail)
                  go_wp2_with fail
                  go_roundw
                  case rel => exact ⟨m + 1, by omega, by go_num, HSt.out HE.out, below_drewN HBW.out _⟩
                  case measure => simp [intOf]; omega
                · by_cases g3 : q ≤ q'
                  · have HF : Hid (orderB x = false) := HNo.out (by have : p' = p := by simpa using g2
                                                                    unfold edgeLt; simp; omega)
                    go_quiet (fail)
                    go_wp2_with fail
                    go_ret
                    exact ⟨rb HF.out.symm, below_drewN HBf.out _⟩
                  · have HE : Hid (edgeAt cn x.edg m = true) := HYes.out (by have : p' = p := by simpa using g2
                                                                             unfold edgeLt; simp; omega)
                    go_quiet (fail)
                    go_wp2_with fail
                    go_roundw
                    case rel => exact ⟨m + 1, by omega, by go_num, HSt.out HE.out, below_drewN HBW.out _⟩
                    case measure => simp [intOf]; omega
          · have HF : Hid (orderB x = false) := HFa.out (by rw [HAt.out, edgeIn, hpq]; simp)
            go_wp2_with fail
            go_ret
            exact ⟨rb HF.out.symm, HBf.out⟩
        · have hmn : m = en := by omega
          have HF : Hid (orderB x = true) := order_true (by rw [HCl.out]; exact HLim.out.1) (by rw [HEl.out]; exact HLim.out.2.1) (by rw [HK.out]; exact HLim.out.2.2.1) (by rw [HK.out]; exact HLim.out.2.2.2) HCg.out (by have := HAll.out; rw [hmn] at this; unfold edgB; rw [HEl.out, HCl.out]; exact this)
          have HBf : Hid (Below w.heap.size w wr) := HB0.out.trans (HB.out.mono (by omega))
          clear hmn hbel
          go_wp2_with fail
          go_ret
          exact ⟨rb HF.out.symm, HBf.out⟩

end Go.Proofs.YtpedjcabapldgaaDoor
