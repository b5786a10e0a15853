/- The text of an order, as the program writes it: a contract. -/
import Derived.Test.YtpedjcabapldgaaDoorOrdTM
import Derived.Test.YtpedjcabapldgaaDoorOrdI4
import Derived.Maps.AppendAt
namespace Go.Proofs.YtpedjcabapldgaaDoor
open Go.RowKit

theorem ownB_up {base base' : Nat} {w : World} {v : Value} {zs : List Int} (h : OwnB base w v zs) (hb : base' ≤ base) : OwnB base' w v zs := by
  obtain ⟨r1, r2⟩ := h
  refine ⟨r1, ?_⟩
  rcases r2 with r2 | ⟨g, cap, cur, hv, hg, r⟩
  · exact .inl r2
  · exact .inr ⟨g, cap, cur, hv, Nat.le_trans hb hg, r⟩

set_option maxRecDepth 100000 in
set_option maxHeartbeats 8000000 in
theorem implOrderText_any {ca : Option Addr} {cn cc : Nat} {ea : Option Addr} {en ec : Nat} {x : OD} {kx : Int} {w : World} {lo hi : Nat} (h : RdO lo hi w ca cn cc ea en ec x) (hk : x.code = kx) (hhi : hi ≤ w.heap.size) (hbd : BdO x cn en) :
    Calls Tryd.prog 7 #[.agg #[.slice ca cn cc, .slice ea en ec, .int .i64 kx]] w fun e w' => ∃ v, e = .returned v ∧ OwnB w.heap.size w' v (ordT x) ∧ Below w.heap.size w w' := by
  obtain ⟨W0, hW0⟩ : ∃ W0, W0 = w.alloc (.cells #[.slice ca cn cc, .slice ea en ec, .int .i64 kx] 31) := ⟨_, rfl⟩
  have HW0 : Hid (W0 = w.alloc (.cells #[.slice ca cn cc, .slice ea en ec, .int .i64 kx] 31)) := hW0
  have hb0 : Below w.heap.size w W0 := by rw [hW0]; exact (Below.refl _ _).alloc (Nat.le_refl _) _
  have HB0 : Hid (Below w.heap.size w W0) := hb0
  have hs0 : w.heap.size < W0.heap.size := by rw [hW0]; simp
  have hbx : BoxO 31 W0 w.heap.size (.slice ca cn cc) (.slice ea en ec) kx := by rw [hW0]; exact BoxO.new _ w _ _ _
  have HBx : Hid (∀ V, Below W0.heap.size W0 V → BoxO 31 V w.heap.size (.slice ca cn cc) (.slice ea en ec) kx) := fun V hV => hbx.below hV hbx.lt
  have HR : Hid (∀ V, Below W0.heap.size W0 V → RdO lo hi V ca cn cc ea en ec x) := fun V hV => (h.below hb0 hhi).below hV (by omega)
  have HRf : Hid (Below W0.heap.size W0 W0) := Below.refl _ _
  have HCl : Hid (x.cls.length = cn) := h.cls.len
  have HEl : Hid (x.edg.length = en) := h.edg.len
  have HK : Hid (x.code = kx) := hk
  have HBd : Hid (BdO x cn en) := hbd
  have hfc := h.cls.fits
  have hfe := h.edg.fits
  obtain ⟨i0, hi0, hz0, hz1, hz2⟩ := info_parts Tryd.info5d
  obtain ⟨z0, z1, z2⟩ := hbx.cells
  clear h hb0 hW0 hbx hk hbd
  go_enter Tryd.func7, Tryd.ntmps7
  go_upto_region 1 with fail
  rw [← HW0.out]
  go_wp2_with fail
  refine (implOrderOk_any (HR.out _ HRf.out) HK.out (by omega) HBd.out).mono ?_
  rintro e w1 ⟨rfl, hb1⟩
  have HB1 : Hid (Below W0.heap.size W0 w1) := hb1
  have s1 := hb1.size
  clear z0 z1 z2 hb1
  cases hok : orderB x
  · have HE : Hid (ordT x = []) := ordT_no hok
    go_wp2_with fail
    go_ret
    exact ⟨_, rfl, by rw [HE.out]; exact OwnB.nil _ _, HB0.out.trans (HB1.out.mono (by omega))⟩
  have HT : Hid (ordT x = clsLines x.cls cn ++ edgLines x.edg en) := ordT_yes hok HCl.out HEl.out
  have HFit : Hid (OrdFit x cn en) := fit_of hok HCl.out HEl.out HBd.out
  clear hok
  obtain ⟨z0, z1, z2⟩ := (HBx.out _ HB1.out).cells
  go_upto_region 4 with fail
  go_wp2_with fail
  clear z0 z1 z2
  go_loopw [3, 16] (fun v i wr => ∃ (k : Nat) (ov : Value), k ≤ cn ∧ i = .int .i64 k ∧ ov = v ∧ OwnB W0.heap.size wr ov (clsLines x.cls k) ∧ Below W0.heap.size W0 wr) (fun _ i _ => cn - (intOf i).toNat)
  case atStart => exact ⟨0, _, Nat.zero_le _, rfl, rfl, OwnB.nil _ _, HB1.out⟩
  case round =>
    obtain ⟨k, ov, hk, rfl, rfl, hO, hbel⟩ := hrel
    have HO : Hid (OwnB W0.heap.size wr ov (clsLines x.cls k) ∧ Below W0.heap.size W0 wr) := ⟨hO, hbel⟩
    have HLk : Hid ((clsLines x.cls k).length ≤ 51380350) := by
      have h1 := clsLines_len HFit.out k hk
      have h2 := HFit.out.c7
      unfold Hid; omega
    have sr := hbel.size
    clear hO hbel
    by_cases hlt : k < cn
    · have hR := (HR.out _ HO.out.2).cls
      obtain ⟨b, off, rfl⟩ := hR.block (by omega)
      obtain ⟨da, dn, dc, c0, hr⟩ := hR.class hlt
      have HE : Hid (∀ V, Below W0.heap.size W0 V → RSS lo hi V da dn dc (x.cls.getD k [])) := by
        intro V hV
        exact hr.same (fun b h1 h2 => (hV.block b (by omega)).trans (HO.out.2.block b (by omega)).symm)
      have hki : (k : Int) < (cn : Int) := by omega
      have HEn : Hid ((x.cls.getD k []).length = dn) := hr.len
      have HSt : Hid (clsLines x.cls (k + 1) = clsLines x.cls k ++ clsW ++ digT k ++ wordsT ((x.cls.getD k []).take dn) ++ [10]) := by
        rw [Hid, ← hr.len, List.take_length]
        simp only [clsLines, clsLine, List.append_assoc]
      have hef := hr.fits
      have HBk : Hid (dn ≤ 1048576) := by have := HFit.out.sz k hlt; rw [hr.len] at this; exact this
      obtain ⟨X, hX⟩ : ∃ X, X = clsLines x.cls k := ⟨_, rfl⟩
      rw [← hX] at HO HLk HSt
      have hXl := HLk.out
      have hk100 : k < 100 := by have := HFit.out.c7; omega
      have HWl : Hid (∀ j, j ≤ dn → (wordsT ((x.cls.getD k []).take j)).length ≤ 7340032) := by
        intro j hj
        have h1 := wordsT_len (c := (x.cls.getD k []).take j) (fun z hz => up_short (HFit.out.up k hlt z (List.mem_of_mem_take hz)))
        have h2 : ((x.cls.getD k []).take j).length ≤ 1048576 := by rw [List.length_take]; have := HBk.out; omega
        omega
      clear hR hr hX
      go_wp2_with (first | (go_at_call 20; refine (addNumber_any clsS clsW clsS_cells hk100 HO.out.1 sr (by have e : clsW.length = 6 := rfl; omega)).mono ?_; rintro e w2 ⟨v2, rfl, h1, h2⟩; have HO2 : Hid (OwnB W0.heap.size w2 v2 (X ++ clsW ++ digT k) ∧ Below W0.heap.size W0 w2) := ⟨h1, HO.out.2.trans h2.1⟩; clear h1 h2) | fail)
      obtain ⟨Y, hY⟩ : ∃ Y, Y = X ++ clsW ++ digT k := ⟨_, rfl⟩
      rw [← hY] at HO2 HSt
      have HYl : Hid (Y.length ≤ 51380400) := by
        have h1 := digT_len k
        have e : clsW.length = 6 := rfl
        rw [Hid, hY, List.length_append, List.length_append]
        omega
      clear hY c0 hk100
      rename World => wo
      go_loopw [3, 26] (fun v i wr => ∃ (j : Nat) (ou : Value), j ≤ dn ∧ i = .int .i64 j ∧ ou = v ∧ OwnB W0.heap.size wr ou (Y ++ wordsT ((x.cls.getD k []).take j)) ∧ Below W0.heap.size W0 wr) (fun _ i _ => dn - (intOf i).toNat)
      case atStart => exact ⟨0, _, Nat.zero_le _, rfl, rfl, by simpa [wordsT] using HO2.out.1, HO2.out.2⟩
      case round =>
        obtain ⟨j, ou, hj, rfl, rfl, hJ, hbj⟩ := hrel
        obtain ⟨Z, hZ⟩ : ∃ Z, Z = Y ++ wordsT ((x.cls.getD k []).take j) := ⟨_, rfl⟩
        have HZ0 : Hid (Z = Y ++ wordsT ((x.cls.getD k []).take j)) := hZ
        have HJ : Hid (OwnB W0.heap.size wr ou Z ∧ Below W0.heap.size W0 wr) := by rw [Hid, hZ]; exact ⟨hJ, hbj⟩
        have HZl : Hid (Z.length ≤ 58720500) := by
          have h1 := HYl.out
          have h2 := HWl.out j hj
          rw [Hid, hZ, List.length_append]
          omega
        have sj := hbj.size
        clear hJ hbj hZ
        by_cases hlj : j < dn
        · have hE1 := HE.out _ HJ.out.2
          obtain ⟨b2, off2, rfl⟩ := hE1.block (by omega)
          obtain ⟨za, zn, zc, c1, hz⟩ := hE1.word hlj
          obtain ⟨z, hzz⟩ : ∃ z, z = (x.cls.getD k []).getD j [] := ⟨_, rfl⟩
          rw [← hzz] at hz
          have hjl : j < (x.cls.getD k []).length := by rw [HEn.out]; exact hlj
          have hup : upOk z = true := HFit.out.up k hlt z (by rw [hzz, getD_at hjl]; exact List.getElem_mem _)
          have hzl := longB_of_up hup
          have hzn : z.length = zn := hz.len
          obtain ⟨zb, zo, rfl⟩ : ∃ zb zo, za = some ⟨zb, zo, none⟩ := by
            rcases hz.cells with h0 | ⟨zb, zo, e, _⟩
            · omega
            · exact ⟨zb, zo, e⟩
          have HTk : Hid (Y ++ wordsT ((x.cls.getD k []).take (j + 1)) = Z ++ [32] ++ z) := by rw [Hid, wordsT_take (by rw [HEn.out]; exact hlj), HZ0.out, ← hzz]; simp
          have HZr : Hid (∀ V, Below W0.heap.size W0 V → Rd lo hi V (some ⟨zb, zo, none⟩) zn zc z) := by
            intro V hV
            exact hz.same (fun b h1 h2 => (hV.block b (by omega)).trans (HJ.out.2.block b (by omega)).symm)
          have hji : (j : Int) < (dn : Int) := by omega
          have HZn : Hid (z.length = zn) := hzn
          have hzn6 : zn ≤ 6 := by omega
          have hlx : (z.map (Value.int .u8)).length = zn * 1 := by simp [hzn]
          clear hE1 hz hzz hup hzl hzn hjl
          go_wp2_with (first
            | (at_builtin; refine wpList_append_own _ rfl (.tmp 30) (.tmp 31) 27 rfl W0.heap.size 5 i0 (.int .u8 0) 1 1 Tryd.underlying27 hi0 hz0 hz1 hz2 rfl (by decide) ou Z.length (Z.map (Value.int .u8)) rfl (own_alloc HJ.out.1 _) ⟨wr.heap.size, 0, none⟩ 1 1 [.int .u8 32] rfl rfl (cell_one_new _ _ _) (by simp [Value.oneCell']) (by unfold maxLen; have := HZl.out; omega) (by have := HZl.out; omega) (by simp; omega) ?_; intro v3 w3 ho3 hg3 hn3; have HF3 : Hid (OwnB W0.heap.size w3 v3 (Z ++ [32]) ∧ Below W0.heap.size W0 w3) := ⟨(own_byte HJ.out.1 HJ.out.2.size ho3 hg3).1, HJ.out.2.trans (own_byte HJ.out.1 HJ.out.2.size ho3 hg3).2.1⟩; clear ho3 hg3 hn3; obtain ⟨Z1, hZ1⟩ : ∃ Z1, Z1 = Z ++ [32] := ⟨_, rfl⟩; rw [← hZ1] at HF3 HTk; have HZ1l : Hid (Z1.length ≤ 58720501) := (by have := HZl.out; rw [Hid, hZ1, List.length_append]; simp only [List.length_cons, List.length_nil]; omega); have HNews : Hid (∀ j u, (z.map (Value.int .u8))[j]? = some u → w3.cell? ((⟨zb, zo, none⟩ : Addr).add j) = some u) := rd_news (HZr.out _ HF3.out.2); clear hZ1)
            | (at_builtin; refine wpList_append_own _ rfl (.tmp 32) (.tmp 33) 27 rfl W0.heap.size 5 i0 (.int .u8 0) 1 1 Tryd.underlying27 hi0 hz0 hz1 hz2 rfl (by decide) v3 Z1.length (Z1.map (Value.int .u8)) rfl HF3.out.1 ⟨zb, zo, none⟩ zn zc (z.map (Value.int .u8)) rfl hlx HNews.out (oneCB _) (by unfold maxLen; have := HZ1l.out; omega) (by have := HZ1l.out; omega) HF3.out.2.size ?_; intro v4 w4 ho4 hg4 hn4; have HF4 : Hid (OwnB W0.heap.size w4 v4 (Z1 ++ z) ∧ Below W0.heap.size W0 w4) := ⟨(own_word HZn.out HF3.out.1 HF3.out.2.size ho4 hg4).1, HF3.out.2.trans (own_word HZn.out HF3.out.1 HF3.out.2.size ho4 hg4).2.1⟩; clear ho4 hg4 hn4) | fail)
          go_roundw
          case rel => exact ⟨j + 1, v4, by omega, by go_num, rfl, by rw [HTk.out]; exact HF4.out.1, HF4.out.2⟩
          case measure => simp [intOf]; omega
        · have hje : j = dn := by omega
          have HSt2 : Hid (clsLines x.cls (k + 1) = Z ++ [10]) := by rw [Hid, HSt.out, HZ0.out, hje]
          clear hje
          go_wp2_with (first | (at_builtin; refine wpList_append_own _ rfl (.tmp 36) (.tmp 37) 27 rfl W0.heap.size 5 i0 (.int .u8 0) 1 1 Tryd.underlying27 hi0 hz0 hz1 hz2 rfl (by decide) ou Z.length (Z.map (Value.int .u8)) rfl (own_alloc HJ.out.1 _) ⟨wr.heap.size, 0, none⟩ 1 1 [.int .u8 10] rfl rfl (cell_one_new _ _ _) (by simp [Value.oneCell']) (by unfold maxLen; have := HZl.out; omega) (by have := HZl.out; omega) (by simp; omega) ?_; intro v5 w5 ho5 hg5 hn5; have HF5 : Hid (OwnB W0.heap.size w5 v5 (Z ++ [10]) ∧ Below W0.heap.size W0 w5) := ⟨(own_byte HJ.out.1 HJ.out.2.size ho5 hg5).1, HJ.out.2.trans (own_byte HJ.out.1 HJ.out.2.size ho5 hg5).2.1⟩; clear ho5 hg5 hn5) | fail)
          go_roundw
          case rel => exact ⟨k + 1, v5, by omega, by go_num, rfl, by rw [HSt2.out]; exact HF5.out.1, HF5.out.2⟩
          case measure => simp [intOf]; omega
    · have hkn : k = cn := by omega
      have HTc : Hid (ordT x = clsLines x.cls k ++ edgLines x.edg en) := by rw [Hid, HT.out, hkn]
      clear hkn
      obtain ⟨X, hX⟩ : ∃ X, X = clsLines x.cls k := ⟨_, rfl⟩
      rw [← hX] at HO HLk HTc
      clear hX
      obtain ⟨z0, z1, z2⟩ := (HBx.out _ HO.out.2).cells
      go_upto_region 15 with fail
      go_wp2_with fail
      clear z0 z1 z2
      rename World => wo
      go_loopw [3, 43] (fun v i wr => ∃ (m : Nat) (ou : Value), m ≤ en ∧ i = .int .i64 m ∧ ou = v ∧ OwnB W0.heap.size wr ou (X ++ edgLines x.edg m) ∧ Below W0.heap.size W0 wr) (fun _ i _ => en - (intOf i).toNat)
      case atStart => exact ⟨0, _, Nat.zero_le _, rfl, rfl, by simpa [edgLines] using HO.out.1, HO.out.2⟩
      case round =>
        obtain ⟨m, ou, hm, rfl, rfl, hJ, hbj⟩ := hrel
        obtain ⟨Z, hZ⟩ : ∃ Z, Z = X ++ edgLines x.edg m := ⟨_, rfl⟩
        have HZ0 : Hid (Z = X ++ edgLines x.edg m) := hZ
        have HJ : Hid (OwnB W0.heap.size wr ou Z ∧ Below W0.heap.size W0 wr) := by rw [Hid, hZ]; exact ⟨hJ, hbj⟩
        have HZl : Hid (Z.length ≤ 58720500) := by
          have h1 := HLk.out
          have h2 := edgLines_len x.edg m
          have h3 := HFit.out.e50
          rw [Hid, hZ, List.length_append]
          omega
        have sj := hbj.size
        clear hJ hZ
        by_cases hlm : m < en
        · have hR := (HR.out _ hbj).edg
          obtain ⟨b, off, rfl⟩ : ∃ b off, ea = some ⟨b, off, none⟩ := by
            rcases hR.cells with h0 | ⟨b, off, e, _⟩
            · omega
            · exact ⟨b, off, e⟩
          obtain ⟨c0, c1, _⟩ := hR.at hlm
          obtain ⟨a1, a2, a3, a4⟩ := HFit.out.ed m hlm
          obtain ⟨t, ht⟩ : ∃ t, t = x.edg.getD m (0, 0) := ⟨_, rfl⟩
          rw [← ht] at c0 c1 a1 a2 a3 a4
          have HLn : Hid (X ++ edgLines x.edg (m + 1) = Z ++ edgW ++ digT t.1.toNat ++ [32] ++ digT t.2.toNat ++ [10]) := by
            rw [Hid, HZ0.out, ht]
            simp only [edgLines, edgLine, List.append_assoc]
          obtain ⟨p, q⟩ := t
          obtain ⟨pn, hpn⟩ := Int.eq_ofNat_of_zero_le a1
          obtain ⟨qn, hqn⟩ := Int.eq_ofNat_of_zero_le a3
          simp only at hpn hqn c0 c1 a2 a4 HLn
          subst hpn hqn
          have hp100 : pn < 100 := by omega
          have hq100 : qn < 100 := by omega
          simp only [Int.toNat_natCast] at HLn
          have hki : (m : Int) < (en : Int) := by omega
          obtain ⟨W, hW⟩ : ∃ W, W = wr.alloc (.cells #[.int .i64 (pn : Int), .int .i64 (qn : Int)] 44) := ⟨_, rfl⟩
          have HW : Hid (W = wr.alloc (.cells #[.int .i64 (pn : Int), .int .i64 (qn : Int)] 44)) := hW
          have HJW : Hid (OwnB W0.heap.size W ou Z ∧ Below W0.heap.size W0 W) := by rw [Hid, hW]; exact ⟨own_alloc HJ.out.1 _, HJ.out.2.alloc HJ.out.2.size _⟩
          have hbp : BoxP 44 W wr.heap.size (pn : Int) (qn : Int) := by rw [hW]; exact BoxP.new _ wr _ _
          have HBp : Hid (BoxP 44 W wr.heap.size (pn : Int) (qn : Int)) := hbp
          have sW : W0.heap.size ≤ W.heap.size := HJW.out.2.size
          have hzl := HZl.out
          clear hR hbj ht hW a1 a2 a3 a4
          go_upto_region 18 with fail
          rw [← HW.out]
          clear c0 c1
          obtain ⟨y0, y1⟩ := hbp.cells
          clear hbp
          go_wp2_with (first
            | (go_at_call 20; refine (addNumber_any edgS edgW edgS_cells hp100 HJW.out.1 sW (by have e : edgW.length = 5 := rfl; omega)).mono ?_; rintro e w2 ⟨v2, rfl, h1, h2⟩; have HO2 : Hid (OwnB W0.heap.size w2 v2 (Z ++ edgW ++ digT pn) ∧ Below W0.heap.size W0 w2) := ⟨h1, HJW.out.2.trans h2.1⟩; have HBp2 : Hid (BoxP 44 w2 wr.heap.size (pn : Int) (qn : Int)) := h2.2 _ _ _ _ (by decide) HBp.out; clear h1 h2 y0 y1; obtain ⟨y0, y1⟩ := HBp2.out.cells; obtain ⟨Y, hY⟩ : ∃ Y, Y = Z ++ edgW ++ digT pn := ⟨_, rfl⟩; rw [← hY] at HO2 HLn; have hYl : Y.length ≤ 58720600 := (by have h1 := digT_len pn; have e : edgW.length = 5 := rfl; rw [hY, List.length_append, List.length_append]; omega); have s2 := HO2.out.2.size; clear hY)
            | (go_at_call 20; refine (addNumber_any gapS [32] gapS_cells hq100 HO2.out.1 s2 (by simp only [List.length_cons, List.length_nil]; omega)).mono ?_; rintro e w3 ⟨v3, rfl, h1, h2⟩; have HO3 : Hid (OwnB W0.heap.size w3 v3 (Y ++ [32] ++ digT qn) ∧ Below W0.heap.size W0 w3) := ⟨h1, HO2.out.2.trans h2.1⟩; clear h1 h2; obtain ⟨U, hU⟩ : ∃ U, U = Y ++ [32] ++ digT qn := ⟨_, rfl⟩; rw [← hU] at HO3 HLn; have HUl : Hid (U.length ≤ 58720700) := (by have h1 := digT_len qn; rw [Hid, hU, List.length_append, List.length_append]; simp only [List.length_cons, List.length_nil]; omega); have s3 := HO3.out.2.size; clear hU)
            | (at_builtin; refine wpList_append_own _ rfl (.tmp 55) (.tmp 56) 27 rfl W0.heap.size 5 i0 (.int .u8 0) 1 1 Tryd.underlying27 hi0 hz0 hz1 hz2 rfl (by decide) v3 U.length (U.map (Value.int .u8)) rfl (own_alloc HO3.out.1 _) ⟨w3.heap.size, 0, none⟩ 1 1 [.int .u8 10] rfl rfl (cell_one_new _ _ _) (by simp [Value.oneCell']) (by unfold maxLen; have := HUl.out; omega) (by have := HUl.out; omega) (by simp; omega) ?_; intro v6 w6 ho6 hg6 hn6; have HF6 : Hid (OwnB W0.heap.size w6 v6 (U ++ [10]) ∧ Below W0.heap.size W0 w6) := ⟨(own_byte HO3.out.1 HO3.out.2.size ho6 hg6).1, HO3.out.2.trans (own_byte HO3.out.1 HO3.out.2.size ho6 hg6).2.1⟩; clear ho6 hg6 hn6) | fail)
          go_roundw
          case rel => exact ⟨m + 1, v6, by omega, by go_num, rfl, by rw [HLn.out]; exact HF6.out.1, HF6.out.2⟩
          case measure => simp [intOf]; omega
        · have hmn : m = en := by omega
          have HFn : Hid (ordT x = Z) := by rw [Hid, HTc.out, HZ0.out, hmn]
          clear hmn hbj
          go_wp2_with fail
          go_ret
          exact ⟨_, rfl, by rw [HFn.out]; exact ownB_up HJ.out.1 (Nat.le_of_lt hs0), HB0.out.trans (HJ.out.2.mono (by omega))⟩

end Go.Proofs.YtpedjcabapldgaaDoor
