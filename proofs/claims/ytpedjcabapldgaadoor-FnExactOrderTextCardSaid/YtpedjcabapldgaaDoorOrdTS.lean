/- The text of an order, as the document has it: a contract. -/
import Derived.Test.YtpedjcabapldgaaDoorOrdTI
import Derived.Test.YtpedjcabapldgaaDoorOrdS
import Derived.Test.YtpedjcabapldgaaDoorConSayG
import Derived.Deep.RegionHeld3
import Derived.Deep.AppendLies
namespace Go.Proofs.YtpedjcabapldgaaDoor
open Go.RowKit

/-- Bytes of the call's own, behind all that lay there. -/
structure Tx (W0 V : World) (v : Value) (xs : List Int) : Prop where
  own : OwnB W0.heap.size V v xs
  bel : Below W0.heap.size W0 V

theorem Tx.app {W0 V w2 : World} {v v' : Value} {xs ys : List Int} {n : Nat} (h : Tx W0 V v xs) (hn : (xs ++ ys).length = n) (hown : w2.ownsRow W0.heap.size 5 1 v' n (xs.map (Value.int .u8) ++ ys.map (Value.int .u8))) (hgrow : V.grownBy w2 v.ownBlock) : Tx W0 w2 v' (xs ++ ys) := by
  subst hn
  rw [List.length_append] at hown
  obtain ⟨a, b⟩ := ownB_app h.own h.bel.size hown hgrow
  exact ⟨a, h.bel.trans b.1⟩

theorem row_alloc {base e n : Nat} {W : World} {v : Value} {xs : List Value} (h : W.ownsRow base e 1 v n xs) (o : Obj) : (W.alloc o).ownsRow base e 1 v n xs := h.alloc o

/-- A blank in a block of its own. -/
def Sp (V : World) (v : Value) (g : Nat) : Prop := V.heap[g]? = some (.cells #[.int .u8 32] 5 (0, 0)) ∧ v.ownBlock ≠ some g
theorem Sp.new {base : Nat} {V : World} {v : Value} {xs : List Int} (h : OwnB base V v xs) : Sp (V.alloc (.cells #[.int .u8 32] 5)) v V.heap.size := ⟨World.alloc_heap_new V _, fun e => by have := (World.ownsRow.lt h _ e).2; omega⟩
theorem Sp.app {V w' : World} {v v' : Value} {g : Nat} (h : Sp V v g) (hg : V.grownBy w' v.ownBlock) (ha : v'.ownBlock = v.ownBlock ∨ v'.ownBlock = some V.heap.size) : Sp w' v' g := by
  have hlt : g < V.heap.size := (Array.getElem?_eq_some_iff.1 h.1).1
  refine ⟨(hg.block g hlt (fun e => h.2 e.symm)).trans h.1, fun e => ?_⟩
  rcases ha with q | q
  · rw [q] at e; exact h.2 e
  · rw [q] at e; simp at e; omega
theorem Sp.below {V w' : World} {v : Value} {g : Nat} (h : Sp V v g) (hb : Below V.heap.size V w') : Sp w' v g := ⟨(hb.block g (Array.getElem?_eq_some_iff.1 h.1).1).trans h.1, h.2⟩
theorem Sp.news {V : World} {v : Value} {g : Nat} (h : Sp V v g) : ∀ j u, [Value.int .u8 32][j]? = some u → V.cell? ((⟨g, 0, none⟩ : Addr).add j) = some u := World.news_of_block h.1
theorem digT_byts {n : Nat} (h : n < 100) : ∀ i, 0 ≤ (digT n).getD i 0 ∧ (digT n).getD i 0 ≤ 255 := by
  intro i
  by_cases hi : i < (digT n).length
  · rw [getD_at hi]; exact digT_byt h _ (List.getElem_mem hi)
  · rw [List.getD_eq_getElem?_getD, List.getElem?_eq_none (by omega)]; simp

set_option maxRecDepth 100000 in
set_option maxHeartbeats 16000000 in
theorem specOrderText_any {ca : Option Addr} {cn cc : Nat} {ea : Option Addr} {en ec : Nat} {x : OD} {kx : Int} {w : World} {lo hi : Nat} (h : RdO lo hi w ca cn cc ea en ec x) (hk : x.code = kx) (hhi : hi ≤ w.heap.size) (hlo : lo ≤ w.heap.size) (hbd : BdO x cn en) :
    Calls Tryd.prog 5 #[.agg #[.slice ca cn cc, .slice ea en ec, .int .i64 kx]] w fun e w' => ∃ v, e = .returned v ∧ OwnB w.heap.size w' v (ordT x) ∧ Below w.heap.size w w' := by
  obtain ⟨W0, hW0⟩ : ∃ W0, W0 = w.alloc (.cells #[.slice ca cn cc, .slice ea en ec, .int .i64 kx] 31) := ⟨_, rfl⟩
  have HW0 : Hid (W0 = w.alloc (.cells #[.slice ca cn cc, .slice ea en ec, .int .i64 kx] 31)) := hW0
  have hb0 : Below w.heap.size w W0 := by rw [hW0]; exact (Below.refl _ _).alloc (Nat.le_refl _) _
  have HB0 : Hid (Below w.heap.size w W0) := hb0
  have hs0 : w.heap.size < W0.heap.size := by rw [hW0]; simp
  have hbx : BoxO 31 W0 w.heap.size (.slice ca cn cc) (.slice ea en ec) kx := by rw [hW0]; exact BoxO.new _ w _ _ _
  have HBx : Hid (∀ V, Below W0.heap.size W0 V → BoxO 31 V w.heap.size (.slice ca cn cc) (.slice ea en ec) kx) := fun V hV => hbx.below hV hbx.lt
  have HR : Hid (∀ V, Below W0.heap.size W0 V → RdO lo hi V ca cn cc ea en ec x) := fun V hV => (h.below hb0 hhi).below hV (by omega)
  have HRf : Hid (Below W0.heap.size W0 W0) := Below.refl _ _
  have HCl : Hid (x.cls.length = cn) := h.cls.len
  have HEl : Hid (x.edg.length = en) := h.edg.len
  have HK : Hid (x.code = kx) := hk
  have HBd : Hid (BdO x cn en) := hbd
  have hfc := h.cls.fits
  have hfe := h.edg.fits
  obtain ⟨i0, hi0, hz0, hz1, hz2⟩ := info_parts Tryd.info5d
  obtain ⟨z0, z1, z2⟩ := hbx.cells
  clear h hb0 hW0 hbx hk hbd
  go_enter Tryd.func5, Tryd.ntmps5
  go_upto_region 2 with fail
  rw [← HW0.out]
  go_wp2_with fail
  refine (specOrderOk_any (HR.out _ HRf.out) HK.out (by omega) (by omega) HBd.out).mono ?_
  rintro e w1 ⟨rfl, hb1⟩
  have HB1 : Hid (Below W0.heap.size W0 w1) := hb1
  have s1 := hb1.size
  clear z0 z1 z2 hb1
  cases hok : orderB x
  · have HE : Hid (ordT x = []) := ordT_no hok
    go_wp2_with fail
    go_ret
    exact ⟨_, rfl, by rw [HE.out]; exact OwnB.nil _ _, HB0.out.trans (HB1.out.mono (by omega))⟩
  have HT : Hid (ordT x = clsLines x.cls cn ++ edgLines x.edg en) := ordT_yes hok HCl.out HEl.out
  have HFit : Hid (OrdFit x cn en) := fit_of hok HCl.out HEl.out HBd.out
  have HOne : Hid (∀ u ∈ [Value.int .u8 32], u.oneCell' = true) := by simp [Hid, Value.oneCell']
  have hes : edgS.size = 5 := by decide +kernel
  have hcs6 : clsS.size = 6 := by decide +kernel
  clear hok
  go_upto_region 4 with fail
  go_wp2_with fail
  go_loopw [3, 4] (fun v i wr => ∃ (k : Nat) (ov : Value), k ≤ cn ∧ i = .int .i64 k ∧ ov = v ∧ Tx W0 wr ov (clsLines x.cls k)) (fun _ i _ => cn - (intOf i).toNat)
  case atStart => exact ⟨0, _, Nat.zero_le _, rfl, rfl, OwnB.nil _ _, HB1.out⟩
  case round =>
    obtain ⟨k, ov, hk, rfl, rfl, hO⟩ := hrel
    have HO : Hid (Tx W0 wr ov (clsLines x.cls k)) := hO
    have HLk : Hid ((clsLines x.cls k).length ≤ 51380350) := by
      have h1 := clsLines_len HFit.out k hk
      have h2 := HFit.out.c7
      unfold Hid; omega
    have sr := hO.bel.size
    obtain ⟨z0, z1, z2⟩ := (HBx.out _ hO.bel).cells
    clear hO
    by_cases hlt : k < cn
    · have hR := (HR.out _ HRf.out).cls
      obtain ⟨b, off, rfl⟩ := hR.block (by omega)
      obtain ⟨da, dn, dc, c00, hr⟩ := hR.class hlt
      have HE : Hid (∀ V, Below W0.heap.size W0 V → V.cell? ⟨b, off + k, none⟩ = some (.slice da dn dc) ∧ RSS lo hi V da dn dc (x.cls.getD k [])) := fun V hV => ⟨(hV.cell (p := ⟨b, off + k, none⟩) (block_lt_of_cell c00)).trans c00, hr.below hV (by omega)⟩
      have hki : (k : Int) < (cn : Int) := by omega
      have HEn : Hid ((x.cls.getD k []).length = dn) := hr.len
      have HSt : Hid (clsLines x.cls (k + 1) = clsLines x.cls k ++ clsW ++ digT k ++ wordsT ((x.cls.getD k []).take dn) ++ [10]) := by
        rw [Hid, ← hr.len, List.take_length]
        simp only [clsLines, clsLine, List.append_assoc]
      have hef := hr.fits
      have HBk : Hid (dn ≤ 1048576) := by have := HFit.out.sz k hlt; rw [hr.len] at this; exact this
      obtain ⟨X, hX⟩ : ∃ X, X = clsLines x.cls k := ⟨_, rfl⟩
      rw [← hX] at HO HLk HSt
      have hXl := HLk.out
      have hk100 : k < 100 := by have := HFit.out.c7; omega
      have hdl := digT_len k
      have HWl : Hid (∀ j, j ≤ dn → (wordsT ((x.cls.getD k []).take j)).length ≤ 7340032) := by
        intro j hj
        have h1 := wordsT_len (c := (x.cls.getD k []).take j) (fun z hz => up_short (HFit.out.up k hlt z (List.mem_of_mem_take hz)))
        have h2 : ((x.cls.getD k []).take j).length ≤ 1048576 := by rw [List.length_take]; have := HBk.out; omega
        omega
      clear hR hr hX c00
      go_upto_region 8 with (first
        | (at_builtin; refine Lib.wpList_append_own_string _ rfl (.tmp 17) (.const (.string clsS)) 27 9 rfl W0.heap.size 5 i0 Tryd.underlying27 Tryd.underlying9 hi0 hz0 hz1 hz2 ov X.length (X.map (Value.int .u8)) rfl HO.out.own clsS rfl (by unfold maxLen; omega) (by omega) sr ?_; intro v2 w2 ho2 hg2 hn2; have HO2 : Hid (Tx W0 w2 v2 (X ++ clsW)) := HO.out.app (ys := clsW) (by rw [List.length_append]; try rfl) (by rw [hcs6, clsS_cells] at ho2; exact ho2) hg2; clear ho2 hg2 hn2; obtain ⟨X2, hX2⟩ : ∃ X2, X2 = X ++ clsW := ⟨_, rfl⟩; rw [← hX2] at HO2 HSt; have hX2l : X2.length ≤ 51380400 := (by have e : clsW.length = 6 := rfl; rw [hX2, List.length_append]; omega); have s2 := HO2.out.bel.size; clear hX2)
        | (go_at_call 16; refine (l5digits_any hk100 w2).mono ?_; rintro e w3 ⟨vd, rfl, hd3, hb3⟩; have HO3 : Hid (Tx W0 w3 v2 X2) := ⟨HO2.out.own.below hb3 (Nat.le_refl _), HO2.out.bel.trans (hb3.mono s2)⟩; obtain ⟨ga, gc, gb, rfl, hgr, hga, _, _⟩ := hd3.form (digT_byts hk100); obtain rfl := hga.resolve_left (by omega); have HNd : Hid (∀ j u, ((digT k).map (Value.int .u8))[j]? = some u → w3.cell? ((⟨gb, 0, none⟩ : Addr).add j) = some u) := rd_news hgr; clear hd3 hb3 hgr)
        | (at_builtin; refine wpList_append_own _ rfl (.tmp 18) (.tmp 20) 27 rfl W0.heap.size 5 i0 (.int .u8 0) 1 1 Tryd.underlying27 hi0 hz0 hz1 hz2 rfl (by decide) v2 X2.length (X2.map (Value.int .u8)) rfl HO3.out.own ⟨gb, 0, none⟩ (digT k).length gc ((digT k).map (Value.int .u8)) rfl (by simp) HNd.out (oneCB _) (by unfold maxLen; omega) (by omega) HO3.out.bel.size ?_; intro v4 w4 ho4 hg4 hn4; have HO4 : Hid (Tx W0 w4 v4 (X2 ++ digT k)) := HO3.out.app (by rw [List.length_append]) ho4 hg4; clear ho4 hg4 hn4) | fail)
      obtain ⟨Y, hY⟩ : ∃ Y, Y = X2 ++ digT k := ⟨_, rfl⟩
      rw [← hY] at HO4 HSt
      have HYl : Hid (Y.length ≤ 51380410) := by rw [Hid, hY, List.length_append]; omega
      clear hY hk100 z0 z1 z2 hdl
      go_wp2_with fail
      rename World => wo
      go_loopw [3, 5] (fun v i wr => ∃ (j : Nat) (ou : Value), j ≤ dn ∧ i = .int .i64 j ∧ ou = v ∧ Tx W0 wr ou (Y ++ wordsT ((x.cls.getD k []).take j))) (fun _ i _ => dn - (intOf i).toNat)
      case atStart => exact ⟨0, _, Nat.zero_le _, rfl, rfl, by simpa [wordsT] using HO4.out.own, HO4.out.bel⟩
      case round =>
        obtain ⟨j, ou, hj, rfl, rfl, hJ⟩ := hrel
        obtain ⟨Z, hZ⟩ : ∃ Z, Z = Y ++ wordsT ((x.cls.getD k []).take j) := ⟨_, rfl⟩
        have HZ0 : Hid (Z = Y ++ wordsT ((x.cls.getD k []).take j)) := hZ
        have HJ : Hid (Tx W0 wr ou Z) := by rw [Hid, hZ]; exact hJ
        have HZl : Hid (Z.length ≤ 58720500) := by
          have h1 := HYl.out
          have h2 := HWl.out j hj
          rw [Hid, hZ, List.length_append]
          omega
        have sj := hJ.bel.size
        obtain ⟨z0, z1, z2⟩ := (HBx.out _ hJ.bel).cells
        obtain ⟨c0, hE1⟩ := HE.out _ hJ.bel
        clear hJ hZ
        by_cases hlj : j < dn
        · obtain ⟨b2, off2, rfl⟩ := hE1.block (by omega)
          obtain ⟨c00, hE0⟩ := HE.out _ HRf.out
          obtain ⟨za, zn, zc, c10, hz⟩ := hE0.word hlj
          obtain ⟨z, hzz⟩ : ∃ z, z = (x.cls.getD k []).getD j [] := ⟨_, rfl⟩
          rw [← hzz] at hz
          have hjl : j < (x.cls.getD k []).length := by rw [HEn.out]; exact hlj
          have hup : upOk z = true := HFit.out.up k hlt z (by rw [hzz, getD_at hjl]; exact List.getElem_mem _)
          have hzl := longB_of_up hup
          have hzn : z.length = zn := hz.len
          obtain ⟨zb, zo, rfl⟩ : ∃ zb zo, za = some ⟨zb, zo, none⟩ := by
            rcases hz.cells with h0 | ⟨zb, zo, e, _⟩
            · omega
            · exact ⟨zb, zo, e⟩
          have HTk : Hid (Y ++ wordsT ((x.cls.getD k []).take (j + 1)) = Z ++ [32] ++ z) := by rw [Hid, wordsT_take (by rw [HEn.out]; exact hlj), HZ0.out, ← hzz]; simp
          have HZr : Hid (∀ V, Below W0.heap.size W0 V → Rd lo hi V (some ⟨zb, zo, none⟩) zn zc z) := fun V hV => hz.below hV (by omega)
          have HK11 : Hid (∀ V, Below W0.heap.size W0 V → V.cell? ⟨w.heap.size, 0, none⟩ = some (.slice (some ⟨b, off, none⟩) cn cc) ∧ V.cell? ⟨b, off + k, none⟩ = some (.slice (some ⟨b2, off2, none⟩) dn dc) ∧ V.cell? ⟨b2, off2 + j, none⟩ = some (.slice (some ⟨zb, zo, none⟩) zn zc)) := fun V hV => ⟨(HBx.out V hV).cells.1, (HE.out V hV).1, (hV.cell (p := ⟨b2, off2 + j, none⟩) (block_lt_of_cell c10)).trans c10⟩
          have hji : (j : Int) < (dn : Int) := by omega
          have HZn : Hid (z.length = zn) := hzn
          have hzn6 : 0 < zn ∧ zn ≤ 6 := by omega
          have hlx : (z.map (Value.int .u8)).length = zn * 1 := by simp [hzn]
          have c1 := (HK11.out _ HJ.out.bel).2.2
          have HKd : Hid (wr.drew.cell? ⟨w.heap.size, 0, none⟩ = some (.slice (some ⟨b, off, none⟩) cn cc) ∧ wr.drew.cell? ⟨b, off + k, none⟩ = some (.slice (some ⟨b2, off2, none⟩) dn dc) ∧ wr.drew.cell? ⟨b2, off2 + j, none⟩ = some (.slice (some ⟨zb, zo, none⟩) zn zc)) := HK11.out _ HJ.out.bel.drew
          have HKc : Hid ((wr.alloc (.cells #[.int .u8 32] 5)).drew.cell? ⟨w.heap.size, 0, none⟩ = some (.slice (some ⟨b, off, none⟩) cn cc) ∧ (wr.alloc (.cells #[.int .u8 32] 5)).drew.cell? ⟨b, off + k, none⟩ = some (.slice (some ⟨b2, off2, none⟩) dn dc) ∧ (wr.alloc (.cells #[.int .u8 32] 5)).drew.cell? ⟨b2, off2 + j, none⟩ = some (.slice (some ⟨zb, zo, none⟩) zn zc)) := HK11.out _ (HJ.out.bel.alloc sj _).drew
          have HTc : Hid (Tx W0 (wr.alloc (.cells #[.int .u8 32] 5)).drew ou Z) := ⟨(own_alloc HJ.out.own _ : OwnB W0.heap.size (wr.alloc (.cells #[.int .u8 32] 5)) ou Z), (HJ.out.bel.alloc sj _).drew⟩
          have HSc : Hid (Sp (wr.alloc (.cells #[.int .u8 32] 5)).drew ou wr.heap.size) := Sp.new HJ.out.own
          clear hE1 hE0 c00 c10 hz hzz hup hzl hzn hjl
          go_upto_region 11 with fail
          first | go_region_held3 (fun V => V.cell? ⟨w.heap.size, 0, none⟩ = some (.slice (some ⟨b, off, none⟩) cn cc) ∧ V.cell? ⟨b, off + k, none⟩ = some (.slice (some ⟨b2, off2, none⟩) dn dc) ∧ V.cell? ⟨b2, off2 + j, none⟩ = some (.slice (some ⟨zb, zo, none⟩) zn zc)) (first | with_reducible exact HKd.out | with_reducible exact HKc.out | with_reducible exact HK11.out _ HT3.out.bel | with_reducible exact HK11.out _ HT4.out.bel) (first
            | (refine step_append_lies (wr.alloc (.cells #[.int .u8 32] 5)).drew rfl (.tmp 32) (.tmp 33) 27 rfl W0.heap.size 5 i0 (.int .u8 0) 1 1 Tryd.underlying27 hi0 hz0 hz1 hz2 rfl (by decide) ou Z.length (Z.map (Value.int .u8)) (by simp [Act.eval]) HTc.out.own ⟨wr.heap.size, 0, none⟩ 1 1 [.int .u8 32] (by simp [Act.eval]) rfl HSc.out.news HOne.out (by decide) (by have := HZl.out; unfold maxLen; omega) (by have := HZl.out; omega) HTc.out.bel.size _ rfl ?_; intro g3 cap3 w3 ho3 hg3 ha3 hl3; have HT3 : Hid (Tx W0 w3 (.slice (some ⟨g3, 0, none⟩) (Z.length + 1) cap3) (Z ++ [32])) := HTc.out.app (ys := [32]) (by rw [List.length_append]; try rfl) ho3 hg3; have HR3 : Hid (w3.ownsRow W0.heap.size 5 1 (.slice (some ⟨g3, 0, none⟩) (Z.length + 1) cap3) (Z.length + 1) (Z.map (Value.int .u8) ++ [.int .u8 32])) := ho3; have HNews : Hid (∀ j u, (z.map (Value.int .u8))[j]? = some u → w3.cell? ((⟨zb, zo, none⟩ : Addr).add j) = some u) := rd_news (HZr.out _ HT3.out.bel); clear ho3 hg3 ha3 hl3)
            | (refine step_append_lies w3 rfl (.tmp 34) (.tmp 42) 27 rfl W0.heap.size 5 i0 (.int .u8 0) 1 1 Tryd.underlying27 hi0 hz0 hz1 hz2 rfl (by decide) (.slice (some ⟨g3, 0, none⟩) (Z.length + 1) cap3) (Z.length + 1) (Z.map (Value.int .u8) ++ [.int .u8 32]) (by simp [Act.eval]) HR3.out ⟨zb, zo, none⟩ zn zc (z.map (Value.int .u8)) (by simp [Act.eval]) hlx HNews.out (oneCB _) (by omega) (by have := HZl.out; unfold maxLen; omega) (by have := HZl.out; omega) HT3.out.bel.size _ rfl ?_; intro g4 cap4 w4 ho4 hg4 ha4 hl4; have HT4 : Hid (Tx W0 w4 (.slice (some ⟨g4, 0, none⟩) (Z.length + 1 + zn) cap4) (Z ++ [32] ++ z)) := HT3.out.app (by rw [List.length_append, List.length_append, HZn.out]; try rfl) (by rw [List.map_append]; exact ho4) hg4; clear ho4 hg4 ha4 hl4)) | fail
          all_goals
            (try go_simp)
            go_wp2_with fail
            go_roundw
            case rel => exact ⟨j + 1, _, by omega, by go_num, rfl, by rw [HTk.out]; exact HT4.out⟩
            case measure => simp [intOf]; omega
        · have hje : j = dn := by omega
          have HSt2 : Hid (clsLines x.cls (k + 1) = Z ++ [10]) := by rw [Hid, HSt.out, HZ0.out, hje]
          clear hje hE1
          go_wp2_with (first | (at_builtin; refine wpList_append_own _ rfl (.tmp 44) (.tmp 45) 27 rfl W0.heap.size 5 i0 (.int .u8 0) 1 1 Tryd.underlying27 hi0 hz0 hz1 hz2 rfl (by decide) ou Z.length (Z.map (Value.int .u8)) rfl (own_alloc HJ.out.own _) ⟨wr.heap.size, 0, none⟩ 1 1 [.int .u8 10] rfl rfl (cell_one_new _ _ _) (by simp [Value.oneCell']) (by unfold maxLen; have := HZl.out; omega) (by have := HZl.out; omega) (by simp; omega) ?_; intro v5 w5 ho5 hg5 hn5; have HT5 : Hid (Tx W0 w5 v5 (Z ++ [10])) := ⟨(own_byte HJ.out.own HJ.out.bel.size ho5 hg5).1, HJ.out.bel.trans (own_byte HJ.out.own HJ.out.bel.size ho5 hg5).2.1⟩; clear ho5 hg5 hn5) | fail)
          go_roundw
          case rel => exact ⟨k + 1, v5, by omega, by go_num, rfl, by rw [HSt2.out]; exact HT5.out⟩
          case measure => simp [intOf]; omega
    · have hkn : k = cn := by omega
      have HTc : Hid (ordT x = clsLines x.cls k ++ edgLines x.edg en) := by rw [Hid, HT.out, hkn]
      clear hkn
      obtain ⟨X, hX⟩ : ∃ X, X = clsLines x.cls k := ⟨_, rfl⟩
      rw [← hX] at HO HLk HTc
      clear hX
      go_upto_region 13 with fail
      clear z0 z1 z2
      go_wp2_with fail
      rename World => wo
      go_loopw [3, 6] (fun v i wr => ∃ (m : Nat) (ou : Value), m ≤ en ∧ i = .int .i64 m ∧ ou = v ∧ Tx W0 wr ou (X ++ edgLines x.edg m)) (fun _ i _ => en - (intOf i).toNat)
      case atStart => exact ⟨0, _, Nat.zero_le _, rfl, rfl, by simpa [edgLines] using HO.out.own, HO.out.bel⟩
      case round =>
        obtain ⟨m, ou, hm, rfl, rfl, hJ⟩ := hrel
        obtain ⟨Z, hZ⟩ : ∃ Z, Z = X ++ edgLines x.edg m := ⟨_, rfl⟩
        have HZ0 : Hid (Z = X ++ edgLines x.edg m) := hZ
        have HJ : Hid (Tx W0 wr ou Z) := by rw [Hid, hZ]; exact hJ
        have HZl : Hid (Z.length ≤ 58720500) := by
          have h1 := HLk.out
          have h2 := edgLines_len x.edg m
          have h3 := HFit.out.e50
          rw [Hid, hZ, List.length_append]
          omega
        have sj := hJ.bel.size
        obtain ⟨z0, z1, z2⟩ := (HBx.out _ hJ.bel).cells
        clear hJ hZ
        by_cases hlm : m < en
        · have hR := (HR.out _ HRf.out).edg
          obtain ⟨b, off, rfl⟩ : ∃ b off, ea = some ⟨b, off, none⟩ := by
            rcases hR.cells with h0 | ⟨b, off, e, _⟩
            · omega
            · exact ⟨b, off, e⟩
          obtain ⟨c0, c1, _⟩ := hR.at hlm
          obtain ⟨a1, a2, a3, a4⟩ := HFit.out.ed m hlm
          obtain ⟨t, ht⟩ : ∃ t, t = x.edg.getD m (0, 0) := ⟨_, rfl⟩
          rw [← ht] at c0 c1 a1 a2 a3 a4
          have HLn : Hid (X ++ edgLines x.edg (m + 1) = Z ++ edgW ++ digT t.1.toNat ++ [32] ++ digT t.2.toNat ++ [10]) := by
            rw [Hid, HZ0.out, ht]
            simp only [edgLines, edgLine, List.append_assoc]
          obtain ⟨p, q⟩ := t
          obtain ⟨pn, hpn⟩ := Int.eq_ofNat_of_zero_le a1
          obtain ⟨qn, hqn⟩ := Int.eq_ofNat_of_zero_le a3
          simp only at hpn hqn c0 c1 a2 a4 HLn
          subst hpn hqn
          have hp100 : pn < 100 := by omega
          have hq100 : qn < 100 := by omega
          simp only [Int.toNat_natCast] at HLn
          have hki : (m : Int) < (en : Int) := by omega
          have HK16 : Hid (∀ V, Below W0.heap.size W0 V → V.cell? ⟨w.heap.size, 1, none⟩ = some (.slice (some ⟨b, off, none⟩) en ec) ∧ V.cell? ⟨b, off + m * 2, none⟩ = some (.int .i64 (pn : Int))) := fun V hV => ⟨(HBx.out V hV).cells.2.1, (hV.cell (p := ⟨b, off + m * 2, none⟩) (block_lt_of_cell c0)).trans c0⟩
          have HK17 : Hid (∀ V, Below W0.heap.size W0 V → V.cell? ⟨b, off + m * 2 + 1, none⟩ = some (.int .i64 (qn : Int))) := fun V hV => (hV.cell (p := ⟨b, off + m * 2 + 1, none⟩) (block_lt_of_cell c1)).trans c1
          have hdlp := digT_len pn
          have hdlq := digT_len qn
          have HKd : Hid (wr.drew.cell? ⟨w.heap.size, 1, none⟩ = some (.slice (some ⟨b, off, none⟩) en ec) ∧ wr.drew.cell? ⟨b, off + m * 2, none⟩ = some (.int .i64 (pn : Int))) := HK16.out _ HJ.out.bel.drew
          have HKc : Hid ((wr.alloc (.cells #[.int .u8 32] 5)).drew.cell? ⟨w.heap.size, 1, none⟩ = some (.slice (some ⟨b, off, none⟩) en ec) ∧ (wr.alloc (.cells #[.int .u8 32] 5)).drew.cell? ⟨b, off + m * 2, none⟩ = some (.int .i64 (pn : Int))) := HK16.out _ (HJ.out.bel.alloc sj _).drew
          have HTd : Hid (Tx W0 wr.drew ou Z) := ⟨HJ.out.own, HJ.out.bel.drew⟩
          have HTc2 : Hid (Tx W0 (wr.alloc (.cells #[.int .u8 32] 5)).drew ou Z) := ⟨(own_alloc HJ.out.own _ : OwnB W0.heap.size (wr.alloc (.cells #[.int .u8 32] 5)) ou Z), (HJ.out.bel.alloc sj _).drew⟩
          have HSc : Hid (Sp (wr.alloc (.cells #[.int .u8 32] 5)).drew ou wr.heap.size) := Sp.new HJ.out.own
          have e0 := (HK16.out _ HJ.out.bel).2
          clear hR ht a1 a2 a3 a4 c0 c1
          go_upto_region 16 with fail
          first | go_region_held3 (fun V => V.cell? ⟨w.heap.size, 1, none⟩ = some (.slice (some ⟨b, off, none⟩) en ec) ∧ V.cell? ⟨b, off + m * 2, none⟩ = some (.int .i64 (pn : Int))) (first | with_reducible exact HKd.out | with_reducible exact HKc.out | with_reducible exact HK16.out _ HT1.out.bel | with_reducible exact HK16.out _ HT2.out.bel | with_reducible exact HK16.out _ HT3.out.bel | with_reducible exact HK16.out _ HT4.out.bel | with_reducible exact HK16.out _ (HT1.out.bel.alloc HT1.out.bel.size _) | with_reducible exact HK16.out _ (HT2.out.bel.alloc HT2.out.bel.size _) | with_reducible exact HK16.out _ (HT3.out.bel.alloc HT3.out.bel.size _)) (first
            | (refine step_append_strAt rfl (.tmp 54) (.const (.string edgS)) 27 9 rfl W0.heap.size 5 i0 Tryd.underlying27 Tryd.underlying9 hi0 hz0 hz1 hz2 ou Z.length (Z.map (Value.int .u8)) (by simp [Act.eval]) (HTd.out.own : OwnB W0.heap.size wr.drew ou Z) edgS rfl (by have := HZl.out; rw [hes]; unfold maxLen; omega) (by have := HZl.out; rw [hes]; omega) HTd.out.bel.size ?_; intro v1 w1 ho1 hg1 ha1; have HT1 : Hid (Tx W0 w1 v1 (Z ++ edgW)) := HTd.out.app (ys := edgW) (by rw [List.length_append]; try rfl) (by rw [hes, edgS_cells] at ho1; exact ho1) hg1; obtain ⟨Y, hY⟩ : ∃ Y, Y = Z ++ edgW := ⟨_, rfl⟩; rw [← hY] at HT1 HLn; have HYl : Hid (Y.length ≤ 58720600) := (by have := HZl.out; have e : edgW.length = 5 := rfl; rw [Hid, hY, List.length_append]; omega); clear ho1 hg1 ha1 hY) | (refine step_append_strAt rfl (.tmp 54) (.const (.string edgS)) 27 9 rfl W0.heap.size 5 i0 Tryd.underlying27 Tryd.underlying9 hi0 hz0 hz1 hz2 ou Z.length (Z.map (Value.int .u8)) (by simp [Act.eval]) (HTc2.out.own : OwnB W0.heap.size (wr.alloc (.cells #[.int .u8 32] 5)).drew ou Z) edgS rfl (by have := HZl.out; rw [hes]; unfold maxLen; omega) (by have := HZl.out; rw [hes]; omega) HTc2.out.bel.size ?_; intro v1 w1 ho1 hg1 ha1; have HT1 : Hid (Tx W0 w1 v1 (Z ++ edgW)) := HTc2.out.app (ys := edgW) (by rw [List.length_append]; try rfl) (by rw [hes, edgS_cells] at ho1; exact ho1) hg1; have HSp1 : Hid (Sp w1 v1 wr.heap.size) := HSc.out.app hg1 ha1; obtain ⟨Y, hY⟩ : ∃ Y, Y = Z ++ edgW := ⟨_, rfl⟩; rw [← hY] at HT1 HLn; have HYl : Hid (Y.length ≤ 58720600) := (by have := HZl.out; have e : edgW.length = 5 := rfl; rw [Hid, hY, List.length_append]; omega); clear ho1 hg1 ha1 hY)
            | (go_at_call 16; first | (refine (l5digits_any hp100 w1).mono ?_; rintro e w2 ⟨vd, rfl, hd2, hb2⟩; have HT2 : Hid (Tx W0 w2 v1 Y) := ⟨OwnB.below (zs := Y) (HT1.out.own) hb2 (Nat.le_refl _), (HT1.out.bel).trans (hb2.mono (HT1.out.bel).size)⟩; obtain ⟨da, dc, db, rfl, hdr, hda, _, _⟩ := hd2.form (digT_byts hp100); obtain rfl := hda.resolve_left (by omega); have HD2 : Hid (∀ V, Below w2.heap.size w2 V → ∀ j u, ((digT pn).map (Value.int .u8))[j]? = some u → V.cell? ((⟨db, 0, none⟩ : Addr).add j) = some u) := fun V hV => rd_news (hdr.below hV (Nat.le_refl _)); (try (have HSp2 : Hid (Sp w2 v1 wr.heap.size) := HSp1.out.below hb2)); clear hd2 hb2 hdr) | (refine (l5digits_any hp100 (w1.alloc (.cells #[.int .u8 32] 5))).mono ?_; rintro e w2 ⟨vd, rfl, hd2, hb2⟩; have HT2 : Hid (Tx W0 w2 v1 Y) := ⟨OwnB.below (zs := Y) ((own_alloc HT1.out.own _ : OwnB W0.heap.size (w1.alloc (.cells #[.int .u8 32] 5)) v1 Y)) hb2 (Nat.le_refl _), (HT1.out.bel.alloc HT1.out.bel.size _).trans (hb2.mono (HT1.out.bel.alloc HT1.out.bel.size _).size)⟩; obtain ⟨da, dc, db, rfl, hdr, hda, _, _⟩ := hd2.form (digT_byts hp100); obtain rfl := hda.resolve_left (by omega); have HD2 : Hid (∀ V, Below w2.heap.size w2 V → ∀ j u, ((digT pn).map (Value.int .u8))[j]? = some u → V.cell? ((⟨db, 0, none⟩ : Addr).add j) = some u) := fun V hV => rd_news (hdr.below hV (Nat.le_refl _)); have HSp2 : Hid (Sp w2 v1 w1.heap.size) := (Sp.new HT1.out.own).below hb2; clear hd2 hb2 hdr))
            | (refine step_append_lies w2 rfl (.tmp 55) (.tmp 62) 27 rfl W0.heap.size 5 i0 (.int .u8 0) 1 1 Tryd.underlying27 hi0 hz0 hz1 hz2 rfl (by decide) v1 Y.length (Y.map (Value.int .u8)) (by simp [Act.eval]) (HT2.out.own) ⟨db, 0, none⟩ (digT pn).length dc ((digT pn).map (Value.int .u8)) (by simp [Act.eval]) (by simp) (HD2.out _ (Below.refl _ _)) (oneCB _) (by omega) (by have := HYl.out; unfold maxLen; omega) (by have := HYl.out; omega) (HT2.out.bel).size _ rfl ?_; intro g3 cap3 w3 ho3 hg3 ha3 hl3; have HT3 : Hid (Tx W0 w3 (.slice (some ⟨g3, 0, none⟩) (Y.length + (digT pn).length) cap3) (Y ++ digT pn)) := (Tx.mk (HT2.out.own) (HT2.out.bel)).app (by rw [List.length_append]) ho3 hg3; have HR3 : Hid (w3.ownsRow W0.heap.size 5 1 (.slice (some ⟨g3, 0, none⟩) (Y.length + (digT pn).length) cap3) (Y.length + (digT pn).length) (Y.map (Value.int .u8) ++ (digT pn).map (Value.int .u8))) := ho3; (try (have HSp3 : Hid (Sp w3 (.slice (some ⟨g3, 0, none⟩) (Y.length + (digT pn).length) cap3) wr.heap.size) := HSp2.out.app hg3 (ha3.elim (fun q => .inl q.symm) (fun q => .inr (by rw [q]; rfl))))); (try (have HSp3 : Hid (Sp w3 (.slice (some ⟨g3, 0, none⟩) (Y.length + (digT pn).length) cap3) w1.heap.size) := HSp2.out.app hg3 (ha3.elim (fun q => .inl q.symm) (fun q => .inr (by rw [q]; rfl))))); clear ho3 hg3 ha3 hl3) | (refine step_append_lies (w2.alloc (.cells #[.int .u8 32] 5)) rfl (.tmp 55) (.tmp 62) 27 rfl W0.heap.size 5 i0 (.int .u8 0) 1 1 Tryd.underlying27 hi0 hz0 hz1 hz2 rfl (by decide) v1 Y.length (Y.map (Value.int .u8)) (by simp [Act.eval]) ((own_alloc HT2.out.own _ : OwnB W0.heap.size (w2.alloc (.cells #[.int .u8 32] 5)) v1 Y)) ⟨db, 0, none⟩ (digT pn).length dc ((digT pn).map (Value.int .u8)) (by simp [Act.eval]) (by simp) (HD2.out _ ((Below.refl _ _).alloc (Nat.le_refl _) _)) (oneCB _) (by omega) (by have := HYl.out; unfold maxLen; omega) (by have := HYl.out; omega) (HT2.out.bel.alloc HT2.out.bel.size _).size _ rfl ?_; intro g3 cap3 w3 ho3 hg3 ha3 hl3; have HT3 : Hid (Tx W0 w3 (.slice (some ⟨g3, 0, none⟩) (Y.length + (digT pn).length) cap3) (Y ++ digT pn)) := (Tx.mk ((own_alloc HT2.out.own _ : OwnB W0.heap.size (w2.alloc (.cells #[.int .u8 32] 5)) v1 Y)) (HT2.out.bel.alloc HT2.out.bel.size _)).app (by rw [List.length_append]) ho3 hg3; have HR3 : Hid (w3.ownsRow W0.heap.size 5 1 (.slice (some ⟨g3, 0, none⟩) (Y.length + (digT pn).length) cap3) (Y.length + (digT pn).length) (Y.map (Value.int .u8) ++ (digT pn).map (Value.int .u8))) := ho3; have HSp3 : Hid (Sp w3 (.slice (some ⟨g3, 0, none⟩) (Y.length + (digT pn).length) cap3) w2.heap.size) := (Sp.new HT2.out.own).app hg3 (ha3.elim (fun q => .inl q.symm) (fun q => .inr (by rw [q]; rfl))); clear ho3 hg3 ha3 hl3)
            | (refine step_append_lies w3 rfl (.tmp 63) (.tmp 64) 27 rfl W0.heap.size 5 i0 (.int .u8 0) 1 1 Tryd.underlying27 hi0 hz0 hz1 hz2 rfl (by decide) (.slice (some ⟨g3, 0, none⟩) (Y.length + (digT pn).length) cap3) (Y.length + (digT pn).length) (Y.map (Value.int .u8) ++ (digT pn).map (Value.int .u8)) (by simp [Act.eval]) (HR3.out) ⟨wr.heap.size, 0, none⟩ 1 1 [.int .u8 32] (by simp [Act.eval]) rfl (HSp3.out.news) HOne.out (by decide) (by have := HYl.out; unfold maxLen; omega) (by have := HYl.out; omega) (HT3.out.bel).size _ rfl ?_; intro g4 cap4 w4 ho4 hg4 ha4 hl4; have HT4 : Hid (Tx W0 w4 (.slice (some ⟨g4, 0, none⟩) (Y.length + (digT pn).length + 1) cap4) (Y ++ digT pn ++ [32])) := (Tx.mk (xs := Y ++ digT pn) (by unfold OwnB; rw [List.length_append, List.map_append]; exact (HR3.out)) (HT3.out.bel)).app (ys := [32]) (by rw [List.length_append, List.length_append]; try rfl) (by rw [List.map_append]; exact ho4) hg4; clear ho4 hg4 ha4 hl4) | (refine step_append_lies w3 rfl (.tmp 63) (.tmp 64) 27 rfl W0.heap.size 5 i0 (.int .u8 0) 1 1 Tryd.underlying27 hi0 hz0 hz1 hz2 rfl (by decide) (.slice (some ⟨g3, 0, none⟩) (Y.length + (digT pn).length) cap3) (Y.length + (digT pn).length) (Y.map (Value.int .u8) ++ (digT pn).map (Value.int .u8)) (by simp [Act.eval]) (HR3.out) ⟨w1.heap.size, 0, none⟩ 1 1 [.int .u8 32] (by simp [Act.eval]) rfl (HSp3.out.news) HOne.out (by decide) (by have := HYl.out; unfold maxLen; omega) (by have := HYl.out; omega) (HT3.out.bel).size _ rfl ?_; intro g4 cap4 w4 ho4 hg4 ha4 hl4; have HT4 : Hid (Tx W0 w4 (.slice (some ⟨g4, 0, none⟩) (Y.length + (digT pn).length + 1) cap4) (Y ++ digT pn ++ [32])) := (Tx.mk (xs := Y ++ digT pn) (by unfold OwnB; rw [List.length_append, List.map_append]; exact (HR3.out)) (HT3.out.bel)).app (ys := [32]) (by rw [List.length_append, List.length_append]; try rfl) (by rw [List.map_append]; exact ho4) hg4; clear ho4 hg4 ha4 hl4) | (refine step_append_lies w3 rfl (.tmp 63) (.tmp 64) 27 rfl W0.heap.size 5 i0 (.int .u8 0) 1 1 Tryd.underlying27 hi0 hz0 hz1 hz2 rfl (by decide) (.slice (some ⟨g3, 0, none⟩) (Y.length + (digT pn).length) cap3) (Y.length + (digT pn).length) (Y.map (Value.int .u8) ++ (digT pn).map (Value.int .u8)) (by simp [Act.eval]) (HR3.out) ⟨w2.heap.size, 0, none⟩ 1 1 [.int .u8 32] (by simp [Act.eval]) rfl (HSp3.out.news) HOne.out (by decide) (by have := HYl.out; unfold maxLen; omega) (by have := HYl.out; omega) (HT3.out.bel).size _ rfl ?_; intro g4 cap4 w4 ho4 hg4 ha4 hl4; have HT4 : Hid (Tx W0 w4 (.slice (some ⟨g4, 0, none⟩) (Y.length + (digT pn).length + 1) cap4) (Y ++ digT pn ++ [32])) := (Tx.mk (xs := Y ++ digT pn) (by unfold OwnB; rw [List.length_append, List.map_append]; exact (HR3.out)) (HT3.out.bel)).app (ys := [32]) (by rw [List.length_append, List.length_append]; try rfl) (by rw [List.map_append]; exact ho4) hg4; clear ho4 hg4 ha4 hl4) | (refine step_append_lies (w3.alloc (.cells #[.int .u8 32] 5)) rfl (.tmp 63) (.tmp 64) 27 rfl W0.heap.size 5 i0 (.int .u8 0) 1 1 Tryd.underlying27 hi0 hz0 hz1 hz2 rfl (by decide) (.slice (some ⟨g3, 0, none⟩) (Y.length + (digT pn).length) cap3) (Y.length + (digT pn).length) (Y.map (Value.int .u8) ++ (digT pn).map (Value.int .u8)) (by simp [Act.eval]) (row_alloc HR3.out _) ⟨w3.heap.size, 0, none⟩ 1 1 [.int .u8 32] (by simp [Act.eval]) rfl ((Sp.new HT3.out.own).news) HOne.out (by decide) (by have := HYl.out; unfold maxLen; omega) (by have := HYl.out; omega) (HT3.out.bel.alloc HT3.out.bel.size _).size _ rfl ?_; intro g4 cap4 w4 ho4 hg4 ha4 hl4; have HT4 : Hid (Tx W0 w4 (.slice (some ⟨g4, 0, none⟩) (Y.length + (digT pn).length + 1) cap4) (Y ++ digT pn ++ [32])) := (Tx.mk (xs := Y ++ digT pn) (by unfold OwnB; rw [List.length_append, List.map_append]; exact (row_alloc HR3.out _)) (HT3.out.bel.alloc HT3.out.bel.size _)).app (ys := [32]) (by rw [List.length_append, List.length_append]; try rfl) (by rw [List.map_append]; exact ho4) hg4; clear ho4 hg4 ha4 hl4)) | fail
          all_goals
            (try go_simp)
            obtain ⟨U, hU⟩ : ∃ U, U = Y ++ digT pn ++ [32] := ⟨_, rfl⟩
            rw [← hU] at HT4 HLn
            have hUl : U.length ≤ 58720700 := by have := HYl.out; rw [hU, List.length_append, List.length_append]; simp only [List.length_cons, List.length_nil]; omega
            obtain ⟨v4, hv4⟩ : ∃ v, v = Value.slice (some ⟨g4, 0, none⟩) (Y.length + (digT pn).length + 1) cap4 := ⟨_, rfl⟩
            rw [← hv4] at HT4
            try rw [← hv4]
            have s4 := HT4.out.bel.size
            clear hU hv4 z0 z1 z2 e0
            obtain ⟨z0, z1, z2⟩ := (HBx.out _ HT4.out.bel).cells
            have e1 := HK17.out _ HT4.out.bel
            go_wp2_with (first
              | (go_at_call 16; refine (l5digits_any hq100 w4).mono ?_; rintro e w5 ⟨vd, rfl, hd5, hb5⟩; have HT5 : Hid (Tx W0 w5 v4 U) := ⟨HT4.out.own.below hb5 (Nat.le_refl _), HT4.out.bel.trans (hb5.mono s4)⟩; obtain ⟨ga, gc, gb, rfl, hgr, hga, _, _⟩ := hd5.form (digT_byts hq100); obtain rfl := hga.resolve_left (by omega); have HNd : Hid (∀ j u, ((digT qn).map (Value.int .u8))[j]? = some u → w5.cell? ((⟨gb, 0, none⟩ : Addr).add j) = some u) := rd_news hgr; clear hd5 hb5 hgr)
              | (at_builtin; refine wpList_append_own _ rfl (.tmp 66) (.tmp 73) 27 rfl W0.heap.size 5 i0 (.int .u8 0) 1 1 Tryd.underlying27 hi0 hz0 hz1 hz2 rfl (by decide) v4 U.length (U.map (Value.int .u8)) rfl HT5.out.own ⟨gb, 0, none⟩ (digT qn).length gc ((digT qn).map (Value.int .u8)) rfl (by simp) HNd.out (oneCB _) (by unfold maxLen; omega) (by omega) HT5.out.bel.size ?_; intro v6 w6 ho6 hg6 hn6; have HT6 : Hid (Tx W0 w6 v6 (U ++ digT qn)) := HT5.out.app (by rw [List.length_append]) ho6 hg6; clear ho6 hg6 hn6; obtain ⟨U2, hU2⟩ : ∃ U2, U2 = U ++ digT qn := ⟨_, rfl⟩; rw [← hU2] at HT6 HLn; have HU2l : Hid (U2.length ≤ 58720800) := (by rw [Hid, hU2, List.length_append]; omega); have s6 := HT6.out.bel.size; clear hU2)
              | (at_builtin; refine wpList_append_own _ rfl (.tmp 74) (.tmp 75) 27 rfl W0.heap.size 5 i0 (.int .u8 0) 1 1 Tryd.underlying27 hi0 hz0 hz1 hz2 rfl (by decide) v6 U2.length (U2.map (Value.int .u8)) rfl (own_alloc HT6.out.own _) ⟨w6.heap.size, 0, none⟩ 1 1 [.int .u8 10] rfl rfl (cell_one_new _ _ _) (by simp [Value.oneCell']) (by unfold maxLen; have := HU2l.out; omega) (by have := HU2l.out; omega) (by simp; omega) ?_; intro v7 w7 ho7 hg7 hn7; have HT7 : Hid (Tx W0 w7 v7 (U2 ++ [10])) := ⟨(own_byte HT6.out.own HT6.out.bel.size ho7 hg7).1, HT6.out.bel.trans (own_byte HT6.out.own HT6.out.bel.size ho7 hg7).2.1⟩; clear ho7 hg7 hn7) | fail)
            go_roundw
            case rel => exact ⟨m + 1, v7, by omega, by go_num, rfl, by rw [HLn.out]; exact HT7.out⟩
            case measure => simp [intOf]; omega
        · have hmn : m = en := by omega
          have HFn : Hid (ordT x = Z) := by rw [Hid, HTc.out, HZ0.out, hmn]
          clear hmn
          go_wp2_with fail
          go_ret
          exact ⟨_, rfl, by rw [HFn.out]; exact ownB_up HJ.out.own (Nat.le_of_lt hs0), HB0.out.trans (HJ.out.bel.mono (by omega))⟩

end Go.Proofs.YtpedjcabapldgaaDoor
