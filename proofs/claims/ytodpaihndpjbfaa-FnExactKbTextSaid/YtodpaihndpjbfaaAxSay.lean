/- The model's text of what is told, at each kind. -/
import Derived.Test.YtodpaihndpjbfaaAxTxt
import Derived.Test.YtodpaihndpjbfaaConSayG
import Derived.Deep.RegionHeldLaw
import Derived.Deep.DeepCutAuto
import Derived.Deep.CutBlock
namespace Go.Proofs.Ytodpaihndpjbfaa
open Go.RowKit

theorem OwnB.lt {base : Nat} {w : World} {v : Value} {zs : List Int} (h : OwnB base w v zs) : ∀ g, v.ownBlock = some g → base ≤ g ∧ g < w.heap.size := World.ownsRow.lt h

set_option maxRecDepth 100000 in
set_option maxHeartbeats 4000000 in
theorem l3say_3 {dp : Nat} {c0 c1 c2 c3 d0 d1 d2 d3 : Value} {ra : Option Addr} {rn rc : Nat} {sa : Option Addr} {sn sc : Nat} {aa : Option Addr} {an ac : Nat} {ba : Option Addr} {bn bc : Nat} {x : AX} {w : World} {lo hi base : Nat} {bv : Value} {xs : List Int} (h : RdA lo hi w dp c0 c1 c2 c3 d0 d1 d2 d3 ra rn rc sa sn sc aa an ac ba bn bc x) (hhi : hi ≤ base) (hbase : base ≤ w.heap.size) (hok : axOk x = true) (hk : x.kind = 3) (hO : OwnB base w bv xs) (hlen : xs.length ≤ 536870912) :
    Calls Try.prog 187 #[bv, .agg #[.int .i64 3, c0, c1, c2, c3, d0, d1, d2, d3, .slice ra rn rc, .slice sa sn sc, .slice aa an ac, .slice ba bn bc]] w fun e w' => ∃ bv', e = .returned bv' ∧ OwnB base w' bv' (xs ++ axSay x) ∧ Keep6 base w bv w' bv' := by
  obtain ⟨_, fC, fD, fR, fS, fA, fB⟩ := axOk_facts hok
  have lR := fitL_want fR (by rw [hk]; rfl)
  have eR := h.r.len
  rw [eR] at lR
  have HR : Hid (Rd lo hi w ra rn rc x.r) := h.r
  have lS := fitL_want fS (by rw [hk]; rfl)
  have eS := h.s.len
  rw [eS] at lS
  have HS : Hid (Rd lo hi w sa sn sc x.s) := h.s
  have HTx : Hid (xs ++ axSay x = xs ++ axWord 3 ++ [40] ++ x.r ++ [32] ++ x.s ++ [41]) := by unfold Hid axSay; rw [hk]; simp [fieldsN, fldsT, fldT]
  have hwl : (axWord 3).length ≤ 4 := axWord_len _
  obtain ⟨i0, hi0, hz0, hz1, hz2⟩ := info_parts Try.info5
  obtain ⟨W0, hW0⟩ : ∃ W0, W0 = w.alloc (.cells #[.int .i64 3, c0, c1, c2, c3, d0, d1, d2, d3, .slice ra rn rc, .slice sa sn sc, .slice aa an ac, .slice ba bn bc] 147) := ⟨_, rfl⟩
  have HW0 : Hid (W0 = w.alloc (.cells #[.int .i64 3, c0, c1, c2, c3, d0, d1, d2, d3, .slice ra rn rc, .slice sa sn sc, .slice aa an ac, .slice ba bn bc] 147)) := hW0
  have hb0 : Below w.heap.size w W0 := by rw [hW0]; exact (Below.refl _ _).alloc (Nat.le_refl _) _
  have HK0 : Hid (Keep6 base w bv W0 bv) := Keep6.of_below hb0 hbase
  have HO0 : Hid (OwnB base W0 bv xs) := hO.below hb0 (Nat.le_refl _)
  have hbx : BoxA 147 W0 w.heap.size 3 c0 c1 c2 c3 d0 d1 d2 d3 (.slice ra rn rc) (.slice sa sn sc) (.slice aa an ac) (.slice ba bn bc) := by rw [hW0]; exact BoxA.new _ w _ _ _ _ _ _ _ _ _ _ _ _ _
  have HBx0 : Hid (BoxA 147 W0 w.heap.size 3 c0 c1 c2 c3 d0 d1 d2 d3 (.slice ra rn rc) (.slice sa sn sc) (.slice aa an ac) (.slice ba bn bc)) := hbx
  have hs0 : base ≤ W0.heap.size := by have := hb0.size; omega
  obtain ⟨b0, b1, b2, b3, b4, b5, b6, b7, b8, b9, b10, b11, b12⟩ := hbx.cells
  clear h hb0 hW0 hbx hO fC fD fR fS fA fB
  go_enter Try.func187, Try.ntmps187
  go_upto_region 1 with fail
  rw [← HW0.out]
  go_upto_block 0 with (first | (go_at_call 240; refine (l3word_any 3 (by omega) _).mono ?_; rintro e w1 ⟨rfl, hb1⟩; have HK1 : Hid (Keep6 base w bv w1 bv) := HK0.out.trans (Keep6.of_below hb1 hs0); have HO1 : Hid (OwnB base w1 bv xs) := HO0.out.below hb1 (Nat.le_refl _); have HBx1 : Hid (BoxA 147 w1 w.heap.size 3 c0 c1 c2 c3 d0 d1 d2 d3 (.slice ra rn rc) (.slice sa sn sc) (.slice aa an ac) (.slice ba bn bc)) := HBx0.out.below hb1 HBx0.out.lt; have hs1 : base ≤ w1.heap.size := Nat.le_trans hs0 hb1.size; clear hb1) | (at_builtin; refine list_append_strAt rfl (.tmp 5) (.tmp 8) 22 9 rfl base 5 i0 Try.underlying22 Try.underlying9 hi0 hz0 hz1 hz2 bv xs.length (xs.map (Value.int .u8)) rfl HO1.out (axWordB 3) rfl (by rw [axWordB_size]; unfold maxLen; omega) (by rw [axWordB_size]; omega) hs1 ?_; intro v2 w2 hown' hgrow hat; have HF2 : Hid (OwnB base w2 v2 (xs ++ axWord 3) ∧ Keep6 base w1 bv w2 v2) := ownB_axStr HO1.out hs1 hown' hgrow hat; clear hown' hgrow hat; obtain ⟨x1, hx1⟩ : ∃ x1, x1 = xs ++ axWord 3 := ⟨_, rfl⟩; have HX1 : Hid (x1 = xs ++ axWord 3) := hx1; have hx1l : x1.length ≤ xs.length + 4 := (by rw [hx1, List.length_append]; omega); have hs2 : base ≤ w2.heap.size := Nat.le_trans hs1 HF2.out.2.k5.1.size; have HBA2 : Hid (Below w2.heap.size w2 (w2.alloc (.cells #[.int .u8 40] 5))) := (Below.refl _ _).alloc (Nat.le_refl _) _; have HO2 : Hid (OwnB base (w2.alloc (.cells #[.int .u8 40] 5)) v2 x1) := (by unfold Hid; rw [hx1]; exact HF2.out.1.below HBA2.out (Nat.le_refl _)); have HS2 : Hid (base ≤ (w2.alloc (.cells #[.int .u8 40] 5)).heap.size) := Nat.le_trans hs2 HBA2.out.size; have HK2 : Hid (Keep6 base w bv (w2.alloc (.cells #[.int .u8 40] 5)) v2) := (HK1.out.trans HF2.out.2).trans (Keep6.of_below HBA2.out hs2); have HBx2 : Hid (BoxA 147 (w2.alloc (.cells #[.int .u8 40] 5)) w.heap.size 3 c0 c1 c2 c3 d0 d1 d2 d3 (.slice ra rn rc) (.slice sa sn sc) (.slice aa an ac) (.slice ba bn bc)) := (HBx1.out.keep6 (by decide) HF2.out.2).below HBA2.out (HBx1.out.keep6 (by decide) HF2.out.2).lt; clear hx1) | (at_builtin; refine list_appB rfl (.tmp 9) (.tmp 10) rfl base v2 x1 rfl HO2.out w2.heap.size (w2.heap.size + 1) _ 1 1 [40] rfl (one_alloc w2 40 (by omega) (by omega)) (Nat.le_refl _) (by omega) HS2.out ?_; intro v3 w3 hO3 hK3; have HK3 : Hid (Keep6 base w bv w3 v3) := HK2.out.trans hK3; have HBx3 : Hid (BoxA 147 w3 w.heap.size 3 c0 c1 c2 c3 d0 d1 d2 d3 (.slice ra rn rc) (.slice sa sn sc) (.slice aa an ac) (.slice ba bn bc)) := HBx2.out.keep6 (by decide) hK3; clear b0 b1 b2 b3 b4 b5 b6 b7 b8 b9 b10 b11 b12; obtain ⟨b0, b1, b2, b3, b4, b5, b6, b7, b8, b9, b10, b11, b12⟩ := HBx3.out.cells; obtain ⟨x2, hx2⟩ : ∃ x2, x2 = x1 ++ [40] := ⟨_, rfl⟩; rw [← hx2] at hO3; have HX2 : Hid (x2 = xs ++ axWord 3 ++ [40]) := (by unfold Hid; rw [hx2, HX1.out]); have hx2l : x2.length ≤ xs.length + 5 := (by rw [hx2, List.length_append]; simp only [List.length_cons, List.length_nil]; omega); have HO3 : Hid (OwnB base w3 v3 x2) := hO3; have hs3 : base ≤ w3.heap.size := Nat.le_trans hbase HK3.out.k5.1.size; clear hO3 hK3 hx2))
  clear HK0 HO0 HBx0 HK1 HO1 HBx1 HF2 HBA2 HO2 HS2 HK2 HBx2 HX1 hx1l hs1 hs2
  go_cut [0] (fun v W => OwnB base W v (x2 ++ x.r ++ [32] ++ x.s) ∧ Keep6 base w bv W v ∧ BoxA 147 W w.heap.size 3 c0 c1 c2 c3 d0 d1 d2 d3 (.slice ra rn rc) (.slice sa sn sc) (.slice aa an ac) (.slice ba bn bc))
  case first =>
    have HKw3 : Hid (Keep6 base w bv w3 v3) := HK3.out
    have HOw3 : Hid (OwnB base w3 v3 x2) := HO3.out
    have HBw3 : Hid (BoxA 147 w3 w.heap.size 3 c0 c1 c2 c3 d0 d1 d2 d3 (.slice ra rn rc) (.slice sa sn sc) (.slice aa an ac) (.slice ba bn bc)) := HBx3.out
    have hsw3 : base ≤ w3.heap.size := hs3
    clear HK3 HO3 HBx3
    go_upto_region 5 with fail
    obtain ⟨V1, hV0⟩ : ∃ V, V = w3.drew := ⟨_, rfl⟩
    have HVV1 : Hid (V1 = w3.drew) := hV0
    have hbV : Below w3.heap.size w3 V1 := by rw [hV0]; exact (Below.refl _ _).drew
    have HKV1 : Hid (Keep6 base w bv V1 v3) := HKw3.out.trans (Keep6.of_below hbV hsw3)
    have HOV1 : Hid (OwnB base V1 v3 x2) := HOw3.out.below hbV (Nat.le_refl _)
    have HBV1 : Hid (BoxA 147 V1 w.heap.size 3 c0 c1 c2 c3 d0 d1 d2 d3 (.slice ra rn rc) (.slice sa sn sc) (.slice aa an ac) (.slice ba bn bc)) := HBw3.out.below hbV HBw3.out.lt
    have hsV1 : base ≤ V1.heap.size := Nat.le_trans hsw3 hbV.size
    clear hV0 hbV b0 b1 b2 b3 b4 b5 b6 b7 b8 b9 b10 b11 b12
    refine wp_region_held_drew (S := fun W => BoxA 147 W w.heap.size 3 c0 c1 c2 c3 d0 d1 d2 d3 (.slice ra rn rc) (.slice sa sn sc) (.slice aa an ac) (.slice ba bn bc)) (by kernel_rfl) ?_ (fun hHeld => ?_)
    · exact HBw3.out
    rw [← HVV1.out] at hHeld ⊢
    refine wpAnyH_take (i := 0) (v := ?_) rfl (by kernel_rfl) (by kernel_rfl) (by kernel_rfl) (fun _ _ _ h => h) (Or.inl ⟨by rfl, ?_⟩) (by assumption) ?_
    rotate_left
    · intro w' hSw
      (try dsimp only at hSw)
      obtain ⟨t0, t1, t2, t3, t4, t5, t6, t7, t8, t9, t10, t11, t12⟩ := BoxA.cells hSw
      go_simp
      (try with_reducible rfl)
    (try simp only [Act.put]); (try simp only [List.setIfInBounds_toArray]); (try simp only [List.set_cons_succ]); (try simp only [List.set_cons_zero])
    refine wpAnyH_take (i := 1) (v := ?_) rfl (by kernel_rfl) (by kernel_rfl) (by kernel_rfl) (fun _ _ _ h => h) (Or.inl ⟨by rfl, ?_⟩) (by assumption) ?_
    rotate_left
    · intro w' hSw
      (try dsimp only at hSw)
      obtain ⟨t0, t1, t2, t3, t4, t5, t6, t7, t8, t9, t10, t11, t12⟩ := BoxA.cells hSw
      go_simp
      (try with_reducible rfl)
    (try simp only [Act.put]); (try simp only [List.setIfInBounds_toArray]); (try simp only [List.set_cons_succ]); (try simp only [List.set_cons_zero])
    refine wpAnyH_take (i := 2) (v := ?_) rfl (by kernel_rfl) (by kernel_rfl) (by kernel_rfl) (fun _ _ _ h => h) (Or.inl ⟨by rfl, ?_⟩) (by assumption) ?_
    rotate_left
    · intro w' hSw
      (try dsimp only at hSw)
      obtain ⟨t0, t1, t2, t3, t4, t5, t6, t7, t8, t9, t10, t11, t12⟩ := BoxA.cells hSw
      go_simp
      (try with_reducible rfl)
    (try simp only [Act.put]); (try simp only [List.setIfInBounds_toArray]); (try simp only [List.set_cons_succ]); (try simp only [List.set_cons_zero])
    refine wpAnyH_take (i := 6) (v := ?_) rfl (by kernel_rfl) (by kernel_rfl) (by kernel_rfl) (fun _ _ _ h => h) (Or.inl ⟨by rfl, ?_⟩) (by assumption) ?_
    rotate_left
    · intro w' hSw
      (try dsimp only at hSw)
      obtain ⟨t0, t1, t2, t3, t4, t5, t6, t7, t8, t9, t10, t11, t12⟩ := BoxA.cells hSw
      go_simp
      (try with_reducible rfl)
    (try simp only [Act.put]); (try simp only [List.setIfInBounds_toArray]); (try simp only [List.set_cons_succ]); (try simp only [List.set_cons_zero])
    refine wpAnyH_take (i := 7) (v := ?_) rfl (by kernel_rfl) (by kernel_rfl) (by kernel_rfl) (fun _ _ _ h => h) (Or.inl ⟨by rfl, ?_⟩) (by assumption) ?_
    rotate_left
    · intro w' hSw
      (try dsimp only at hSw)
      obtain ⟨t0, t1, t2, t3, t4, t5, t6, t7, t8, t9, t10, t11, t12⟩ := BoxA.cells hSw
      go_simp
      (try with_reducible rfl)
    (try simp only [Act.put]); (try simp only [List.setIfInBounds_toArray]); (try simp only [List.set_cons_succ]); (try simp only [List.set_cons_zero])
    refine wpAnyH_ready (rs := [3, 4]) (by kernel_rfl) (by simp) ?_
    refine AllReadyH.cons rfl (fun K hK => ?_) (AllReadyH.cons rfl (fun K hK => ?_) AllReadyH.nil)
    · skip
      refine step_appB rfl (.tmp 25) (.tmp 27) rfl base v3 x2 (by simp [Act.eval]) HOV1.out lo hi ra rn rc x.r (by simp [Act.eval]) (HR.out.below HKV1.out.k5.1 hhi) (by omega) (by omega) hsV1 ?_
      intro y2 Y2 hO' hK'
      obtain ⟨z2, hz2⟩ : ∃ z, z = x2 ++ x.r := ⟨_, rfl⟩
      rw [← hz2] at hO'
      have HXz2 : Hid (z2 = x2 ++ x.r) := hz2
      have hlz2 : z2.length ≤ xs.length + 11 := by rw [hz2, List.length_append]; (try simp only [List.length_cons, List.length_nil]); omega
      have HOY2 : Hid (OwnB base Y2 y2 z2) := hO'
      have HKY2 : Hid (Keep6 base w bv Y2 y2) := HKV1.out.trans hK'
      have HBY2 : Hid (BoxA 147 Y2 w.heap.size 3 c0 c1 c2 c3 d0 d1 d2 d3 (.slice ra rn rc) (.slice sa sn sc) (.slice aa an ac) (.slice ba bn bc)) := HBV1.out.keep6 (by decide) hK'
      have hsY2 : base ≤ Y2.heap.size := Nat.le_trans hsV1 hK'.k5.1.size
      clear hO' hK' hz2
      try dsimp only
      refine hK.out _ _ ?_ (fun hHeld => ?_)
      · exact HBY2.out
      clear hK K; (try simp only [Act.put]); (try simp only [List.setIfInBounds_toArray]); (try simp only [List.set_cons_succ]); (try simp only [List.set_cons_zero])
      refine wpAnyH_ready (rs := [4]) (by kernel_rfl) (by simp) ?_
      refine AllReadyH.cons rfl (fun K hK => ?_) AllReadyH.nil
      obtain ⟨G3, hWz⟩ : ∃ W, W = Y2.alloc (.cells #[.int .u8 32] 5) := ⟨_, rfl⟩
      have HWG3 : Hid (G3 = Y2.alloc (.cells #[.int .u8 32] 5)) := hWz
      have hbz : Below Y2.heap.size Y2 G3 := by rw [hWz]; exact (Below.refl _ _).alloc (Nat.le_refl _) _
      have HZG3 : Hid (G3.heap[Y2.heap.size]? = some (.cells #[.int .u8 32] 5 (0, 0))) := by unfold Hid; rw [hWz]; exact World.alloc_heap_new Y2 _
      have HNoG3 : Hid (y2.ownBlock ≠ some Y2.heap.size) := fun e => by have := (OwnB.lt HOY2.out _ e).2; omega
      have HOG3 : Hid (OwnB base G3 y2 z2) := HOY2.out.below hbz (Nat.le_refl _)
      have HKG3 : Hid (Keep6 base w bv G3 y2) := HKY2.out.trans (Keep6.of_below hbz hsY2)
      have HBG3 : Hid (BoxA 147 G3 w.heap.size 3 c0 c1 c2 c3 d0 d1 d2 d3 (.slice ra rn rc) (.slice sa sn sc) (.slice aa an ac) (.slice ba bn bc)) := HBY2.out.below hbz HBY2.out.lt
      have hsG3 : base ≤ G3.heap.size := Nat.le_trans hsY2 hbz.size
      clear hWz hbz
      go_simp
      rw [← HWG3.out]
      refine hK.out _ _ ?_ (fun hHeld => ?_)
      · exact HBG3.out
      clear hK K; (try simp only [Act.put]); (try simp only [List.setIfInBounds_toArray]); (try simp only [List.set_cons_succ]); (try simp only [List.set_cons_zero])
      refine wpAnyH_ready (rs := [5]) (by kernel_rfl) (by simp) ?_
      refine AllReadyH.cons rfl (fun K hK => ?_) AllReadyH.nil
      refine step_appB rfl (.tmp 28) (.tmp 29) rfl base y2 z2 (by simp [Act.eval]) HOG3.out Y2.heap.size (Y2.heap.size + 1) _ 1 1 [32] (by simp [Act.eval]) (one_rd HZG3.out (by omega) (by omega)) (Nat.le_refl _) (by omega) hsG3 ?_
      intro y4 Y4 hO' hK'
      obtain ⟨z4, hz4⟩ : ∃ z, z = z2 ++ [32] := ⟨_, rfl⟩
      rw [← hz4] at hO'
      have HXz4 : Hid (z4 = z2 ++ [32]) := hz4
      have hlz4 : z4.length ≤ xs.length + 12 := by rw [hz4, List.length_append]; (try simp only [List.length_cons, List.length_nil]); omega
      have HOY4 : Hid (OwnB base Y4 y4 z4) := hO'
      have HKY4 : Hid (Keep6 base w bv Y4 y4) := HKG3.out.trans hK'
      have HBY4 : Hid (BoxA 147 Y4 w.heap.size 3 c0 c1 c2 c3 d0 d1 d2 d3 (.slice ra rn rc) (.slice sa sn sc) (.slice aa an ac) (.slice ba bn bc)) := HBG3.out.keep6 (by decide) hK'
      have hsY4 : base ≤ Y4.heap.size := Nat.le_trans hsG3 hK'.k5.1.size
      clear hO' hK' hz4
      try dsimp only
      refine hK.out _ _ ?_ (fun hHeld => ?_)
      · exact HBY4.out
      clear hK K; (try simp only [Act.put]); (try simp only [List.setIfInBounds_toArray]); (try simp only [List.set_cons_succ]); (try simp only [List.set_cons_zero])
      refine wpAnyH_ready (rs := [8]) (by kernel_rfl) (by simp) ?_
      refine AllReadyH.cons rfl (fun K hK => ?_) AllReadyH.nil
      refine step_appB rfl (.tmp 30) (.tmp 32) rfl base y4 z4 (by simp [Act.eval]) HOY4.out lo hi sa sn sc x.s (by simp [Act.eval]) (HS.out.below HKY4.out.k5.1 hhi) (by omega) (by omega) hsY4 ?_
      intro y5 Y5 hO' hK'
      obtain ⟨z5, hz5⟩ : ∃ z, z = z4 ++ x.s := ⟨_, rfl⟩
      rw [← hz5] at hO'
      have HXz5 : Hid (z5 = z4 ++ x.s) := hz5
      have hlz5 : z5.length ≤ xs.length + 18 := by rw [hz5, List.length_append]; (try simp only [List.length_cons, List.length_nil]); omega
      have HOY5 : Hid (OwnB base Y5 y5 z5) := hO'
      have HKY5 : Hid (Keep6 base w bv Y5 y5) := HKY4.out.trans hK'
      have HBY5 : Hid (BoxA 147 Y5 w.heap.size 3 c0 c1 c2 c3 d0 d1 d2 d3 (.slice ra rn rc) (.slice sa sn sc) (.slice aa an ac) (.slice ba bn bc)) := HBY4.out.keep6 (by decide) hK'
      have hsY5 : base ≤ Y5.heap.size := Nat.le_trans hsY4 hK'.k5.1.size
      clear hO' hK' hz5
      try dsimp only
      refine hK.out _ _ ?_ (fun hHeld => ?_)
      · exact HBY5.out
      clear hK K; (try simp only [Act.put]); (try simp only [List.setIfInBounds_toArray]); (try simp only [List.set_cons_succ]); (try simp only [List.set_cons_zero])
      refine wpAnyH_take (i := 9) (v := ?_) rfl (by kernel_rfl) (by kernel_rfl) (by kernel_rfl) (fun _ _ _ h => h) (Or.inl ⟨by rfl, ?_⟩) (by assumption) ?_
      rotate_left
      · intro w' hSw
        (try dsimp only at hSw)
        obtain ⟨t0, t1, t2, t3, t4, t5, t6, t7, t8, t9, t10, t11, t12⟩ := BoxA.cells hSw
        go_simp
        (try with_reducible rfl)
      (try simp only [Act.put]); (try simp only [List.setIfInBounds_toArray]); (try simp only [List.set_cons_succ]); (try simp only [List.set_cons_zero])
      refine wpAnyH_done (by kernel_rfl) ?_ _
      (try go_simp)
      go_wp2_with fail
      go_meet
      case rel => exact ⟨by rw [← HXz2.out, ← HXz4.out, ← HXz5.out]; exact HOY5.out, HKY5.out, HBY5.out⟩
    · skip
      obtain ⟨G6, hWz⟩ : ∃ W, W = V1.alloc (.cells #[.int .u8 32] 5) := ⟨_, rfl⟩
      have HWG6 : Hid (G6 = V1.alloc (.cells #[.int .u8 32] 5)) := hWz
      have hbz : Below V1.heap.size V1 G6 := by rw [hWz]; exact (Below.refl _ _).alloc (Nat.le_refl _) _
      have HZG6 : Hid (G6.heap[V1.heap.size]? = some (.cells #[.int .u8 32] 5 (0, 0))) := by unfold Hid; rw [hWz]; exact World.alloc_heap_new V1 _
      have HNoG6 : Hid (v3.ownBlock ≠ some V1.heap.size) := fun e => by have := (OwnB.lt HOV1.out _ e).2; omega
      have HOG6 : Hid (OwnB base G6 v3 x2) := HOV1.out.below hbz (Nat.le_refl _)
      have HKG6 : Hid (Keep6 base w bv G6 v3) := HKV1.out.trans (Keep6.of_below hbz hsV1)
      have HBG6 : Hid (BoxA 147 G6 w.heap.size 3 c0 c1 c2 c3 d0 d1 d2 d3 (.slice ra rn rc) (.slice sa sn sc) (.slice aa an ac) (.slice ba bn bc)) := HBV1.out.below hbz HBV1.out.lt
      have hsG6 : base ≤ G6.heap.size := Nat.le_trans hsV1 hbz.size
      clear hWz hbz
      go_simp
      rw [← HWG6.out]
      refine hK.out _ _ ?_ (fun hHeld => ?_)
      · exact HBG6.out
      clear hK K; (try simp only [Act.put]); (try simp only [List.setIfInBounds_toArray]); (try simp only [List.set_cons_succ]); (try simp only [List.set_cons_zero])
      refine wpAnyH_ready (rs := [3]) (by kernel_rfl) (by simp) ?_
      refine AllReadyH.cons rfl (fun K hK => ?_) AllReadyH.nil
      refine step_appB rfl (.tmp 25) (.tmp 27) rfl base v3 x2 (by simp [Act.eval]) HOG6.out lo hi ra rn rc x.r (by simp [Act.eval]) (HR.out.below HKG6.out.k5.1 hhi) (by omega) (by omega) hsG6 ?_
      intro y7 Y7 hO' hK'
      obtain ⟨z7, hz7⟩ : ∃ z, z = x2 ++ x.r := ⟨_, rfl⟩
      rw [← hz7] at hO'
      have HXz7 : Hid (z7 = x2 ++ x.r) := hz7
      have hlz7 : z7.length ≤ xs.length + 11 := by rw [hz7, List.length_append]; (try simp only [List.length_cons, List.length_nil]); omega
      have HOY7 : Hid (OwnB base Y7 y7 z7) := hO'
      have HKY7 : Hid (Keep6 base w bv Y7 y7) := HKG6.out.trans hK'
      have HBY7 : Hid (BoxA 147 Y7 w.heap.size 3 c0 c1 c2 c3 d0 d1 d2 d3 (.slice ra rn rc) (.slice sa sn sc) (.slice aa an ac) (.slice ba bn bc)) := HBG6.out.keep6 (by decide) hK'
      have hsY7 : base ≤ Y7.heap.size := Nat.le_trans hsG6 hK'.k5.1.size
      have HZY7 : Hid (Y7.heap[V1.heap.size]? = some (.cells #[.int .u8 32] 5 (0, 0))) := (hK'.gr _ (Array.getElem?_eq_some_iff.1 HZG6.out).1 (HNoG6.out)).trans HZG6.out
      clear hO' hK' hz7
      try dsimp only
      refine hK.out _ _ ?_ (fun hHeld => ?_)
      · exact HBY7.out
      clear hK K; (try simp only [Act.put]); (try simp only [List.setIfInBounds_toArray]); (try simp only [List.set_cons_succ]); (try simp only [List.set_cons_zero])
      refine wpAnyH_ready (rs := [5]) (by kernel_rfl) (by simp) ?_
      refine AllReadyH.cons rfl (fun K hK => ?_) AllReadyH.nil
      refine step_appB rfl (.tmp 28) (.tmp 29) rfl base y7 z7 (by simp [Act.eval]) HOY7.out V1.heap.size (V1.heap.size + 1) _ 1 1 [32] (by simp [Act.eval]) (one_rd HZY7.out (by omega) (by omega)) (Nat.le_refl _) (by omega) hsY7 ?_
      intro y8 Y8 hO' hK'
      obtain ⟨z8, hz8⟩ : ∃ z, z = z7 ++ [32] := ⟨_, rfl⟩
      rw [← hz8] at hO'
      have HXz8 : Hid (z8 = z7 ++ [32]) := hz8
      have hlz8 : z8.length ≤ xs.length + 12 := by rw [hz8, List.length_append]; (try simp only [List.length_cons, List.length_nil]); omega
      have HOY8 : Hid (OwnB base Y8 y8 z8) := hO'
      have HKY8 : Hid (Keep6 base w bv Y8 y8) := HKY7.out.trans hK'
      have HBY8 : Hid (BoxA 147 Y8 w.heap.size 3 c0 c1 c2 c3 d0 d1 d2 d3 (.slice ra rn rc) (.slice sa sn sc) (.slice aa an ac) (.slice ba bn bc)) := HBY7.out.keep6 (by decide) hK'
      have hsY8 : base ≤ Y8.heap.size := Nat.le_trans hsY7 hK'.k5.1.size
      clear hO' hK' hz8
      try dsimp only
      refine hK.out _ _ ?_ (fun hHeld => ?_)
      · exact HBY8.out
      clear hK K; (try simp only [Act.put]); (try simp only [List.setIfInBounds_toArray]); (try simp only [List.set_cons_succ]); (try simp only [List.set_cons_zero])
      refine wpAnyH_ready (rs := [8]) (by kernel_rfl) (by simp) ?_
      refine AllReadyH.cons rfl (fun K hK => ?_) AllReadyH.nil
      refine step_appB rfl (.tmp 30) (.tmp 32) rfl base y8 z8 (by simp [Act.eval]) HOY8.out lo hi sa sn sc x.s (by simp [Act.eval]) (HS.out.below HKY8.out.k5.1 hhi) (by omega) (by omega) hsY8 ?_
      intro y9 Y9 hO' hK'
      obtain ⟨z9, hz9⟩ : ∃ z, z = z8 ++ x.s := ⟨_, rfl⟩
      rw [← hz9] at hO'
      have HXz9 : Hid (z9 = z8 ++ x.s) := hz9
      have hlz9 : z9.length ≤ xs.length + 18 := by rw [hz9, List.length_append]; (try simp only [List.length_cons, List.length_nil]); omega
      have HOY9 : Hid (OwnB base Y9 y9 z9) := hO'
      have HKY9 : Hid (Keep6 base w bv Y9 y9) := HKY8.out.trans hK'
      have HBY9 : Hid (BoxA 147 Y9 w.heap.size 3 c0 c1 c2 c3 d0 d1 d2 d3 (.slice ra rn rc) (.slice sa sn sc) (.slice aa an ac) (.slice ba bn bc)) := HBY8.out.keep6 (by decide) hK'
      have hsY9 : base ≤ Y9.heap.size := Nat.le_trans hsY8 hK'.k5.1.size
      clear hO' hK' hz9
      try dsimp only
      refine hK.out _ _ ?_ (fun hHeld => ?_)
      · exact HBY9.out
      clear hK K; (try simp only [Act.put]); (try simp only [List.setIfInBounds_toArray]); (try simp only [List.set_cons_succ]); (try simp only [List.set_cons_zero])
      refine wpAnyH_take (i := 9) (v := ?_) rfl (by kernel_rfl) (by kernel_rfl) (by kernel_rfl) (fun _ _ _ h => h) (Or.inl ⟨by rfl, ?_⟩) (by assumption) ?_
      rotate_left
      · intro w' hSw
        (try dsimp only at hSw)
        obtain ⟨t0, t1, t2, t3, t4, t5, t6, t7, t8, t9, t10, t11, t12⟩ := BoxA.cells hSw
        go_simp
        (try with_reducible rfl)
      (try simp only [Act.put]); (try simp only [List.setIfInBounds_toArray]); (try simp only [List.set_cons_succ]); (try simp only [List.set_cons_zero])
      refine wpAnyH_done (by kernel_rfl) ?_ _
      (try go_simp)
      go_wp2_with fail
      go_meet
      case rel => exact ⟨by rw [← HXz7.out, ← HXz8.out, ← HXz9.out]; exact HOY9.out, HKY9.out, HBY9.out⟩
  case rest =>
    obtain ⟨hOc, hKc, hBc⟩ := hcut
    obtain ⟨R1, hRw⟩ : ∃ W, W = wc := ⟨_, rfl⟩
    subst hRw
    obtain ⟨q, hq⟩ : ∃ q, q = x2 ++ x.r ++ [32] ++ x.s := ⟨_, rfl⟩
    rw [← hq] at hOc
    have HQ : Hid (q = x2 ++ x.r ++ [32] ++ x.s) := hq
    have hql : q.length ≤ xs.length + 19 := by rw [hq]; (try simp only [List.length_append, List.length_cons, List.length_nil]); omega
    have hsR : base ≤ R1.heap.size := Nat.le_trans hbase hKc.k5.1.size
    have HKR : Hid (Keep6 base w bv R1 u0) := hKc
    have HBAl : Hid (Below R1.heap.size R1 (R1.alloc (.cells #[.int .u8 41] 5))) := (Below.refl _ _).alloc (Nat.le_refl _) _
    have HOl : Hid (OwnB base (R1.alloc (.cells #[.int .u8 41] 5)) u0 q) := hOc.below HBAl.out (Nat.le_refl _)
    have HSl : Hid (base ≤ (R1.alloc (.cells #[.int .u8 41] 5)).heap.size) := Nat.le_trans hsR HBAl.out.size
    clear hOc hKc hBc hq b0 b1 b2 b3 b4 b5 b6 b7 b8 b9 b10 b11 b12
    go_wp2_with (at_builtin; refine list_appB rfl (.tmp 62) (.tmp 63) rfl base u0 q rfl HOl.out R1.heap.size (R1.heap.size + 1) _ 1 1 [41] rfl (one_alloc R1 41 (by omega) (by omega)) (Nat.le_refl _) (by omega) HSl.out ?_; intro v9 w9 hO9 hK9; have HO9 : Hid (OwnB base w9 v9 (q ++ [41])) := hO9; have HK9 : Hid (Keep6 base w bv w9 v9) := (HKR.out.trans (Keep6.of_below HBAl.out hsR)).trans hK9; clear hO9 hK9)
    go_ret
    refine ⟨_, rfl, ?_, HK9.out⟩
    have e9 := HO9.out
    rw [HQ.out, HX2.out] at e9
    rw [HTx.out]
    exact e9

set_option maxRecDepth 100000 in
set_option maxHeartbeats 4000000 in
theorem l3say_4 {dp : Nat} {c0 c1 c2 c3 d0 d1 d2 d3 : Value} {ra : Option Addr} {rn rc : Nat} {sa : Option Addr} {sn sc : Nat} {aa : Option Addr} {an ac : Nat} {ba : Option Addr} {bn bc : Nat} {x : AX} {w : World} {lo hi base : Nat} {bv : Value} {xs : List Int} (h : RdA lo hi w dp c0 c1 c2 c3 d0 d1 d2 d3 ra rn rc sa sn sc aa an ac ba bn bc x) (hhi : hi ≤ base) (hbase : base ≤ w.heap.size) (hok : axOk x = true) (hk : x.kind = 4) (hO : OwnB base w bv xs) (hlen : xs.length ≤ 536870912) :
    Calls Try.prog 187 #[bv, .agg #[.int .i64 4, c0, c1, c2, c3, d0, d1, d2, d3, .slice ra rn rc, .slice sa sn sc, .slice aa an ac, .slice ba bn bc]] w fun e w' => ∃ bv', e = .returned bv' ∧ OwnB base w' bv' (xs ++ axSay x) ∧ Keep6 base w bv w' bv' := by
  obtain ⟨_, fC, fD, fR, fS, fA, fB⟩ := axOk_facts hok
  have lA := fitL_want fA (by rw [hk]; rfl)
  have eA := h.a.len
  rw [eA] at lA
  have HA : Hid (Rd lo hi w aa an ac x.a) := h.a
  have lC := textC_320 (fitC_ok fC)
  have HWC : Hid (wfC x.c = true) := wfC_of_ok (fitC_ok fC)
  have HC : Hid (RdC lo hi w dp (.agg #[c0, c1, c2, c3]) x.c) := h.c
  have HTx : Hid (xs ++ axSay x = xs ++ axWord 4 ++ [40] ++ x.a ++ [32] ++ textC x.c ++ [41]) := by unfold Hid axSay; rw [hk]; simp [fieldsN, fldsT, fldT]
  have hwl : (axWord 4).length ≤ 4 := axWord_len _
  obtain ⟨i0, hi0, hz0, hz1, hz2⟩ := info_parts Try.info5
  obtain ⟨W0, hW0⟩ : ∃ W0, W0 = w.alloc (.cells #[.int .i64 4, c0, c1, c2, c3, d0, d1, d2, d3, .slice ra rn rc, .slice sa sn sc, .slice aa an ac, .slice ba bn bc] 147) := ⟨_, rfl⟩
  have HW0 : Hid (W0 = w.alloc (.cells #[.int .i64 4, c0, c1, c2, c3, d0, d1, d2, d3, .slice ra rn rc, .slice sa sn sc, .slice aa an ac, .slice ba bn bc] 147)) := hW0
  have hb0 : Below w.heap.size w W0 := by rw [hW0]; exact (Below.refl _ _).alloc (Nat.le_refl _) _
  have HK0 : Hid (Keep6 base w bv W0 bv) := Keep6.of_below hb0 hbase
  have HO0 : Hid (OwnB base W0 bv xs) := hO.below hb0 (Nat.le_refl _)
  have hbx : BoxA 147 W0 w.heap.size 4 c0 c1 c2 c3 d0 d1 d2 d3 (.slice ra rn rc) (.slice sa sn sc) (.slice aa an ac) (.slice ba bn bc) := by rw [hW0]; exact BoxA.new _ w _ _ _ _ _ _ _ _ _ _ _ _ _
  have HBx0 : Hid (BoxA 147 W0 w.heap.size 4 c0 c1 c2 c3 d0 d1 d2 d3 (.slice ra rn rc) (.slice sa sn sc) (.slice aa an ac) (.slice ba bn bc)) := hbx
  have hs0 : base ≤ W0.heap.size := by have := hb0.size; omega
  obtain ⟨b0, b1, b2, b3, b4, b5, b6, b7, b8, b9, b10, b11, b12⟩ := hbx.cells
  clear h hb0 hW0 hbx hO fC fD fR fS fA fB
  go_enter Try.func187, Try.ntmps187
  go_upto_region 1 with fail
  rw [← HW0.out]
  go_upto_block 0 with (first | (go_at_call 240; refine (l3word_any 4 (by omega) _).mono ?_; rintro e w1 ⟨rfl, hb1⟩; have HK1 : Hid (Keep6 base w bv w1 bv) := HK0.out.trans (Keep6.of_below hb1 hs0); have HO1 : Hid (OwnB base w1 bv xs) := HO0.out.below hb1 (Nat.le_refl _); have HBx1 : Hid (BoxA 147 w1 w.heap.size 4 c0 c1 c2 c3 d0 d1 d2 d3 (.slice ra rn rc) (.slice sa sn sc) (.slice aa an ac) (.slice ba bn bc)) := HBx0.out.below hb1 HBx0.out.lt; have hs1 : base ≤ w1.heap.size := Nat.le_trans hs0 hb1.size; clear hb1) | (at_builtin; refine list_append_strAt rfl (.tmp 5) (.tmp 8) 22 9 rfl base 5 i0 Try.underlying22 Try.underlying9 hi0 hz0 hz1 hz2 bv xs.length (xs.map (Value.int .u8)) rfl HO1.out (axWordB 4) rfl (by rw [axWordB_size]; unfold maxLen; omega) (by rw [axWordB_size]; omega) hs1 ?_; intro v2 w2 hown' hgrow hat; have HF2 : Hid (OwnB base w2 v2 (xs ++ axWord 4) ∧ Keep6 base w1 bv w2 v2) := ownB_axStr HO1.out hs1 hown' hgrow hat; clear hown' hgrow hat; obtain ⟨x1, hx1⟩ : ∃ x1, x1 = xs ++ axWord 4 := ⟨_, rfl⟩; have HX1 : Hid (x1 = xs ++ axWord 4) := hx1; have hx1l : x1.length ≤ xs.length + 4 := (by rw [hx1, List.length_append]; omega); have hs2 : base ≤ w2.heap.size := Nat.le_trans hs1 HF2.out.2.k5.1.size; have HBA2 : Hid (Below w2.heap.size w2 (w2.alloc (.cells #[.int .u8 40] 5))) := (Below.refl _ _).alloc (Nat.le_refl _) _; have HO2 : Hid (OwnB base (w2.alloc (.cells #[.int .u8 40] 5)) v2 x1) := (by unfold Hid; rw [hx1]; exact HF2.out.1.below HBA2.out (Nat.le_refl _)); have HS2 : Hid (base ≤ (w2.alloc (.cells #[.int .u8 40] 5)).heap.size) := Nat.le_trans hs2 HBA2.out.size; have HK2 : Hid (Keep6 base w bv (w2.alloc (.cells #[.int .u8 40] 5)) v2) := (HK1.out.trans HF2.out.2).trans (Keep6.of_below HBA2.out hs2); have HBx2 : Hid (BoxA 147 (w2.alloc (.cells #[.int .u8 40] 5)) w.heap.size 4 c0 c1 c2 c3 d0 d1 d2 d3 (.slice ra rn rc) (.slice sa sn sc) (.slice aa an ac) (.slice ba bn bc)) := (HBx1.out.keep6 (by decide) HF2.out.2).below HBA2.out (HBx1.out.keep6 (by decide) HF2.out.2).lt; clear hx1) | (at_builtin; refine list_appB rfl (.tmp 9) (.tmp 10) rfl base v2 x1 rfl HO2.out w2.heap.size (w2.heap.size + 1) _ 1 1 [40] rfl (one_alloc w2 40 (by omega) (by omega)) (Nat.le_refl _) (by omega) HS2.out ?_; intro v3 w3 hO3 hK3; have HK3 : Hid (Keep6 base w bv w3 v3) := HK2.out.trans hK3; have HBx3 : Hid (BoxA 147 w3 w.heap.size 4 c0 c1 c2 c3 d0 d1 d2 d3 (.slice ra rn rc) (.slice sa sn sc) (.slice aa an ac) (.slice ba bn bc)) := HBx2.out.keep6 (by decide) hK3; clear b0 b1 b2 b3 b4 b5 b6 b7 b8 b9 b10 b11 b12; obtain ⟨b0, b1, b2, b3, b4, b5, b6, b7, b8, b9, b10, b11, b12⟩ := HBx3.out.cells; obtain ⟨x2, hx2⟩ : ∃ x2, x2 = x1 ++ [40] := ⟨_, rfl⟩; rw [← hx2] at hO3; have HX2 : Hid (x2 = xs ++ axWord 4 ++ [40]) := (by unfold Hid; rw [hx2, HX1.out]); have hx2l : x2.length ≤ xs.length + 5 := (by rw [hx2, List.length_append]; simp only [List.length_cons, List.length_nil]; omega); have HO3 : Hid (OwnB base w3 v3 x2) := hO3; have hs3 : base ≤ w3.heap.size := Nat.le_trans hbase HK3.out.k5.1.size; clear hO3 hK3 hx2))
  clear HK0 HO0 HBx0 HK1 HO1 HBx1 HF2 HBA2 HO2 HS2 HK2 HBx2 HX1 hx1l hs1 hs2
  go_cut [0] (fun v W => OwnB base W v (x2 ++ x.a ++ [32] ++ textC x.c) ∧ Keep6 base w bv W v ∧ BoxA 147 W w.heap.size 4 c0 c1 c2 c3 d0 d1 d2 d3 (.slice ra rn rc) (.slice sa sn sc) (.slice aa an ac) (.slice ba bn bc))
  case first =>
    have HKw3 : Hid (Keep6 base w bv w3 v3) := HK3.out
    have HOw3 : Hid (OwnB base w3 v3 x2) := HO3.out
    have HBw3 : Hid (BoxA 147 w3 w.heap.size 4 c0 c1 c2 c3 d0 d1 d2 d3 (.slice ra rn rc) (.slice sa sn sc) (.slice aa an ac) (.slice ba bn bc)) := HBx3.out
    have hsw3 : base ≤ w3.heap.size := hs3
    clear HK3 HO3 HBx3
    go_upto_region 7 with fail
    obtain ⟨V1, hV0⟩ : ∃ V, V = w3.drew := ⟨_, rfl⟩
    have HVV1 : Hid (V1 = w3.drew) := hV0
    have hbV : Below w3.heap.size w3 V1 := by rw [hV0]; exact (Below.refl _ _).drew
    have HKV1 : Hid (Keep6 base w bv V1 v3) := HKw3.out.trans (Keep6.of_below hbV hsw3)
    have HOV1 : Hid (OwnB base V1 v3 x2) := HOw3.out.below hbV (Nat.le_refl _)
    have HBV1 : Hid (BoxA 147 V1 w.heap.size 4 c0 c1 c2 c3 d0 d1 d2 d3 (.slice ra rn rc) (.slice sa sn sc) (.slice aa an ac) (.slice ba bn bc)) := HBw3.out.below hbV HBw3.out.lt
    have hsV1 : base ≤ V1.heap.size := Nat.le_trans hsw3 hbV.size
    clear hV0 hbV b0 b1 b2 b3 b4 b5 b6 b7 b8 b9 b10 b11 b12
    refine wp_region_held_drew (S := fun W => BoxA 147 W w.heap.size 4 c0 c1 c2 c3 d0 d1 d2 d3 (.slice ra rn rc) (.slice sa sn sc) (.slice aa an ac) (.slice ba bn bc)) (by kernel_rfl) ?_ (fun hHeld => ?_)
    · exact HBw3.out
    rw [← HVV1.out] at hHeld ⊢
    refine wpAnyH_take (i := 0) (v := ?_) rfl (by kernel_rfl) (by kernel_rfl) (by kernel_rfl) (fun _ _ _ h => h) (Or.inl ⟨by rfl, ?_⟩) (by assumption) ?_
    rotate_left
    · intro w' hSw
      (try dsimp only at hSw)
      obtain ⟨t0, t1, t2, t3, t4, t5, t6, t7, t8, t9, t10, t11, t12⟩ := BoxA.cells hSw
      go_simp
      (try with_reducible rfl)
    (try simp only [Act.put]); (try simp only [List.setIfInBounds_toArray]); (try simp only [List.set_cons_succ]); (try simp only [List.set_cons_zero])
    refine wpAnyH_take (i := 1) (v := ?_) rfl (by kernel_rfl) (by kernel_rfl) (by kernel_rfl) (fun _ _ _ h => h) (Or.inl ⟨by rfl, ?_⟩) (by assumption) ?_
    rotate_left
    · intro w' hSw
      (try dsimp only at hSw)
      obtain ⟨t0, t1, t2, t3, t4, t5, t6, t7, t8, t9, t10, t11, t12⟩ := BoxA.cells hSw
      go_simp
      (try with_reducible rfl)
    (try simp only [Act.put]); (try simp only [List.setIfInBounds_toArray]); (try simp only [List.set_cons_succ]); (try simp only [List.set_cons_zero])
    refine wpAnyH_take (i := 2) (v := ?_) rfl (by kernel_rfl) (by kernel_rfl) (by kernel_rfl) (fun _ _ _ h => h) (Or.inl ⟨by rfl, ?_⟩) (by assumption) ?_
    rotate_left
    · intro w' hSw
      (try dsimp only at hSw)
      obtain ⟨t0, t1, t2, t3, t4, t5, t6, t7, t8, t9, t10, t11, t12⟩ := BoxA.cells hSw
      go_simp
      (try with_reducible rfl)
    (try simp only [Act.put]); (try simp only [List.setIfInBounds_toArray]); (try simp only [List.set_cons_succ]); (try simp only [List.set_cons_zero])
    refine wpAnyH_take (i := 6) (v := ?_) rfl (by kernel_rfl) (by kernel_rfl) (by kernel_rfl) (fun _ _ _ h => h) (Or.inl ⟨by rfl, ?_⟩) (by assumption) ?_
    rotate_left
    · intro w' hSw
      (try dsimp only at hSw)
      obtain ⟨t0, t1, t2, t3, t4, t5, t6, t7, t8, t9, t10, t11, t12⟩ := BoxA.cells hSw
      go_simp
      (try with_reducible rfl)
    (try simp only [Act.put]); (try simp only [List.setIfInBounds_toArray]); (try simp only [List.set_cons_succ]); (try simp only [List.set_cons_zero])
    refine wpAnyH_take (i := 7) (v := ?_) rfl (by kernel_rfl) (by kernel_rfl) (by kernel_rfl) (fun _ _ _ h => h) (Or.inl ⟨by rfl, ?_⟩) (by assumption) ?_
    rotate_left
    · intro w' hSw
      (try dsimp only at hSw)
      obtain ⟨t0, t1, t2, t3, t4, t5, t6, t7, t8, t9, t10, t11, t12⟩ := BoxA.cells hSw
      go_simp
      (try with_reducible rfl)
    (try simp only [Act.put]); (try simp only [List.setIfInBounds_toArray]); (try simp only [List.set_cons_succ]); (try simp only [List.set_cons_zero])
    refine wpAnyH_ready (rs := [3, 4]) (by kernel_rfl) (by simp) ?_
    refine AllReadyH.cons rfl (fun K hK => ?_) (AllReadyH.cons rfl (fun K hK => ?_) AllReadyH.nil)
    · skip
      refine step_appB rfl (.tmp 36) (.tmp 38) rfl base v3 x2 (by simp [Act.eval]) HOV1.out lo hi aa an ac x.a (by simp [Act.eval]) (HA.out.below HKV1.out.k5.1 hhi) (by omega) (by omega) hsV1 ?_
      intro y2 Y2 hO' hK'
      obtain ⟨z2, hz2⟩ : ∃ z, z = x2 ++ x.a := ⟨_, rfl⟩
      rw [← hz2] at hO'
      have HXz2 : Hid (z2 = x2 ++ x.a) := hz2
      have hlz2 : z2.length ≤ xs.length + 11 := by rw [hz2, List.length_append]; (try simp only [List.length_cons, List.length_nil]); omega
      have HOY2 : Hid (OwnB base Y2 y2 z2) := hO'
      have HKY2 : Hid (Keep6 base w bv Y2 y2) := HKV1.out.trans hK'
      have HBY2 : Hid (BoxA 147 Y2 w.heap.size 4 c0 c1 c2 c3 d0 d1 d2 d3 (.slice ra rn rc) (.slice sa sn sc) (.slice aa an ac) (.slice ba bn bc)) := HBV1.out.keep6 (by decide) hK'
      have hsY2 : base ≤ Y2.heap.size := Nat.le_trans hsV1 hK'.k5.1.size
      clear hO' hK' hz2
      try dsimp only
      refine hK.out _ _ ?_ (fun hHeld => ?_)
      · exact HBY2.out
      clear hK K; (try simp only [Act.put]); (try simp only [List.setIfInBounds_toArray]); (try simp only [List.set_cons_succ]); (try simp only [List.set_cons_zero])
      refine wpAnyH_ready (rs := [4]) (by kernel_rfl) (by simp) ?_
      refine AllReadyH.cons rfl (fun K hK => ?_) AllReadyH.nil
      obtain ⟨G3, hWz⟩ : ∃ W, W = Y2.alloc (.cells #[.int .u8 32] 5) := ⟨_, rfl⟩
      have HWG3 : Hid (G3 = Y2.alloc (.cells #[.int .u8 32] 5)) := hWz
      have hbz : Below Y2.heap.size Y2 G3 := by rw [hWz]; exact (Below.refl _ _).alloc (Nat.le_refl _) _
      have HZG3 : Hid (G3.heap[Y2.heap.size]? = some (.cells #[.int .u8 32] 5 (0, 0))) := by unfold Hid; rw [hWz]; exact World.alloc_heap_new Y2 _
      have HNoG3 : Hid (y2.ownBlock ≠ some Y2.heap.size) := fun e => by have := (OwnB.lt HOY2.out _ e).2; omega
      have HOG3 : Hid (OwnB base G3 y2 z2) := HOY2.out.below hbz (Nat.le_refl _)
      have HKG3 : Hid (Keep6 base w bv G3 y2) := HKY2.out.trans (Keep6.of_below hbz hsY2)
      have HBG3 : Hid (BoxA 147 G3 w.heap.size 4 c0 c1 c2 c3 d0 d1 d2 d3 (.slice ra rn rc) (.slice sa sn sc) (.slice aa an ac) (.slice ba bn bc)) := HBY2.out.below hbz HBY2.out.lt
      have hsG3 : base ≤ G3.heap.size := Nat.le_trans hsY2 hbz.size
      clear hWz hbz
      go_simp
      rw [← HWG3.out]
      refine hK.out _ _ ?_ (fun hHeld => ?_)
      · exact HBG3.out
      clear hK K; (try simp only [Act.put]); (try simp only [List.setIfInBounds_toArray]); (try simp only [List.set_cons_succ]); (try simp only [List.set_cons_zero])
      refine wpAnyH_ready (rs := [5]) (by kernel_rfl) (by simp) ?_
      refine AllReadyH.cons rfl (fun K hK => ?_) AllReadyH.nil
      refine step_appB rfl (.tmp 39) (.tmp 40) rfl base y2 z2 (by simp [Act.eval]) HOG3.out Y2.heap.size (Y2.heap.size + 1) _ 1 1 [32] (by simp [Act.eval]) (one_rd HZG3.out (by omega) (by omega)) (Nat.le_refl _) (by omega) hsG3 ?_
      intro y4 Y4 hO' hK'
      obtain ⟨z4, hz4⟩ : ∃ z, z = z2 ++ [32] := ⟨_, rfl⟩
      rw [← hz4] at hO'
      have HXz4 : Hid (z4 = z2 ++ [32]) := hz4
      have hlz4 : z4.length ≤ xs.length + 12 := by rw [hz4, List.length_append]; (try simp only [List.length_cons, List.length_nil]); omega
      have HOY4 : Hid (OwnB base Y4 y4 z4) := hO'
      have HKY4 : Hid (Keep6 base w bv Y4 y4) := HKG3.out.trans hK'
      have HBY4 : Hid (BoxA 147 Y4 w.heap.size 4 c0 c1 c2 c3 d0 d1 d2 d3 (.slice ra rn rc) (.slice sa sn sc) (.slice aa an ac) (.slice ba bn bc)) := HBG3.out.keep6 (by decide) hK'
      have hsY4 : base ≤ Y4.heap.size := Nat.le_trans hsG3 hK'.k5.1.size
      clear hO' hK' hz4
      try dsimp only
      refine hK.out _ _ ?_ (fun hHeld => ?_)
      · exact HBY4.out
      clear hK K; (try simp only [Act.put]); (try simp only [List.setIfInBounds_toArray]); (try simp only [List.set_cons_succ]); (try simp only [List.set_cons_zero])
      refine wpAnyH_ready (rs := [8]) (by kernel_rfl) (by simp) ?_
      refine AllReadyH.cons rfl (fun K hK => ?_) AllReadyH.nil
      go_simp
      refine (sayG_any dp _ x.c y4 z4 Y4 base lo hi (HC.out.below HKY4.out.k5.1 hhi) hhi hsY4 HWC.out HOY4.out (by omega)).mono ?_
      rintro e Y5 ⟨y5, rfl, hO', hK'⟩
      obtain ⟨z5, hz5⟩ : ∃ z, z = z4 ++ textC x.c := ⟨_, rfl⟩
      rw [← hz5] at hO'
      have HXz5 : Hid (z5 = z4 ++ textC x.c) := hz5
      have hlz5 : z5.length ≤ xs.length + 332 := by rw [hz5, List.length_append]; (try simp only [List.length_cons, List.length_nil]); omega
      have HOY5 : Hid (OwnB base Y5 y5 z5) := hO'
      have HKY5 : Hid (Keep6 base w bv Y5 y5) := HKY4.out.trans hK'
      have HBY5 : Hid (BoxA 147 Y5 w.heap.size 4 c0 c1 c2 c3 d0 d1 d2 d3 (.slice ra rn rc) (.slice sa sn sc) (.slice aa an ac) (.slice ba bn bc)) := HBY4.out.keep6 (by decide) hK'
      have hsY5 : base ≤ Y5.heap.size := Nat.le_trans hsY4 hK'.k5.1.size
      clear hO' hK' hz5
      try dsimp only
      refine hK.out _ _ ?_ (fun hHeld => ?_)
      · exact HBY5.out
      clear hK K; (try simp only [Act.put]); (try simp only [List.setIfInBounds_toArray]); (try simp only [List.set_cons_succ]); (try simp only [List.set_cons_zero])
      refine wpAnyH_take (i := 9) (v := ?_) rfl (by kernel_rfl) (by kernel_rfl) (by kernel_rfl) (fun _ _ _ h => h) (Or.inl ⟨by rfl, ?_⟩) (by assumption) ?_
      rotate_left
      · intro w' hSw
        (try dsimp only at hSw)
        obtain ⟨t0, t1, t2, t3, t4, t5, t6, t7, t8, t9, t10, t11, t12⟩ := BoxA.cells hSw
        go_simp
        (try with_reducible rfl)
      (try simp only [Act.put]); (try simp only [List.setIfInBounds_toArray]); (try simp only [List.set_cons_succ]); (try simp only [List.set_cons_zero])
      refine wpAnyH_done (by kernel_rfl) ?_ _
      (try go_simp)
      go_wp2_with fail
      go_meet
      case rel => exact ⟨by rw [← HXz2.out, ← HXz4.out, ← HXz5.out]; exact HOY5.out, HKY5.out, HBY5.out⟩
    · skip
      obtain ⟨G6, hWz⟩ : ∃ W, W = V1.alloc (.cells #[.int .u8 32] 5) := ⟨_, rfl⟩
      have HWG6 : Hid (G6 = V1.alloc (.cells #[.int .u8 32] 5)) := hWz
      have hbz : Below V1.heap.size V1 G6 := by rw [hWz]; exact (Below.refl _ _).alloc (Nat.le_refl _) _
      have HZG6 : Hid (G6.heap[V1.heap.size]? = some (.cells #[.int .u8 32] 5 (0, 0))) := by unfold Hid; rw [hWz]; exact World.alloc_heap_new V1 _
      have HNoG6 : Hid (v3.ownBlock ≠ some V1.heap.size) := fun e => by have := (OwnB.lt HOV1.out _ e).2; omega
      have HOG6 : Hid (OwnB base G6 v3 x2) := HOV1.out.below hbz (Nat.le_refl _)
      have HKG6 : Hid (Keep6 base w bv G6 v3) := HKV1.out.trans (Keep6.of_below hbz hsV1)
      have HBG6 : Hid (BoxA 147 G6 w.heap.size 4 c0 c1 c2 c3 d0 d1 d2 d3 (.slice ra rn rc) (.slice sa sn sc) (.slice aa an ac) (.slice ba bn bc)) := HBV1.out.below hbz HBV1.out.lt
      have hsG6 : base ≤ G6.heap.size := Nat.le_trans hsV1 hbz.size
      clear hWz hbz
      go_simp
      rw [← HWG6.out]
      refine hK.out _ _ ?_ (fun hHeld => ?_)
      · exact HBG6.out
      clear hK K; (try simp only [Act.put]); (try simp only [List.setIfInBounds_toArray]); (try simp only [List.set_cons_succ]); (try simp only [List.set_cons_zero])
      refine wpAnyH_ready (rs := [3]) (by kernel_rfl) (by simp) ?_
      refine AllReadyH.cons rfl (fun K hK => ?_) AllReadyH.nil
      refine step_appB rfl (.tmp 36) (.tmp 38) rfl base v3 x2 (by simp [Act.eval]) HOG6.out lo hi aa an ac x.a (by simp [Act.eval]) (HA.out.below HKG6.out.k5.1 hhi) (by omega) (by omega) hsG6 ?_
      intro y7 Y7 hO' hK'
      obtain ⟨z7, hz7⟩ : ∃ z, z = x2 ++ x.a := ⟨_, rfl⟩
      rw [← hz7] at hO'
      have HXz7 : Hid (z7 = x2 ++ x.a) := hz7
      have hlz7 : z7.length ≤ xs.length + 11 := by rw [hz7, List.length_append]; (try simp only [List.length_cons, List.length_nil]); omega
      have HOY7 : Hid (OwnB base Y7 y7 z7) := hO'
      have HKY7 : Hid (Keep6 base w bv Y7 y7) := HKG6.out.trans hK'
      have HBY7 : Hid (BoxA 147 Y7 w.heap.size 4 c0 c1 c2 c3 d0 d1 d2 d3 (.slice ra rn rc) (.slice sa sn sc) (.slice aa an ac) (.slice ba bn bc)) := HBG6.out.keep6 (by decide) hK'
      have hsY7 : base ≤ Y7.heap.size := Nat.le_trans hsG6 hK'.k5.1.size
      have HZY7 : Hid (Y7.heap[V1.heap.size]? = some (.cells #[.int .u8 32] 5 (0, 0))) := (hK'.gr _ (Array.getElem?_eq_some_iff.1 HZG6.out).1 (HNoG6.out)).trans HZG6.out
      clear hO' hK' hz7
      try dsimp only
      refine hK.out _ _ ?_ (fun hHeld => ?_)
      · exact HBY7.out
      clear hK K; (try simp only [Act.put]); (try simp only [List.setIfInBounds_toArray]); (try simp only [List.set_cons_succ]); (try simp only [List.set_cons_zero])
      refine wpAnyH_ready (rs := [5]) (by kernel_rfl) (by simp) ?_
      refine AllReadyH.cons rfl (fun K hK => ?_) AllReadyH.nil
      refine step_appB rfl (.tmp 39) (.tmp 40) rfl base y7 z7 (by simp [Act.eval]) HOY7.out V1.heap.size (V1.heap.size + 1) _ 1 1 [32] (by simp [Act.eval]) (one_rd HZY7.out (by omega) (by omega)) (Nat.le_refl _) (by omega) hsY7 ?_
      intro y8 Y8 hO' hK'
      obtain ⟨z8, hz8⟩ : ∃ z, z = z7 ++ [32] := ⟨_, rfl⟩
      rw [← hz8] at hO'
      have HXz8 : Hid (z8 = z7 ++ [32]) := hz8
      have hlz8 : z8.length ≤ xs.length + 12 := by rw [hz8, List.length_append]; (try simp only [List.length_cons, List.length_nil]); omega
      have HOY8 : Hid (OwnB base Y8 y8 z8) := hO'
      have HKY8 : Hid (Keep6 base w bv Y8 y8) := HKY7.out.trans hK'
      have HBY8 : Hid (BoxA 147 Y8 w.heap.size 4 c0 c1 c2 c3 d0 d1 d2 d3 (.slice ra rn rc) (.slice sa sn sc) (.slice aa an ac) (.slice ba bn bc)) := HBY7.out.keep6 (by decide) hK'
      have hsY8 : base ≤ Y8.heap.size := Nat.le_trans hsY7 hK'.k5.1.size
      clear hO' hK' hz8
      try dsimp only
      refine hK.out _ _ ?_ (fun hHeld => ?_)
      · exact HBY8.out
      clear hK K; (try simp only [Act.put]); (try simp only [List.setIfInBounds_toArray]); (try simp only [List.set_cons_succ]); (try simp only [List.set_cons_zero])
      refine wpAnyH_ready (rs := [8]) (by kernel_rfl) (by simp) ?_
      refine AllReadyH.cons rfl (fun K hK => ?_) AllReadyH.nil
      go_simp
      refine (sayG_any dp _ x.c y8 z8 Y8 base lo hi (HC.out.below HKY8.out.k5.1 hhi) hhi hsY8 HWC.out HOY8.out (by omega)).mono ?_
      rintro e Y9 ⟨y9, rfl, hO', hK'⟩
      obtain ⟨z9, hz9⟩ : ∃ z, z = z8 ++ textC x.c := ⟨_, rfl⟩
      rw [← hz9] at hO'
      have HXz9 : Hid (z9 = z8 ++ textC x.c) := hz9
      have hlz9 : z9.length ≤ xs.length + 332 := by rw [hz9, List.length_append]; (try simp only [List.length_cons, List.length_nil]); omega
      have HOY9 : Hid (OwnB base Y9 y9 z9) := hO'
      have HKY9 : Hid (Keep6 base w bv Y9 y9) := HKY8.out.trans hK'
      have HBY9 : Hid (BoxA 147 Y9 w.heap.size 4 c0 c1 c2 c3 d0 d1 d2 d3 (.slice ra rn rc) (.slice sa sn sc) (.slice aa an ac) (.slice ba bn bc)) := HBY8.out.keep6 (by decide) hK'
      have hsY9 : base ≤ Y9.heap.size := Nat.le_trans hsY8 hK'.k5.1.size
      clear hO' hK' hz9
      try dsimp only
      refine hK.out _ _ ?_ (fun hHeld => ?_)
      · exact HBY9.out
      clear hK K; (try simp only [Act.put]); (try simp only [List.setIfInBounds_toArray]); (try simp only [List.set_cons_succ]); (try simp only [List.set_cons_zero])
      refine wpAnyH_take (i := 9) (v := ?_) rfl (by kernel_rfl) (by kernel_rfl) (by kernel_rfl) (fun _ _ _ h => h) (Or.inl ⟨by rfl, ?_⟩) (by assumption) ?_
      rotate_left
      · intro w' hSw
        (try dsimp only at hSw)
        obtain ⟨t0, t1, t2, t3, t4, t5, t6, t7, t8, t9, t10, t11, t12⟩ := BoxA.cells hSw
        go_simp
        (try with_reducible rfl)
      (try simp only [Act.put]); (try simp only [List.setIfInBounds_toArray]); (try simp only [List.set_cons_succ]); (try simp only [List.set_cons_zero])
      refine wpAnyH_done (by kernel_rfl) ?_ _
      (try go_simp)
      go_wp2_with fail
      go_meet
      case rel => exact ⟨by rw [← HXz7.out, ← HXz8.out, ← HXz9.out]; exact HOY9.out, HKY9.out, HBY9.out⟩
  case rest =>
    obtain ⟨hOc, hKc, hBc⟩ := hcut
    obtain ⟨R1, hRw⟩ : ∃ W, W = wc := ⟨_, rfl⟩
    subst hRw
    obtain ⟨q, hq⟩ : ∃ q, q = x2 ++ x.a ++ [32] ++ textC x.c := ⟨_, rfl⟩
    rw [← hq] at hOc
    have HQ : Hid (q = x2 ++ x.a ++ [32] ++ textC x.c) := hq
    have hql : q.length ≤ xs.length + 333 := by rw [hq]; (try simp only [List.length_append, List.length_cons, List.length_nil]); omega
    have hsR : base ≤ R1.heap.size := Nat.le_trans hbase hKc.k5.1.size
    have HKR : Hid (Keep6 base w bv R1 u0) := hKc
    have HBAl : Hid (Below R1.heap.size R1 (R1.alloc (.cells #[.int .u8 41] 5))) := (Below.refl _ _).alloc (Nat.le_refl _) _
    have HOl : Hid (OwnB base (R1.alloc (.cells #[.int .u8 41] 5)) u0 q) := hOc.below HBAl.out (Nat.le_refl _)
    have HSl : Hid (base ≤ (R1.alloc (.cells #[.int .u8 41] 5)).heap.size) := Nat.le_trans hsR HBAl.out.size
    clear hOc hKc hBc hq b0 b1 b2 b3 b4 b5 b6 b7 b8 b9 b10 b11 b12
    go_wp2_with (at_builtin; refine list_appB rfl (.tmp 62) (.tmp 63) rfl base u0 q rfl HOl.out R1.heap.size (R1.heap.size + 1) _ 1 1 [41] rfl (one_alloc R1 41 (by omega) (by omega)) (Nat.le_refl _) (by omega) HSl.out ?_; intro v9 w9 hO9 hK9; have HO9 : Hid (OwnB base w9 v9 (q ++ [41])) := hO9; have HK9 : Hid (Keep6 base w bv w9 v9) := (HKR.out.trans (Keep6.of_below HBAl.out hsR)).trans hK9; clear hO9 hK9)
    go_ret
    refine ⟨_, rfl, ?_, HK9.out⟩
    have e9 := HO9.out
    rw [HQ.out, HX2.out] at e9
    rw [HTx.out]
    exact e9

set_option maxRecDepth 100000 in
set_option maxHeartbeats 4000000 in
theorem l3say_5 {dp : Nat} {c0 c1 c2 c3 d0 d1 d2 d3 : Value} {ra : Option Addr} {rn rc : Nat} {sa : Option Addr} {sn sc : Nat} {aa : Option Addr} {an ac : Nat} {ba : Option Addr} {bn bc : Nat} {x : AX} {w : World} {lo hi base : Nat} {bv : Value} {xs : List Int} (h : RdA lo hi w dp c0 c1 c2 c3 d0 d1 d2 d3 ra rn rc sa sn sc aa an ac ba bn bc x) (hhi : hi ≤ base) (hbase : base ≤ w.heap.size) (hok : axOk x = true) (hk : x.kind = 5) (hO : OwnB base w bv xs) (hlen : xs.length ≤ 536870912) :
    Calls Try.prog 187 #[bv, .agg #[.int .i64 5, c0, c1, c2, c3, d0, d1, d2, d3, .slice ra rn rc, .slice sa sn sc, .slice aa an ac, .slice ba bn bc]] w fun e w' => ∃ bv', e = .returned bv' ∧ OwnB base w' bv' (xs ++ axSay x) ∧ Keep6 base w bv w' bv' := by
  obtain ⟨_, fC, fD, fR, fS, fA, fB⟩ := axOk_facts hok
  have lR := fitL_want fR (by rw [hk]; rfl)
  have eR := h.r.len
  rw [eR] at lR
  have HR : Hid (Rd lo hi w ra rn rc x.r) := h.r
  have lA := fitL_want fA (by rw [hk]; rfl)
  have eA := h.a.len
  rw [eA] at lA
  have HA : Hid (Rd lo hi w aa an ac x.a) := h.a
  have lB := fitL_want fB (by rw [hk]; rfl)
  have eB := h.b.len
  rw [eB] at lB
  have HB : Hid (Rd lo hi w ba bn bc x.b) := h.b
  have HTx : Hid (xs ++ axSay x = xs ++ axWord 5 ++ [40] ++ x.r ++ [32] ++ x.a ++ [32] ++ x.b ++ [41]) := by unfold Hid axSay; rw [hk]; simp [fieldsN, fldsT, fldT]
  have hwl : (axWord 5).length ≤ 4 := axWord_len _
  obtain ⟨i0, hi0, hz0, hz1, hz2⟩ := info_parts Try.info5
  obtain ⟨W0, hW0⟩ : ∃ W0, W0 = w.alloc (.cells #[.int .i64 5, c0, c1, c2, c3, d0, d1, d2, d3, .slice ra rn rc, .slice sa sn sc, .slice aa an ac, .slice ba bn bc] 147) := ⟨_, rfl⟩
  have HW0 : Hid (W0 = w.alloc (.cells #[.int .i64 5, c0, c1, c2, c3, d0, d1, d2, d3, .slice ra rn rc, .slice sa sn sc, .slice aa an ac, .slice ba bn bc] 147)) := hW0
  have hb0 : Below w.heap.size w W0 := by rw [hW0]; exact (Below.refl _ _).alloc (Nat.le_refl _) _
  have HK0 : Hid (Keep6 base w bv W0 bv) := Keep6.of_below hb0 hbase
  have HO0 : Hid (OwnB base W0 bv xs) := hO.below hb0 (Nat.le_refl _)
  have hbx : BoxA 147 W0 w.heap.size 5 c0 c1 c2 c3 d0 d1 d2 d3 (.slice ra rn rc) (.slice sa sn sc) (.slice aa an ac) (.slice ba bn bc) := by rw [hW0]; exact BoxA.new _ w _ _ _ _ _ _ _ _ _ _ _ _ _
  have HBx0 : Hid (BoxA 147 W0 w.heap.size 5 c0 c1 c2 c3 d0 d1 d2 d3 (.slice ra rn rc) (.slice sa sn sc) (.slice aa an ac) (.slice ba bn bc)) := hbx
  have hs0 : base ≤ W0.heap.size := by have := hb0.size; omega
  obtain ⟨b0, b1, b2, b3, b4, b5, b6, b7, b8, b9, b10, b11, b12⟩ := hbx.cells
  clear h hb0 hW0 hbx hO fC fD fR fS fA fB
  go_enter Try.func187, Try.ntmps187
  go_upto_region 1 with fail
  rw [← HW0.out]
  go_upto_block 0 with (first | (go_at_call 240; refine (l3word_any 5 (by omega) _).mono ?_; rintro e w1 ⟨rfl, hb1⟩; have HK1 : Hid (Keep6 base w bv w1 bv) := HK0.out.trans (Keep6.of_below hb1 hs0); have HO1 : Hid (OwnB base w1 bv xs) := HO0.out.below hb1 (Nat.le_refl _); have HBx1 : Hid (BoxA 147 w1 w.heap.size 5 c0 c1 c2 c3 d0 d1 d2 d3 (.slice ra rn rc) (.slice sa sn sc) (.slice aa an ac) (.slice ba bn bc)) := HBx0.out.below hb1 HBx0.out.lt; have hs1 : base ≤ w1.heap.size := Nat.le_trans hs0 hb1.size; clear hb1) | (at_builtin; refine list_append_strAt rfl (.tmp 5) (.tmp 8) 22 9 rfl base 5 i0 Try.underlying22 Try.underlying9 hi0 hz0 hz1 hz2 bv xs.length (xs.map (Value.int .u8)) rfl HO1.out (axWordB 5) rfl (by rw [axWordB_size]; unfold maxLen; omega) (by rw [axWordB_size]; omega) hs1 ?_; intro v2 w2 hown' hgrow hat; have HF2 : Hid (OwnB base w2 v2 (xs ++ axWord 5) ∧ Keep6 base w1 bv w2 v2) := ownB_axStr HO1.out hs1 hown' hgrow hat; clear hown' hgrow hat; obtain ⟨x1, hx1⟩ : ∃ x1, x1 = xs ++ axWord 5 := ⟨_, rfl⟩; have HX1 : Hid (x1 = xs ++ axWord 5) := hx1; have hx1l : x1.length ≤ xs.length + 4 := (by rw [hx1, List.length_append]; omega); have hs2 : base ≤ w2.heap.size := Nat.le_trans hs1 HF2.out.2.k5.1.size; have HBA2 : Hid (Below w2.heap.size w2 (w2.alloc (.cells #[.int .u8 40] 5))) := (Below.refl _ _).alloc (Nat.le_refl _) _; have HO2 : Hid (OwnB base (w2.alloc (.cells #[.int .u8 40] 5)) v2 x1) := (by unfold Hid; rw [hx1]; exact HF2.out.1.below HBA2.out (Nat.le_refl _)); have HS2 : Hid (base ≤ (w2.alloc (.cells #[.int .u8 40] 5)).heap.size) := Nat.le_trans hs2 HBA2.out.size; have HK2 : Hid (Keep6 base w bv (w2.alloc (.cells #[.int .u8 40] 5)) v2) := (HK1.out.trans HF2.out.2).trans (Keep6.of_below HBA2.out hs2); have HBx2 : Hid (BoxA 147 (w2.alloc (.cells #[.int .u8 40] 5)) w.heap.size 5 c0 c1 c2 c3 d0 d1 d2 d3 (.slice ra rn rc) (.slice sa sn sc) (.slice aa an ac) (.slice ba bn bc)) := (HBx1.out.keep6 (by decide) HF2.out.2).below HBA2.out (HBx1.out.keep6 (by decide) HF2.out.2).lt; clear hx1) | (at_builtin; refine list_appB rfl (.tmp 9) (.tmp 10) rfl base v2 x1 rfl HO2.out w2.heap.size (w2.heap.size + 1) _ 1 1 [40] rfl (one_alloc w2 40 (by omega) (by omega)) (Nat.le_refl _) (by omega) HS2.out ?_; intro v3 w3 hO3 hK3; have HK3 : Hid (Keep6 base w bv w3 v3) := HK2.out.trans hK3; have HBx3 : Hid (BoxA 147 w3 w.heap.size 5 c0 c1 c2 c3 d0 d1 d2 d3 (.slice ra rn rc) (.slice sa sn sc) (.slice aa an ac) (.slice ba bn bc)) := HBx2.out.keep6 (by decide) hK3; clear b0 b1 b2 b3 b4 b5 b6 b7 b8 b9 b10 b11 b12; obtain ⟨b0, b1, b2, b3, b4, b5, b6, b7, b8, b9, b10, b11, b12⟩ := HBx3.out.cells; obtain ⟨x2, hx2⟩ : ∃ x2, x2 = x1 ++ [40] := ⟨_, rfl⟩; rw [← hx2] at hO3; have HX2 : Hid (x2 = xs ++ axWord 5 ++ [40]) := (by unfold Hid; rw [hx2, HX1.out]); have hx2l : x2.length ≤ xs.length + 5 := (by rw [hx2, List.length_append]; simp only [List.length_cons, List.length_nil]; omega); have HO3 : Hid (OwnB base w3 v3 x2) := hO3; have hs3 : base ≤ w3.heap.size := Nat.le_trans hbase HK3.out.k5.1.size; clear hO3 hK3 hx2))
  clear HK0 HO0 HBx0 HK1 HO1 HBx1 HF2 HBA2 HO2 HS2 HK2 HBx2 HX1 hx1l hs1 hs2
  go_cut [0] (fun v W => OwnB base W v (x2 ++ x.r ++ [32] ++ x.a ++ [32] ++ x.b) ∧ Keep6 base w bv W v ∧ BoxA 147 W w.heap.size 5 c0 c1 c2 c3 d0 d1 d2 d3 (.slice ra rn rc) (.slice sa sn sc) (.slice aa an ac) (.slice ba bn bc))
  case first =>
    have HKw3 : Hid (Keep6 base w bv w3 v3) := HK3.out
    have HOw3 : Hid (OwnB base w3 v3 x2) := HO3.out
    have HBw3 : Hid (BoxA 147 w3 w.heap.size 5 c0 c1 c2 c3 d0 d1 d2 d3 (.slice ra rn rc) (.slice sa sn sc) (.slice aa an ac) (.slice ba bn bc)) := HBx3.out
    have hsw3 : base ≤ w3.heap.size := hs3
    clear HK3 HO3 HBx3
    go_upto_region 9 with fail
    obtain ⟨V1, hV0⟩ : ∃ V, V = w3.drew := ⟨_, rfl⟩
    have HVV1 : Hid (V1 = w3.drew) := hV0
    have hbV : Below w3.heap.size w3 V1 := by rw [hV0]; exact (Below.refl _ _).drew
    have HKV1 : Hid (Keep6 base w bv V1 v3) := HKw3.out.trans (Keep6.of_below hbV hsw3)
    have HOV1 : Hid (OwnB base V1 v3 x2) := HOw3.out.below hbV (Nat.le_refl _)
    have HBV1 : Hid (BoxA 147 V1 w.heap.size 5 c0 c1 c2 c3 d0 d1 d2 d3 (.slice ra rn rc) (.slice sa sn sc) (.slice aa an ac) (.slice ba bn bc)) := HBw3.out.below hbV HBw3.out.lt
    have hsV1 : base ≤ V1.heap.size := Nat.le_trans hsw3 hbV.size
    clear hV0 hbV b0 b1 b2 b3 b4 b5 b6 b7 b8 b9 b10 b11 b12
    refine wp_region_held_drew (S := fun W => BoxA 147 W w.heap.size 5 c0 c1 c2 c3 d0 d1 d2 d3 (.slice ra rn rc) (.slice sa sn sc) (.slice aa an ac) (.slice ba bn bc)) (by kernel_rfl) ?_ (fun hHeld => ?_)
    · exact HBw3.out
    rw [← HVV1.out] at hHeld ⊢
    refine wpAnyH_take (i := 0) (v := ?_) rfl (by kernel_rfl) (by kernel_rfl) (by kernel_rfl) (fun _ _ _ h => h) (Or.inl ⟨by rfl, ?_⟩) (by assumption) ?_
    rotate_left
    · intro w' hSw
      (try dsimp only at hSw)
      obtain ⟨t0, t1, t2, t3, t4, t5, t6, t7, t8, t9, t10, t11, t12⟩ := BoxA.cells hSw
      go_simp
      (try with_reducible rfl)
    (try simp only [Act.put]); (try simp only [List.setIfInBounds_toArray]); (try simp only [List.set_cons_succ]); (try simp only [List.set_cons_zero])
    refine wpAnyH_take (i := 1) (v := ?_) rfl (by kernel_rfl) (by kernel_rfl) (by kernel_rfl) (fun _ _ _ h => h) (Or.inl ⟨by rfl, ?_⟩) (by assumption) ?_
    rotate_left
    · intro w' hSw
      (try dsimp only at hSw)
      obtain ⟨t0, t1, t2, t3, t4, t5, t6, t7, t8, t9, t10, t11, t12⟩ := BoxA.cells hSw
      go_simp
      (try with_reducible rfl)
    (try simp only [Act.put]); (try simp only [List.setIfInBounds_toArray]); (try simp only [List.set_cons_succ]); (try simp only [List.set_cons_zero])
    refine wpAnyH_take (i := 2) (v := ?_) rfl (by kernel_rfl) (by kernel_rfl) (by kernel_rfl) (fun _ _ _ h => h) (Or.inl ⟨by rfl, ?_⟩) (by assumption) ?_
    rotate_left
    · intro w' hSw
      (try dsimp only at hSw)
      obtain ⟨t0, t1, t2, t3, t4, t5, t6, t7, t8, t9, t10, t11, t12⟩ := BoxA.cells hSw
      go_simp
      (try with_reducible rfl)
    (try simp only [Act.put]); (try simp only [List.setIfInBounds_toArray]); (try simp only [List.set_cons_succ]); (try simp only [List.set_cons_zero])
    refine wpAnyH_take (i := 6) (v := ?_) rfl (by kernel_rfl) (by kernel_rfl) (by kernel_rfl) (fun _ _ _ h => h) (Or.inl ⟨by rfl, ?_⟩) (by assumption) ?_
    rotate_left
    · intro w' hSw
      (try dsimp only at hSw)
      obtain ⟨t0, t1, t2, t3, t4, t5, t6, t7, t8, t9, t10, t11, t12⟩ := BoxA.cells hSw
      go_simp
      (try with_reducible rfl)
    (try simp only [Act.put]); (try simp only [List.setIfInBounds_toArray]); (try simp only [List.set_cons_succ]); (try simp only [List.set_cons_zero])
    refine wpAnyH_take (i := 7) (v := ?_) rfl (by kernel_rfl) (by kernel_rfl) (by kernel_rfl) (fun _ _ _ h => h) (Or.inl ⟨by rfl, ?_⟩) (by assumption) ?_
    rotate_left
    · intro w' hSw
      (try dsimp only at hSw)
      obtain ⟨t0, t1, t2, t3, t4, t5, t6, t7, t8, t9, t10, t11, t12⟩ := BoxA.cells hSw
      go_simp
      (try with_reducible rfl)
    (try simp only [Act.put]); (try simp only [List.setIfInBounds_toArray]); (try simp only [List.set_cons_succ]); (try simp only [List.set_cons_zero])
    refine wpAnyH_ready (rs := [3, 4]) (by kernel_rfl) (by simp) ?_
    refine AllReadyH.cons rfl (fun K hK => ?_) (AllReadyH.cons rfl (fun K hK => ?_) AllReadyH.nil)
    · skip
      refine step_appB rfl (.tmp 47) (.tmp 49) rfl base v3 x2 (by simp [Act.eval]) HOV1.out lo hi ra rn rc x.r (by simp [Act.eval]) (HR.out.below HKV1.out.k5.1 hhi) (by omega) (by omega) hsV1 ?_
      intro y2 Y2 hO' hK'
      obtain ⟨z2, hz2⟩ : ∃ z, z = x2 ++ x.r := ⟨_, rfl⟩
      rw [← hz2] at hO'
      have HXz2 : Hid (z2 = x2 ++ x.r) := hz2
      have hlz2 : z2.length ≤ xs.length + 11 := by rw [hz2, List.length_append]; (try simp only [List.length_cons, List.length_nil]); omega
      have HOY2 : Hid (OwnB base Y2 y2 z2) := hO'
      have HKY2 : Hid (Keep6 base w bv Y2 y2) := HKV1.out.trans hK'
      have HBY2 : Hid (BoxA 147 Y2 w.heap.size 5 c0 c1 c2 c3 d0 d1 d2 d3 (.slice ra rn rc) (.slice sa sn sc) (.slice aa an ac) (.slice ba bn bc)) := HBV1.out.keep6 (by decide) hK'
      have hsY2 : base ≤ Y2.heap.size := Nat.le_trans hsV1 hK'.k5.1.size
      clear hO' hK' hz2
      try dsimp only
      refine hK.out _ _ ?_ (fun hHeld => ?_)
      · exact HBY2.out
      clear hK K; (try simp only [Act.put]); (try simp only [List.setIfInBounds_toArray]); (try simp only [List.set_cons_succ]); (try simp only [List.set_cons_zero])
      refine wpAnyH_ready (rs := [4]) (by kernel_rfl) (by simp) ?_
      refine AllReadyH.cons rfl (fun K hK => ?_) AllReadyH.nil
      obtain ⟨G3, hWz⟩ : ∃ W, W = Y2.alloc (.cells #[.int .u8 32] 5) := ⟨_, rfl⟩
      have HWG3 : Hid (G3 = Y2.alloc (.cells #[.int .u8 32] 5)) := hWz
      have hbz : Below Y2.heap.size Y2 G3 := by rw [hWz]; exact (Below.refl _ _).alloc (Nat.le_refl _) _
      have HZG3 : Hid (G3.heap[Y2.heap.size]? = some (.cells #[.int .u8 32] 5 (0, 0))) := by unfold Hid; rw [hWz]; exact World.alloc_heap_new Y2 _
      have HNoG3 : Hid (y2.ownBlock ≠ some Y2.heap.size) := fun e => by have := (OwnB.lt HOY2.out _ e).2; omega
      have HOG3 : Hid (OwnB base G3 y2 z2) := HOY2.out.below hbz (Nat.le_refl _)
      have HKG3 : Hid (Keep6 base w bv G3 y2) := HKY2.out.trans (Keep6.of_below hbz hsY2)
      have HBG3 : Hid (BoxA 147 G3 w.heap.size 5 c0 c1 c2 c3 d0 d1 d2 d3 (.slice ra rn rc) (.slice sa sn sc) (.slice aa an ac) (.slice ba bn bc)) := HBY2.out.below hbz HBY2.out.lt
      have hsG3 : base ≤ G3.heap.size := Nat.le_trans hsY2 hbz.size
      clear hWz hbz
      go_simp
      rw [← HWG3.out]
      refine hK.out _ _ ?_ (fun hHeld => ?_)
      · exact HBG3.out
      clear hK K; (try simp only [Act.put]); (try simp only [List.setIfInBounds_toArray]); (try simp only [List.set_cons_succ]); (try simp only [List.set_cons_zero])
      refine wpAnyH_ready (rs := [5]) (by kernel_rfl) (by simp) ?_
      refine AllReadyH.cons rfl (fun K hK => ?_) AllReadyH.nil
      refine step_appB rfl (.tmp 50) (.tmp 51) rfl base y2 z2 (by simp [Act.eval]) HOG3.out Y2.heap.size (Y2.heap.size + 1) _ 1 1 [32] (by simp [Act.eval]) (one_rd HZG3.out (by omega) (by omega)) (Nat.le_refl _) (by omega) hsG3 ?_
      intro y4 Y4 hO' hK'
      obtain ⟨z4, hz4⟩ : ∃ z, z = z2 ++ [32] := ⟨_, rfl⟩
      rw [← hz4] at hO'
      have HXz4 : Hid (z4 = z2 ++ [32]) := hz4
      have hlz4 : z4.length ≤ xs.length + 12 := by rw [hz4, List.length_append]; (try simp only [List.length_cons, List.length_nil]); omega
      have HOY4 : Hid (OwnB base Y4 y4 z4) := hO'
      have HKY4 : Hid (Keep6 base w bv Y4 y4) := HKG3.out.trans hK'
      have HBY4 : Hid (BoxA 147 Y4 w.heap.size 5 c0 c1 c2 c3 d0 d1 d2 d3 (.slice ra rn rc) (.slice sa sn sc) (.slice aa an ac) (.slice ba bn bc)) := HBG3.out.keep6 (by decide) hK'
      have hsY4 : base ≤ Y4.heap.size := Nat.le_trans hsG3 hK'.k5.1.size
      clear hO' hK' hz4
      try dsimp only
      refine hK.out _ _ ?_ (fun hHeld => ?_)
      · exact HBY4.out
      clear hK K; (try simp only [Act.put]); (try simp only [List.setIfInBounds_toArray]); (try simp only [List.set_cons_succ]); (try simp only [List.set_cons_zero])
      refine wpAnyH_ready (rs := [8]) (by kernel_rfl) (by simp) ?_
      refine AllReadyH.cons rfl (fun K hK => ?_) AllReadyH.nil
      refine step_appB rfl (.tmp 52) (.tmp 54) rfl base y4 z4 (by simp [Act.eval]) HOY4.out lo hi aa an ac x.a (by simp [Act.eval]) (HA.out.below HKY4.out.k5.1 hhi) (by omega) (by omega) hsY4 ?_
      intro y5 Y5 hO' hK'
      obtain ⟨z5, hz5⟩ : ∃ z, z = z4 ++ x.a := ⟨_, rfl⟩
      rw [← hz5] at hO'
      have HXz5 : Hid (z5 = z4 ++ x.a) := hz5
      have hlz5 : z5.length ≤ xs.length + 18 := by rw [hz5, List.length_append]; (try simp only [List.length_cons, List.length_nil]); omega
      have HOY5 : Hid (OwnB base Y5 y5 z5) := hO'
      have HKY5 : Hid (Keep6 base w bv Y5 y5) := HKY4.out.trans hK'
      have HBY5 : Hid (BoxA 147 Y5 w.heap.size 5 c0 c1 c2 c3 d0 d1 d2 d3 (.slice ra rn rc) (.slice sa sn sc) (.slice aa an ac) (.slice ba bn bc)) := HBY4.out.keep6 (by decide) hK'
      have hsY5 : base ≤ Y5.heap.size := Nat.le_trans hsY4 hK'.k5.1.size
      clear hO' hK' hz5
      try dsimp only
      refine hK.out _ _ ?_ (fun hHeld => ?_)
      · exact HBY5.out
      clear hK K; (try simp only [Act.put]); (try simp only [List.setIfInBounds_toArray]); (try simp only [List.set_cons_succ]); (try simp only [List.set_cons_zero])
      refine wpAnyH_take (i := 9) (v := ?_) rfl (by kernel_rfl) (by kernel_rfl) (by kernel_rfl) (fun _ _ _ h => h) (Or.inl ⟨by rfl, ?_⟩) (by assumption) ?_
      rotate_left
      · intro w' hSw
        (try dsimp only at hSw)
        obtain ⟨t0, t1, t2, t3, t4, t5, t6, t7, t8, t9, t10, t11, t12⟩ := BoxA.cells hSw
        go_simp
        (try with_reducible rfl)
      (try simp only [Act.put]); (try simp only [List.setIfInBounds_toArray]); (try simp only [List.set_cons_succ]); (try simp only [List.set_cons_zero])
      refine wpAnyH_done (by kernel_rfl) ?_ _
      obtain ⟨b0, b1, b2, b3, b4, b5, b6, b7, b8, b9, b10, b11, b12⟩ := HBY5.out.cells
      go_upto_region 10 with fail
      obtain ⟨V6, hV0⟩ : ∃ V, V = Y5.drew := ⟨_, rfl⟩
      have HVV6 : Hid (V6 = Y5.drew) := hV0
      have hbV : Below Y5.heap.size Y5 V6 := by rw [hV0]; exact (Below.refl _ _).drew
      have HKV6 : Hid (Keep6 base w bv V6 y5) := HKY5.out.trans (Keep6.of_below hbV hsY5)
      have HOV6 : Hid (OwnB base V6 y5 z5) := HOY5.out.below hbV (Nat.le_refl _)
      have HBV6 : Hid (BoxA 147 V6 w.heap.size 5 c0 c1 c2 c3 d0 d1 d2 d3 (.slice ra rn rc) (.slice sa sn sc) (.slice aa an ac) (.slice ba bn bc)) := HBY5.out.below hbV HBY5.out.lt
      have hsV6 : base ≤ V6.heap.size := Nat.le_trans hsY5 hbV.size
      clear hV0 hbV b0 b1 b2 b3 b4 b5 b6 b7 b8 b9 b10 b11 b12
      refine wp_region_held_drew (S := fun W => BoxA 147 W w.heap.size 5 c0 c1 c2 c3 d0 d1 d2 d3 (.slice ra rn rc) (.slice sa sn sc) (.slice aa an ac) (.slice ba bn bc)) (by kernel_rfl) ?_ (fun hHeld => ?_)
      · exact HBY5.out
      rw [← HVV6.out] at hHeld ⊢
      refine wpAnyH_take (i := 0) (v := ?_) rfl (by kernel_rfl) (by kernel_rfl) (by kernel_rfl) (fun _ _ _ h => h) (Or.inl ⟨by rfl, ?_⟩) (by assumption) ?_
      rotate_left
      · intro w' hSw
        (try dsimp only at hSw)
        obtain ⟨t0, t1, t2, t3, t4, t5, t6, t7, t8, t9, t10, t11, t12⟩ := BoxA.cells hSw
        go_simp
        (try with_reducible rfl)
      (try simp only [Act.put]); (try simp only [List.setIfInBounds_toArray]); (try simp only [List.set_cons_succ]); (try simp only [List.set_cons_zero])
      refine wpAnyH_take (i := 3) (v := ?_) rfl (by kernel_rfl) (by kernel_rfl) (by kernel_rfl) (fun _ _ _ h => h) (Or.inl ⟨by rfl, ?_⟩) (by assumption) ?_
      rotate_left
      · intro w' hSw
        (try dsimp only at hSw)
        obtain ⟨t0, t1, t2, t3, t4, t5, t6, t7, t8, t9, t10, t11, t12⟩ := BoxA.cells hSw
        go_simp
        (try with_reducible rfl)
      (try simp only [Act.put]); (try simp only [List.setIfInBounds_toArray]); (try simp only [List.set_cons_succ]); (try simp only [List.set_cons_zero])
      refine wpAnyH_take (i := 4) (v := ?_) rfl (by kernel_rfl) (by kernel_rfl) (by kernel_rfl) (fun _ _ _ h => h) (Or.inl ⟨by rfl, ?_⟩) (by assumption) ?_
      rotate_left
      · intro w' hSw
        (try dsimp only at hSw)
        obtain ⟨t0, t1, t2, t3, t4, t5, t6, t7, t8, t9, t10, t11, t12⟩ := BoxA.cells hSw
        go_simp
        (try with_reducible rfl)
      (try simp only [Act.put]); (try simp only [List.setIfInBounds_toArray]); (try simp only [List.set_cons_succ]); (try simp only [List.set_cons_zero])
      refine wpAnyH_ready (rs := [1]) (by kernel_rfl) (by simp) ?_
      refine AllReadyH.cons rfl (fun K hK => ?_) AllReadyH.nil
      obtain ⟨G7, hWz⟩ : ∃ W, W = V6.alloc (.cells #[.int .u8 32] 5) := ⟨_, rfl⟩
      have HWG7 : Hid (G7 = V6.alloc (.cells #[.int .u8 32] 5)) := hWz
      have hbz : Below V6.heap.size V6 G7 := by rw [hWz]; exact (Below.refl _ _).alloc (Nat.le_refl _) _
      have HZG7 : Hid (G7.heap[V6.heap.size]? = some (.cells #[.int .u8 32] 5 (0, 0))) := by unfold Hid; rw [hWz]; exact World.alloc_heap_new V6 _
      have HNoG7 : Hid (y5.ownBlock ≠ some V6.heap.size) := fun e => by have := (OwnB.lt HOV6.out _ e).2; omega
      have HOG7 : Hid (OwnB base G7 y5 z5) := HOV6.out.below hbz (Nat.le_refl _)
      have HKG7 : Hid (Keep6 base w bv G7 y5) := HKV6.out.trans (Keep6.of_below hbz hsV6)
      have HBG7 : Hid (BoxA 147 G7 w.heap.size 5 c0 c1 c2 c3 d0 d1 d2 d3 (.slice ra rn rc) (.slice sa sn sc) (.slice aa an ac) (.slice ba bn bc)) := HBV6.out.below hbz HBV6.out.lt
      have hsG7 : base ≤ G7.heap.size := Nat.le_trans hsV6 hbz.size
      clear hWz hbz
      go_simp
      rw [← HWG7.out]
      refine hK.out _ _ ?_ (fun hHeld => ?_)
      · exact HBG7.out
      clear hK K; (try simp only [Act.put]); (try simp only [List.setIfInBounds_toArray]); (try simp only [List.set_cons_succ]); (try simp only [List.set_cons_zero])
      refine wpAnyH_ready (rs := [2]) (by kernel_rfl) (by simp) ?_
      refine AllReadyH.cons rfl (fun K hK => ?_) AllReadyH.nil
      refine step_appB rfl (.tmp 56) (.tmp 57) rfl base y5 z5 (by simp [Act.eval]) HOG7.out V6.heap.size (V6.heap.size + 1) _ 1 1 [32] (by simp [Act.eval]) (one_rd HZG7.out (by omega) (by omega)) (Nat.le_refl _) (by omega) hsG7 ?_
      intro y8 Y8 hO' hK'
      obtain ⟨z8, hz8⟩ : ∃ z, z = z5 ++ [32] := ⟨_, rfl⟩
      rw [← hz8] at hO'
      have HXz8 : Hid (z8 = z5 ++ [32]) := hz8
      have hlz8 : z8.length ≤ xs.length + 19 := by rw [hz8, List.length_append]; (try simp only [List.length_cons, List.length_nil]); omega
      have HOY8 : Hid (OwnB base Y8 y8 z8) := hO'
      have HKY8 : Hid (Keep6 base w bv Y8 y8) := HKG7.out.trans hK'
      have HBY8 : Hid (BoxA 147 Y8 w.heap.size 5 c0 c1 c2 c3 d0 d1 d2 d3 (.slice ra rn rc) (.slice sa sn sc) (.slice aa an ac) (.slice ba bn bc)) := HBG7.out.keep6 (by decide) hK'
      have hsY8 : base ≤ Y8.heap.size := Nat.le_trans hsG7 hK'.k5.1.size
      clear hO' hK' hz8
      try dsimp only
      refine hK.out _ _ ?_ (fun hHeld => ?_)
      · exact HBY8.out
      clear hK K; (try simp only [Act.put]); (try simp only [List.setIfInBounds_toArray]); (try simp only [List.set_cons_succ]); (try simp only [List.set_cons_zero])
      refine wpAnyH_ready (rs := [5]) (by kernel_rfl) (by simp) ?_
      refine AllReadyH.cons rfl (fun K hK => ?_) AllReadyH.nil
      refine step_appB rfl (.tmp 58) (.tmp 60) rfl base y8 z8 (by simp [Act.eval]) HOY8.out lo hi ba bn bc x.b (by simp [Act.eval]) (HB.out.below HKY8.out.k5.1 hhi) (by omega) (by omega) hsY8 ?_
      intro y9 Y9 hO' hK'
      obtain ⟨z9, hz9⟩ : ∃ z, z = z8 ++ x.b := ⟨_, rfl⟩
      rw [← hz9] at hO'
      have HXz9 : Hid (z9 = z8 ++ x.b) := hz9
      have hlz9 : z9.length ≤ xs.length + 25 := by rw [hz9, List.length_append]; (try simp only [List.length_cons, List.length_nil]); omega
      have HOY9 : Hid (OwnB base Y9 y9 z9) := hO'
      have HKY9 : Hid (Keep6 base w bv Y9 y9) := HKY8.out.trans hK'
      have HBY9 : Hid (BoxA 147 Y9 w.heap.size 5 c0 c1 c2 c3 d0 d1 d2 d3 (.slice ra rn rc) (.slice sa sn sc) (.slice aa an ac) (.slice ba bn bc)) := HBY8.out.keep6 (by decide) hK'
      have hsY9 : base ≤ Y9.heap.size := Nat.le_trans hsY8 hK'.k5.1.size
      clear hO' hK' hz9
      try dsimp only
      refine hK.out _ _ ?_ (fun hHeld => ?_)
      · exact HBY9.out
      clear hK K; (try simp only [Act.put]); (try simp only [List.setIfInBounds_toArray]); (try simp only [List.set_cons_succ]); (try simp only [List.set_cons_zero])
      refine wpAnyH_take (i := 6) (v := ?_) rfl (by kernel_rfl) (by kernel_rfl) (by kernel_rfl) (fun _ _ _ h => h) (Or.inl ⟨by rfl, ?_⟩) (by assumption) ?_
      rotate_left
      · intro w' hSw
        (try dsimp only at hSw)
        obtain ⟨t0, t1, t2, t3, t4, t5, t6, t7, t8, t9, t10, t11, t12⟩ := BoxA.cells hSw
        go_simp
        (try with_reducible rfl)
      (try simp only [Act.put]); (try simp only [List.setIfInBounds_toArray]); (try simp only [List.set_cons_succ]); (try simp only [List.set_cons_zero])
      refine wpAnyH_done (by kernel_rfl) ?_ _
      (try go_simp)
      go_wp2_with fail
      go_meet
      case rel => exact ⟨by rw [← HXz2.out, ← HXz4.out, ← HXz5.out, ← HXz8.out, ← HXz9.out]; exact HOY9.out, HKY9.out, HBY9.out⟩
    · skip
      obtain ⟨G10, hWz⟩ : ∃ W, W = V1.alloc (.cells #[.int .u8 32] 5) := ⟨_, rfl⟩
      have HWG10 : Hid (G10 = V1.alloc (.cells #[.int .u8 32] 5)) := hWz
      have hbz : Below V1.heap.size V1 G10 := by rw [hWz]; exact (Below.refl _ _).alloc (Nat.le_refl _) _
      have HZG10 : Hid (G10.heap[V1.heap.size]? = some (.cells #[.int .u8 32] 5 (0, 0))) := by unfold Hid; rw [hWz]; exact World.alloc_heap_new V1 _
      have HNoG10 : Hid (v3.ownBlock ≠ some V1.heap.size) := fun e => by have := (OwnB.lt HOV1.out _ e).2; omega
      have HOG10 : Hid (OwnB base G10 v3 x2) := HOV1.out.below hbz (Nat.le_refl _)
      have HKG10 : Hid (Keep6 base w bv G10 v3) := HKV1.out.trans (Keep6.of_below hbz hsV1)
      have HBG10 : Hid (BoxA 147 G10 w.heap.size 5 c0 c1 c2 c3 d0 d1 d2 d3 (.slice ra rn rc) (.slice sa sn sc) (.slice aa an ac) (.slice ba bn bc)) := HBV1.out.below hbz HBV1.out.lt
      have hsG10 : base ≤ G10.heap.size := Nat.le_trans hsV1 hbz.size
      clear hWz hbz
      go_simp
      rw [← HWG10.out]
      refine hK.out _ _ ?_ (fun hHeld => ?_)
      · exact HBG10.out
      clear hK K; (try simp only [Act.put]); (try simp only [List.setIfInBounds_toArray]); (try simp only [List.set_cons_succ]); (try simp only [List.set_cons_zero])
      refine wpAnyH_ready (rs := [3]) (by kernel_rfl) (by simp) ?_
      refine AllReadyH.cons rfl (fun K hK => ?_) AllReadyH.nil
      refine step_appB rfl (.tmp 47) (.tmp 49) rfl base v3 x2 (by simp [Act.eval]) HOG10.out lo hi ra rn rc x.r (by simp [Act.eval]) (HR.out.below HKG10.out.k5.1 hhi) (by omega) (by omega) hsG10 ?_
      intro y11 Y11 hO' hK'
      obtain ⟨z11, hz11⟩ : ∃ z, z = x2 ++ x.r := ⟨_, rfl⟩
      rw [← hz11] at hO'
      have HXz11 : Hid (z11 = x2 ++ x.r) := hz11
      have hlz11 : z11.length ≤ xs.length + 11 := by rw [hz11, List.length_append]; (try simp only [List.length_cons, List.length_nil]); omega
      have HOY11 : Hid (OwnB base Y11 y11 z11) := hO'
      have HKY11 : Hid (Keep6 base w bv Y11 y11) := HKG10.out.trans hK'
      have HBY11 : Hid (BoxA 147 Y11 w.heap.size 5 c0 c1 c2 c3 d0 d1 d2 d3 (.slice ra rn rc) (.slice sa sn sc) (.slice aa an ac) (.slice ba bn bc)) := HBG10.out.keep6 (by decide) hK'
      have hsY11 : base ≤ Y11.heap.size := Nat.le_trans hsG10 hK'.k5.1.size
      have HZY11 : Hid (Y11.heap[V1.heap.size]? = some (.cells #[.int .u8 32] 5 (0, 0))) := (hK'.gr _ (Array.getElem?_eq_some_iff.1 HZG10.out).1 (HNoG10.out)).trans HZG10.out
      clear hO' hK' hz11
      try dsimp only
      refine hK.out _ _ ?_ (fun hHeld => ?_)
      · exact HBY11.out
      clear hK K; (try simp only [Act.put]); (try simp only [List.setIfInBounds_toArray]); (try simp only [List.set_cons_succ]); (try simp only [List.set_cons_zero])
      refine wpAnyH_ready (rs := [5]) (by kernel_rfl) (by simp) ?_
      refine AllReadyH.cons rfl (fun K hK => ?_) AllReadyH.nil
      refine step_appB rfl (.tmp 50) (.tmp 51) rfl base y11 z11 (by simp [Act.eval]) HOY11.out V1.heap.size (V1.heap.size + 1) _ 1 1 [32] (by simp [Act.eval]) (one_rd HZY11.out (by omega) (by omega)) (Nat.le_refl _) (by omega) hsY11 ?_
      intro y12 Y12 hO' hK'
      obtain ⟨z12, hz12⟩ : ∃ z, z = z11 ++ [32] := ⟨_, rfl⟩
      rw [← hz12] at hO'
      have HXz12 : Hid (z12 = z11 ++ [32]) := hz12
      have hlz12 : z12.length ≤ xs.length + 12 := by rw [hz12, List.length_append]; (try simp only [List.length_cons, List.length_nil]); omega
      have HOY12 : Hid (OwnB base Y12 y12 z12) := hO'
      have HKY12 : Hid (Keep6 base w bv Y12 y12) := HKY11.out.trans hK'
      have HBY12 : Hid (BoxA 147 Y12 w.heap.size 5 c0 c1 c2 c3 d0 d1 d2 d3 (.slice ra rn rc) (.slice sa sn sc) (.slice aa an ac) (.slice ba bn bc)) := HBY11.out.keep6 (by decide) hK'
      have hsY12 : base ≤ Y12.heap.size := Nat.le_trans hsY11 hK'.k5.1.size
      clear hO' hK' hz12
      try dsimp only
      refine hK.out _ _ ?_ (fun hHeld => ?_)
      · exact HBY12.out
      clear hK K; (try simp only [Act.put]); (try simp only [List.setIfInBounds_toArray]); (try simp only [List.set_cons_succ]); (try simp only [List.set_cons_zero])
      refine wpAnyH_ready (rs := [8]) (by kernel_rfl) (by simp) ?_
      refine AllReadyH.cons rfl (fun K hK => ?_) AllReadyH.nil
      refine step_appB rfl (.tmp 52) (.tmp 54) rfl base y12 z12 (by simp [Act.eval]) HOY12.out lo hi aa an ac x.a (by simp [Act.eval]) (HA.out.below HKY12.out.k5.1 hhi) (by omega) (by omega) hsY12 ?_
      intro y13 Y13 hO' hK'
      obtain ⟨z13, hz13⟩ : ∃ z, z = z12 ++ x.a := ⟨_, rfl⟩
      rw [← hz13] at hO'
      have HXz13 : Hid (z13 = z12 ++ x.a) := hz13
      have hlz13 : z13.length ≤ xs.length + 18 := by rw [hz13, List.length_append]; (try simp only [List.length_cons, List.length_nil]); omega
      have HOY13 : Hid (OwnB base Y13 y13 z13) := hO'
      have HKY13 : Hid (Keep6 base w bv Y13 y13) := HKY12.out.trans hK'
      have HBY13 : Hid (BoxA 147 Y13 w.heap.size 5 c0 c1 c2 c3 d0 d1 d2 d3 (.slice ra rn rc) (.slice sa sn sc) (.slice aa an ac) (.slice ba bn bc)) := HBY12.out.keep6 (by decide) hK'
      have hsY13 : base ≤ Y13.heap.size := Nat.le_trans hsY12 hK'.k5.1.size
      clear hO' hK' hz13
      try dsimp only
      refine hK.out _ _ ?_ (fun hHeld => ?_)
      · exact HBY13.out
      clear hK K; (try simp only [Act.put]); (try simp only [List.setIfInBounds_toArray]); (try simp only [List.set_cons_succ]); (try simp only [List.set_cons_zero])
      refine wpAnyH_take (i := 9) (v := ?_) rfl (by kernel_rfl) (by kernel_rfl) (by kernel_rfl) (fun _ _ _ h => h) (Or.inl ⟨by rfl, ?_⟩) (by assumption) ?_
      rotate_left
      · intro w' hSw
        (try dsimp only at hSw)
        obtain ⟨t0, t1, t2, t3, t4, t5, t6, t7, t8, t9, t10, t11, t12⟩ := BoxA.cells hSw
        go_simp
        (try with_reducible rfl)
      (try simp only [Act.put]); (try simp only [List.setIfInBounds_toArray]); (try simp only [List.set_cons_succ]); (try simp only [List.set_cons_zero])
      refine wpAnyH_done (by kernel_rfl) ?_ _
      obtain ⟨b0, b1, b2, b3, b4, b5, b6, b7, b8, b9, b10, b11, b12⟩ := HBY13.out.cells
      go_upto_region 10 with fail
      obtain ⟨V14, hV0⟩ : ∃ V, V = Y13.drew := ⟨_, rfl⟩
      have HVV14 : Hid (V14 = Y13.drew) := hV0
      have hbV : Below Y13.heap.size Y13 V14 := by rw [hV0]; exact (Below.refl _ _).drew
      have HKV14 : Hid (Keep6 base w bv V14 y13) := HKY13.out.trans (Keep6.of_below hbV hsY13)
      have HOV14 : Hid (OwnB base V14 y13 z13) := HOY13.out.below hbV (Nat.le_refl _)
      have HBV14 : Hid (BoxA 147 V14 w.heap.size 5 c0 c1 c2 c3 d0 d1 d2 d3 (.slice ra rn rc) (.slice sa sn sc) (.slice aa an ac) (.slice ba bn bc)) := HBY13.out.below hbV HBY13.out.lt
      have hsV14 : base ≤ V14.heap.size := Nat.le_trans hsY13 hbV.size
      clear hV0 hbV b0 b1 b2 b3 b4 b5 b6 b7 b8 b9 b10 b11 b12
      refine wp_region_held_drew (S := fun W => BoxA 147 W w.heap.size 5 c0 c1 c2 c3 d0 d1 d2 d3 (.slice ra rn rc) (.slice sa sn sc) (.slice aa an ac) (.slice ba bn bc)) (by kernel_rfl) ?_ (fun hHeld => ?_)
      · exact HBY13.out
      rw [← HVV14.out] at hHeld ⊢
      refine wpAnyH_take (i := 0) (v := ?_) rfl (by kernel_rfl) (by kernel_rfl) (by kernel_rfl) (fun _ _ _ h => h) (Or.inl ⟨by rfl, ?_⟩) (by assumption) ?_
      rotate_left
      · intro w' hSw
        (try dsimp only at hSw)
        obtain ⟨t0, t1, t2, t3, t4, t5, t6, t7, t8, t9, t10, t11, t12⟩ := BoxA.cells hSw
        go_simp
        (try with_reducible rfl)
      (try simp only [Act.put]); (try simp only [List.setIfInBounds_toArray]); (try simp only [List.set_cons_succ]); (try simp only [List.set_cons_zero])
      refine wpAnyH_take (i := 3) (v := ?_) rfl (by kernel_rfl) (by kernel_rfl) (by kernel_rfl) (fun _ _ _ h => h) (Or.inl ⟨by rfl, ?_⟩) (by assumption) ?_
      rotate_left
      · intro w' hSw
        (try dsimp only at hSw)
        obtain ⟨t0, t1, t2, t3, t4, t5, t6, t7, t8, t9, t10, t11, t12⟩ := BoxA.cells hSw
        go_simp
        (try with_reducible rfl)
      (try simp only [Act.put]); (try simp only [List.setIfInBounds_toArray]); (try simp only [List.set_cons_succ]); (try simp only [List.set_cons_zero])
      refine wpAnyH_take (i := 4) (v := ?_) rfl (by kernel_rfl) (by kernel_rfl) (by kernel_rfl) (fun _ _ _ h => h) (Or.inl ⟨by rfl, ?_⟩) (by assumption) ?_
      rotate_left
      · intro w' hSw
        (try dsimp only at hSw)
        obtain ⟨t0, t1, t2, t3, t4, t5, t6, t7, t8, t9, t10, t11, t12⟩ := BoxA.cells hSw
        go_simp
        (try with_reducible rfl)
      (try simp only [Act.put]); (try simp only [List.setIfInBounds_toArray]); (try simp only [List.set_cons_succ]); (try simp only [List.set_cons_zero])
      refine wpAnyH_ready (rs := [1]) (by kernel_rfl) (by simp) ?_
      refine AllReadyH.cons rfl (fun K hK => ?_) AllReadyH.nil
      obtain ⟨G15, hWz⟩ : ∃ W, W = V14.alloc (.cells #[.int .u8 32] 5) := ⟨_, rfl⟩
      have HWG15 : Hid (G15 = V14.alloc (.cells #[.int .u8 32] 5)) := hWz
      have hbz : Below V14.heap.size V14 G15 := by rw [hWz]; exact (Below.refl _ _).alloc (Nat.le_refl _) _
      have HZG15 : Hid (G15.heap[V14.heap.size]? = some (.cells #[.int .u8 32] 5 (0, 0))) := by unfold Hid; rw [hWz]; exact World.alloc_heap_new V14 _
      have HNoG15 : Hid (y13.ownBlock ≠ some V14.heap.size) := fun e => by have := (OwnB.lt HOV14.out _ e).2; omega
      have HOG15 : Hid (OwnB base G15 y13 z13) := HOV14.out.below hbz (Nat.le_refl _)
      have HKG15 : Hid (Keep6 base w bv G15 y13) := HKV14.out.trans (Keep6.of_below hbz hsV14)
      have HBG15 : Hid (BoxA 147 G15 w.heap.size 5 c0 c1 c2 c3 d0 d1 d2 d3 (.slice ra rn rc) (.slice sa sn sc) (.slice aa an ac) (.slice ba bn bc)) := HBV14.out.below hbz HBV14.out.lt
      have hsG15 : base ≤ G15.heap.size := Nat.le_trans hsV14 hbz.size
      clear hWz hbz
      go_simp
      rw [← HWG15.out]
      refine hK.out _ _ ?_ (fun hHeld => ?_)
      · exact HBG15.out
      clear hK K; (try simp only [Act.put]); (try simp only [List.setIfInBounds_toArray]); (try simp only [List.set_cons_succ]); (try simp only [List.set_cons_zero])
      refine wpAnyH_ready (rs := [2]) (by kernel_rfl) (by simp) ?_
      refine AllReadyH.cons rfl (fun K hK => ?_) AllReadyH.nil
      refine step_appB rfl (.tmp 56) (.tmp 57) rfl base y13 z13 (by simp [Act.eval]) HOG15.out V14.heap.size (V14.heap.size + 1) _ 1 1 [32] (by simp [Act.eval]) (one_rd HZG15.out (by omega) (by omega)) (Nat.le_refl _) (by omega) hsG15 ?_
      intro y16 Y16 hO' hK'
      obtain ⟨z16, hz16⟩ : ∃ z, z = z13 ++ [32] := ⟨_, rfl⟩
      rw [← hz16] at hO'
      have HXz16 : Hid (z16 = z13 ++ [32]) := hz16
      have hlz16 : z16.length ≤ xs.length + 19 := by rw [hz16, List.length_append]; (try simp only [List.length_cons, List.length_nil]); omega
      have HOY16 : Hid (OwnB base Y16 y16 z16) := hO'
      have HKY16 : Hid (Keep6 base w bv Y16 y16) := HKG15.out.trans hK'
      have HBY16 : Hid (BoxA 147 Y16 w.heap.size 5 c0 c1 c2 c3 d0 d1 d2 d3 (.slice ra rn rc) (.slice sa sn sc) (.slice aa an ac) (.slice ba bn bc)) := HBG15.out.keep6 (by decide) hK'
      have hsY16 : base ≤ Y16.heap.size := Nat.le_trans hsG15 hK'.k5.1.size
      clear hO' hK' hz16
      try dsimp only
      refine hK.out _ _ ?_ (fun hHeld => ?_)
      · exact HBY16.out
      clear hK K; (try simp only [Act.put]); (try simp only [List.setIfInBounds_toArray]); (try simp only [List.set_cons_succ]); (try simp only [List.set_cons_zero])
      refine wpAnyH_ready (rs := [5]) (by kernel_rfl) (by simp) ?_
      refine AllReadyH.cons rfl (fun K hK => ?_) AllReadyH.nil
      refine step_appB rfl (.tmp 58) (.tmp 60) rfl base y16 z16 (by simp [Act.eval]) HOY16.out lo hi ba bn bc x.b (by simp [Act.eval]) (HB.out.below HKY16.out.k5.1 hhi) (by omega) (by omega) hsY16 ?_
      intro y17 Y17 hO' hK'
      obtain ⟨z17, hz17⟩ : ∃ z, z = z16 ++ x.b := ⟨_, rfl⟩
      rw [← hz17] at hO'
      have HXz17 : Hid (z17 = z16 ++ x.b) := hz17
      have hlz17 : z17.length ≤ xs.length + 25 := by rw [hz17, List.length_append]; (try simp only [List.length_cons, List.length_nil]); omega
      have HOY17 : Hid (OwnB base Y17 y17 z17) := hO'
      have HKY17 : Hid (Keep6 base w bv Y17 y17) := HKY16.out.trans hK'
      have HBY17 : Hid (BoxA 147 Y17 w.heap.size 5 c0 c1 c2 c3 d0 d1 d2 d3 (.slice ra rn rc) (.slice sa sn sc) (.slice aa an ac) (.slice ba bn bc)) := HBY16.out.keep6 (by decide) hK'
      have hsY17 : base ≤ Y17.heap.size := Nat.le_trans hsY16 hK'.k5.1.size
      clear hO' hK' hz17
      try dsimp only
      refine hK.out _ _ ?_ (fun hHeld => ?_)
      · exact HBY17.out
      clear hK K; (try simp only [Act.put]); (try simp only [List.setIfInBounds_toArray]); (try simp only [List.set_cons_succ]); (try simp only [List.set_cons_zero])
      refine wpAnyH_take (i := 6) (v := ?_) rfl (by kernel_rfl) (by kernel_rfl) (by kernel_rfl) (fun _ _ _ h => h) (Or.inl ⟨by rfl, ?_⟩) (by assumption) ?_
      rotate_left
      · intro w' hSw
        (try dsimp only at hSw)
        obtain ⟨t0, t1, t2, t3, t4, t5, t6, t7, t8, t9, t10, t11, t12⟩ := BoxA.cells hSw
        go_simp
        (try with_reducible rfl)
      (try simp only [Act.put]); (try simp only [List.setIfInBounds_toArray]); (try simp only [List.set_cons_succ]); (try simp only [List.set_cons_zero])
      refine wpAnyH_done (by kernel_rfl) ?_ _
      (try go_simp)
      go_wp2_with fail
      go_meet
      case rel => exact ⟨by rw [← HXz11.out, ← HXz12.out, ← HXz13.out, ← HXz16.out, ← HXz17.out]; exact HOY17.out, HKY17.out, HBY17.out⟩
  case rest =>
    obtain ⟨hOc, hKc, hBc⟩ := hcut
    obtain ⟨R1, hRw⟩ : ∃ W, W = wc := ⟨_, rfl⟩
    subst hRw
    obtain ⟨q, hq⟩ : ∃ q, q = x2 ++ x.r ++ [32] ++ x.a ++ [32] ++ x.b := ⟨_, rfl⟩
    rw [← hq] at hOc
    have HQ : Hid (q = x2 ++ x.r ++ [32] ++ x.a ++ [32] ++ x.b) := hq
    have hql : q.length ≤ xs.length + 26 := by rw [hq]; (try simp only [List.length_append, List.length_cons, List.length_nil]); omega
    have hsR : base ≤ R1.heap.size := Nat.le_trans hbase hKc.k5.1.size
    have HKR : Hid (Keep6 base w bv R1 u0) := hKc
    have HBAl : Hid (Below R1.heap.size R1 (R1.alloc (.cells #[.int .u8 41] 5))) := (Below.refl _ _).alloc (Nat.le_refl _) _
    have HOl : Hid (OwnB base (R1.alloc (.cells #[.int .u8 41] 5)) u0 q) := hOc.below HBAl.out (Nat.le_refl _)
    have HSl : Hid (base ≤ (R1.alloc (.cells #[.int .u8 41] 5)).heap.size) := Nat.le_trans hsR HBAl.out.size
    clear hOc hKc hBc hq b0 b1 b2 b3 b4 b5 b6 b7 b8 b9 b10 b11 b12
    go_wp2_with (at_builtin; refine list_appB rfl (.tmp 62) (.tmp 63) rfl base u0 q rfl HOl.out R1.heap.size (R1.heap.size + 1) _ 1 1 [41] rfl (one_alloc R1 41 (by omega) (by omega)) (Nat.le_refl _) (by omega) HSl.out ?_; intro v9 w9 hO9 hK9; have HO9 : Hid (OwnB base w9 v9 (q ++ [41])) := hO9; have HK9 : Hid (Keep6 base w bv w9 v9) := (HKR.out.trans (Keep6.of_below HBAl.out hsR)).trans hK9; clear hO9 hK9)
    go_ret
    refine ⟨_, rfl, ?_, HK9.out⟩
    have e9 := HO9.out
    rw [HQ.out, HX2.out] at e9
    rw [HTx.out]
    exact e9

set_option maxRecDepth 100000 in
set_option maxHeartbeats 4000000 in
theorem l3say_0 {dp : Nat} {c0 c1 c2 c3 d0 d1 d2 d3 : Value} {ra : Option Addr} {rn rc : Nat} {sa : Option Addr} {sn sc : Nat} {aa : Option Addr} {an ac : Nat} {ba : Option Addr} {bn bc : Nat} {x : AX} {w : World} {lo hi base : Nat} {bv : Value} {xs : List Int} (h : RdA lo hi w dp c0 c1 c2 c3 d0 d1 d2 d3 ra rn rc sa sn sc aa an ac ba bn bc x) (hhi : hi ≤ base) (hbase : base ≤ w.heap.size) (hok : axOk x = true) (hk : x.kind = 0) (hO : OwnB base w bv xs) (hlen : xs.length ≤ 536870912) :
    Calls Try.prog 187 #[bv, .agg #[.int .i64 0, c0, c1, c2, c3, d0, d1, d2, d3, .slice ra rn rc, .slice sa sn sc, .slice aa an ac, .slice ba bn bc]] w fun e w' => ∃ bv', e = .returned bv' ∧ OwnB base w' bv' (xs ++ axSay x) ∧ Keep6 base w bv w' bv' := by
  obtain ⟨_, fC, fD, fR, fS, fA, fB⟩ := axOk_facts hok
  have lC := textC_320 (fitC_ok fC)
  have HWC : Hid (wfC x.c = true) := wfC_of_ok (fitC_ok fC)
  have HC : Hid (RdC lo hi w dp (.agg #[c0, c1, c2, c3]) x.c) := h.c
  have lD := textC_320 (fitC_ok fD)
  have HWD : Hid (wfC x.d = true) := wfC_of_ok (fitC_ok fD)
  have HD : Hid (RdC lo hi w dp (.agg #[d0, d1, d2, d3]) x.d) := h.d
  have HTx : Hid (xs ++ axSay x = xs ++ axWord 0 ++ [40] ++ textC x.c ++ [32] ++ textC x.d ++ [41]) := by unfold Hid axSay; rw [hk]; simp [fieldsN, fldsT, fldT]
  have hwl : (axWord 0).length ≤ 4 := axWord_len _
  obtain ⟨i0, hi0, hz0, hz1, hz2⟩ := info_parts Try.info5
  obtain ⟨W0, hW0⟩ : ∃ W0, W0 = w.alloc (.cells #[.int .i64 0, c0, c1, c2, c3, d0, d1, d2, d3, .slice ra rn rc, .slice sa sn sc, .slice aa an ac, .slice ba bn bc] 147) := ⟨_, rfl⟩
  have HW0 : Hid (W0 = w.alloc (.cells #[.int .i64 0, c0, c1, c2, c3, d0, d1, d2, d3, .slice ra rn rc, .slice sa sn sc, .slice aa an ac, .slice ba bn bc] 147)) := hW0
  have hb0 : Below w.heap.size w W0 := by rw [hW0]; exact (Below.refl _ _).alloc (Nat.le_refl _) _
  have HK0 : Hid (Keep6 base w bv W0 bv) := Keep6.of_below hb0 hbase
  have HO0 : Hid (OwnB base W0 bv xs) := hO.below hb0 (Nat.le_refl _)
  have hbx : BoxA 147 W0 w.heap.size 0 c0 c1 c2 c3 d0 d1 d2 d3 (.slice ra rn rc) (.slice sa sn sc) (.slice aa an ac) (.slice ba bn bc) := by rw [hW0]; exact BoxA.new _ w _ _ _ _ _ _ _ _ _ _ _ _ _
  have HBx0 : Hid (BoxA 147 W0 w.heap.size 0 c0 c1 c2 c3 d0 d1 d2 d3 (.slice ra rn rc) (.slice sa sn sc) (.slice aa an ac) (.slice ba bn bc)) := hbx
  have hs0 : base ≤ W0.heap.size := by have := hb0.size; omega
  obtain ⟨b0, b1, b2, b3, b4, b5, b6, b7, b8, b9, b10, b11, b12⟩ := hbx.cells
  clear h hb0 hW0 hbx hO fC fD fR fS fA fB
  go_enter Try.func187, Try.ntmps187
  go_upto_region 1 with fail
  rw [← HW0.out]
  go_upto_block 0 with (first | (go_at_call 240; refine (l3word_any 0 (by omega) _).mono ?_; rintro e w1 ⟨rfl, hb1⟩; have HK1 : Hid (Keep6 base w bv w1 bv) := HK0.out.trans (Keep6.of_below hb1 hs0); have HO1 : Hid (OwnB base w1 bv xs) := HO0.out.below hb1 (Nat.le_refl _); have HBx1 : Hid (BoxA 147 w1 w.heap.size 0 c0 c1 c2 c3 d0 d1 d2 d3 (.slice ra rn rc) (.slice sa sn sc) (.slice aa an ac) (.slice ba bn bc)) := HBx0.out.below hb1 HBx0.out.lt; have hs1 : base ≤ w1.heap.size := Nat.le_trans hs0 hb1.size; clear hb1) | (at_builtin; refine list_append_strAt rfl (.tmp 5) (.tmp 8) 22 9 rfl base 5 i0 Try.underlying22 Try.underlying9 hi0 hz0 hz1 hz2 bv xs.length (xs.map (Value.int .u8)) rfl HO1.out (axWordB 0) rfl (by rw [axWordB_size]; unfold maxLen; omega) (by rw [axWordB_size]; omega) hs1 ?_; intro v2 w2 hown' hgrow hat; have HF2 : Hid (OwnB base w2 v2 (xs ++ axWord 0) ∧ Keep6 base w1 bv w2 v2) := ownB_axStr HO1.out hs1 hown' hgrow hat; clear hown' hgrow hat; obtain ⟨x1, hx1⟩ : ∃ x1, x1 = xs ++ axWord 0 := ⟨_, rfl⟩; have HX1 : Hid (x1 = xs ++ axWord 0) := hx1; have hx1l : x1.length ≤ xs.length + 4 := (by rw [hx1, List.length_append]; omega); have hs2 : base ≤ w2.heap.size := Nat.le_trans hs1 HF2.out.2.k5.1.size; have HBA2 : Hid (Below w2.heap.size w2 (w2.alloc (.cells #[.int .u8 40] 5))) := (Below.refl _ _).alloc (Nat.le_refl _) _; have HO2 : Hid (OwnB base (w2.alloc (.cells #[.int .u8 40] 5)) v2 x1) := (by unfold Hid; rw [hx1]; exact HF2.out.1.below HBA2.out (Nat.le_refl _)); have HS2 : Hid (base ≤ (w2.alloc (.cells #[.int .u8 40] 5)).heap.size) := Nat.le_trans hs2 HBA2.out.size; have HK2 : Hid (Keep6 base w bv (w2.alloc (.cells #[.int .u8 40] 5)) v2) := (HK1.out.trans HF2.out.2).trans (Keep6.of_below HBA2.out hs2); have HBx2 : Hid (BoxA 147 (w2.alloc (.cells #[.int .u8 40] 5)) w.heap.size 0 c0 c1 c2 c3 d0 d1 d2 d3 (.slice ra rn rc) (.slice sa sn sc) (.slice aa an ac) (.slice ba bn bc)) := (HBx1.out.keep6 (by decide) HF2.out.2).below HBA2.out (HBx1.out.keep6 (by decide) HF2.out.2).lt; clear hx1) | (at_builtin; refine list_appB rfl (.tmp 9) (.tmp 10) rfl base v2 x1 rfl HO2.out w2.heap.size (w2.heap.size + 1) _ 1 1 [40] rfl (one_alloc w2 40 (by omega) (by omega)) (Nat.le_refl _) (by omega) HS2.out ?_; intro v3 w3 hO3 hK3; have HK3 : Hid (Keep6 base w bv w3 v3) := HK2.out.trans hK3; have HBx3 : Hid (BoxA 147 w3 w.heap.size 0 c0 c1 c2 c3 d0 d1 d2 d3 (.slice ra rn rc) (.slice sa sn sc) (.slice aa an ac) (.slice ba bn bc)) := HBx2.out.keep6 (by decide) hK3; clear b0 b1 b2 b3 b4 b5 b6 b7 b8 b9 b10 b11 b12; obtain ⟨b0, b1, b2, b3, b4, b5, b6, b7, b8, b9, b10, b11, b12⟩ := HBx3.out.cells; obtain ⟨x2, hx2⟩ : ∃ x2, x2 = x1 ++ [40] := ⟨_, rfl⟩; rw [← hx2] at hO3; have HX2 : Hid (x2 = xs ++ axWord 0 ++ [40]) := (by unfold Hid; rw [hx2, HX1.out]); have hx2l : x2.length ≤ xs.length + 5 := (by rw [hx2, List.length_append]; simp only [List.length_cons, List.length_nil]; omega); have HO3 : Hid (OwnB base w3 v3 x2) := hO3; have hs3 : base ≤ w3.heap.size := Nat.le_trans hbase HK3.out.k5.1.size; clear hO3 hK3 hx2))
  clear HK0 HO0 HBx0 HK1 HO1 HBx1 HF2 HBA2 HO2 HS2 HK2 HBx2 HX1 hx1l hs1 hs2
  go_cut [0] (fun v W => OwnB base W v (x2 ++ textC x.c ++ [32] ++ textC x.d) ∧ Keep6 base w bv W v ∧ BoxA 147 W w.heap.size 0 c0 c1 c2 c3 d0 d1 d2 d3 (.slice ra rn rc) (.slice sa sn sc) (.slice aa an ac) (.slice ba bn bc))
  case first =>
    have HKw3 : Hid (Keep6 base w bv w3 v3) := HK3.out
    have HOw3 : Hid (OwnB base w3 v3 x2) := HO3.out
    have HBw3 : Hid (BoxA 147 w3 w.heap.size 0 c0 c1 c2 c3 d0 d1 d2 d3 (.slice ra rn rc) (.slice sa sn sc) (.slice aa an ac) (.slice ba bn bc)) := HBx3.out
    have hsw3 : base ≤ w3.heap.size := hs3
    clear HK3 HO3 HBx3
    go_upto_region 3 with fail
    obtain ⟨V1, hV0⟩ : ∃ V, V = w3.drew := ⟨_, rfl⟩
    have HVV1 : Hid (V1 = w3.drew) := hV0
    have hbV : Below w3.heap.size w3 V1 := by rw [hV0]; exact (Below.refl _ _).drew
    have HKV1 : Hid (Keep6 base w bv V1 v3) := HKw3.out.trans (Keep6.of_below hbV hsw3)
    have HOV1 : Hid (OwnB base V1 v3 x2) := HOw3.out.below hbV (Nat.le_refl _)
    have HBV1 : Hid (BoxA 147 V1 w.heap.size 0 c0 c1 c2 c3 d0 d1 d2 d3 (.slice ra rn rc) (.slice sa sn sc) (.slice aa an ac) (.slice ba bn bc)) := HBw3.out.below hbV HBw3.out.lt
    have hsV1 : base ≤ V1.heap.size := Nat.le_trans hsw3 hbV.size
    clear hV0 hbV b0 b1 b2 b3 b4 b5 b6 b7 b8 b9 b10 b11 b12
    refine wp_region_held_drew (S := fun W => BoxA 147 W w.heap.size 0 c0 c1 c2 c3 d0 d1 d2 d3 (.slice ra rn rc) (.slice sa sn sc) (.slice aa an ac) (.slice ba bn bc)) (by kernel_rfl) ?_ (fun hHeld => ?_)
    · exact HBw3.out
    rw [← HVV1.out] at hHeld ⊢
    refine wpAnyH_take (i := 0) (v := ?_) rfl (by kernel_rfl) (by kernel_rfl) (by kernel_rfl) (fun _ _ _ h => h) (Or.inl ⟨by rfl, ?_⟩) (by assumption) ?_
    rotate_left
    · intro w' hSw
      (try dsimp only at hSw)
      obtain ⟨t0, t1, t2, t3, t4, t5, t6, t7, t8, t9, t10, t11, t12⟩ := BoxA.cells hSw
      go_simp
      (try with_reducible rfl)
    (try simp only [Act.put]); (try simp only [List.setIfInBounds_toArray]); (try simp only [List.set_cons_succ]); (try simp only [List.set_cons_zero])
    refine wpAnyH_take (i := 1) (v := ?_) rfl (by kernel_rfl) (by kernel_rfl) (by kernel_rfl) (fun _ _ _ h => h) (Or.inl ⟨by rfl, ?_⟩) (by assumption) ?_
    rotate_left
    · intro w' hSw
      (try dsimp only at hSw)
      obtain ⟨t0, t1, t2, t3, t4, t5, t6, t7, t8, t9, t10, t11, t12⟩ := BoxA.cells hSw
      go_simp
      (try with_reducible rfl)
    (try simp only [Act.put]); (try simp only [List.setIfInBounds_toArray]); (try simp only [List.set_cons_succ]); (try simp only [List.set_cons_zero])
    refine wpAnyH_take (i := 2) (v := ?_) rfl (by kernel_rfl) (by kernel_rfl) (by kernel_rfl) (fun _ _ _ h => h) (Or.inl ⟨by rfl, ?_⟩) (by assumption) ?_
    rotate_left
    · intro w' hSw
      (try dsimp only at hSw)
      obtain ⟨t0, t1, t2, t3, t4, t5, t6, t7, t8, t9, t10, t11, t12⟩ := BoxA.cells hSw
      go_simp
      (try with_reducible rfl)
    (try simp only [Act.put]); (try simp only [List.setIfInBounds_toArray]); (try simp only [List.set_cons_succ]); (try simp only [List.set_cons_zero])
    refine wpAnyH_take (i := 6) (v := ?_) rfl (by kernel_rfl) (by kernel_rfl) (by kernel_rfl) (fun _ _ _ h => h) (Or.inl ⟨by rfl, ?_⟩) (by assumption) ?_
    rotate_left
    · intro w' hSw
      (try dsimp only at hSw)
      obtain ⟨t0, t1, t2, t3, t4, t5, t6, t7, t8, t9, t10, t11, t12⟩ := BoxA.cells hSw
      go_simp
      (try with_reducible rfl)
    (try simp only [Act.put]); (try simp only [List.setIfInBounds_toArray]); (try simp only [List.set_cons_succ]); (try simp only [List.set_cons_zero])
    refine wpAnyH_take (i := 7) (v := ?_) rfl (by kernel_rfl) (by kernel_rfl) (by kernel_rfl) (fun _ _ _ h => h) (Or.inl ⟨by rfl, ?_⟩) (by assumption) ?_
    rotate_left
    · intro w' hSw
      (try dsimp only at hSw)
      obtain ⟨t0, t1, t2, t3, t4, t5, t6, t7, t8, t9, t10, t11, t12⟩ := BoxA.cells hSw
      go_simp
      (try with_reducible rfl)
    (try simp only [Act.put]); (try simp only [List.setIfInBounds_toArray]); (try simp only [List.set_cons_succ]); (try simp only [List.set_cons_zero])
    refine wpAnyH_ready (rs := [3, 4]) (by kernel_rfl) (by simp) ?_
    refine AllReadyH.cons rfl (fun K hK => ?_) (AllReadyH.cons rfl (fun K hK => ?_) AllReadyH.nil)
    · skip
      go_simp
      refine (sayG_any dp _ x.c v3 x2 V1 base lo hi (HC.out.below HKV1.out.k5.1 hhi) hhi hsV1 HWC.out HOV1.out (by omega)).mono ?_
      rintro e Y2 ⟨y2, rfl, hO', hK'⟩
      obtain ⟨z2, hz2⟩ : ∃ z, z = x2 ++ textC x.c := ⟨_, rfl⟩
      rw [← hz2] at hO'
      have HXz2 : Hid (z2 = x2 ++ textC x.c) := hz2
      have hlz2 : z2.length ≤ xs.length + 325 := by rw [hz2, List.length_append]; (try simp only [List.length_cons, List.length_nil]); omega
      have HOY2 : Hid (OwnB base Y2 y2 z2) := hO'
      have HKY2 : Hid (Keep6 base w bv Y2 y2) := HKV1.out.trans hK'
      have HBY2 : Hid (BoxA 147 Y2 w.heap.size 0 c0 c1 c2 c3 d0 d1 d2 d3 (.slice ra rn rc) (.slice sa sn sc) (.slice aa an ac) (.slice ba bn bc)) := HBV1.out.keep6 (by decide) hK'
      have hsY2 : base ≤ Y2.heap.size := Nat.le_trans hsV1 hK'.k5.1.size
      clear hO' hK' hz2
      try dsimp only
      refine hK.out _ _ ?_ (fun hHeld => ?_)
      · exact HBY2.out
      clear hK K; (try simp only [Act.put]); (try simp only [List.setIfInBounds_toArray]); (try simp only [List.set_cons_succ]); (try simp only [List.set_cons_zero])
      refine wpAnyH_ready (rs := [4]) (by kernel_rfl) (by simp) ?_
      refine AllReadyH.cons rfl (fun K hK => ?_) AllReadyH.nil
      obtain ⟨G3, hWz⟩ : ∃ W, W = Y2.alloc (.cells #[.int .u8 32] 5) := ⟨_, rfl⟩
      have HWG3 : Hid (G3 = Y2.alloc (.cells #[.int .u8 32] 5)) := hWz
      have hbz : Below Y2.heap.size Y2 G3 := by rw [hWz]; exact (Below.refl _ _).alloc (Nat.le_refl _) _
      have HZG3 : Hid (G3.heap[Y2.heap.size]? = some (.cells #[.int .u8 32] 5 (0, 0))) := by unfold Hid; rw [hWz]; exact World.alloc_heap_new Y2 _
      have HNoG3 : Hid (y2.ownBlock ≠ some Y2.heap.size) := fun e => by have := (OwnB.lt HOY2.out _ e).2; omega
      have HOG3 : Hid (OwnB base G3 y2 z2) := HOY2.out.below hbz (Nat.le_refl _)
      have HKG3 : Hid (Keep6 base w bv G3 y2) := HKY2.out.trans (Keep6.of_below hbz hsY2)
      have HBG3 : Hid (BoxA 147 G3 w.heap.size 0 c0 c1 c2 c3 d0 d1 d2 d3 (.slice ra rn rc) (.slice sa sn sc) (.slice aa an ac) (.slice ba bn bc)) := HBY2.out.below hbz HBY2.out.lt
      have hsG3 : base ≤ G3.heap.size := Nat.le_trans hsY2 hbz.size
      clear hWz hbz
      go_simp
      rw [← HWG3.out]
      refine hK.out _ _ ?_ (fun hHeld => ?_)
      · exact HBG3.out
      clear hK K; (try simp only [Act.put]); (try simp only [List.setIfInBounds_toArray]); (try simp only [List.set_cons_succ]); (try simp only [List.set_cons_zero])
      refine wpAnyH_ready (rs := [5]) (by kernel_rfl) (by simp) ?_
      refine AllReadyH.cons rfl (fun K hK => ?_) AllReadyH.nil
      refine step_appB rfl (.tmp 17) (.tmp 18) rfl base y2 z2 (by simp [Act.eval]) HOG3.out Y2.heap.size (Y2.heap.size + 1) _ 1 1 [32] (by simp [Act.eval]) (one_rd HZG3.out (by omega) (by omega)) (Nat.le_refl _) (by omega) hsG3 ?_
      intro y4 Y4 hO' hK'
      obtain ⟨z4, hz4⟩ : ∃ z, z = z2 ++ [32] := ⟨_, rfl⟩
      rw [← hz4] at hO'
      have HXz4 : Hid (z4 = z2 ++ [32]) := hz4
      have hlz4 : z4.length ≤ xs.length + 326 := by rw [hz4, List.length_append]; (try simp only [List.length_cons, List.length_nil]); omega
      have HOY4 : Hid (OwnB base Y4 y4 z4) := hO'
      have HKY4 : Hid (Keep6 base w bv Y4 y4) := HKG3.out.trans hK'
      have HBY4 : Hid (BoxA 147 Y4 w.heap.size 0 c0 c1 c2 c3 d0 d1 d2 d3 (.slice ra rn rc) (.slice sa sn sc) (.slice aa an ac) (.slice ba bn bc)) := HBG3.out.keep6 (by decide) hK'
      have hsY4 : base ≤ Y4.heap.size := Nat.le_trans hsG3 hK'.k5.1.size
      clear hO' hK' hz4
      try dsimp only
      refine hK.out _ _ ?_ (fun hHeld => ?_)
      · exact HBY4.out
      clear hK K; (try simp only [Act.put]); (try simp only [List.setIfInBounds_toArray]); (try simp only [List.set_cons_succ]); (try simp only [List.set_cons_zero])
      refine wpAnyH_ready (rs := [8]) (by kernel_rfl) (by simp) ?_
      refine AllReadyH.cons rfl (fun K hK => ?_) AllReadyH.nil
      go_simp
      refine (sayG_any dp _ x.d y4 z4 Y4 base lo hi (HD.out.below HKY4.out.k5.1 hhi) hhi hsY4 HWD.out HOY4.out (by omega)).mono ?_
      rintro e Y5 ⟨y5, rfl, hO', hK'⟩
      obtain ⟨z5, hz5⟩ : ∃ z, z = z4 ++ textC x.d := ⟨_, rfl⟩
      rw [← hz5] at hO'
      have HXz5 : Hid (z5 = z4 ++ textC x.d) := hz5
      have hlz5 : z5.length ≤ xs.length + 646 := by rw [hz5, List.length_append]; (try simp only [List.length_cons, List.length_nil]); omega
      have HOY5 : Hid (OwnB base Y5 y5 z5) := hO'
      have HKY5 : Hid (Keep6 base w bv Y5 y5) := HKY4.out.trans hK'
      have HBY5 : Hid (BoxA 147 Y5 w.heap.size 0 c0 c1 c2 c3 d0 d1 d2 d3 (.slice ra rn rc) (.slice sa sn sc) (.slice aa an ac) (.slice ba bn bc)) := HBY4.out.keep6 (by decide) hK'
      have hsY5 : base ≤ Y5.heap.size := Nat.le_trans hsY4 hK'.k5.1.size
      clear hO' hK' hz5
      try dsimp only
      refine hK.out _ _ ?_ (fun hHeld => ?_)
      · exact HBY5.out
      clear hK K; (try simp only [Act.put]); (try simp only [List.setIfInBounds_toArray]); (try simp only [List.set_cons_succ]); (try simp only [List.set_cons_zero])
      refine wpAnyH_take (i := 9) (v := ?_) rfl (by kernel_rfl) (by kernel_rfl) (by kernel_rfl) (fun _ _ _ h => h) (Or.inl ⟨by rfl, ?_⟩) (by assumption) ?_
      rotate_left
      · intro w' hSw
        (try dsimp only at hSw)
        obtain ⟨t0, t1, t2, t3, t4, t5, t6, t7, t8, t9, t10, t11, t12⟩ := BoxA.cells hSw
        go_simp
        (try with_reducible rfl)
      (try simp only [Act.put]); (try simp only [List.setIfInBounds_toArray]); (try simp only [List.set_cons_succ]); (try simp only [List.set_cons_zero])
      refine wpAnyH_done (by kernel_rfl) ?_ _
      (try go_simp)
      go_wp2_with fail
      go_meet
      case rel => exact ⟨by rw [← HXz2.out, ← HXz4.out, ← HXz5.out]; exact HOY5.out, HKY5.out, HBY5.out⟩
    · skip
      obtain ⟨G6, hWz⟩ : ∃ W, W = V1.alloc (.cells #[.int .u8 32] 5) := ⟨_, rfl⟩
      have HWG6 : Hid (G6 = V1.alloc (.cells #[.int .u8 32] 5)) := hWz
      have hbz : Below V1.heap.size V1 G6 := by rw [hWz]; exact (Below.refl _ _).alloc (Nat.le_refl _) _
      have HZG6 : Hid (G6.heap[V1.heap.size]? = some (.cells #[.int .u8 32] 5 (0, 0))) := by unfold Hid; rw [hWz]; exact World.alloc_heap_new V1 _
      have HNoG6 : Hid (v3.ownBlock ≠ some V1.heap.size) := fun e => by have := (OwnB.lt HOV1.out _ e).2; omega
      have HOG6 : Hid (OwnB base G6 v3 x2) := HOV1.out.below hbz (Nat.le_refl _)
      have HKG6 : Hid (Keep6 base w bv G6 v3) := HKV1.out.trans (Keep6.of_below hbz hsV1)
      have HBG6 : Hid (BoxA 147 G6 w.heap.size 0 c0 c1 c2 c3 d0 d1 d2 d3 (.slice ra rn rc) (.slice sa sn sc) (.slice aa an ac) (.slice ba bn bc)) := HBV1.out.below hbz HBV1.out.lt
      have hsG6 : base ≤ G6.heap.size := Nat.le_trans hsV1 hbz.size
      clear hWz hbz
      go_simp
      rw [← HWG6.out]
      refine hK.out _ _ ?_ (fun hHeld => ?_)
      · exact HBG6.out
      clear hK K; (try simp only [Act.put]); (try simp only [List.setIfInBounds_toArray]); (try simp only [List.set_cons_succ]); (try simp only [List.set_cons_zero])
      refine wpAnyH_ready (rs := [3]) (by kernel_rfl) (by simp) ?_
      refine AllReadyH.cons rfl (fun K hK => ?_) AllReadyH.nil
      go_simp
      refine (sayG_any dp _ x.c v3 x2 G6 base lo hi (HC.out.below HKG6.out.k5.1 hhi) hhi hsG6 HWC.out HOG6.out (by omega)).mono ?_
      rintro e Y7 ⟨y7, rfl, hO', hK'⟩
      obtain ⟨z7, hz7⟩ : ∃ z, z = x2 ++ textC x.c := ⟨_, rfl⟩
      rw [← hz7] at hO'
      have HXz7 : Hid (z7 = x2 ++ textC x.c) := hz7
      have hlz7 : z7.length ≤ xs.length + 325 := by rw [hz7, List.length_append]; (try simp only [List.length_cons, List.length_nil]); omega
      have HOY7 : Hid (OwnB base Y7 y7 z7) := hO'
      have HKY7 : Hid (Keep6 base w bv Y7 y7) := HKG6.out.trans hK'
      have HBY7 : Hid (BoxA 147 Y7 w.heap.size 0 c0 c1 c2 c3 d0 d1 d2 d3 (.slice ra rn rc) (.slice sa sn sc) (.slice aa an ac) (.slice ba bn bc)) := HBG6.out.keep6 (by decide) hK'
      have hsY7 : base ≤ Y7.heap.size := Nat.le_trans hsG6 hK'.k5.1.size
      have HZY7 : Hid (Y7.heap[V1.heap.size]? = some (.cells #[.int .u8 32] 5 (0, 0))) := (hK'.gr _ (Array.getElem?_eq_some_iff.1 HZG6.out).1 (HNoG6.out)).trans HZG6.out
      clear hO' hK' hz7
      try dsimp only
      refine hK.out _ _ ?_ (fun hHeld => ?_)
      · exact HBY7.out
      clear hK K; (try simp only [Act.put]); (try simp only [List.setIfInBounds_toArray]); (try simp only [List.set_cons_succ]); (try simp only [List.set_cons_zero])
      refine wpAnyH_ready (rs := [5]) (by kernel_rfl) (by simp) ?_
      refine AllReadyH.cons rfl (fun K hK => ?_) AllReadyH.nil
      refine step_appB rfl (.tmp 17) (.tmp 18) rfl base y7 z7 (by simp [Act.eval]) HOY7.out V1.heap.size (V1.heap.size + 1) _ 1 1 [32] (by simp [Act.eval]) (one_rd HZY7.out (by omega) (by omega)) (Nat.le_refl _) (by omega) hsY7 ?_
      intro y8 Y8 hO' hK'
      obtain ⟨z8, hz8⟩ : ∃ z, z = z7 ++ [32] := ⟨_, rfl⟩
      rw [← hz8] at hO'
      have HXz8 : Hid (z8 = z7 ++ [32]) := hz8
      have hlz8 : z8.length ≤ xs.length + 326 := by rw [hz8, List.length_append]; (try simp only [List.length_cons, List.length_nil]); omega
      have HOY8 : Hid (OwnB base Y8 y8 z8) := hO'
      have HKY8 : Hid (Keep6 base w bv Y8 y8) := HKY7.out.trans hK'
      have HBY8 : Hid (BoxA 147 Y8 w.heap.size 0 c0 c1 c2 c3 d0 d1 d2 d3 (.slice ra rn rc) (.slice sa sn sc) (.slice aa an ac) (.slice ba bn bc)) := HBY7.out.keep6 (by decide) hK'
      have hsY8 : base ≤ Y8.heap.size := Nat.le_trans hsY7 hK'.k5.1.size
      clear hO' hK' hz8
      try dsimp only
      refine hK.out _ _ ?_ (fun hHeld => ?_)
      · exact HBY8.out
      clear hK K; (try simp only [Act.put]); (try simp only [List.setIfInBounds_toArray]); (try simp only [List.set_cons_succ]); (try simp only [List.set_cons_zero])
      refine wpAnyH_ready (rs := [8]) (by kernel_rfl) (by simp) ?_
      refine AllReadyH.cons rfl (fun K hK => ?_) AllReadyH.nil
      go_simp
      refine (sayG_any dp _ x.d y8 z8 Y8 base lo hi (HD.out.below HKY8.out.k5.1 hhi) hhi hsY8 HWD.out HOY8.out (by omega)).mono ?_
      rintro e Y9 ⟨y9, rfl, hO', hK'⟩
      obtain ⟨z9, hz9⟩ : ∃ z, z = z8 ++ textC x.d := ⟨_, rfl⟩
      rw [← hz9] at hO'
      have HXz9 : Hid (z9 = z8 ++ textC x.d) := hz9
      have hlz9 : z9.length ≤ xs.length + 646 := by rw [hz9, List.length_append]; (try simp only [List.length_cons, List.length_nil]); omega
      have HOY9 : Hid (OwnB base Y9 y9 z9) := hO'
      have HKY9 : Hid (Keep6 base w bv Y9 y9) := HKY8.out.trans hK'
      have HBY9 : Hid (BoxA 147 Y9 w.heap.size 0 c0 c1 c2 c3 d0 d1 d2 d3 (.slice ra rn rc) (.slice sa sn sc) (.slice aa an ac) (.slice ba bn bc)) := HBY8.out.keep6 (by decide) hK'
      have hsY9 : base ≤ Y9.heap.size := Nat.le_trans hsY8 hK'.k5.1.size
      clear hO' hK' hz9
      try dsimp only
      refine hK.out _ _ ?_ (fun hHeld => ?_)
      · exact HBY9.out
      clear hK K; (try simp only [Act.put]); (try simp only [List.setIfInBounds_toArray]); (try simp only [List.set_cons_succ]); (try simp only [List.set_cons_zero])
      refine wpAnyH_take (i := 9) (v := ?_) rfl (by kernel_rfl) (by kernel_rfl) (by kernel_rfl) (fun _ _ _ h => h) (Or.inl ⟨by rfl, ?_⟩) (by assumption) ?_
      rotate_left
      · intro w' hSw
        (try dsimp only at hSw)
        obtain ⟨t0, t1, t2, t3, t4, t5, t6, t7, t8, t9, t10, t11, t12⟩ := BoxA.cells hSw
        go_simp
        (try with_reducible rfl)
      (try simp only [Act.put]); (try simp only [List.setIfInBounds_toArray]); (try simp only [List.set_cons_succ]); (try simp only [List.set_cons_zero])
      refine wpAnyH_done (by kernel_rfl) ?_ _
      (try go_simp)
      go_wp2_with fail
      go_meet
      case rel => exact ⟨by rw [← HXz7.out, ← HXz8.out, ← HXz9.out]; exact HOY9.out, HKY9.out, HBY9.out⟩
  case rest =>
    obtain ⟨hOc, hKc, hBc⟩ := hcut
    obtain ⟨R1, hRw⟩ : ∃ W, W = wc := ⟨_, rfl⟩
    subst hRw
    obtain ⟨q, hq⟩ : ∃ q, q = x2 ++ textC x.c ++ [32] ++ textC x.d := ⟨_, rfl⟩
    rw [← hq] at hOc
    have HQ : Hid (q = x2 ++ textC x.c ++ [32] ++ textC x.d) := hq
    have hql : q.length ≤ xs.length + 647 := by rw [hq]; (try simp only [List.length_append, List.length_cons, List.length_nil]); omega
    have hsR : base ≤ R1.heap.size := Nat.le_trans hbase hKc.k5.1.size
    have HKR : Hid (Keep6 base w bv R1 u0) := hKc
    have HBAl : Hid (Below R1.heap.size R1 (R1.alloc (.cells #[.int .u8 41] 5))) := (Below.refl _ _).alloc (Nat.le_refl _) _
    have HOl : Hid (OwnB base (R1.alloc (.cells #[.int .u8 41] 5)) u0 q) := hOc.below HBAl.out (Nat.le_refl _)
    have HSl : Hid (base ≤ (R1.alloc (.cells #[.int .u8 41] 5)).heap.size) := Nat.le_trans hsR HBAl.out.size
    clear hOc hKc hBc hq b0 b1 b2 b3 b4 b5 b6 b7 b8 b9 b10 b11 b12
    go_wp2_with (at_builtin; refine list_appB rfl (.tmp 62) (.tmp 63) rfl base u0 q rfl HOl.out R1.heap.size (R1.heap.size + 1) _ 1 1 [41] rfl (one_alloc R1 41 (by omega) (by omega)) (Nat.le_refl _) (by omega) HSl.out ?_; intro v9 w9 hO9 hK9; have HO9 : Hid (OwnB base w9 v9 (q ++ [41])) := hO9; have HK9 : Hid (Keep6 base w bv w9 v9) := (HKR.out.trans (Keep6.of_below HBAl.out hsR)).trans hK9; clear hO9 hK9)
    go_ret
    refine ⟨_, rfl, ?_, HK9.out⟩
    have e9 := HO9.out
    rw [HQ.out, HX2.out] at e9
    rw [HTx.out]
    exact e9

set_option maxRecDepth 100000 in
set_option maxHeartbeats 4000000 in
theorem l3say_1 {dp : Nat} {c0 c1 c2 c3 d0 d1 d2 d3 : Value} {ra : Option Addr} {rn rc : Nat} {sa : Option Addr} {sn sc : Nat} {aa : Option Addr} {an ac : Nat} {ba : Option Addr} {bn bc : Nat} {x : AX} {w : World} {lo hi base : Nat} {bv : Value} {xs : List Int} (h : RdA lo hi w dp c0 c1 c2 c3 d0 d1 d2 d3 ra rn rc sa sn sc aa an ac ba bn bc x) (hhi : hi ≤ base) (hbase : base ≤ w.heap.size) (hok : axOk x = true) (hk : x.kind = 1) (hO : OwnB base w bv xs) (hlen : xs.length ≤ 536870912) :
    Calls Try.prog 187 #[bv, .agg #[.int .i64 1, c0, c1, c2, c3, d0, d1, d2, d3, .slice ra rn rc, .slice sa sn sc, .slice aa an ac, .slice ba bn bc]] w fun e w' => ∃ bv', e = .returned bv' ∧ OwnB base w' bv' (xs ++ axSay x) ∧ Keep6 base w bv w' bv' := by
  obtain ⟨_, fC, fD, fR, fS, fA, fB⟩ := axOk_facts hok
  have lC := textC_320 (fitC_ok fC)
  have HWC : Hid (wfC x.c = true) := wfC_of_ok (fitC_ok fC)
  have HC : Hid (RdC lo hi w dp (.agg #[c0, c1, c2, c3]) x.c) := h.c
  have lD := textC_320 (fitC_ok fD)
  have HWD : Hid (wfC x.d = true) := wfC_of_ok (fitC_ok fD)
  have HD : Hid (RdC lo hi w dp (.agg #[d0, d1, d2, d3]) x.d) := h.d
  have HTx : Hid (xs ++ axSay x = xs ++ axWord 1 ++ [40] ++ textC x.c ++ [32] ++ textC x.d ++ [41]) := by unfold Hid axSay; rw [hk]; simp [fieldsN, fldsT, fldT]
  have hwl : (axWord 1).length ≤ 4 := axWord_len _
  obtain ⟨i0, hi0, hz0, hz1, hz2⟩ := info_parts Try.info5
  obtain ⟨W0, hW0⟩ : ∃ W0, W0 = w.alloc (.cells #[.int .i64 1, c0, c1, c2, c3, d0, d1, d2, d3, .slice ra rn rc, .slice sa sn sc, .slice aa an ac, .slice ba bn bc] 147) := ⟨_, rfl⟩
  have HW0 : Hid (W0 = w.alloc (.cells #[.int .i64 1, c0, c1, c2, c3, d0, d1, d2, d3, .slice ra rn rc, .slice sa sn sc, .slice aa an ac, .slice ba bn bc] 147)) := hW0
  have hb0 : Below w.heap.size w W0 := by rw [hW0]; exact (Below.refl _ _).alloc (Nat.le_refl _) _
  have HK0 : Hid (Keep6 base w bv W0 bv) := Keep6.of_below hb0 hbase
  have HO0 : Hid (OwnB base W0 bv xs) := hO.below hb0 (Nat.le_refl _)
  have hbx : BoxA 147 W0 w.heap.size 1 c0 c1 c2 c3 d0 d1 d2 d3 (.slice ra rn rc) (.slice sa sn sc) (.slice aa an ac) (.slice ba bn bc) := by rw [hW0]; exact BoxA.new _ w _ _ _ _ _ _ _ _ _ _ _ _ _
  have HBx0 : Hid (BoxA 147 W0 w.heap.size 1 c0 c1 c2 c3 d0 d1 d2 d3 (.slice ra rn rc) (.slice sa sn sc) (.slice aa an ac) (.slice ba bn bc)) := hbx
  have hs0 : base ≤ W0.heap.size := by have := hb0.size; omega
  obtain ⟨b0, b1, b2, b3, b4, b5, b6, b7, b8, b9, b10, b11, b12⟩ := hbx.cells
  clear h hb0 hW0 hbx hO fC fD fR fS fA fB
  go_enter Try.func187, Try.ntmps187
  go_upto_region 1 with fail
  rw [← HW0.out]
  go_upto_block 0 with (first | (go_at_call 240; refine (l3word_any 1 (by omega) _).mono ?_; rintro e w1 ⟨rfl, hb1⟩; have HK1 : Hid (Keep6 base w bv w1 bv) := HK0.out.trans (Keep6.of_below hb1 hs0); have HO1 : Hid (OwnB base w1 bv xs) := HO0.out.below hb1 (Nat.le_refl _); have HBx1 : Hid (BoxA 147 w1 w.heap.size 1 c0 c1 c2 c3 d0 d1 d2 d3 (.slice ra rn rc) (.slice sa sn sc) (.slice aa an ac) (.slice ba bn bc)) := HBx0.out.below hb1 HBx0.out.lt; have hs1 : base ≤ w1.heap.size := Nat.le_trans hs0 hb1.size; clear hb1) | (at_builtin; refine list_append_strAt rfl (.tmp 5) (.tmp 8) 22 9 rfl base 5 i0 Try.underlying22 Try.underlying9 hi0 hz0 hz1 hz2 bv xs.length (xs.map (Value.int .u8)) rfl HO1.out (axWordB 1) rfl (by rw [axWordB_size]; unfold maxLen; omega) (by rw [axWordB_size]; omega) hs1 ?_; intro v2 w2 hown' hgrow hat; have HF2 : Hid (OwnB base w2 v2 (xs ++ axWord 1) ∧ Keep6 base w1 bv w2 v2) := ownB_axStr HO1.out hs1 hown' hgrow hat; clear hown' hgrow hat; obtain ⟨x1, hx1⟩ : ∃ x1, x1 = xs ++ axWord 1 := ⟨_, rfl⟩; have HX1 : Hid (x1 = xs ++ axWord 1) := hx1; have hx1l : x1.length ≤ xs.length + 4 := (by rw [hx1, List.length_append]; omega); have hs2 : base ≤ w2.heap.size := Nat.le_trans hs1 HF2.out.2.k5.1.size; have HBA2 : Hid (Below w2.heap.size w2 (w2.alloc (.cells #[.int .u8 40] 5))) := (Below.refl _ _).alloc (Nat.le_refl _) _; have HO2 : Hid (OwnB base (w2.alloc (.cells #[.int .u8 40] 5)) v2 x1) := (by unfold Hid; rw [hx1]; exact HF2.out.1.below HBA2.out (Nat.le_refl _)); have HS2 : Hid (base ≤ (w2.alloc (.cells #[.int .u8 40] 5)).heap.size) := Nat.le_trans hs2 HBA2.out.size; have HK2 : Hid (Keep6 base w bv (w2.alloc (.cells #[.int .u8 40] 5)) v2) := (HK1.out.trans HF2.out.2).trans (Keep6.of_below HBA2.out hs2); have HBx2 : Hid (BoxA 147 (w2.alloc (.cells #[.int .u8 40] 5)) w.heap.size 1 c0 c1 c2 c3 d0 d1 d2 d3 (.slice ra rn rc) (.slice sa sn sc) (.slice aa an ac) (.slice ba bn bc)) := (HBx1.out.keep6 (by decide) HF2.out.2).below HBA2.out (HBx1.out.keep6 (by decide) HF2.out.2).lt; clear hx1) | (at_builtin; refine list_appB rfl (.tmp 9) (.tmp 10) rfl base v2 x1 rfl HO2.out w2.heap.size (w2.heap.size + 1) _ 1 1 [40] rfl (one_alloc w2 40 (by omega) (by omega)) (Nat.le_refl _) (by omega) HS2.out ?_; intro v3 w3 hO3 hK3; have HK3 : Hid (Keep6 base w bv w3 v3) := HK2.out.trans hK3; have HBx3 : Hid (BoxA 147 w3 w.heap.size 1 c0 c1 c2 c3 d0 d1 d2 d3 (.slice ra rn rc) (.slice sa sn sc) (.slice aa an ac) (.slice ba bn bc)) := HBx2.out.keep6 (by decide) hK3; clear b0 b1 b2 b3 b4 b5 b6 b7 b8 b9 b10 b11 b12; obtain ⟨b0, b1, b2, b3, b4, b5, b6, b7, b8, b9, b10, b11, b12⟩ := HBx3.out.cells; obtain ⟨x2, hx2⟩ : ∃ x2, x2 = x1 ++ [40] := ⟨_, rfl⟩; rw [← hx2] at hO3; have HX2 : Hid (x2 = xs ++ axWord 1 ++ [40]) := (by unfold Hid; rw [hx2, HX1.out]); have hx2l : x2.length ≤ xs.length + 5 := (by rw [hx2, List.length_append]; simp only [List.length_cons, List.length_nil]; omega); have HO3 : Hid (OwnB base w3 v3 x2) := hO3; have hs3 : base ≤ w3.heap.size := Nat.le_trans hbase HK3.out.k5.1.size; clear hO3 hK3 hx2))
  clear HK0 HO0 HBx0 HK1 HO1 HBx1 HF2 HBA2 HO2 HS2 HK2 HBx2 HX1 hx1l hs1 hs2
  go_cut [0] (fun v W => OwnB base W v (x2 ++ textC x.c ++ [32] ++ textC x.d) ∧ Keep6 base w bv W v ∧ BoxA 147 W w.heap.size 1 c0 c1 c2 c3 d0 d1 d2 d3 (.slice ra rn rc) (.slice sa sn sc) (.slice aa an ac) (.slice ba bn bc))
  case first =>
    have HKw3 : Hid (Keep6 base w bv w3 v3) := HK3.out
    have HOw3 : Hid (OwnB base w3 v3 x2) := HO3.out
    have HBw3 : Hid (BoxA 147 w3 w.heap.size 1 c0 c1 c2 c3 d0 d1 d2 d3 (.slice ra rn rc) (.slice sa sn sc) (.slice aa an ac) (.slice ba bn bc)) := HBx3.out
    have hsw3 : base ≤ w3.heap.size := hs3
    clear HK3 HO3 HBx3
    go_upto_region 3 with fail
    obtain ⟨V1, hV0⟩ : ∃ V, V = w3.drew := ⟨_, rfl⟩
    have HVV1 : Hid (V1 = w3.drew) := hV0
    have hbV : Below w3.heap.size w3 V1 := by rw [hV0]; exact (Below.refl _ _).drew
    have HKV1 : Hid (Keep6 base w bv V1 v3) := HKw3.out.trans (Keep6.of_below hbV hsw3)
    have HOV1 : Hid (OwnB base V1 v3 x2) := HOw3.out.below hbV (Nat.le_refl _)
    have HBV1 : Hid (BoxA 147 V1 w.heap.size 1 c0 c1 c2 c3 d0 d1 d2 d3 (.slice ra rn rc) (.slice sa sn sc) (.slice aa an ac) (.slice ba bn bc)) := HBw3.out.below hbV HBw3.out.lt
    have hsV1 : base ≤ V1.heap.size := Nat.le_trans hsw3 hbV.size
    clear hV0 hbV b0 b1 b2 b3 b4 b5 b6 b7 b8 b9 b10 b11 b12
    refine wp_region_held_drew (S := fun W => BoxA 147 W w.heap.size 1 c0 c1 c2 c3 d0 d1 d2 d3 (.slice ra rn rc) (.slice sa sn sc) (.slice aa an ac) (.slice ba bn bc)) (by kernel_rfl) ?_ (fun hHeld => ?_)
    · exact HBw3.out
    rw [← HVV1.out] at hHeld ⊢
    refine wpAnyH_take (i := 0) (v := ?_) rfl (by kernel_rfl) (by kernel_rfl) (by kernel_rfl) (fun _ _ _ h => h) (Or.inl ⟨by rfl, ?_⟩) (by assumption) ?_
    rotate_left
    · intro w' hSw
      (try dsimp only at hSw)
      obtain ⟨t0, t1, t2, t3, t4, t5, t6, t7, t8, t9, t10, t11, t12⟩ := BoxA.cells hSw
      go_simp
      (try with_reducible rfl)
    (try simp only [Act.put]); (try simp only [List.setIfInBounds_toArray]); (try simp only [List.set_cons_succ]); (try simp only [List.set_cons_zero])
    refine wpAnyH_take (i := 1) (v := ?_) rfl (by kernel_rfl) (by kernel_rfl) (by kernel_rfl) (fun _ _ _ h => h) (Or.inl ⟨by rfl, ?_⟩) (by assumption) ?_
    rotate_left
    · intro w' hSw
      (try dsimp only at hSw)
      obtain ⟨t0, t1, t2, t3, t4, t5, t6, t7, t8, t9, t10, t11, t12⟩ := BoxA.cells hSw
      go_simp
      (try with_reducible rfl)
    (try simp only [Act.put]); (try simp only [List.setIfInBounds_toArray]); (try simp only [List.set_cons_succ]); (try simp only [List.set_cons_zero])
    refine wpAnyH_take (i := 2) (v := ?_) rfl (by kernel_rfl) (by kernel_rfl) (by kernel_rfl) (fun _ _ _ h => h) (Or.inl ⟨by rfl, ?_⟩) (by assumption) ?_
    rotate_left
    · intro w' hSw
      (try dsimp only at hSw)
      obtain ⟨t0, t1, t2, t3, t4, t5, t6, t7, t8, t9, t10, t11, t12⟩ := BoxA.cells hSw
      go_simp
      (try with_reducible rfl)
    (try simp only [Act.put]); (try simp only [List.setIfInBounds_toArray]); (try simp only [List.set_cons_succ]); (try simp only [List.set_cons_zero])
    refine wpAnyH_take (i := 6) (v := ?_) rfl (by kernel_rfl) (by kernel_rfl) (by kernel_rfl) (fun _ _ _ h => h) (Or.inl ⟨by rfl, ?_⟩) (by assumption) ?_
    rotate_left
    · intro w' hSw
      (try dsimp only at hSw)
      obtain ⟨t0, t1, t2, t3, t4, t5, t6, t7, t8, t9, t10, t11, t12⟩ := BoxA.cells hSw
      go_simp
      (try with_reducible rfl)
    (try simp only [Act.put]); (try simp only [List.setIfInBounds_toArray]); (try simp only [List.set_cons_succ]); (try simp only [List.set_cons_zero])
    refine wpAnyH_take (i := 7) (v := ?_) rfl (by kernel_rfl) (by kernel_rfl) (by kernel_rfl) (fun _ _ _ h => h) (Or.inl ⟨by rfl, ?_⟩) (by assumption) ?_
    rotate_left
    · intro w' hSw
      (try dsimp only at hSw)
      obtain ⟨t0, t1, t2, t3, t4, t5, t6, t7, t8, t9, t10, t11, t12⟩ := BoxA.cells hSw
      go_simp
      (try with_reducible rfl)
    (try simp only [Act.put]); (try simp only [List.setIfInBounds_toArray]); (try simp only [List.set_cons_succ]); (try simp only [List.set_cons_zero])
    refine wpAnyH_ready (rs := [3, 4]) (by kernel_rfl) (by simp) ?_
    refine AllReadyH.cons rfl (fun K hK => ?_) (AllReadyH.cons rfl (fun K hK => ?_) AllReadyH.nil)
    · skip
      go_simp
      refine (sayG_any dp _ x.c v3 x2 V1 base lo hi (HC.out.below HKV1.out.k5.1 hhi) hhi hsV1 HWC.out HOV1.out (by omega)).mono ?_
      rintro e Y2 ⟨y2, rfl, hO', hK'⟩
      obtain ⟨z2, hz2⟩ : ∃ z, z = x2 ++ textC x.c := ⟨_, rfl⟩
      rw [← hz2] at hO'
      have HXz2 : Hid (z2 = x2 ++ textC x.c) := hz2
      have hlz2 : z2.length ≤ xs.length + 325 := by rw [hz2, List.length_append]; (try simp only [List.length_cons, List.length_nil]); omega
      have HOY2 : Hid (OwnB base Y2 y2 z2) := hO'
      have HKY2 : Hid (Keep6 base w bv Y2 y2) := HKV1.out.trans hK'
      have HBY2 : Hid (BoxA 147 Y2 w.heap.size 1 c0 c1 c2 c3 d0 d1 d2 d3 (.slice ra rn rc) (.slice sa sn sc) (.slice aa an ac) (.slice ba bn bc)) := HBV1.out.keep6 (by decide) hK'
      have hsY2 : base ≤ Y2.heap.size := Nat.le_trans hsV1 hK'.k5.1.size
      clear hO' hK' hz2
      try dsimp only
      refine hK.out _ _ ?_ (fun hHeld => ?_)
      · exact HBY2.out
      clear hK K; (try simp only [Act.put]); (try simp only [List.setIfInBounds_toArray]); (try simp only [List.set_cons_succ]); (try simp only [List.set_cons_zero])
      refine wpAnyH_ready (rs := [4]) (by kernel_rfl) (by simp) ?_
      refine AllReadyH.cons rfl (fun K hK => ?_) AllReadyH.nil
      obtain ⟨G3, hWz⟩ : ∃ W, W = Y2.alloc (.cells #[.int .u8 32] 5) := ⟨_, rfl⟩
      have HWG3 : Hid (G3 = Y2.alloc (.cells #[.int .u8 32] 5)) := hWz
      have hbz : Below Y2.heap.size Y2 G3 := by rw [hWz]; exact (Below.refl _ _).alloc (Nat.le_refl _) _
      have HZG3 : Hid (G3.heap[Y2.heap.size]? = some (.cells #[.int .u8 32] 5 (0, 0))) := by unfold Hid; rw [hWz]; exact World.alloc_heap_new Y2 _
      have HNoG3 : Hid (y2.ownBlock ≠ some Y2.heap.size) := fun e => by have := (OwnB.lt HOY2.out _ e).2; omega
      have HOG3 : Hid (OwnB base G3 y2 z2) := HOY2.out.below hbz (Nat.le_refl _)
      have HKG3 : Hid (Keep6 base w bv G3 y2) := HKY2.out.trans (Keep6.of_below hbz hsY2)
      have HBG3 : Hid (BoxA 147 G3 w.heap.size 1 c0 c1 c2 c3 d0 d1 d2 d3 (.slice ra rn rc) (.slice sa sn sc) (.slice aa an ac) (.slice ba bn bc)) := HBY2.out.below hbz HBY2.out.lt
      have hsG3 : base ≤ G3.heap.size := Nat.le_trans hsY2 hbz.size
      clear hWz hbz
      go_simp
      rw [← HWG3.out]
      refine hK.out _ _ ?_ (fun hHeld => ?_)
      · exact HBG3.out
      clear hK K; (try simp only [Act.put]); (try simp only [List.setIfInBounds_toArray]); (try simp only [List.set_cons_succ]); (try simp only [List.set_cons_zero])
      refine wpAnyH_ready (rs := [5]) (by kernel_rfl) (by simp) ?_
      refine AllReadyH.cons rfl (fun K hK => ?_) AllReadyH.nil
      refine step_appB rfl (.tmp 17) (.tmp 18) rfl base y2 z2 (by simp [Act.eval]) HOG3.out Y2.heap.size (Y2.heap.size + 1) _ 1 1 [32] (by simp [Act.eval]) (one_rd HZG3.out (by omega) (by omega)) (Nat.le_refl _) (by omega) hsG3 ?_
      intro y4 Y4 hO' hK'
      obtain ⟨z4, hz4⟩ : ∃ z, z = z2 ++ [32] := ⟨_, rfl⟩
      rw [← hz4] at hO'
      have HXz4 : Hid (z4 = z2 ++ [32]) := hz4
      have hlz4 : z4.length ≤ xs.length + 326 := by rw [hz4, List.length_append]; (try simp only [List.length_cons, List.length_nil]); omega
      have HOY4 : Hid (OwnB base Y4 y4 z4) := hO'
      have HKY4 : Hid (Keep6 base w bv Y4 y4) := HKG3.out.trans hK'
      have HBY4 : Hid (BoxA 147 Y4 w.heap.size 1 c0 c1 c2 c3 d0 d1 d2 d3 (.slice ra rn rc) (.slice sa sn sc) (.slice aa an ac) (.slice ba bn bc)) := HBG3.out.keep6 (by decide) hK'
      have hsY4 : base ≤ Y4.heap.size := Nat.le_trans hsG3 hK'.k5.1.size
      clear hO' hK' hz4
      try dsimp only
      refine hK.out _ _ ?_ (fun hHeld => ?_)
      · exact HBY4.out
      clear hK K; (try simp only [Act.put]); (try simp only [List.setIfInBounds_toArray]); (try simp only [List.set_cons_succ]); (try simp only [List.set_cons_zero])
      refine wpAnyH_ready (rs := [8]) (by kernel_rfl) (by simp) ?_
      refine AllReadyH.cons rfl (fun K hK => ?_) AllReadyH.nil
      go_simp
      refine (sayG_any dp _ x.d y4 z4 Y4 base lo hi (HD.out.below HKY4.out.k5.1 hhi) hhi hsY4 HWD.out HOY4.out (by omega)).mono ?_
      rintro e Y5 ⟨y5, rfl, hO', hK'⟩
      obtain ⟨z5, hz5⟩ : ∃ z, z = z4 ++ textC x.d := ⟨_, rfl⟩
      rw [← hz5] at hO'
      have HXz5 : Hid (z5 = z4 ++ textC x.d) := hz5
      have hlz5 : z5.length ≤ xs.length + 646 := by rw [hz5, List.length_append]; (try simp only [List.length_cons, List.length_nil]); omega
      have HOY5 : Hid (OwnB base Y5 y5 z5) := hO'
      have HKY5 : Hid (Keep6 base w bv Y5 y5) := HKY4.out.trans hK'
      have HBY5 : Hid (BoxA 147 Y5 w.heap.size 1 c0 c1 c2 c3 d0 d1 d2 d3 (.slice ra rn rc) (.slice sa sn sc) (.slice aa an ac) (.slice ba bn bc)) := HBY4.out.keep6 (by decide) hK'
      have hsY5 : base ≤ Y5.heap.size := Nat.le_trans hsY4 hK'.k5.1.size
      clear hO' hK' hz5
      try dsimp only
      refine hK.out _ _ ?_ (fun hHeld => ?_)
      · exact HBY5.out
      clear hK K; (try simp only [Act.put]); (try simp only [List.setIfInBounds_toArray]); (try simp only [List.set_cons_succ]); (try simp only [List.set_cons_zero])
      refine wpAnyH_take (i := 9) (v := ?_) rfl (by kernel_rfl) (by kernel_rfl) (by kernel_rfl) (fun _ _ _ h => h) (Or.inl ⟨by rfl, ?_⟩) (by assumption) ?_
      rotate_left
      · intro w' hSw
        (try dsimp only at hSw)
        obtain ⟨t0, t1, t2, t3, t4, t5, t6, t7, t8, t9, t10, t11, t12⟩ := BoxA.cells hSw
        go_simp
        (try with_reducible rfl)
      (try simp only [Act.put]); (try simp only [List.setIfInBounds_toArray]); (try simp only [List.set_cons_succ]); (try simp only [List.set_cons_zero])
      refine wpAnyH_done (by kernel_rfl) ?_ _
      (try go_simp)
      go_wp2_with fail
      go_meet
      case rel => exact ⟨by rw [← HXz2.out, ← HXz4.out, ← HXz5.out]; exact HOY5.out, HKY5.out, HBY5.out⟩
    · skip
      obtain ⟨G6, hWz⟩ : ∃ W, W = V1.alloc (.cells #[.int .u8 32] 5) := ⟨_, rfl⟩
      have HWG6 : Hid (G6 = V1.alloc (.cells #[.int .u8 32] 5)) := hWz
      have hbz : Below V1.heap.size V1 G6 := by rw [hWz]; exact (Below.refl _ _).alloc (Nat.le_refl _) _
      have HZG6 : Hid (G6.heap[V1.heap.size]? = some (.cells #[.int .u8 32] 5 (0, 0))) := by unfold Hid; rw [hWz]; exact World.alloc_heap_new V1 _
      have HNoG6 : Hid (v3.ownBlock ≠ some V1.heap.size) := fun e => by have := (OwnB.lt HOV1.out _ e).2; omega
      have HOG6 : Hid (OwnB base G6 v3 x2) := HOV1.out.below hbz (Nat.le_refl _)
      have HKG6 : Hid (Keep6 base w bv G6 v3) := HKV1.out.trans (Keep6.of_below hbz hsV1)
      have HBG6 : Hid (BoxA 147 G6 w.heap.size 1 c0 c1 c2 c3 d0 d1 d2 d3 (.slice ra rn rc) (.slice sa sn sc) (.slice aa an ac) (.slice ba bn bc)) := HBV1.out.below hbz HBV1.out.lt
      have hsG6 : base ≤ G6.heap.size := Nat.le_trans hsV1 hbz.size
      clear hWz hbz
      go_simp
      rw [← HWG6.out]
      refine hK.out _ _ ?_ (fun hHeld => ?_)
      · exact HBG6.out
      clear hK K; (try simp only [Act.put]); (try simp only [List.setIfInBounds_toArray]); (try simp only [List.set_cons_succ]); (try simp only [List.set_cons_zero])
      refine wpAnyH_ready (rs := [3]) (by kernel_rfl) (by simp) ?_
      refine AllReadyH.cons rfl (fun K hK => ?_) AllReadyH.nil
      go_simp
      refine (sayG_any dp _ x.c v3 x2 G6 base lo hi (HC.out.below HKG6.out.k5.1 hhi) hhi hsG6 HWC.out HOG6.out (by omega)).mono ?_
      rintro e Y7 ⟨y7, rfl, hO', hK'⟩
      obtain ⟨z7, hz7⟩ : ∃ z, z = x2 ++ textC x.c := ⟨_, rfl⟩
      rw [← hz7] at hO'
      have HXz7 : Hid (z7 = x2 ++ textC x.c) := hz7
      have hlz7 : z7.length ≤ xs.length + 325 := by rw [hz7, List.length_append]; (try simp only [List.length_cons, List.length_nil]); omega
      have HOY7 : Hid (OwnB base Y7 y7 z7) := hO'
      have HKY7 : Hid (Keep6 base w bv Y7 y7) := HKG6.out.trans hK'
      have HBY7 : Hid (BoxA 147 Y7 w.heap.size 1 c0 c1 c2 c3 d0 d1 d2 d3 (.slice ra rn rc) (.slice sa sn sc) (.slice aa an ac) (.slice ba bn bc)) := HBG6.out.keep6 (by decide) hK'
      have hsY7 : base ≤ Y7.heap.size := Nat.le_trans hsG6 hK'.k5.1.size
      have HZY7 : Hid (Y7.heap[V1.heap.size]? = some (.cells #[.int .u8 32] 5 (0, 0))) := (hK'.gr _ (Array.getElem?_eq_some_iff.1 HZG6.out).1 (HNoG6.out)).trans HZG6.out
      clear hO' hK' hz7
      try dsimp only
      refine hK.out _ _ ?_ (fun hHeld => ?_)
      · exact HBY7.out
      clear hK K; (try simp only [Act.put]); (try simp only [List.setIfInBounds_toArray]); (try simp only [List.set_cons_succ]); (try simp only [List.set_cons_zero])
      refine wpAnyH_ready (rs := [5]) (by kernel_rfl) (by simp) ?_
      refine AllReadyH.cons rfl (fun K hK => ?_) AllReadyH.nil
      refine step_appB rfl (.tmp 17) (.tmp 18) rfl base y7 z7 (by simp [Act.eval]) HOY7.out V1.heap.size (V1.heap.size + 1) _ 1 1 [32] (by simp [Act.eval]) (one_rd HZY7.out (by omega) (by omega)) (Nat.le_refl _) (by omega) hsY7 ?_
      intro y8 Y8 hO' hK'
      obtain ⟨z8, hz8⟩ : ∃ z, z = z7 ++ [32] := ⟨_, rfl⟩
      rw [← hz8] at hO'
      have HXz8 : Hid (z8 = z7 ++ [32]) := hz8
      have hlz8 : z8.length ≤ xs.length + 326 := by rw [hz8, List.length_append]; (try simp only [List.length_cons, List.length_nil]); omega
      have HOY8 : Hid (OwnB base Y8 y8 z8) := hO'
      have HKY8 : Hid (Keep6 base w bv Y8 y8) := HKY7.out.trans hK'
      have HBY8 : Hid (BoxA 147 Y8 w.heap.size 1 c0 c1 c2 c3 d0 d1 d2 d3 (.slice ra rn rc) (.slice sa sn sc) (.slice aa an ac) (.slice ba bn bc)) := HBY7.out.keep6 (by decide) hK'
      have hsY8 : base ≤ Y8.heap.size := Nat.le_trans hsY7 hK'.k5.1.size
      clear hO' hK' hz8
      try dsimp only
      refine hK.out _ _ ?_ (fun hHeld => ?_)
      · exact HBY8.out
      clear hK K; (try simp only [Act.put]); (try simp only [List.setIfInBounds_toArray]); (try simp only [List.set_cons_succ]); (try simp only [List.set_cons_zero])
      refine wpAnyH_ready (rs := [8]) (by kernel_rfl) (by simp) ?_
      refine AllReadyH.cons rfl (fun K hK => ?_) AllReadyH.nil
      go_simp
      refine (sayG_any dp _ x.d y8 z8 Y8 base lo hi (HD.out.below HKY8.out.k5.1 hhi) hhi hsY8 HWD.out HOY8.out (by omega)).mono ?_
      rintro e Y9 ⟨y9, rfl, hO', hK'⟩
      obtain ⟨z9, hz9⟩ : ∃ z, z = z8 ++ textC x.d := ⟨_, rfl⟩
      rw [← hz9] at hO'
      have HXz9 : Hid (z9 = z8 ++ textC x.d) := hz9
      have hlz9 : z9.length ≤ xs.length + 646 := by rw [hz9, List.length_append]; (try simp only [List.length_cons, List.length_nil]); omega
      have HOY9 : Hid (OwnB base Y9 y9 z9) := hO'
      have HKY9 : Hid (Keep6 base w bv Y9 y9) := HKY8.out.trans hK'
      have HBY9 : Hid (BoxA 147 Y9 w.heap.size 1 c0 c1 c2 c3 d0 d1 d2 d3 (.slice ra rn rc) (.slice sa sn sc) (.slice aa an ac) (.slice ba bn bc)) := HBY8.out.keep6 (by decide) hK'
      have hsY9 : base ≤ Y9.heap.size := Nat.le_trans hsY8 hK'.k5.1.size
      clear hO' hK' hz9
      try dsimp only
      refine hK.out _ _ ?_ (fun hHeld => ?_)
      · exact HBY9.out
      clear hK K; (try simp only [Act.put]); (try simp only [List.setIfInBounds_toArray]); (try simp only [List.set_cons_succ]); (try simp only [List.set_cons_zero])
      refine wpAnyH_take (i := 9) (v := ?_) rfl (by kernel_rfl) (by kernel_rfl) (by kernel_rfl) (fun _ _ _ h => h) (Or.inl ⟨by rfl, ?_⟩) (by assumption) ?_
      rotate_left
      · intro w' hSw
        (try dsimp only at hSw)
        obtain ⟨t0, t1, t2, t3, t4, t5, t6, t7, t8, t9, t10, t11, t12⟩ := BoxA.cells hSw
        go_simp
        (try with_reducible rfl)
      (try simp only [Act.put]); (try simp only [List.setIfInBounds_toArray]); (try simp only [List.set_cons_succ]); (try simp only [List.set_cons_zero])
      refine wpAnyH_done (by kernel_rfl) ?_ _
      (try go_simp)
      go_wp2_with fail
      go_meet
      case rel => exact ⟨by rw [← HXz7.out, ← HXz8.out, ← HXz9.out]; exact HOY9.out, HKY9.out, HBY9.out⟩
  case rest =>
    obtain ⟨hOc, hKc, hBc⟩ := hcut
    obtain ⟨R1, hRw⟩ : ∃ W, W = wc := ⟨_, rfl⟩
    subst hRw
    obtain ⟨q, hq⟩ : ∃ q, q = x2 ++ textC x.c ++ [32] ++ textC x.d := ⟨_, rfl⟩
    rw [← hq] at hOc
    have HQ : Hid (q = x2 ++ textC x.c ++ [32] ++ textC x.d) := hq
    have hql : q.length ≤ xs.length + 647 := by rw [hq]; (try simp only [List.length_append, List.length_cons, List.length_nil]); omega
    have hsR : base ≤ R1.heap.size := Nat.le_trans hbase hKc.k5.1.size
    have HKR : Hid (Keep6 base w bv R1 u0) := hKc
    have HBAl : Hid (Below R1.heap.size R1 (R1.alloc (.cells #[.int .u8 41] 5))) := (Below.refl _ _).alloc (Nat.le_refl _) _
    have HOl : Hid (OwnB base (R1.alloc (.cells #[.int .u8 41] 5)) u0 q) := hOc.below HBAl.out (Nat.le_refl _)
    have HSl : Hid (base ≤ (R1.alloc (.cells #[.int .u8 41] 5)).heap.size) := Nat.le_trans hsR HBAl.out.size
    clear hOc hKc hBc hq b0 b1 b2 b3 b4 b5 b6 b7 b8 b9 b10 b11 b12
    go_wp2_with (at_builtin; refine list_appB rfl (.tmp 62) (.tmp 63) rfl base u0 q rfl HOl.out R1.heap.size (R1.heap.size + 1) _ 1 1 [41] rfl (one_alloc R1 41 (by omega) (by omega)) (Nat.le_refl _) (by omega) HSl.out ?_; intro v9 w9 hO9 hK9; have HO9 : Hid (OwnB base w9 v9 (q ++ [41])) := hO9; have HK9 : Hid (Keep6 base w bv w9 v9) := (HKR.out.trans (Keep6.of_below HBAl.out hsR)).trans hK9; clear hO9 hK9)
    go_ret
    refine ⟨_, rfl, ?_, HK9.out⟩
    have e9 := HO9.out
    rw [HQ.out, HX2.out] at e9
    rw [HTx.out]
    exact e9

set_option maxRecDepth 100000 in
set_option maxHeartbeats 4000000 in
theorem l3say_2 {dp : Nat} {c0 c1 c2 c3 d0 d1 d2 d3 : Value} {ra : Option Addr} {rn rc : Nat} {sa : Option Addr} {sn sc : Nat} {aa : Option Addr} {an ac : Nat} {ba : Option Addr} {bn bc : Nat} {x : AX} {w : World} {lo hi base : Nat} {bv : Value} {xs : List Int} (h : RdA lo hi w dp c0 c1 c2 c3 d0 d1 d2 d3 ra rn rc sa sn sc aa an ac ba bn bc x) (hhi : hi ≤ base) (hbase : base ≤ w.heap.size) (hok : axOk x = true) (hk : x.kind = 2) (hO : OwnB base w bv xs) (hlen : xs.length ≤ 536870912) :
    Calls Try.prog 187 #[bv, .agg #[.int .i64 2, c0, c1, c2, c3, d0, d1, d2, d3, .slice ra rn rc, .slice sa sn sc, .slice aa an ac, .slice ba bn bc]] w fun e w' => ∃ bv', e = .returned bv' ∧ OwnB base w' bv' (xs ++ axSay x) ∧ Keep6 base w bv w' bv' := by
  obtain ⟨_, fC, fD, fR, fS, fA, fB⟩ := axOk_facts hok
  have lC := textC_320 (fitC_ok fC)
  have HWC : Hid (wfC x.c = true) := wfC_of_ok (fitC_ok fC)
  have HC : Hid (RdC lo hi w dp (.agg #[c0, c1, c2, c3]) x.c) := h.c
  have lD := textC_320 (fitC_ok fD)
  have HWD : Hid (wfC x.d = true) := wfC_of_ok (fitC_ok fD)
  have HD : Hid (RdC lo hi w dp (.agg #[d0, d1, d2, d3]) x.d) := h.d
  have HTx : Hid (xs ++ axSay x = xs ++ axWord 2 ++ [40] ++ textC x.c ++ [32] ++ textC x.d ++ [41]) := by unfold Hid axSay; rw [hk]; simp [fieldsN, fldsT, fldT]
  have hwl : (axWord 2).length ≤ 4 := axWord_len _
  obtain ⟨i0, hi0, hz0, hz1, hz2⟩ := info_parts Try.info5
  obtain ⟨W0, hW0⟩ : ∃ W0, W0 = w.alloc (.cells #[.int .i64 2, c0, c1, c2, c3, d0, d1, d2, d3, .slice ra rn rc, .slice sa sn sc, .slice aa an ac, .slice ba bn bc] 147) := ⟨_, rfl⟩
  have HW0 : Hid (W0 = w.alloc (.cells #[.int .i64 2, c0, c1, c2, c3, d0, d1, d2, d3, .slice ra rn rc, .slice sa sn sc, .slice aa an ac, .slice ba bn bc] 147)) := hW0
  have hb0 : Below w.heap.size w W0 := by rw [hW0]; exact (Below.refl _ _).alloc (Nat.le_refl _) _
  have HK0 : Hid (Keep6 base w bv W0 bv) := Keep6.of_below hb0 hbase
  have HO0 : Hid (OwnB base W0 bv xs) := hO.below hb0 (Nat.le_refl _)
  have hbx : BoxA 147 W0 w.heap.size 2 c0 c1 c2 c3 d0 d1 d2 d3 (.slice ra rn rc) (.slice sa sn sc) (.slice aa an ac) (.slice ba bn bc) := by rw [hW0]; exact BoxA.new _ w _ _ _ _ _ _ _ _ _ _ _ _ _
  have HBx0 : Hid (BoxA 147 W0 w.heap.size 2 c0 c1 c2 c3 d0 d1 d2 d3 (.slice ra rn rc) (.slice sa sn sc) (.slice aa an ac) (.slice ba bn bc)) := hbx
  have hs0 : base ≤ W0.heap.size := by have := hb0.size; omega
  obtain ⟨b0, b1, b2, b3, b4, b5, b6, b7, b8, b9, b10, b11, b12⟩ := hbx.cells
  clear h hb0 hW0 hbx hO fC fD fR fS fA fB
  go_enter Try.func187, Try.ntmps187
  go_upto_region 1 with fail
  rw [← HW0.out]
  go_upto_block 0 with (first | (go_at_call 240; refine (l3word_any 2 (by omega) _).mono ?_; rintro e w1 ⟨rfl, hb1⟩; have HK1 : Hid (Keep6 base w bv w1 bv) := HK0.out.trans (Keep6.of_below hb1 hs0); have HO1 : Hid (OwnB base w1 bv xs) := HO0.out.below hb1 (Nat.le_refl _); have HBx1 : Hid (BoxA 147 w1 w.heap.size 2 c0 c1 c2 c3 d0 d1 d2 d3 (.slice ra rn rc) (.slice sa sn sc) (.slice aa an ac) (.slice ba bn bc)) := HBx0.out.below hb1 HBx0.out.lt; have hs1 : base ≤ w1.heap.size := Nat.le_trans hs0 hb1.size; clear hb1) | (at_builtin; refine list_append_strAt rfl (.tmp 5) (.tmp 8) 22 9 rfl base 5 i0 Try.underlying22 Try.underlying9 hi0 hz0 hz1 hz2 bv xs.length (xs.map (Value.int .u8)) rfl HO1.out (axWordB 2) rfl (by rw [axWordB_size]; unfold maxLen; omega) (by rw [axWordB_size]; omega) hs1 ?_; intro v2 w2 hown' hgrow hat; have HF2 : Hid (OwnB base w2 v2 (xs ++ axWord 2) ∧ Keep6 base w1 bv w2 v2) := ownB_axStr HO1.out hs1 hown' hgrow hat; clear hown' hgrow hat; obtain ⟨x1, hx1⟩ : ∃ x1, x1 = xs ++ axWord 2 := ⟨_, rfl⟩; have HX1 : Hid (x1 = xs ++ axWord 2) := hx1; have hx1l : x1.length ≤ xs.length + 4 := (by rw [hx1, List.length_append]; omega); have hs2 : base ≤ w2.heap.size := Nat.le_trans hs1 HF2.out.2.k5.1.size; have HBA2 : Hid (Below w2.heap.size w2 (w2.alloc (.cells #[.int .u8 40] 5))) := (Below.refl _ _).alloc (Nat.le_refl _) _; have HO2 : Hid (OwnB base (w2.alloc (.cells #[.int .u8 40] 5)) v2 x1) := (by unfold Hid; rw [hx1]; exact HF2.out.1.below HBA2.out (Nat.le_refl _)); have HS2 : Hid (base ≤ (w2.alloc (.cells #[.int .u8 40] 5)).heap.size) := Nat.le_trans hs2 HBA2.out.size; have HK2 : Hid (Keep6 base w bv (w2.alloc (.cells #[.int .u8 40] 5)) v2) := (HK1.out.trans HF2.out.2).trans (Keep6.of_below HBA2.out hs2); have HBx2 : Hid (BoxA 147 (w2.alloc (.cells #[.int .u8 40] 5)) w.heap.size 2 c0 c1 c2 c3 d0 d1 d2 d3 (.slice ra rn rc) (.slice sa sn sc) (.slice aa an ac) (.slice ba bn bc)) := (HBx1.out.keep6 (by decide) HF2.out.2).below HBA2.out (HBx1.out.keep6 (by decide) HF2.out.2).lt; clear hx1) | (at_builtin; refine list_appB rfl (.tmp 9) (.tmp 10) rfl base v2 x1 rfl HO2.out w2.heap.size (w2.heap.size + 1) _ 1 1 [40] rfl (one_alloc w2 40 (by omega) (by omega)) (Nat.le_refl _) (by omega) HS2.out ?_; intro v3 w3 hO3 hK3; have HK3 : Hid (Keep6 base w bv w3 v3) := HK2.out.trans hK3; have HBx3 : Hid (BoxA 147 w3 w.heap.size 2 c0 c1 c2 c3 d0 d1 d2 d3 (.slice ra rn rc) (.slice sa sn sc) (.slice aa an ac) (.slice ba bn bc)) := HBx2.out.keep6 (by decide) hK3; clear b0 b1 b2 b3 b4 b5 b6 b7 b8 b9 b10 b11 b12; obtain ⟨b0, b1, b2, b3, b4, b5, b6, b7, b8, b9, b10, b11, b12⟩ := HBx3.out.cells; obtain ⟨x2, hx2⟩ : ∃ x2, x2 = x1 ++ [40] := ⟨_, rfl⟩; rw [← hx2] at hO3; have HX2 : Hid (x2 = xs ++ axWord 2 ++ [40]) := (by unfold Hid; rw [hx2, HX1.out]); have hx2l : x2.length ≤ xs.length + 5 := (by rw [hx2, List.length_append]; simp only [List.length_cons, List.length_nil]; omega); have HO3 : Hid (OwnB base w3 v3 x2) := hO3; have hs3 : base ≤ w3.heap.size := Nat.le_trans hbase HK3.out.k5.1.size; clear hO3 hK3 hx2))
  clear HK0 HO0 HBx0 HK1 HO1 HBx1 HF2 HBA2 HO2 HS2 HK2 HBx2 HX1 hx1l hs1 hs2
  go_cut [0] (fun v W => OwnB base W v (x2 ++ textC x.c ++ [32] ++ textC x.d) ∧ Keep6 base w bv W v ∧ BoxA 147 W w.heap.size 2 c0 c1 c2 c3 d0 d1 d2 d3 (.slice ra rn rc) (.slice sa sn sc) (.slice aa an ac) (.slice ba bn bc))
  case first =>
    have HKw3 : Hid (Keep6 base w bv w3 v3) := HK3.out
    have HOw3 : Hid (OwnB base w3 v3 x2) := HO3.out
    have HBw3 : Hid (BoxA 147 w3 w.heap.size 2 c0 c1 c2 c3 d0 d1 d2 d3 (.slice ra rn rc) (.slice sa sn sc) (.slice aa an ac) (.slice ba bn bc)) := HBx3.out
    have hsw3 : base ≤ w3.heap.size := hs3
    clear HK3 HO3 HBx3
    go_upto_region 3 with fail
    obtain ⟨V1, hV0⟩ : ∃ V, V = w3.drew := ⟨_, rfl⟩
    have HVV1 : Hid (V1 = w3.drew) := hV0
    have hbV : Below w3.heap.size w3 V1 := by rw [hV0]; exact (Below.refl _ _).drew
    have HKV1 : Hid (Keep6 base w bv V1 v3) := HKw3.out.trans (Keep6.of_below hbV hsw3)
    have HOV1 : Hid (OwnB base V1 v3 x2) := HOw3.out.below hbV (Nat.le_refl _)
    have HBV1 : Hid (BoxA 147 V1 w.heap.size 2 c0 c1 c2 c3 d0 d1 d2 d3 (.slice ra rn rc) (.slice sa sn sc) (.slice aa an ac) (.slice ba bn bc)) := HBw3.out.below hbV HBw3.out.lt
    have hsV1 : base ≤ V1.heap.size := Nat.le_trans hsw3 hbV.size
    clear hV0 hbV b0 b1 b2 b3 b4 b5 b6 b7 b8 b9 b10 b11 b12
    refine wp_region_held_drew (S := fun W => BoxA 147 W w.heap.size 2 c0 c1 c2 c3 d0 d1 d2 d3 (.slice ra rn rc) (.slice sa sn sc) (.slice aa an ac) (.slice ba bn bc)) (by kernel_rfl) ?_ (fun hHeld => ?_)
    · exact HBw3.out
    rw [← HVV1.out] at hHeld ⊢
    refine wpAnyH_take (i := 0) (v := ?_) rfl (by kernel_rfl) (by kernel_rfl) (by kernel_rfl) (fun _ _ _ h => h) (Or.inl ⟨by rfl, ?_⟩) (by assumption) ?_
    rotate_left
    · intro w' hSw
      (try dsimp only at hSw)
      obtain ⟨t0, t1, t2, t3, t4, t5, t6, t7, t8, t9, t10, t11, t12⟩ := BoxA.cells hSw
      go_simp
      (try with_reducible rfl)
    (try simp only [Act.put]); (try simp only [List.setIfInBounds_toArray]); (try simp only [List.set_cons_succ]); (try simp only [List.set_cons_zero])
    refine wpAnyH_take (i := 1) (v := ?_) rfl (by kernel_rfl) (by kernel_rfl) (by kernel_rfl) (fun _ _ _ h => h) (Or.inl ⟨by rfl, ?_⟩) (by assumption) ?_
    rotate_left
    · intro w' hSw
      (try dsimp only at hSw)
      obtain ⟨t0, t1, t2, t3, t4, t5, t6, t7, t8, t9, t10, t11, t12⟩ := BoxA.cells hSw
      go_simp
      (try with_reducible rfl)
    (try simp only [Act.put]); (try simp only [List.setIfInBounds_toArray]); (try simp only [List.set_cons_succ]); (try simp only [List.set_cons_zero])
    refine wpAnyH_take (i := 2) (v := ?_) rfl (by kernel_rfl) (by kernel_rfl) (by kernel_rfl) (fun _ _ _ h => h) (Or.inl ⟨by rfl, ?_⟩) (by assumption) ?_
    rotate_left
    · intro w' hSw
      (try dsimp only at hSw)
      obtain ⟨t0, t1, t2, t3, t4, t5, t6, t7, t8, t9, t10, t11, t12⟩ := BoxA.cells hSw
      go_simp
      (try with_reducible rfl)
    (try simp only [Act.put]); (try simp only [List.setIfInBounds_toArray]); (try simp only [List.set_cons_succ]); (try simp only [List.set_cons_zero])
    refine wpAnyH_take (i := 6) (v := ?_) rfl (by kernel_rfl) (by kernel_rfl) (by kernel_rfl) (fun _ _ _ h => h) (Or.inl ⟨by rfl, ?_⟩) (by assumption) ?_
    rotate_left
    · intro w' hSw
      (try dsimp only at hSw)
      obtain ⟨t0, t1, t2, t3, t4, t5, t6, t7, t8, t9, t10, t11, t12⟩ := BoxA.cells hSw
      go_simp
      (try with_reducible rfl)
    (try simp only [Act.put]); (try simp only [List.setIfInBounds_toArray]); (try simp only [List.set_cons_succ]); (try simp only [List.set_cons_zero])
    refine wpAnyH_take (i := 7) (v := ?_) rfl (by kernel_rfl) (by kernel_rfl) (by kernel_rfl) (fun _ _ _ h => h) (Or.inl ⟨by rfl, ?_⟩) (by assumption) ?_
    rotate_left
    · intro w' hSw
      (try dsimp only at hSw)
      obtain ⟨t0, t1, t2, t3, t4, t5, t6, t7, t8, t9, t10, t11, t12⟩ := BoxA.cells hSw
      go_simp
      (try with_reducible rfl)
    (try simp only [Act.put]); (try simp only [List.setIfInBounds_toArray]); (try simp only [List.set_cons_succ]); (try simp only [List.set_cons_zero])
    refine wpAnyH_ready (rs := [3, 4]) (by kernel_rfl) (by simp) ?_
    refine AllReadyH.cons rfl (fun K hK => ?_) (AllReadyH.cons rfl (fun K hK => ?_) AllReadyH.nil)
    · skip
      go_simp
      refine (sayG_any dp _ x.c v3 x2 V1 base lo hi (HC.out.below HKV1.out.k5.1 hhi) hhi hsV1 HWC.out HOV1.out (by omega)).mono ?_
      rintro e Y2 ⟨y2, rfl, hO', hK'⟩
      obtain ⟨z2, hz2⟩ : ∃ z, z = x2 ++ textC x.c := ⟨_, rfl⟩
      rw [← hz2] at hO'
      have HXz2 : Hid (z2 = x2 ++ textC x.c) := hz2
      have hlz2 : z2.length ≤ xs.length + 325 := by rw [hz2, List.length_append]; (try simp only [List.length_cons, List.length_nil]); omega
      have HOY2 : Hid (OwnB base Y2 y2 z2) := hO'
      have HKY2 : Hid (Keep6 base w bv Y2 y2) := HKV1.out.trans hK'
      have HBY2 : Hid (BoxA 147 Y2 w.heap.size 2 c0 c1 c2 c3 d0 d1 d2 d3 (.slice ra rn rc) (.slice sa sn sc) (.slice aa an ac) (.slice ba bn bc)) := HBV1.out.keep6 (by decide) hK'
      have hsY2 : base ≤ Y2.heap.size := Nat.le_trans hsV1 hK'.k5.1.size
      clear hO' hK' hz2
      try dsimp only
      refine hK.out _ _ ?_ (fun hHeld => ?_)
      · exact HBY2.out
      clear hK K; (try simp only [Act.put]); (try simp only [List.setIfInBounds_toArray]); (try simp only [List.set_cons_succ]); (try simp only [List.set_cons_zero])
      refine wpAnyH_ready (rs := [4]) (by kernel_rfl) (by simp) ?_
      refine AllReadyH.cons rfl (fun K hK => ?_) AllReadyH.nil
      obtain ⟨G3, hWz⟩ : ∃ W, W = Y2.alloc (.cells #[.int .u8 32] 5) := ⟨_, rfl⟩
      have HWG3 : Hid (G3 = Y2.alloc (.cells #[.int .u8 32] 5)) := hWz
      have hbz : Below Y2.heap.size Y2 G3 := by rw [hWz]; exact (Below.refl _ _).alloc (Nat.le_refl _) _
      have HZG3 : Hid (G3.heap[Y2.heap.size]? = some (.cells #[.int .u8 32] 5 (0, 0))) := by unfold Hid; rw [hWz]; exact World.alloc_heap_new Y2 _
      have HNoG3 : Hid (y2.ownBlock ≠ some Y2.heap.size) := fun e => by have := (OwnB.lt HOY2.out _ e).2; omega
      have HOG3 : Hid (OwnB base G3 y2 z2) := HOY2.out.below hbz (Nat.le_refl _)
      have HKG3 : Hid (Keep6 base w bv G3 y2) := HKY2.out.trans (Keep6.of_below hbz hsY2)
      have HBG3 : Hid (BoxA 147 G3 w.heap.size 2 c0 c1 c2 c3 d0 d1 d2 d3 (.slice ra rn rc) (.slice sa sn sc) (.slice aa an ac) (.slice ba bn bc)) := HBY2.out.below hbz HBY2.out.lt
      have hsG3 : base ≤ G3.heap.size := Nat.le_trans hsY2 hbz.size
      clear hWz hbz
      go_simp
      rw [← HWG3.out]
      refine hK.out _ _ ?_ (fun hHeld => ?_)
      · exact HBG3.out
      clear hK K; (try simp only [Act.put]); (try simp only [List.setIfInBounds_toArray]); (try simp only [List.set_cons_succ]); (try simp only [List.set_cons_zero])
      refine wpAnyH_ready (rs := [5]) (by kernel_rfl) (by simp) ?_
      refine AllReadyH.cons rfl (fun K hK => ?_) AllReadyH.nil
      refine step_appB rfl (.tmp 17) (.tmp 18) rfl base y2 z2 (by simp [Act.eval]) HOG3.out Y2.heap.size (Y2.heap.size + 1) _ 1 1 [32] (by simp [Act.eval]) (one_rd HZG3.out (by omega) (by omega)) (Nat.le_refl _) (by omega) hsG3 ?_
      intro y4 Y4 hO' hK'
      obtain ⟨z4, hz4⟩ : ∃ z, z = z2 ++ [32] := ⟨_, rfl⟩
      rw [← hz4] at hO'
      have HXz4 : Hid (z4 = z2 ++ [32]) := hz4
      have hlz4 : z4.length ≤ xs.length + 326 := by rw [hz4, List.length_append]; (try simp only [List.length_cons, List.length_nil]); omega
      have HOY4 : Hid (OwnB base Y4 y4 z4) := hO'
      have HKY4 : Hid (Keep6 base w bv Y4 y4) := HKG3.out.trans hK'
      have HBY4 : Hid (BoxA 147 Y4 w.heap.size 2 c0 c1 c2 c3 d0 d1 d2 d3 (.slice ra rn rc) (.slice sa sn sc) (.slice aa an ac) (.slice ba bn bc)) := HBG3.out.keep6 (by decide) hK'
      have hsY4 : base ≤ Y4.heap.size := Nat.le_trans hsG3 hK'.k5.1.size
      clear hO' hK' hz4
      try dsimp only
      refine hK.out _ _ ?_ (fun hHeld => ?_)
      · exact HBY4.out
      clear hK K; (try simp only [Act.put]); (try simp only [List.setIfInBounds_toArray]); (try simp only [List.set_cons_succ]); (try simp only [List.set_cons_zero])
      refine wpAnyH_ready (rs := [8]) (by kernel_rfl) (by simp) ?_
      refine AllReadyH.cons rfl (fun K hK => ?_) AllReadyH.nil
      go_simp
      refine (sayG_any dp _ x.d y4 z4 Y4 base lo hi (HD.out.below HKY4.out.k5.1 hhi) hhi hsY4 HWD.out HOY4.out (by omega)).mono ?_
      rintro e Y5 ⟨y5, rfl, hO', hK'⟩
      obtain ⟨z5, hz5⟩ : ∃ z, z = z4 ++ textC x.d := ⟨_, rfl⟩
      rw [← hz5] at hO'
      have HXz5 : Hid (z5 = z4 ++ textC x.d) := hz5
      have hlz5 : z5.length ≤ xs.length + 646 := by rw [hz5, List.length_append]; (try simp only [List.length_cons, List.length_nil]); omega
      have HOY5 : Hid (OwnB base Y5 y5 z5) := hO'
      have HKY5 : Hid (Keep6 base w bv Y5 y5) := HKY4.out.trans hK'
      have HBY5 : Hid (BoxA 147 Y5 w.heap.size 2 c0 c1 c2 c3 d0 d1 d2 d3 (.slice ra rn rc) (.slice sa sn sc) (.slice aa an ac) (.slice ba bn bc)) := HBY4.out.keep6 (by decide) hK'
      have hsY5 : base ≤ Y5.heap.size := Nat.le_trans hsY4 hK'.k5.1.size
      clear hO' hK' hz5
      try dsimp only
      refine hK.out _ _ ?_ (fun hHeld => ?_)
      · exact HBY5.out
      clear hK K; (try simp only [Act.put]); (try simp only [List.setIfInBounds_toArray]); (try simp only [List.set_cons_succ]); (try simp only [List.set_cons_zero])
      refine wpAnyH_take (i := 9) (v := ?_) rfl (by kernel_rfl) (by kernel_rfl) (by kernel_rfl) (fun _ _ _ h => h) (Or.inl ⟨by rfl, ?_⟩) (by assumption) ?_
      rotate_left
      · intro w' hSw
        (try dsimp only at hSw)
        obtain ⟨t0, t1, t2, t3, t4, t5, t6, t7, t8, t9, t10, t11, t12⟩ := BoxA.cells hSw
        go_simp
        (try with_reducible rfl)
      (try simp only [Act.put]); (try simp only [List.setIfInBounds_toArray]); (try simp only [List.set_cons_succ]); (try simp only [List.set_cons_zero])
      refine wpAnyH_done (by kernel_rfl) ?_ _
      (try go_simp)
      go_wp2_with fail
      go_meet
      case rel => exact ⟨by rw [← HXz2.out, ← HXz4.out, ← HXz5.out]; exact HOY5.out, HKY5.out, HBY5.out⟩
    · skip
      obtain ⟨G6, hWz⟩ : ∃ W, W = V1.alloc (.cells #[.int .u8 32] 5) := ⟨_, rfl⟩
      have HWG6 : Hid (G6 = V1.alloc (.cells #[.int .u8 32] 5)) := hWz
      have hbz : Below V1.heap.size V1 G6 := by rw [hWz]; exact (Below.refl _ _).alloc (Nat.le_refl _) _
      have HZG6 : Hid (G6.heap[V1.heap.size]? = some (.cells #[.int .u8 32] 5 (0, 0))) := by unfold Hid; rw [hWz]; exact World.alloc_heap_new V1 _
      have HNoG6 : Hid (v3.ownBlock ≠ some V1.heap.size) := fun e => by have := (OwnB.lt HOV1.out _ e).2; omega
      have HOG6 : Hid (OwnB base G6 v3 x2) := HOV1.out.below hbz (Nat.le_refl _)
      have HKG6 : Hid (Keep6 base w bv G6 v3) := HKV1.out.trans (Keep6.of_below hbz hsV1)
      have HBG6 : Hid (BoxA 147 G6 w.heap.size 2 c0 c1 c2 c3 d0 d1 d2 d3 (.slice ra rn rc) (.slice sa sn sc) (.slice aa an ac) (.slice ba bn bc)) := HBV1.out.below hbz HBV1.out.lt
      have hsG6 : base ≤ G6.heap.size := Nat.le_trans hsV1 hbz.size
      clear hWz hbz
      go_simp
      rw [← HWG6.out]
      refine hK.out _ _ ?_ (fun hHeld => ?_)
      · exact HBG6.out
      clear hK K; (try simp only [Act.put]); (try simp only [List.setIfInBounds_toArray]); (try simp only [List.set_cons_succ]); (try simp only [List.set_cons_zero])
      refine wpAnyH_ready (rs := [3]) (by kernel_rfl) (by simp) ?_
      refine AllReadyH.cons rfl (fun K hK => ?_) AllReadyH.nil
      go_simp
      refine (sayG_any dp _ x.c v3 x2 G6 base lo hi (HC.out.below HKG6.out.k5.1 hhi) hhi hsG6 HWC.out HOG6.out (by omega)).mono ?_
      rintro e Y7 ⟨y7, rfl, hO', hK'⟩
      obtain ⟨z7, hz7⟩ : ∃ z, z = x2 ++ textC x.c := ⟨_, rfl⟩
      rw [← hz7] at hO'
      have HXz7 : Hid (z7 = x2 ++ textC x.c) := hz7
      have hlz7 : z7.length ≤ xs.length + 325 := by rw [hz7, List.length_append]; (try simp only [List.length_cons, List.length_nil]); omega
      have HOY7 : Hid (OwnB base Y7 y7 z7) := hO'
      have HKY7 : Hid (Keep6 base w bv Y7 y7) := HKG6.out.trans hK'
      have HBY7 : Hid (BoxA 147 Y7 w.heap.size 2 c0 c1 c2 c3 d0 d1 d2 d3 (.slice ra rn rc) (.slice sa sn sc) (.slice aa an ac) (.slice ba bn bc)) := HBG6.out.keep6 (by decide) hK'
      have hsY7 : base ≤ Y7.heap.size := Nat.le_trans hsG6 hK'.k5.1.size
      have HZY7 : Hid (Y7.heap[V1.heap.size]? = some (.cells #[.int .u8 32] 5 (0, 0))) := (hK'.gr _ (Array.getElem?_eq_some_iff.1 HZG6.out).1 (HNoG6.out)).trans HZG6.out
      clear hO' hK' hz7
      try dsimp only
      refine hK.out _ _ ?_ (fun hHeld => ?_)
      · exact HBY7.out
      clear hK K; (try simp only [Act.put]); (try simp only [List.setIfInBounds_toArray]); (try simp only [List.set_cons_succ]); (try simp only [List.set_cons_zero])
      refine wpAnyH_ready (rs := [5]) (by kernel_rfl) (by simp) ?_
      refine AllReadyH.cons rfl (fun K hK => ?_) AllReadyH.nil
      refine step_appB rfl (.tmp 17) (.tmp 18) rfl base y7 z7 (by simp [Act.eval]) HOY7.out V1.heap.size (V1.heap.size + 1) _ 1 1 [32] (by simp [Act.eval]) (one_rd HZY7.out (by omega) (by omega)) (Nat.le_refl _) (by omega) hsY7 ?_
      intro y8 Y8 hO' hK'
      obtain ⟨z8, hz8⟩ : ∃ z, z = z7 ++ [32] := ⟨_, rfl⟩
      rw [← hz8] at hO'
      have HXz8 : Hid (z8 = z7 ++ [32]) := hz8
      have hlz8 : z8.length ≤ xs.length + 326 := by rw [hz8, List.length_append]; (try simp only [List.length_cons, List.length_nil]); omega
      have HOY8 : Hid (OwnB base Y8 y8 z8) := hO'
      have HKY8 : Hid (Keep6 base w bv Y8 y8) := HKY7.out.trans hK'
      have HBY8 : Hid (BoxA 147 Y8 w.heap.size 2 c0 c1 c2 c3 d0 d1 d2 d3 (.slice ra rn rc) (.slice sa sn sc) (.slice aa an ac) (.slice ba bn bc)) := HBY7.out.keep6 (by decide) hK'
      have hsY8 : base ≤ Y8.heap.size := Nat.le_trans hsY7 hK'.k5.1.size
      clear hO' hK' hz8
      try dsimp only
      refine hK.out _ _ ?_ (fun hHeld => ?_)
      · exact HBY8.out
      clear hK K; (try simp only [Act.put]); (try simp only [List.setIfInBounds_toArray]); (try simp only [List.set_cons_succ]); (try simp only [List.set_cons_zero])
      refine wpAnyH_ready (rs := [8]) (by kernel_rfl) (by simp) ?_
      refine AllReadyH.cons rfl (fun K hK => ?_) AllReadyH.nil
      go_simp
      refine (sayG_any dp _ x.d y8 z8 Y8 base lo hi (HD.out.below HKY8.out.k5.1 hhi) hhi hsY8 HWD.out HOY8.out (by omega)).mono ?_
      rintro e Y9 ⟨y9, rfl, hO', hK'⟩
      obtain ⟨z9, hz9⟩ : ∃ z, z = z8 ++ textC x.d := ⟨_, rfl⟩
      rw [← hz9] at hO'
      have HXz9 : Hid (z9 = z8 ++ textC x.d) := hz9
      have hlz9 : z9.length ≤ xs.length + 646 := by rw [hz9, List.length_append]; (try simp only [List.length_cons, List.length_nil]); omega
      have HOY9 : Hid (OwnB base Y9 y9 z9) := hO'
      have HKY9 : Hid (Keep6 base w bv Y9 y9) := HKY8.out.trans hK'
      have HBY9 : Hid (BoxA 147 Y9 w.heap.size 2 c0 c1 c2 c3 d0 d1 d2 d3 (.slice ra rn rc) (.slice sa sn sc) (.slice aa an ac) (.slice ba bn bc)) := HBY8.out.keep6 (by decide) hK'
      have hsY9 : base ≤ Y9.heap.size := Nat.le_trans hsY8 hK'.k5.1.size
      clear hO' hK' hz9
      try dsimp only
      refine hK.out _ _ ?_ (fun hHeld => ?_)
      · exact HBY9.out
      clear hK K; (try simp only [Act.put]); (try simp only [List.setIfInBounds_toArray]); (try simp only [List.set_cons_succ]); (try simp only [List.set_cons_zero])
      refine wpAnyH_take (i := 9) (v := ?_) rfl (by kernel_rfl) (by kernel_rfl) (by kernel_rfl) (fun _ _ _ h => h) (Or.inl ⟨by rfl, ?_⟩) (by assumption) ?_
      rotate_left
      · intro w' hSw
        (try dsimp only at hSw)
        obtain ⟨t0, t1, t2, t3, t4, t5, t6, t7, t8, t9, t10, t11, t12⟩ := BoxA.cells hSw
        go_simp
        (try with_reducible rfl)
      (try simp only [Act.put]); (try simp only [List.setIfInBounds_toArray]); (try simp only [List.set_cons_succ]); (try simp only [List.set_cons_zero])
      refine wpAnyH_done (by kernel_rfl) ?_ _
      (try go_simp)
      go_wp2_with fail
      go_meet
      case rel => exact ⟨by rw [← HXz7.out, ← HXz8.out, ← HXz9.out]; exact HOY9.out, HKY9.out, HBY9.out⟩
  case rest =>
    obtain ⟨hOc, hKc, hBc⟩ := hcut
    obtain ⟨R1, hRw⟩ : ∃ W, W = wc := ⟨_, rfl⟩
    subst hRw
    obtain ⟨q, hq⟩ : ∃ q, q = x2 ++ textC x.c ++ [32] ++ textC x.d := ⟨_, rfl⟩
    rw [← hq] at hOc
    have HQ : Hid (q = x2 ++ textC x.c ++ [32] ++ textC x.d) := hq
    have hql : q.length ≤ xs.length + 647 := by rw [hq]; (try simp only [List.length_append, List.length_cons, List.length_nil]); omega
    have hsR : base ≤ R1.heap.size := Nat.le_trans hbase hKc.k5.1.size
    have HKR : Hid (Keep6 base w bv R1 u0) := hKc
    have HBAl : Hid (Below R1.heap.size R1 (R1.alloc (.cells #[.int .u8 41] 5))) := (Below.refl _ _).alloc (Nat.le_refl _) _
    have HOl : Hid (OwnB base (R1.alloc (.cells #[.int .u8 41] 5)) u0 q) := hOc.below HBAl.out (Nat.le_refl _)
    have HSl : Hid (base ≤ (R1.alloc (.cells #[.int .u8 41] 5)).heap.size) := Nat.le_trans hsR HBAl.out.size
    clear hOc hKc hBc hq b0 b1 b2 b3 b4 b5 b6 b7 b8 b9 b10 b11 b12
    go_wp2_with (at_builtin; refine list_appB rfl (.tmp 62) (.tmp 63) rfl base u0 q rfl HOl.out R1.heap.size (R1.heap.size + 1) _ 1 1 [41] rfl (one_alloc R1 41 (by omega) (by omega)) (Nat.le_refl _) (by omega) HSl.out ?_; intro v9 w9 hO9 hK9; have HO9 : Hid (OwnB base w9 v9 (q ++ [41])) := hO9; have HK9 : Hid (Keep6 base w bv w9 v9) := (HKR.out.trans (Keep6.of_below HBAl.out hsR)).trans hK9; clear hO9 hK9)
    go_ret
    refine ⟨_, rfl, ?_, HK9.out⟩
    have e9 := HO9.out
    rw [HQ.out, HX2.out] at e9
    rw [HTx.out]
    exact e9

end Go.Proofs.Ytodpaihndpjbfaa
