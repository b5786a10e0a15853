/- The law of KbRead: what it asks holds at every list of bytes. -/
import Derived.Test.YtckhjoancfbkfaaGreatNG22
import Derived.Test.YtckhjoancfbkfaaGreatKrS4
import Derived.Test.YtckhjoancfbkfaaGreatKrK3
import Derived.Test.YtckhjoancfbkfaaGreatNG14
namespace Go.Proofs.YtckhjoancfbkfaaGreat
open Go.RowKit
set_option linter.unusedVariables false

theorem kbRd {base : Nat} {w : World} {a : Option Addr} {m c : Nat} {vs : List Value} {xs : List AX} {Vs : Nat → XV} {LL : Nat → Nat → List (Addr × IntKind)} (h : OwnKb base w (.slice a m c) vs xs Vs LL) (hm : m = xs.length) : RdK base w.heap.size w 6 a m c xs := by
  obtain ⟨a', c', e1, e2⟩ := h.rd
  simp only [Value.slice.injEq] at e1
  obtain ⟨rfl, _, rfl⟩ := e1
  rw [hm]; exact e2
theorem kbLv {base : Nat} {w : World} {a : Option Addr} {m c : Nat} {vs : List Value} {xs : List AX} {Vs : Nat → XV} {LL : Nat → Nat → List (Addr × IntKind)} (h : OwnKb base w (.slice a m c) vs xs Vs LL) (hm : m = xs.length) (hb : ∀ x ∈ xs, x.bulkR ≤ 10500) : ∃ b SS, LvKb base w a m b SS := by
  obtain ⟨a', c', b, SS, e1, e2⟩ := h.lv hb
  simp only [Value.slice.injEq] at e1
  obtain ⟨rfl, _, rfl⟩ := e1
  exact ⟨b, SS, by rw [hm]; exact e2⟩
theorem LvKb.keep {base : Nat} {w w' : World} {a : Option Addr} {n b : Nat} {SS : Nat → Nat → List (Addr × IntKind)} (h : LvKb base w a n b SS) (hb : Below w.heap.size w w') : LvKb base w' a n b SS :=
  ⟨h.lv.keep (KeepS.of_below hb), h.ok.below hb, h.nd, fun x hx => ⟨(h.bl x hx).1, Nat.lt_of_lt_of_le (h.bl x hx).2 hb.size⟩, h.len⟩

set_option maxRecDepth 100000 in
set_option maxHeartbeats 4000000 in
theorem kbReadWalk {a0 : Option Addr} {len0 cap0 : Nat} {zs : List Int} {w : World} (hR : Rd 0 w.heap.size w a0 len0 cap0 zs) :
    Calls Tryz.prog 5 #[.slice a0 len0 cap0] w fun e w' => e = .returned (.bool true) ∧ Below w.heap.size w w' := by
  by_cases hbig : 1048576 < len0
  · go_enter Tryz.func5, Tryz.ntmps5
    go_wp2
    go_ret
    exact ⟨rfl, Below.refl _ _⟩
  · have hle : len0 ≤ 1048576 := by omega
    have HL : Hid (zs.length = len0) := hR.len
    have HBy : Hid (∀ i, 0 ≤ zs.getD i 0 ∧ zs.getD i 0 ≤ 255) := hR.byte
    have HR : Hid (Rd 0 w.heap.size w a0 len0 cap0 zs) := hR
    obtain ⟨xs, p, hcp⟩ : ∃ c p, kbRead zs = (c, p) := ⟨_, _, rfl⟩
    have HT : Hid (kbRead zs = (xs, p)) := hcp
    have HBk : Hid (∀ x ∈ xs, x.bulkR ≤ 10500) := by have := kbRead_bulk zs; rw [hcp] at this; exact this
    have HN15 : Hid (xs.length ≤ 1500) := by have := kbRead_len zs; rw [hcp] at this; exact this
    obtain ⟨m, hm⟩ : ∃ m, m = xs.length := ⟨_, rfl⟩
    have HM : Hid (m = xs.length) := hm
    have hm15 : m ≤ 1500 := by rw [hm]; exact HN15.out
    have hpp : (p != p) = false := by simp
    clear hR hcp hm
    go_enter Tryz.func5, Tryz.ntmps5
    go_wp2_with fail
    refine (toByteS_any _ _ _ zs _ HR.out (Nat.le_refl _) hle).mono ?_
    rintro e w1 ⟨rfl, hrow1, hb1⟩
    have hlt1 := hrow1.lt
    go_wp2_with fail
    refine (specKbRead_any _ _ _ zs _ (hrow1.rd HL.out HBy.out (by omega) (Nat.le_refl _) (Nat.lt_succ_self _)) hlt1).mono ?_
    rintro e w2 hA
    rw [HT.out] at hA
    obtain ⟨vS, svs, sVs, sLL, rfl, hS6, hb2⟩ := hA
    obtain ⟨sa, sc, hv⟩ := hS6.form
    rw [← HM.out] at hv
    subst hv
    have s01 := hb1.size
    have s12 : w1.heap.size ≤ w2.heap.size := hb2.size
    obtain ⟨w2a, hw2a⟩ : ∃ W, W = w2.alloc (.cells #[.slice sa m sc] 25) := ⟨_, rfl⟩
    have HW2A : Hid (w2a = w2.alloc (.cells #[.slice sa m sc] 25)) := hw2a
    have hbw2a : Below w2.heap.size w2 w2a := by rw [hw2a]; exact (Below.refl _ _).alloc (Nat.le_refl _) _
    have sw2a : w2.heap.size < w2a.heap.size := by rw [hw2a]; simp
    have HBS : Hid (BoxKv w2a w2.heap.size (.slice sa m sc)) := by unfold Hid; rw [hw2a]; exact BoxKv.new w2 _
    have HS : Hid (RdK w1.heap.size w2.heap.size w2a 6 sa m sc xs) := (kbRd hS6 HM.out).below hbw2a (Nat.le_refl _)
    have HB2 : Hid (Below w.heap.size w w2a) := (hb1.trans (hb2.mono hb1.size)).trans (hbw2a.mono (by omega))
    clear hrow1 hb1 hb2 hS6 hw2a hbw2a
    go_wp2_with fail
    rw [← HW2A.out]
    refine (toByteS_any _ _ _ zs _ (HR.out.below HB2.out (Nat.le_refl _)) HB2.out.size hle).mono ?_
    rintro e w3 ⟨rfl, hrow3, hb3⟩
    have hlt3 := hrow3.lt
    have HB3 : Hid (Below w.heap.size w w3) := HB2.out.trans (hb3.mono HB2.out.size)
    have HS3 : Hid (RdK w1.heap.size w2.heap.size w3 6 sa m sc xs) := HS.out.below hb3 (by omega)
    have HBS3 : Hid (BoxKv w3 w2.heap.size (.slice sa m sc)) := HBS.out.of (hb3.block _ sw2a)
    have HX3 : Hid (Row w3 w2a.heap.size len0 zs) := hrow3
    have s23 : w2a.heap.size ≤ w3.heap.size := hb3.size
    clear hb3 hrow3
    go_wp2_with fail
    refine (implKbRead_any _ _ _ _ zs _ (HX3.out.rd HL.out HBy.out (by omega) (Nat.zero_le _) hlt3) hlt3).mono ?_
    rintro e w4 hA
    rw [HT.out] at hA
    obtain ⟨vG, gvs, gVs, gLL, rfl, hG6, hb4⟩ := hA
    obtain ⟨ga, gc, hv⟩ := hG6.form
    rw [← HM.out] at hv
    subst hv
    have s34 : w3.heap.size ≤ w4.heap.size := hb4.size
    obtain ⟨w4a, hw4a⟩ : ∃ W, W = w4.alloc (.cells #[.slice ga m gc] 25) := ⟨_, rfl⟩
    have HW4A : Hid (w4a = w4.alloc (.cells #[.slice ga m gc] 25)) := hw4a
    have hbw4a : Below w4.heap.size w4 w4a := by rw [hw4a]; exact (Below.refl _ _).alloc (Nat.le_refl _) _
    have sw4a : w4.heap.size < w4a.heap.size := by rw [hw4a]; simp
    have HBG : Hid (BoxKv w4a w4.heap.size (.slice ga m gc)) := by unfold Hid; rw [hw4a]; exact BoxKv.new w4 _
    have h34 : Below w3.heap.size w3 w4a := hb4.trans (hbw4a.mono s34)
    have HG4 : Hid (OwnKb w3.heap.size w4a (.slice ga m gc) gvs xs gVs gLL) := hG6.below hbw4a
    have HGr : Hid (RdK w3.heap.size w4.heap.size w4a 6 ga m gc xs) := (kbRd hG6 HM.out).below hbw4a (Nat.le_refl _)
    obtain ⟨gb, SS, hLv⟩ := kbLv hG6 HM.out HBk.out
    have HbL : Hid (∀ x ∈ leafXs gb 0 SS m, w3.heap.size ≤ x.1.block ∧ x.1.block < w4.heap.size) := hLv.bl
    have HND : Hid (((leafXs gb 0 SS m).map (·.1)).Nodup) := hLv.nd
    have HLv4 : Hid (LvXs w4a 5 ga m gb 0 SS ∧ LeafOk w4a (leafXs gb 0 SS m)) := ⟨hLv.lv.keep (KeepS.of_below hbw4a), hLv.ok.below hbw4a⟩
    have HB4 : Hid (Below w.heap.size w w4a) := HB3.out.trans (h34.mono HB3.out.size)
    have HS4 : Hid (RdK w1.heap.size w2.heap.size w4a 6 sa m sc xs) := HS3.out.below h34 (by omega)
    have HBS4 : Hid (BoxKv w4a w2.heap.size (.slice sa m sc)) := HBS3.out.of (h34.block _ (by omega))
    have HX4 : Hid (Row w4a w2a.heap.size len0 zs) := HX3.out.below h34 hlt3
    obtain ⟨n, hnn⟩ : ∃ n, n = (leafXs gb 0 SS m).length := ⟨_, rfl⟩
    have HNl : Hid (n = (leafXs gb 0 SS m).length) := hnn
    have hn : n ≤ 84024 := by
      have h1 := hLv.len
      have h2 := kbRead_eight zs
      rw [HT.out] at h2
      have h3 : m ≤ 8 := by rw [HM.out]; exact h2
      have : m * 10503 ≤ 8 * 10503 := Nat.mul_le_mul_right _ h3
      omega
    have hneq : ((1 + (n : Int)) != (1 + (n : Int))) = false := by simp
    have hnlt : ¬ (1 + (n : Int) < 0) := by omega
    have p0 := HBS4.out.cell
    have g0 := HBG.out.cell
    clear hb4 h34 hbw4a hw4a hG6 hnn hLv
    go_upto_region 6 with fail
    rw [← HW4A.out]
    go_wp2_with fail
    refine (eqKb_any HGr.out HS4.out (by omega) (by omega)).mono ?_
    rintro e w5 ⟨rfl, hb5⟩
    have s45 := hb5.size
    have H45 : Hid (Below w4a.heap.size w4a w5) := hb5
    have HB5 : Hid (Below w.heap.size w w5) := HB4.out.trans (hb5.mono HB4.out.size)
    clear hb5 p0 g0
    go_wp2_with fail
    refine (toByteS_any _ _ _ zs _ (HR.out.below HB5.out (Nat.le_refl _)) HB5.out.size hle).mono ?_
    rintro e w6 ⟨rfl, hrow6, hb6⟩
    have s56 := hb6.size
    have H46 : Hid (Below w4a.heap.size w4a w6) := H45.out.trans (hb6.mono s45)
    have HB6 : Hid (Below w.heap.size w w6) := HB5.out.trans (hb6.mono HB5.out.size)
    have HX6 : Hid (Row w6 w2a.heap.size len0 zs) := HX4.out.below H46.out (by omega)
    have HY6 : Hid (Row w6 w5.heap.size len0 zs) := hrow6
    clear hb6 hrow6
    go_wp2_with fail
    refine (eqByteS_any _ _ _ _ _ _ zs zs _ (HX6.out.rd HL.out HBy.out (by omega) (Nat.le_refl _) (Nat.lt_succ_self _)) (HY6.out.rd HL.out HBy.out (by omega) (Nat.le_refl _) (Nat.lt_succ_self _))).mono ?_
    rintro e w7 ⟨rfl, nd, hw7⟩
    have hdz : decide (zs = zs) = true := by simp
    rw [hdz]
    have H47 : Hid (Below w4a.heap.size w4a w7) := by unfold Hid; rw [hw7]; exact below_drewN H46.out nd
    have HB7 : Hid (Below w.heap.size w w7) := by unfold Hid; rw [hw7]; exact below_drewN HB6.out nd
    have HX7 : Hid (Row w7 w2a.heap.size len0 zs) := by unfold Hid; rw [hw7]; exact HX6.out.drewNOf
    have s67 : w6.heap.size = w7.heap.size := by rw [hw7]; rfl
    clear hw7 hdz
    go_wp2_with fail
    refine (markByteS_any (some ⟨w2a.heap.size, 0, none⟩) len0 len0 1 w7 w2a.heap.size 0 (.inr rfl) (leafB_ok HX7.out HL.out) hle (by omega)).mono ?_
    rintro e w8 ⟨rfl, hw8⟩
    have s78 : w7.heap.size = w8.heap.size := by rw [hw8, size_marks]
    have hlq : ¬ (1 + (len0 : Int) < 0) := by omega
    have HB8 : Hid (Below w.heap.size w w8) := by unfold Hid; rw [hw8]; exact below_marks HB7.out (fun x hx => by rw [leafB_block x hx]; omega) 1
    have hblk : ∀ b, b < w4a.heap.size → b ≠ w2a.heap.size → w8.heap[b]? = w4a.heap[b]? := fun b h1 h2 => by
      rw [hw8]
      have h3 : Same b (b + 1) w7 (marks w7 (leafB w2a.heap.size 0 len0) 1) := same_marks (fun x hx => by rw [leafB_block x hx]; omega) 1
      exact (h3 b (Nat.le_refl _) (by omega)).trans (H47.out.block b h1)
    have HLv8 : Hid (LvXs w8 5 ga m gb 0 SS ∧ LeafOk w8 (leafXs gb 0 SS m)) := by
      have hks : KeepS w4a w8 := by
        have h7 : KeepS w7 w8 := by rw [hw8]; exact keepS_marks (leafB_ok HX7.out HL.out) 1
        exact (KeepS.of_below H47.out).trans h7
      refine ⟨HLv4.out.1.keep hks, fun x hx => ?_⟩
      obtain ⟨⟨z, hz⟩, hf⟩ := HLv4.out.2 x hx
      have hb := HbL.out x hx
      have e := hblk x.1.block (by omega) (by omega)
      exact ⟨⟨z, (World.cell?_of_block (w := w4a) e).trans hz⟩, (World.frozen?_of_block (w := w4a) e).trans hf⟩
    have HGr8 : Hid (RdK w3.heap.size w4.heap.size w8 6 ga m gc xs) := HGr.out.same (fun b h1 h2 => hblk b (by omega) (by omega))
    have HS8 : Hid (RdK w1.heap.size w2.heap.size w8 6 sa m sc xs) := HS4.out.same (fun b h1 h2 => hblk b (by omega) (by omega))
    have HBG8 : Hid (BoxKv w8 w4.heap.size (.slice ga m gc)) := HBG.out.of (hblk _ (by omega) (by omega))
    have HBS8 : Hid (BoxKv w8 w2.heap.size (.slice sa m sc)) := HBS4.out.of (hblk _ (by omega) (by omega))
    have g0 := HBG8.out.cell
    have p0 := HBS8.out.cell
    clear hw8 hblk
    go_wp2_with fail
    refine (eqKb_any HGr8.out HS8.out (by omega) (by omega)).mono ?_
    rintro e w9 ⟨rfl, hb9⟩
    have s89 := hb9.size
    have HB9 : Hid (Below w.heap.size w w9) := HB8.out.trans (hb9.mono HB8.out.size)
    have HLv9 : Hid (LvXs w9 5 ga m gb 0 SS ∧ LeafOk w9 (leafXs gb 0 SS m)) := ⟨HLv8.out.1.keep (KeepS.of_below hb9), HLv8.out.2.below hb9⟩
    have HS9 : Hid (RdK w1.heap.size w2.heap.size w9 6 sa m sc xs) := HS8.out.below hb9 (by omega)
    have HBG9 : Hid (BoxKv w9 w4.heap.size (.slice ga m gc)) := HBG8.out.of (hb9.block _ (by omega))
    have HBS9 : Hid (BoxKv w9 w2.heap.size (.slice sa m sc)) := HBS8.out.of (hb9.block _ (by omega))
    clear hb9 g0 p0
    have g0 := HBG9.out.cell
    go_wp2_with fail
    refine (markKb_ex (k := 1) HLv9.out.1 HLv9.out.2 (by omega) (by rw [← HNl.out]; omega) (by omega) (by omega)).mono ?_
    rintro e w10 ⟨rfl, V, hbV, hw10⟩
    rw [← HNl.out]
    have sV := hbV.size
    have s10 : V.heap.size = w10.heap.size := by rw [hw10, size_marks]
    have hLV : LeafOk V (leafXs gb 0 SS m) := HLv9.out.2.below hbV
    have hblk : ∀ b, b < w9.heap.size → (b < w3.heap.size ∨ w4.heap.size ≤ b) → w10.heap[b]? = w9.heap[b]? := fun b h1 h2 => by
      rw [hw10]
      have h3 : Same b (b + 1) V (marks V (leafXs gb 0 SS m) 1) := same_marks (fun x hx => by have := HbL.out x hx; omega) 1
      exact (h3 b (Nat.le_refl _) (by omega)).trans (hbV.block b h1)
    have HB10 : Hid (Below w.heap.size w w10) := by
      unfold Hid
      rw [hw10]
      exact below_marks (HB9.out.trans (hbV.mono (by omega))) (fun x hx => by have := HbL.out x hx; omega) 1
    have HS10 : Hid (RdK w1.heap.size w2.heap.size w10 6 sa m sc xs) := HS9.out.same (fun b h1 h2 => hblk b (by omega) (.inl (by omega)))
    have HBS10 : Hid (BoxKv w10 w2.heap.size (.slice sa m sc)) := HBS9.out.of (hblk _ (by omega) (.inl (by omega)))
    have HBG10 : Hid (BoxKv w10 w4.heap.size (.slice ga m gc)) := HBG9.out.of (hblk _ (by omega) (.inr (by omega)))
    have HHe : Hid (Held w10 (leafXs gb 0 SS m) 1) := by unfold Hid; rw [hw10]; exact held_marks hLV HND.out 1
    have HLv : Hid (LvXs w10 5 ga m gb 0 SS) := by
      unfold Hid
      rw [hw10]
      exact (HLv9.out.1.keep (KeepS.of_below hbV)).keep (keepS_marks hLV 1)
    clear hw10 hbV hLV hblk g0
    have g0 := HBG10.out.cell
    go_wp2_with fail
    refine (heldKb_ex (k := 1) HLv.out HHe.out (by omega) (by rw [← HNl.out]; omega) (by omega) (by omega)).mono ?_
    rintro e w11 ⟨rfl, hb11⟩
    rw [← HNl.out]
    have s11 := hb11.size
    have H1011 : Hid (Below w10.heap.size w10 w11) := hb11
    have HB11 : Hid (Below w.heap.size w w11) := HB10.out.trans (hb11.mono HB10.out.size)
    clear hb11 g0
    go_wp2_with fail
    refine (toByteS_any _ _ _ zs _ (HR.out.below HB11.out (Nat.le_refl _)) HB11.out.size hle).mono ?_
    rintro e w12 ⟨rfl, hrow12, hb12⟩
    have hlt12 := hrow12.lt
    have s12' := hb12.size
    have H1012 : Hid (Below w10.heap.size w10 w12) := H1011.out.trans (hb12.mono s11)
    have HB12 : Hid (Below w.heap.size w w12) := HB11.out.trans (hb12.mono HB11.out.size)
    have HX12 : Hid (Row w12 w11.heap.size len0 zs) := hrow12
    clear hb12 hrow12
    go_wp2_with fail
    refine (implKbRead_any _ _ _ _ zs _ (HX12.out.rd HL.out HBy.out (by omega) (Nat.zero_le _) hlt12) hlt12).mono ?_
    rintro e w13 hA
    rw [HT.out] at hA
    obtain ⟨vH, hvs, hVs, hLL, rfl, hH6, hb13⟩ := hA
    obtain ⟨ha, hc, hv⟩ := hH6.form
    rw [← HM.out] at hv
    subst hv
    have s13 : w12.heap.size ≤ w13.heap.size := hb13.size
    obtain ⟨w13a, hw13a⟩ : ∃ W, W = w13.alloc (.cells #[.slice ha m hc] 25) := ⟨_, rfl⟩
    have HW13A : Hid (w13a = w13.alloc (.cells #[.slice ha m hc] 25)) := hw13a
    have hbw13a : Below w13.heap.size w13 w13a := by rw [hw13a]; exact (Below.refl _ _).alloc (Nat.le_refl _) _
    have sw13a : w13.heap.size < w13a.heap.size := by rw [hw13a]; simp
    have HBH : Hid (BoxKv w13a w13.heap.size (.slice ha m hc)) := by unfold Hid; rw [hw13a]; exact BoxKv.new w13 _
    have h1213 : Below w12.heap.size w12 w13a := hb13.trans (hbw13a.mono s13)
    have H1013 : Hid (Below w10.heap.size w10 w13a) := H1012.out.trans (h1213.mono (by omega))
    have HB13 : Hid (Below w.heap.size w w13a) := HB12.out.trans (h1213.mono HB12.out.size)
    have HHr : Hid (RdK w12.heap.size w13.heap.size w13a 6 ha m hc xs) := (kbRd hH6 HM.out).below hbw13a (Nat.le_refl _)
    have HS13 : Hid (RdK w1.heap.size w2.heap.size w13a 6 sa m sc xs) := HS10.out.below H1013.out (by omega)
    have HBS13 : Hid (BoxKv w13a w2.heap.size (.slice sa m sc)) := HBS10.out.of (H1013.out.block _ (by omega))
    have p0 := HBS13.out.cell
    have g0 := HBH.out.cell
    clear hb13 h1213 hbw13a hw13a hH6
    go_upto_region 23 with fail
    rw [← HW13A.out]
    go_wp2_with fail
    refine (eqKb_any HHr.out HS13.out (by omega) (by omega)).mono ?_
    rintro e w14 ⟨rfl, hb14⟩
    have s14 := hb14.size
    have H1014 : Hid (Below w10.heap.size w10 w14) := H1013.out.trans (hb14.mono (by omega))
    have HB14 : Hid (Below w.heap.size w w14) := HB13.out.trans (hb14.mono HB13.out.size)
    have HBG14 : Hid (BoxKv w14 w4.heap.size (.slice ga m gc)) := HBG10.out.of (H1014.out.block _ (by omega))
    have HHe14 : Hid (Held w14 (leafXs gb 0 SS m) 1) := Held.below H1014.out HHe.out
    have HLv14 : Hid (LvXs w14 5 ga m gb 0 SS) := HLv.out.keep (KeepS.of_below H1014.out)
    clear hb14 p0 g0
    have g0 := HBG14.out.cell
    go_wp2_with fail
    refine (heldKb_ex (k := 1) HLv14.out HHe14.out (by omega) (by rw [← HNl.out]; omega) (by omega) (by omega)).mono ?_
    rintro e w15 ⟨rfl, hb15⟩
    rw [← HNl.out]
    have HB15 : Hid (Below w.heap.size w w15) := HB14.out.trans (hb15.mono HB14.out.size)
    clear hb15 g0
    go_wp2
    go_ret
    exact ⟨rfl, HB15.out⟩

end Go.Proofs.YtckhjoancfbkfaaGreat
