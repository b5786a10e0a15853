/- The program's ClauseOk: a contract. -/
import Derived.Test.YtknainelonaigaaGreatDoorNI
namespace Go.Proofs.YtknainelonaigaaGreatDoor
open Go.RowKit

def BoxS (W : World) (q : Nat) (wd : ByteArray) (bf br bu bx by' bi bp : Bool) : Prop := W.heap[q]? = some (.cells #[.string wd, .bool bf, .bool br, .bool bu, .bool bx, .bool by', .bool bi, .bool bp] 91 (0, 0))
theorem BoxS.new (W : World) (wd : ByteArray) (bf br bu bx by' bi bp : Bool) : BoxS (W.alloc (.cells #[.string wd, .bool bf, .bool br, .bool bu, .bool bx, .bool by', .bool bi, .bool bp] 91)) W.heap.size wd bf br bu bx by' bi bp := World.alloc_heap_new W _
theorem BoxS.below {W W' : World} {q B : Nat} {wd : ByteArray} {bf br bu bx by' bi bp : Bool} (h : BoxS W q wd bf br bu bx by' bi bp) (hb : Below B W W') (hB : q < B) : BoxS W' q wd bf br bu bx by' bi bp := (hb.block q hB).trans h
theorem BoxS.cells {W : World} {q : Nat} {wd : ByteArray} {bf br bu bx by' bi bp : Bool} (h : BoxS W q wd bf br bu bx by' bi bp) :
    W.cell? ⟨q, 0, none⟩ = some (.string wd) ∧ W.cell? ⟨q, 1, none⟩ = some (.bool bf) ∧ W.cell? ⟨q, 2, none⟩ = some (.bool br) ∧ W.cell? ⟨q, 3, none⟩ = some (.bool bu) ∧ W.cell? ⟨q, 4, none⟩ = some (.bool bx) ∧ W.cell? ⟨q, 5, none⟩ = some (.bool by') ∧ W.cell? ⟨q, 6, none⟩ = some (.bool bi) ∧ W.cell? ⟨q, 7, none⟩ = some (.bool bp) := by
  unfold BoxS at h
  refine ⟨?_, ?_, ?_, ?_, ?_, ?_, ?_, ?_⟩ <;> simp [World.cell?, h]

set_option maxRecDepth 100000 in
set_option maxHeartbeats 4000000 in
theorem implClauseOk_any {k f r u xp xn yp yn : Int} {ia : Option Addr} {im ic : Nat} {a b : Int} {xs : List (Int × Int)} {w : World} {lo hi : Nat} (h : RP lo hi w ia im ic xs) (hhi : hi ≤ w.heap.size) :
    Calls Tryz.prog 55 #[.agg #[.int .i64 k, .int .i64 f, .int .i64 r, .int .i64 u, .int .i64 xp, .int .i64 xn, .int .i64 yp, .int .i64 yn, .slice ia im ic, .int .i64 a, .int .i64 b]] w fun e w' => e = .returned (.bool (clauseB k f r u xp xn yp yn xs a b)) ∧ Below w.heap.size w w' := by
  obtain ⟨W, hW⟩ : ∃ W, W = w.alloc (.cells #[.int .i64 k, .int .i64 f, .int .i64 r, .int .i64 u, .int .i64 xp, .int .i64 xn, .int .i64 yp, .int .i64 yn, .slice ia im ic, .int .i64 a, .int .i64 b] 53) := ⟨_, rfl⟩
  have HW : Hid (W = w.alloc (.cells #[.int .i64 k, .int .i64 f, .int .i64 r, .int .i64 u, .int .i64 xp, .int .i64 xn, .int .i64 yp, .int .i64 yn, .slice ia im ic, .int .i64 a, .int .i64 b] 53)) := hW
  have hb0 : Below w.heap.size w W := by rw [hW]; exact (Below.refl _ _).alloc (Nat.le_refl _) _
  have HB0 : Hid (Below w.heap.size w W) := hb0
  have hbx : BoxK 53 W w.heap.size k f r u xp xn yp yn (.slice ia im ic) a b := by rw [hW]; exact BoxK.new _ w _ _ _ _ _ _ _ _ _ _ _
  have HX : Hid (∀ V, Below W.heap.size W V → BoxK 53 V w.heap.size k f r u xp xn yp yn (.slice ia im ic) a b) := fun V hV => hbx.below hV hbx.lt
  have HRP : Hid (∀ V, Below W.heap.size W V → RP lo hi V ia im ic xs ∧ hi ≤ V.heap.size) := fun V hV => ⟨(h.below hb0 hhi).below hV (Nat.le_trans hhi hb0.size), Nat.le_trans hhi (Nat.le_trans hb0.size hV.size)⟩
  have hbuild : ∀ V : World, (Instr.build 50 #[]).run Tryz.prog V = .ok (.agg #[.int .i64 0, .int .i64 0]) V := fun V => run_build V _ _ _ (by kernel_rfl)
  obtain ⟨C, hC⟩ : ∃ C, C = clauseB k f r u xp xn yp yn xs a b := ⟨_, rfl⟩
  obtain ⟨kn, hkn⟩ : ∃ b, b = knownK k := ⟨_, rfl⟩
  obtain ⟨wd, hwd⟩ : ∃ b, b = wordK k := ⟨_, rfl⟩
  obtain ⟨bf, hbf⟩ : ∃ b, b = hasF k := ⟨_, rfl⟩
  obtain ⟨br, hbr⟩ : ∃ b, b = hasR k := ⟨_, rfl⟩
  obtain ⟨bu, hbu⟩ : ∃ b, b = hasU k := ⟨_, rfl⟩
  obtain ⟨bx, hbx'⟩ : ∃ b, b = hasX k := ⟨_, rfl⟩
  obtain ⟨by', hby'⟩ : ∃ b, b = hasY k := ⟨_, rfl⟩
  obtain ⟨bi, hbi⟩ : ∃ b, b = hasI k := ⟨_, rfl⟩
  obtain ⟨bp, hbp⟩ : ∃ b, b = hasP k := ⟨_, rfl⟩
  have HV : Hid (shapeV k = #[.string wd, .bool bf, .bool br, .bool bu, .bool bx, .bool by', .bool bi, .bool bp]) := by unfold Hid; rw [shapeV, ← hwd, ← hbf, ← hbr, ← hbu, ← hbx', ← hby', ← hbi, ← hbp]
  have HKn : Hid (kn = knownK k) := hkn
  have HC : Hid (C = (kn && (numB f 12 bf && (numB r 3 br && (numB u 3 bu && (numB a 4 bp && (numB b 4 bp && (parB xp xn bx && (parB yp yn by' && (indB xs bi && (!(decide (k = 1)) || !(noneB yp yn)))))))))))) := by
    unfold Hid
    rw [hC, hkn, hbf, hbr, hbu, hbp, hbx', hby', hbi]
    rfl
  rw [← hC]
  obtain ⟨z0, z1, z2, z3, z4, z5, z6, z7, z8, z9, z10⟩ := hbx.cells
  clear hW hb0 hbx h hC hhi hkn hwd hbf hbr hbu hbx' hby' hbi hbp
  go_enter Tryz.func55, Tryz.ntmps55
  go_upto_region 1 with fail
  rw [← HW.out]
  go_wp2_with fail
  refine (shapeOf_any k W).mono ?_
  rintro e w1 ⟨rfl, hb1⟩
  rw [HV.out, ← HKn.out]
  have H1 : Hid (Below W.heap.size W w1) := hb1
  clear hb1 z0 z1 z2 z3 z4 z5 z6 z7 z8 z9 z10
  obtain ⟨W2, hW2⟩ : ∃ W2, W2 = w1.alloc (.cells #[.string wd, .bool bf, .bool br, .bool bu, .bool bx, .bool by', .bool bi, .bool bp] 91) := ⟨_, rfl⟩
  have HW2 : Hid (W2 = w1.alloc (.cells #[.string wd, .bool bf, .bool br, .bool bu, .bool bx, .bool by', .bool bi, .bool bp] 91)) := hW2
  have H2 : Hid (Below W.heap.size W W2) := by unfold Hid; rw [hW2]; exact H1.out.alloc H1.out.size _
  have hsx : BoxS W2 w1.heap.size wd bf br bu bx by' bi bp := by rw [hW2]; exact BoxS.new _ _ _ _ _ _ _ _ _
  have hs2 : w1.heap.size < W2.heap.size := by rw [hW2]; simp
  have HS : Hid (∀ V, Below W2.heap.size W2 V → BoxS V w1.heap.size wd bf br bu bx by' bi bp) := fun V hV => hsx.below hV hs2
  have HR2 : Hid (Below W2.heap.size W2 W2) := Below.refl _ _
  obtain ⟨z0, z1, z2, z3, z4, z5, z6, z7, z8, z9, z10⟩ := (HX.out _ H1.out).cells
  have hl1 : w.heap.size < w1.heap.size := Nat.lt_of_lt_of_le (by rw [HW.out]; simp) H1.out.size
  clear hW2 hsx
  have HFin : Hid (∀ V, Below W2.heap.size W2 V → Below w.heap.size w V) := fun V hV => HB0.out.trans ((H2.out.trans (hV.mono H2.out.size)).mono HB0.out.size)
  cases kn with
  | false =>
    go_wp2_with fail
    all_goals
      go_ret
      exact ⟨rb (by rw [HC.out]; rfl), by rw [← HW2.out]; exact HFin.out _ HR2.out⟩
  | true =>
  go_wp2_with fail
  refine (numberFits_any f 12 bf _).mono ?_
  rintro e w' ⟨rfl, hw⟩
  rw [hw, ← HW2.out]
  clear hw
  clear z0 z1 z2 z3 z4 z5 z6 z7 z8 z9 z10
  obtain ⟨z0, z1, z2, z3, z4, z5, z6, z7, z8, z9, z10⟩ := (HX.out _ H2.out).cells
  obtain ⟨s0, s1, s2, s3, s4, s5, s6, s7⟩ := (HS.out _ HR2.out).cells
  obtain ⟨u1, hu⟩ : ∃ uu, uu = numB f 12 bf := ⟨_, rfl⟩
  rw [← hu]
  have HU1 : Hid (u1 = numB f 12 bf) := hu
  clear hu
  cases u1 with
  | false =>
    go_wp2_with fail
    all_goals
      go_ret
      exact ⟨rb (by rw [HC.out, ← HU1.out]; rfl), HFin.out _ HR2.out⟩
  | true =>
  go_wp2_with fail
  refine (numberFits_any r 3 br W2).mono ?_
  rintro e w' ⟨rfl, hw⟩
  rw [hw]
  clear hw
  obtain ⟨u2, hu⟩ : ∃ uu, uu = numB r 3 br := ⟨_, rfl⟩
  rw [← hu]
  have HU2 : Hid (u2 = numB r 3 br) := hu
  clear hu
  cases u2 with
  | false =>
    go_wp2_with fail
    all_goals
      go_ret
      exact ⟨rb (by rw [HC.out, ← HU1.out, ← HU2.out]; rfl), HFin.out _ HR2.out⟩
  | true =>
  go_wp2_with fail
  refine (numberFits_any u 3 bu W2).mono ?_
  rintro e w' ⟨rfl, hw⟩
  rw [hw]
  clear hw
  obtain ⟨u3, hu⟩ : ∃ uu, uu = numB u 3 bu := ⟨_, rfl⟩
  rw [← hu]
  have HU3 : Hid (u3 = numB u 3 bu) := hu
  clear hu
  cases u3 with
  | false =>
    go_wp2_with fail
    all_goals
      go_ret
      exact ⟨rb (by rw [HC.out, ← HU1.out, ← HU2.out, ← HU3.out]; rfl), HFin.out _ HR2.out⟩
  | true =>
  go_wp2_with fail
  refine (numberFits_any a 4 bp W2).mono ?_
  rintro e w' ⟨rfl, hw⟩
  rw [hw]
  clear hw
  obtain ⟨u4, hu⟩ : ∃ uu, uu = numB a 4 bp := ⟨_, rfl⟩
  rw [← hu]
  have HU4 : Hid (u4 = numB a 4 bp) := hu
  clear hu
  cases u4 with
  | false =>
    go_wp2_with fail
    all_goals
      go_ret
      exact ⟨rb (by rw [HC.out, ← HU1.out, ← HU2.out, ← HU3.out, ← HU4.out]; rfl), HFin.out _ HR2.out⟩
  | true =>
  go_wp2_with fail
  refine (numberFits_any b 4 bp W2).mono ?_
  rintro e w' ⟨rfl, hw⟩
  rw [hw]
  clear hw
  obtain ⟨u5, hu⟩ : ∃ uu, uu = numB b 4 bp := ⟨_, rfl⟩
  rw [← hu]
  have HU5 : Hid (u5 = numB b 4 bp) := hu
  clear hu
  cases u5 with
  | false =>
    go_wp2_with fail
    all_goals
      go_ret
      exact ⟨rb (by rw [HC.out, ← HU1.out, ← HU2.out, ← HU3.out, ← HU4.out, ← HU5.out]; rfl), HFin.out _ HR2.out⟩
  | true =>
  go_wp2_with fail
  refine (partFits_any xp xn bx W2).mono ?_
  rintro e v6 ⟨rfl, hb⟩
  have HV6 : Hid (Below W2.heap.size W2 v6) := HR2.out.trans (hb.mono HR2.out.size)
  clear hb z0 z1 z2 z3 z4 z5 z6 z7 z8 z9 z10 s0 s1 s2 s3 s4 s5 s6 s7
  obtain ⟨z0, z1, z2, z3, z4, z5, z6, z7, z8, z9, z10⟩ := (HX.out _ (H2.out.trans (HV6.out.mono H2.out.size))).cells
  obtain ⟨s0, s1, s2, s3, s4, s5, s6, s7⟩ := (HS.out _ HV6.out).cells
  obtain ⟨u6, hu⟩ : ∃ uu, uu = parB xp xn bx := ⟨_, rfl⟩
  rw [← hu]
  have HU6 : Hid (u6 = parB xp xn bx) := hu
  clear hu
  cases u6 with
  | false =>
    go_wp2_with fail
    all_goals
      go_ret
      exact ⟨rb (by rw [HC.out, ← HU1.out, ← HU2.out, ← HU3.out, ← HU4.out, ← HU5.out, ← HU6.out]; rfl), HFin.out _ HV6.out⟩
  | true =>
  go_wp2_with fail
  refine (partFits_any yp yn by' v6).mono ?_
  rintro e v7 ⟨rfl, hb⟩
  have HV7 : Hid (Below W2.heap.size W2 v7) := HV6.out.trans (hb.mono HV6.out.size)
  clear hb z0 z1 z2 z3 z4 z5 z6 z7 z8 z9 z10 s0 s1 s2 s3 s4 s5 s6 s7
  obtain ⟨z0, z1, z2, z3, z4, z5, z6, z7, z8, z9, z10⟩ := (HX.out _ (H2.out.trans (HV7.out.mono H2.out.size))).cells
  obtain ⟨s0, s1, s2, s3, s4, s5, s6, s7⟩ := (HS.out _ HV7.out).cells
  obtain ⟨u7, hu⟩ : ∃ uu, uu = parB yp yn by' := ⟨_, rfl⟩
  rw [← hu]
  have HU7 : Hid (u7 = parB yp yn by') := hu
  clear hu
  cases u7 with
  | false =>
    go_wp2_with fail
    all_goals
      go_ret
      exact ⟨rb (by rw [HC.out, ← HU1.out, ← HU2.out, ← HU3.out, ← HU4.out, ← HU5.out, ← HU6.out, ← HU7.out]; rfl), HFin.out _ HV7.out⟩
  | true =>
  go_wp2_with fail
  refine (indsFit_any (HRP.out _ (H2.out.trans (HV7.out.mono H2.out.size))).1 (HRP.out _ (H2.out.trans (HV7.out.mono H2.out.size))).2 bi).mono ?_
  rintro e v8 ⟨rfl, hb⟩
  have HV8 : Hid (Below W2.heap.size W2 v8) := HV7.out.trans (hb.mono HV7.out.size)
  clear hb z0 z1 z2 z3 z4 z5 z6 z7 z8 z9 z10 s0 s1 s2 s3 s4 s5 s6 s7
  obtain ⟨z0, z1, z2, z3, z4, z5, z6, z7, z8, z9, z10⟩ := (HX.out _ (H2.out.trans (HV8.out.mono H2.out.size))).cells
  obtain ⟨s0, s1, s2, s3, s4, s5, s6, s7⟩ := (HS.out _ HV8.out).cells
  obtain ⟨u8, hu⟩ : ∃ uu, uu = indB xs bi := ⟨_, rfl⟩
  rw [← hu]
  have HU8 : Hid (u8 = indB xs bi) := hu
  clear hu
  cases u8 with
  | false =>
    go_wp2_with fail
    all_goals
      go_ret
      exact ⟨rb (by rw [HC.out, ← HU1.out, ← HU2.out, ← HU3.out, ← HU4.out, ← HU5.out, ← HU6.out, ← HU7.out, ← HU8.out]; rfl), HFin.out _ HV8.out⟩
  | true =>
  by_cases hk : k = 1
  · have hk1 : (k != 1) = false := by simp [hk]
    have HE : Hid (C = !(noneB yp yn)) := by unfold Hid; rw [HC.out, ← HU1.out, ← HU2.out, ← HU3.out, ← HU4.out, ← HU5.out, ← HU6.out, ← HU7.out, ← HU8.out]; simp [hk]
    clear hk
    by_cases hy : yp = 0
    · have hyb : (yp == 0) = true := by simp [hy]
      by_cases hn : yn = 0
      · have hnb : (yn == 0) = true := by simp [hn]
        have HE' : Hid (C = false) := by unfold Hid; rw [HE.out]; simp [noneB, hy, hn]
        clear hy hn HE
        go_wp2_with fail
        go_ret
        exact ⟨rb HE'.out.symm, HFin.out _ HV8.out⟩
      · have hnb : (yn == 0) = false := by simpa using hn
        have HE' : Hid (C = true) := by unfold Hid; rw [HE.out]; simp [noneB, hn]
        clear hy hn HE
        go_wp2_with fail
        go_ret
        exact ⟨rb HE'.out.symm, HFin.out _ HV8.out⟩
    · have hyb : (yp == 0) = false := by simpa using hy
      have HE' : Hid (C = true) := by unfold Hid; rw [HE.out]; simp [noneB, hy]
      clear hy HE
      go_wp2_with fail
      go_ret
      exact ⟨rb HE'.out.symm, HFin.out _ HV8.out⟩
  · have hk1 : (k != 1) = true := by simpa using hk
    have HE : Hid (C = true) := by unfold Hid; rw [HC.out, ← HU1.out, ← HU2.out, ← HU3.out, ← HU4.out, ← HU5.out, ← HU6.out, ← HU7.out, ← HU8.out]; simp [hk]
    clear hk
    go_wp2_with fail
    go_ret
    exact ⟨rb HE.out.symm, HFin.out _ HV8.out⟩
end Go.Proofs.YtknainelonaigaaGreatDoor
