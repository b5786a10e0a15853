/- The program's reader of a concept: its kids, and the whole. -/
import Derived.Test.YtckhjoancfbkfaaGreatReadI2
namespace Go.Proofs.YtckhjoancfbkfaaGreat
open Go.RowKit

theorem kindI_range (ts : List Tok) (i : Nat) : kindI ts i = 0 ∨ kindI ts i = 1 ∨ kindI ts i = 2 ∨ kindI ts i = 3 ∨ kindI ts i = 4 ∨ kindI ts i = 5 ∨ kindI ts i = 6 ∨ kindI ts i = 7 := kindW_range _

theorem kidN_kind {k : Int} (h : k = 0 ∨ k = 1 ∨ k = 2 ∨ k = 3 ∨ k = 4 ∨ k = 5 ∨ k = 6 ∨ k = 7) : 0 ≤ kidN k ∧ kidN k ≤ 2 := by
  rcases h with rfl | rfl | rfl | rfl | rfl | rfl | rfl | rfl <;> decide

theorem kidsR_bad {g : Nat → Res} {s m : Nat} {a : Int} (h : kidsR g s m = .bad a) : ∀ n, m ≤ n → kidsR g s n = .bad a := by
  intro n
  induction n with
  | zero => intro hm; rw [show m = 0 by omega] at h; exact h
  | succ n ih =>
    intro hm
    by_cases e : m = n + 1
    · subst e; exact h
    · rw [kidsR, ih (by omega)]

theorem kidsR_step {g : Nat → Res} {s m : Nat} {cs : List CN} {j : Nat} {c : CN} {j' : Nat} (h : kidsR g s m = .ok cs j) (k : g j = .ok c j') : kidsR g s (m + 1) = .ok (cs ++ [c]) j' := by
  rw [kidsR, h]; simp only; rw [k]

theorem kidsR_fell {g : Nat → Res} {s m : Nat} {cs : List CN} {j : Nat} {a : Int} (h : kidsR g s m = .ok cs j) (k : g j = .bad a) : kidsR g s (m + 1) = .bad a := by
  rw [kidsR, h]; simp only; rw [k]

theorem kidsR_len {g : Nat → Res} {s : Nat} : ∀ {m : Nat} {cs : List CN} {j : Nat}, kidsR g s m = .ok cs j → cs.length = m := by
  intro m
  induction m with
  | zero => intro cs j h; simp only [kidsR, ResL.ok.injEq] at h; rw [← h.1]; rfl
  | succ m ih =>
    intro cs j h
    simp only [kidsR] at h
    cases h1 : kidsR g s m with
    | bad a => rw [h1] at h; simp at h
    | ok cs1 j1 =>
      rw [h1] at h
      simp only at h
      cases h2 : g j1 with
      | bad a => rw [h2] at h; simp at h
      | ok c2 j2 =>
        rw [h2] at h
        simp only [ResL.ok.injEq] at h
        rw [← h.1, List.length_append, ih h1]
        rfl

/-- The tail of what is read, behind the open bracket. -/
theorem conR_kids {ts : List Tok} {en : Int} {f i : Nat} (h1 : isI ts 1 i = true) (h2 : kindI ts i ≠ 2) (h3 : kidN (kindI ts i) ≠ 0) (h4 : isI ts 3 (i + 1) = true) (h5 : roleB (kindI ts i) = false ∨ isI ts 2 (i + 2) = true) :
    conR ts en (f + 1) i = closeR ts en (kindI ts i) (roleI ts (kindI ts i) i) (kidsR (conR ts en f) (startI (kindI ts i) i) (kidN (kindI ts i)).toNat) := by
  rw [conR, if_neg (by simp [h1]), if_neg h2, if_neg h3, if_neg (by simp [h4]), if_neg]
  rintro ⟨a, b⟩
  rcases h5 with h | h
  · rw [h] at a; cases a
  · rw [h] at b; cases b

set_option maxRecDepth 100000 in
set_option maxHeartbeats 2000000 in
theorem read_open (f : Nat) (dp : Int) (hd0 : 1 ≤ dp) (hd6 : dp ≤ 6) (base pb g i : Nat) (ts : List Tok) (gs : List (Nat × Nat)) (en : Int) (w : World) (hR : RdrAt w pb g i ts en) (hT : TkM base pb w g ts gs) (h1 : isI ts 1 i = true) (h2 : kindI ts i ≠ 2) (h3 : kidN (kindI ts i) ≠ 0) (h4 : isI ts 3 (i + 1) = false) :
    Calls Tryz.prog 86 #[.pointer (some ⟨pb, 0, none⟩), .int .i64 dp] w (RP ts gs en g pb i w (f + 1) (conR ts en (f + 1) i)) := by
  have HC : Hid (conR ts en (f + 1) i = .bad (hereI ts en (i + 1))) := by unfold Hid; rw [conR, if_neg (by simp [h1]), if_neg h2, if_neg h3, if_pos h4]
  have H2 : Hid (kindI ts i ≠ 2) := h2
  have H3 : Hid (kidN (kindI ts i) ≠ 0) := h3
  clear h2 h3
  have hpl := hR.lt
  have hb0 : Below w.heap.size w (w.alloc (.cells #[.int .i64 0, .slice none 0 0, .slice none 0 0, .slice none 0 0] 37)) := (Below.refl _ _).alloc (Nat.le_refl _) _
  have HB0 : Hid (Below w.heap.size w (w.alloc (.cells #[.int .i64 0, .slice none 0 0, .slice none 0 0, .slice none 0 0] 37))) := hb0
  have HR0 : Hid (RdrAt (w.alloc (.cells #[.int .i64 0, .slice none 0 0, .slice none 0 0, .slice none 0 0] 37)) pb g i ts en) := hR.below hb0
  have HT0 : Hid (TkM base pb (w.alloc (.cells #[.int .i64 0, .slice none 0 0, .slice none 0 0, .slice none 0 0] 37)) g ts gs) := hT.below (hb0.mono (Nat.le_of_lt hpl))
  have HZ0 : Hid (BoxC (w.alloc (.cells #[.int .i64 0, .slice none 0 0, .slice none 0 0, .slice none 0 0] 37)) w.heap.size (.int .i64 0) (.slice none 0 0) (.slice none 0 0) (.slice none 0 0)) := BoxC.new w _ _ _ _
  clear hb0 hR hT
  have hlt := isI_lt h1
  obtain ⟨ta, tc, hx, _, _, _⟩ := HT0.out.word hlt
  obtain ⟨tn, htn⟩ : ∃ tn, tn = (wordI ts i).length := ⟨_, rfl⟩
  have HX : Hid (txv (ts.getD i Tok.zero) (gs.getD i (0, 0)) = .slice ta (wordI ts i).length tc) := hx
  have HTN : Hid (tn = (wordI ts i).length) := htn
  obtain ⟨p, hp⟩ : ∃ p, p = hereI ts en i := ⟨_, rfl⟩
  have HP : Hid (p = hereI ts en i) := hp
  obtain ⟨kd, hkd⟩ : ∃ kd, kd = kindI ts i := ⟨_, rfl⟩
  have HKD : Hid (kd = kindI ts i) := hkd
  clear hx htn hp hkd
  go_enter Tryz.func86, Tryz.ntmps86
  go_wp2_with fail
  refine (take_ok base pb g i ts gs en 1 _ HR0.out HT0.out h1).mono ?_
  rintro e w1 ⟨rfl, hR1, hb1⟩
  rw [HX.out, ← HTN.out, ← HP.out]
  have HR1 : Hid (RdrAt w1 pb g (i + 1) ts en) := hR1
  have HT1 : Hid (TkM base pb w1 g ts gs) := HT0.out.bt hb1 (by simp; omega)
  have HZ1 : Hid (BoxC w1 w.heap.size (.int .i64 0) (.slice none 0 0) (.slice none 0 0) (.slice none 0 0)) := (hb1.block _ HZ0.out.lt (by omega)).trans HZ0.out
  have HBt1 : Hid (Bt pb w.heap.size w w1) := (Bt.of_below HB0.out).trans (hb1.mono HB0.out.size)
  have hs1 : w.heap.size < w1.heap.size := HZ1.out.lt
  clear hR1 hb1
  go_wp2_with fail
  obtain ⟨W1, HW1⟩ : ∃ W1, Hid (W1 = w1.alloc (.cells #[.int .i64 1, .int .i64 p, .slice ta tn tc] 134)) := ⟨_, rfl⟩
  rw [← HW1.out]
  have hbb : Below w1.heap.size w1 W1 := by rw [HW1.out]; exact (Below.refl _ _).alloc (Nat.le_refl _) _
  have HK1 : Hid (BoxK3 W1 w1.heap.size (.int .i64 1) (.int .i64 p) (.slice ta tn tc)) := by unfold Hid; rw [HW1.out]; exact BoxK3.new w1 _ _ _
  have HRd1 : Hid (Rd 0 pb W1 ta tn tc (wordI ts i)) := by
    obtain ⟨a', c', hx', _, hr, _⟩ := (HT1.out.below (hbb.mono (by omega))).word hlt
    rw [HX.out] at hx'
    simp only [Value.slice.injEq, true_and] at hx'
    obtain ⟨rfl, rfl⟩ := hx'
    unfold Hid; rw [HTN.out]; exact hr
  refine (conKind_any ta tn tc (wordI ts i) W1 HRd1.out).mono ?_
  rintro e w2 ⟨rfl, nd, hw2⟩
  rw [show kindW (strOfNums (wordI ts i)).toList = kd from HKD.out.symm]
  have hb2 : Below w1.heap.size w1 w2 := by rw [hw2]; exact below_drewN hbb nd
  have HB2 : Hid (Below w1.heap.size w1 w2) := hb2
  have HRd2 : Hid (Rd 0 pb w2 ta tn tc (wordI ts i)) := by unfold Hid; rw [hw2]; exact HRd1.out.same (fun _ _ _ => rfl)
  have HK2 : Hid (BoxK3 w2 w1.heap.size (.int .i64 1) (.int .i64 p) (.slice ta tn tc)) := by unfold Hid; rw [hw2]; exact HK1.out
  have HR2 : Hid (RdrAt w2 pb g (i + 1) ts en) := HR1.out.below hb2
  have HT2 : Hid (TkM base pb w2 g ts gs) := HT1.out.below (hb2.mono (by omega))
  have HZ2 : Hid (BoxC w2 w.heap.size (.int .i64 0) (.slice none 0 0) (.slice none 0 0) (.slice none 0 0)) := HZ1.out.below hb2 hs1
  have HBt2 : Hid (Bt pb w.heap.size w w2) := HBt1.out.trans (Bt.of_below (hb2.mono (by omega)))
  have hs2 : w1.heap.size < w2.heap.size := by rw [hw2]; show w1.heap.size < W1.heap.size; rw [HW1.out, World.size_alloc]; omega
  obtain ⟨t0, t1, t2⟩ := HK2.out.cells
  obtain ⟨z0, z1, z2, z3⟩ := HZ2.out.cells
  have zf0 := HZ2.out.frz 0
  have zf1 := HZ2.out.frz 1
  have zf2 := HZ2.out.frz 2
  have zf3 := HZ2.out.frz 3
  clear hw2 hb2 hbb HW1 HK1 HRd1
  have hk2 : (kd == 2) = false := by rw [HKD.out]; simpa using H2.out
  go_wp2_with fail
  obtain ⟨W3, HW3⟩ : ∃ W3, Hid (W3 = w2.alloc (.cells #[.int .i64 kd, .slice none 0 0, .slice none 0 0, .slice none 0 0] 37)) := ⟨_, rfl⟩
  rw [← HW3.out]
  have hb3 : Below w2.heap.size w2 W3 := by rw [HW3.out]; exact (Below.refl _ _).alloc (Nat.le_refl _) _
  have HO3 : Hid (BoxC W3 w2.heap.size (.int .i64 kd) (.slice none 0 0) (.slice none 0 0) (.slice none 0 0)) := by unfold Hid; rw [HW3.out]; exact BoxC.new w2 _ _ _ _
  have hs3 : w2.heap.size < W3.heap.size := HO3.out.lt
  have HR3 : Hid (RdrAt W3 pb g (i + 1) ts en) := HR2.out.below hb3
  have HT3 : Hid (TkM base pb W3 g ts gs) := HT2.out.below (hb3.mono (by omega))
  have HZ3 : Hid (BoxC W3 w.heap.size (.int .i64 0) (.slice none 0 0) (.slice none 0 0) (.slice none 0 0)) := HZ2.out.below hb3 (by omega)
  have HBt3 : Hid (Bt pb w.heap.size w W3) := HBt2.out.trans (Bt.of_below (hb3.mono (by omega)))
  clear hb3 HW3 t0 t1 t2 z0 z1 z2 z3 zf0 zf1 zf2 zf3
  refine (kidCount_any kd _).mono ?_
  rintro e w3 ⟨rfl, hw3⟩
  rw [hw3]; clear hw3
  obtain ⟨n, hn⟩ : ∃ n : Nat, kidN kd = (n : Int) := ⟨(kidN kd).toNat, by have h := H3.out; rw [← HKD.out] at h; have := kidN_kind (HKD.out ▸ kindI_range ts i); omega⟩
  have HN : Hid (kidN kd = (n : Int)) := hn
  have hn1 : 1 ≤ n := by have h := H3.out; rw [← HKD.out, hn] at h; omega
  have hn0 : ((n : Int) == 0) = false := by simp; omega
  rw [hn]
  clear hn
  go_wp2_with fail
  refine (take_bad base pb g (i + 1) ts gs en 3 W3 HR3.out HT3.out hlt h4).mono ?_
  rintro e w4 ⟨rfl, hb4⟩
  have HBt : Hid (Bt pb w.heap.size w w4) := HBt3.out.trans (Bt.of_below (hb4.mono (by omega)))
  clear hb4
  simp only [gaveUp]
  go_wp2
  exact ⟨rfl, RP.fell HBt.out HC.out rfl⟩

set_option maxRecDepth 100000 in
set_option maxHeartbeats 2000000 in
theorem read_role (f : Nat) (dp : Int) (hd0 : 1 ≤ dp) (hd6 : dp ≤ 6) (base pb g i : Nat) (ts : List Tok) (gs : List (Nat × Nat)) (en : Int) (w : World) (hR : RdrAt w pb g i ts en) (hT : TkM base pb w g ts gs) (h1 : isI ts 1 i = true) (h2 : kindI ts i ≠ 2) (h3 : kidN (kindI ts i) ≠ 0) (h4 : isI ts 3 (i + 1) = true) (h5 : roleB (kindI ts i) = true) (h6 : isI ts 2 (i + 2) = false) :
    Calls Tryz.prog 86 #[.pointer (some ⟨pb, 0, none⟩), .int .i64 dp] w (RP ts gs en g pb i w (f + 1) (conR ts en (f + 1) i)) := by
  have HC : Hid (conR ts en (f + 1) i = .bad (hereI ts en (i + 2))) := by unfold Hid; rw [conR, if_neg (by simp [h1]), if_neg h2, if_neg h3, if_neg (by simp [h4]), if_pos ⟨h5, h6⟩]
  have H5 : Hid (roleB (kindI ts i) = true) := h5
  clear h5
  have H2 : Hid (kindI ts i ≠ 2) := h2
  have H3 : Hid (kidN (kindI ts i) ≠ 0) := h3
  clear h2 h3
  have hpl := hR.lt
  have hb0 : Below w.heap.size w (w.alloc (.cells #[.int .i64 0, .slice none 0 0, .slice none 0 0, .slice none 0 0] 37)) := (Below.refl _ _).alloc (Nat.le_refl _) _
  have HB0 : Hid (Below w.heap.size w (w.alloc (.cells #[.int .i64 0, .slice none 0 0, .slice none 0 0, .slice none 0 0] 37))) := hb0
  have HR0 : Hid (RdrAt (w.alloc (.cells #[.int .i64 0, .slice none 0 0, .slice none 0 0, .slice none 0 0] 37)) pb g i ts en) := hR.below hb0
  have HT0 : Hid (TkM base pb (w.alloc (.cells #[.int .i64 0, .slice none 0 0, .slice none 0 0, .slice none 0 0] 37)) g ts gs) := hT.below (hb0.mono (Nat.le_of_lt hpl))
  have HZ0 : Hid (BoxC (w.alloc (.cells #[.int .i64 0, .slice none 0 0, .slice none 0 0, .slice none 0 0] 37)) w.heap.size (.int .i64 0) (.slice none 0 0) (.slice none 0 0) (.slice none 0 0)) := BoxC.new w _ _ _ _
  clear hb0 hR hT
  have hlt := isI_lt h1
  obtain ⟨ta, tc, hx, _, _, _⟩ := HT0.out.word hlt
  obtain ⟨tn, htn⟩ : ∃ tn, tn = (wordI ts i).length := ⟨_, rfl⟩
  have HX : Hid (txv (ts.getD i Tok.zero) (gs.getD i (0, 0)) = .slice ta (wordI ts i).length tc) := hx
  have HTN : Hid (tn = (wordI ts i).length) := htn
  obtain ⟨p, hp⟩ : ∃ p, p = hereI ts en i := ⟨_, rfl⟩
  have HP : Hid (p = hereI ts en i) := hp
  obtain ⟨kd, hkd⟩ : ∃ kd, kd = kindI ts i := ⟨_, rfl⟩
  have HKD : Hid (kd = kindI ts i) := hkd
  clear hx htn hp hkd
  go_enter Tryz.func86, Tryz.ntmps86
  go_wp2_with fail
  refine (take_ok base pb g i ts gs en 1 _ HR0.out HT0.out h1).mono ?_
  rintro e w1 ⟨rfl, hR1, hb1⟩
  rw [HX.out, ← HTN.out, ← HP.out]
  have HR1 : Hid (RdrAt w1 pb g (i + 1) ts en) := hR1
  have HT1 : Hid (TkM base pb w1 g ts gs) := HT0.out.bt hb1 (by simp; omega)
  have HZ1 : Hid (BoxC w1 w.heap.size (.int .i64 0) (.slice none 0 0) (.slice none 0 0) (.slice none 0 0)) := (hb1.block _ HZ0.out.lt (by omega)).trans HZ0.out
  have HBt1 : Hid (Bt pb w.heap.size w w1) := (Bt.of_below HB0.out).trans (hb1.mono HB0.out.size)
  have hs1 : w.heap.size < w1.heap.size := HZ1.out.lt
  clear hR1 hb1
  go_wp2_with fail
  obtain ⟨W1, HW1⟩ : ∃ W1, Hid (W1 = w1.alloc (.cells #[.int .i64 1, .int .i64 p, .slice ta tn tc] 134)) := ⟨_, rfl⟩
  rw [← HW1.out]
  have hbb : Below w1.heap.size w1 W1 := by rw [HW1.out]; exact (Below.refl _ _).alloc (Nat.le_refl _) _
  have HK1 : Hid (BoxK3 W1 w1.heap.size (.int .i64 1) (.int .i64 p) (.slice ta tn tc)) := by unfold Hid; rw [HW1.out]; exact BoxK3.new w1 _ _ _
  have HRd1 : Hid (Rd 0 pb W1 ta tn tc (wordI ts i)) := by
    obtain ⟨a', c', hx', _, hr, _⟩ := (HT1.out.below (hbb.mono (by omega))).word hlt
    rw [HX.out] at hx'
    simp only [Value.slice.injEq, true_and] at hx'
    obtain ⟨rfl, rfl⟩ := hx'
    unfold Hid; rw [HTN.out]; exact hr
  refine (conKind_any ta tn tc (wordI ts i) W1 HRd1.out).mono ?_
  rintro e w2 ⟨rfl, nd, hw2⟩
  rw [show kindW (strOfNums (wordI ts i)).toList = kd from HKD.out.symm]
  have hb2 : Below w1.heap.size w1 w2 := by rw [hw2]; exact below_drewN hbb nd
  have HB2 : Hid (Below w1.heap.size w1 w2) := hb2
  have HRd2 : Hid (Rd 0 pb w2 ta tn tc (wordI ts i)) := by unfold Hid; rw [hw2]; exact HRd1.out.same (fun _ _ _ => rfl)
  have HK2 : Hid (BoxK3 w2 w1.heap.size (.int .i64 1) (.int .i64 p) (.slice ta tn tc)) := by unfold Hid; rw [hw2]; exact HK1.out
  have HR2 : Hid (RdrAt w2 pb g (i + 1) ts en) := HR1.out.below hb2
  have HT2 : Hid (TkM base pb w2 g ts gs) := HT1.out.below (hb2.mono (by omega))
  have HZ2 : Hid (BoxC w2 w.heap.size (.int .i64 0) (.slice none 0 0) (.slice none 0 0) (.slice none 0 0)) := HZ1.out.below hb2 hs1
  have HBt2 : Hid (Bt pb w.heap.size w w2) := HBt1.out.trans (Bt.of_below (hb2.mono (by omega)))
  have hs2 : w1.heap.size < w2.heap.size := by rw [hw2]; show w1.heap.size < W1.heap.size; rw [HW1.out, World.size_alloc]; omega
  obtain ⟨t0, t1, t2⟩ := HK2.out.cells
  obtain ⟨z0, z1, z2, z3⟩ := HZ2.out.cells
  have zf0 := HZ2.out.frz 0
  have zf1 := HZ2.out.frz 1
  have zf2 := HZ2.out.frz 2
  have zf3 := HZ2.out.frz 3
  clear hw2 hb2 hbb HW1 HK1 HRd1
  have hk2 : (kd == 2) = false := by rw [HKD.out]; simpa using H2.out
  go_wp2_with fail
  obtain ⟨W3, HW3⟩ : ∃ W3, Hid (W3 = w2.alloc (.cells #[.int .i64 kd, .slice none 0 0, .slice none 0 0, .slice none 0 0] 37)) := ⟨_, rfl⟩
  rw [← HW3.out]
  have hb3 : Below w2.heap.size w2 W3 := by rw [HW3.out]; exact (Below.refl _ _).alloc (Nat.le_refl _) _
  have HO3 : Hid (BoxC W3 w2.heap.size (.int .i64 kd) (.slice none 0 0) (.slice none 0 0) (.slice none 0 0)) := by unfold Hid; rw [HW3.out]; exact BoxC.new w2 _ _ _ _
  have hs3 : w2.heap.size < W3.heap.size := HO3.out.lt
  have HR3 : Hid (RdrAt W3 pb g (i + 1) ts en) := HR2.out.below hb3
  have HT3 : Hid (TkM base pb W3 g ts gs) := HT2.out.below (hb3.mono (by omega))
  have HZ3 : Hid (BoxC W3 w.heap.size (.int .i64 0) (.slice none 0 0) (.slice none 0 0) (.slice none 0 0)) := HZ2.out.below hb3 (by omega)
  have HBt3 : Hid (Bt pb w.heap.size w W3) := HBt2.out.trans (Bt.of_below (hb3.mono (by omega)))
  clear hb3 HW3 t0 t1 t2 z0 z1 z2 z3 zf0 zf1 zf2 zf3
  refine (kidCount_any kd _).mono ?_
  rintro e w3 ⟨rfl, hw3⟩
  rw [hw3]; clear hw3
  obtain ⟨n, hn⟩ : ∃ n : Nat, kidN kd = (n : Int) := ⟨(kidN kd).toNat, by have h := H3.out; rw [← HKD.out] at h; have := kidN_kind (HKD.out ▸ kindI_range ts i); omega⟩
  have HN : Hid (kidN kd = (n : Int)) := hn
  have hn1 : 1 ≤ n := by have h := H3.out; rw [← HKD.out, hn] at h; omega
  have hn0 : ((n : Int) == 0) = false := by simp; omega
  rw [hn]
  clear hn
  have HRole : Hid (roleB kd = true) := by unfold Hid; rw [HKD.out]; exact H5.out
  go_wp2_with fail
  refine (take_ok base pb g (i + 1) ts gs en 3 W3 HR3.out HT3.out h4).mono ?_
  rintro e w4 ⟨rfl, hR4, hb4⟩
  obtain ⟨xa, xn, xc, hxv⟩ : ∃ xa xn xc, txv (ts.getD (i + 1) Tok.zero) (gs.getD (i + 1) (0, 0)) = .slice xa xn xc := by
    obtain ⟨a, c, h⟩ := txv_form (ts.getD (i + 1) Tok.zero) (gs.getD (i + 1) (0, 0)); exact ⟨_, _, _, h⟩
  rw [hxv]
  have HR4 : Hid (RdrAt w4 pb g (i + 2) ts en) := hR4
  have HT4 : Hid (TkM base pb w4 g ts gs) := HT3.out.bt hb4 (by omega)
  have HO4 : Hid (BoxC w4 w2.heap.size (.int .i64 kd) (.slice none 0 0) (.slice none 0 0) (.slice none 0 0)) := (hb4.block _ hs3 (by omega)).trans HO3.out
  have HZ4 : Hid (BoxC w4 w.heap.size (.int .i64 0) (.slice none 0 0) (.slice none 0 0) (.slice none 0 0)) := (hb4.block _ (by omega) (by omega)).trans HZ3.out
  have HBt4 : Hid (Bt pb w.heap.size w w4) := HBt3.out.trans (hb4.mono (by omega))
  have hs4 : w2.heap.size < w4.heap.size := HO4.out.lt
  have hl4 := isI_lt h4
  clear hR4 hb4 hxv
  go_wp2_with fail
  refine (hasRole_any kd _).mono ?_
  rintro e w4' ⟨rfl, hw4⟩
  rw [hw4, HRole.out]; clear hw4
  go_wp2_with fail
  refine (take_bad base pb g (i + 2) ts gs en 2 w4 HR4.out HT4.out hl4 h6).mono ?_
  rintro e w5 ⟨rfl, hb5⟩
  have HBt : Hid (Bt pb w.heap.size w w5) := HBt4.out.trans (Bt.of_below (hb5.mono (by omega)))
  clear hb5
  simp only [gaveUp]
  go_wp2
  exact ⟨rfl, RP.fell HBt.out HC.out rfl⟩

end Go.Proofs.YtckhjoancfbkfaaGreat
