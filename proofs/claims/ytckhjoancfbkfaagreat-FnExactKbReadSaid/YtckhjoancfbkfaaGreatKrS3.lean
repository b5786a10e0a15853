/- The model's parser: one thing told, whole. -/
import Derived.Test.YtckhjoancfbkfaaGreatKrS2
import Derived.Test.YtckhjoancfbkfaaGreatNG18
import Derived.Laws.Rows
import Derived.Laws.Tables
import Derived.Deep.QuietTactic
import Derived.BigQuiet
namespace Go.Proofs.YtckhjoancfbkfaaGreat
open Go.RowKit
set_option linter.unusedVariables false

theorem kindX_word (l : List UInt8) (k : Nat) (hk : k ≤ 5) (h : kindX l = k) : ((axWordB k).toList == l) = true := by
  have hw : ∀ k : Nat, k ≤ 5 → (axWordB k).toList = (if k = 0 then [83, 117, 98] else if k = 1 then [69, 113] else if k = 2 then [68, 105, 115] else if k = 3 then [82, 111, 108, 101] else if k = 4 then [73, 115] else [82, 101, 108] : List UInt8) := by
    intro k hk
    rw [ByteArray.toList_eq]
    match k, hk with
    | 0, _ | 1, _ | 2, _ | 3, _ | 4, _ | 5, _ => rfl
  rw [hw k hk]
  unfold kindX at h
  match k, hk with
  | 0, _ | 1, _ | 2, _ | 3, _ | 4, _ | 5, _ =>
    split at h
    · simp_all
    · split at h
      · simp_all
      · split at h
        · simp_all
        · split at h
          · simp_all
          · split at h
            · simp_all
            · split at h <;> simp_all

/-- What the loop over the words has found. -/
def foundK (kd : Int) (n : Nat) : Int := if 0 ≤ kd ∧ kd < n then kd else -1

theorem axR_open {ts : List Tok} {en : Int} {i : Nat} {kd : Int} {f f' : Nat} (h1 : isI ts 1 i = true) (hk : kindXI ts i = kd) (hm : kd ≠ -1) (hf : fieldsN kd = [f, f']) : axR ts en i = closeX ts en (stepF ts en f' (stepF ts en f (openX ts en (.ok (AX.kd kd) (i + 1))))) := by
  rw [axR, if_neg (by simp [h1]), hk, if_neg hm, hf]
  simp only [openX]
  cases h3 : isI ts 3 (i + 1)
  · simp [stepF, closeX]
  · simp [fieldsR2]
theorem axR_open3 {ts : List Tok} {en : Int} {i : Nat} {kd : Int} {f f' f'' : Nat} (h1 : isI ts 1 i = true) (hk : kindXI ts i = kd) (hm : kd ≠ -1) (hf : fieldsN kd = [f, f', f'']) : axR ts en i = closeX ts en (stepF ts en f'' (stepF ts en f' (stepF ts en f (openX ts en (.ok (AX.kd kd) (i + 1)))))) := by
  rw [axR, if_neg (by simp [h1]), hk, if_neg hm, hf]
  simp only [openX]
  cases h3 : isI ts 3 (i + 1)
  · simp [stepF, closeX]
  · simp [fieldsR3]

set_option maxRecDepth 100000 in
set_option maxHeartbeats 8000000 in
theorem l3axiom_any (base pb g i : Nat) (ts : List Tok) (gs : List (Nat × Nat)) (en : Int) (w : World) (hK : Tks ts en) (hP : PsAt w pb g i ts en (-1)) (hT : TkM base pb w g ts gs) (hi : i ≤ ts.length) :
    Calls Tryz.prog 63 #[.pointer (some ⟨pb, 0, none⟩)] w (SxP pb g ts gs en i w (axR ts en i)) := by
  have hpl := hP.lt
  have HK : Hid (Tks ts en) := hK
  have HTw : Hid (TkM base pb w g ts gs) := hT
  obtain ⟨W0, HW0⟩ : ∃ W, Hid (W = w.alloc (.cells #[.int .i64 0, .int .i64 0, .slice none 0 0, .slice none 0 0, .slice none 0 0, .int .i64 0, .slice none 0 0, .slice none 0 0, .slice none 0 0, .slice none 0 0, .slice none 0 0, .slice none 0 0, .slice none 0 0] 39)) := ⟨_, rfl⟩
  have hb0 : Below w.heap.size w W0 := by rw [HW0.out]; exact (Below.refl _ _).alloc (Nat.le_refl _) _
  have HB0 : Hid (Below w.heap.size w W0) := hb0
  have HZ0 : Hid (BoxX W0 w.heap.size 0 XV.zero) := by unfold Hid; rw [HW0.out]; exact World.alloc_heap_new w _
  have HP0 : Hid (PsAt W0 pb g i ts en (-1)) := hP.below hb0
  have HT0 : Hid (TkM base pb W0 g ts gs) := hT.below (hb0.mono (Nat.le_of_lt hpl))
  clear hb0 hP hT hK
  go_enter Tryz.func63, Tryz.ntmps63
  cases h1 : isI ts 1 i
  · obtain ⟨q, hq⟩ : ∃ q, q = hereI ts en i := ⟨_, rfl⟩
    have HC : Hid (axR ts en i = .bad q) := by unfold Hid; rw [axR, if_pos h1, hq]
    have hq0 : 0 ≤ q := by rw [hq]; exact HK.out.pos i
    have hqn : ¬ q < 0 := by omega
    go_wp2_with fail
    rw [← HW0.out]
    refine (takeS_bad base pb g i ts gs en 1 _ HP0.out HT0.out hi h1).mono ?_
    rintro e w1 ⟨rfl, hP1, hb1⟩
    rw [← hq] at hP1
    clear hq
    obtain ⟨p, hp⟩ : ∃ p, p = w1.heap.size := ⟨_, rfl⟩
    obtain ⟨W2, HW2⟩ : ∃ W, Hid (W = w1.alloc (.cells #[.int .i64 (-1), .int .i64 0, .slice none 0 0, .slice none 0 0, .slice none 0 0, .int .i64 0, .slice none 0 0, .slice none 0 0, .slice none 0 0, .slice none 0 0, .slice none 0 0, .slice none 0 0, .slice none 0 0] 39)) := ⟨_, rfl⟩
    have hb2 : Below w1.heap.size w1 W2 := by rw [HW2.out]; exact (Below.refl _ _).alloc (Nat.le_refl _) _
    have HX2 : Hid (BoxX W2 p (-1) XV.zero) := by unfold Hid; rw [HW2.out, hp]; exact World.alloc_heap_new w1 _
    have HZ1 : BoxX w1 w.heap.size 0 XV.zero := HZ0.out.of (hb1.block _ HZ0.out.lt (by omega))
    have HZ2 : Hid (BoxX W2 w.heap.size 0 XV.zero) := HZ1.of (hb2.block _ HZ1.lt)
    have HP2 : Hid (PsBad W2 pb q) := hP1.below hb2
    have HBt2 : Hid (Bt pb w.heap.size w W2) := ((Bt.of_below HB0.out).trans (hb1.mono HB0.out.size)).trans (Bt.of_below (hb2.mono (by have := HZ1.lt; omega)))
    have hpw : w.heap.size < p := by rw [hp]; exact HZ1.lt
    have hpW : p < W2.heap.size := HX2.out.lt
    clear hb1 hb2 hP1 HZ1
    go_wp2_with fail
    rw [← HW2.out, ← hp]
    clear hp
    go_loopw [5] (fun x wr => ∃ n nd : Nat, n ≤ 6 ∧ x = .int .i64 n ∧ wr = W2.drewN nd) (fun x _ => 6 - (intOf x).toNat)
    case atStart => exact ⟨0, 0, Nat.zero_le _, rfl, rfl⟩
    case round =>
      obtain ⟨n, nd, hn, rfl, hwr⟩ := hrel
      have HWr : Hid (wr = W2.drewN nd) := hwr
      clear hwr
      by_cases hlt : n ≤ 5
      · have hki : (n : Int) ≤ 5 := by omega
        go_wp2_with fail
        go_quiet (fail)
        go_wp2
        go_roundw
        case rel => exact ⟨n + 1, nd + nq, by omega, by go_num, by rw [HWr.out, drew_add]⟩
        case measure => simp [intOf]; omega
      · have hki : ¬ (n : Int) ≤ 5 := by omega
        obtain ⟨s, hs⟩ : ∃ s, s = W2.heap.size := ⟨_, rfl⟩
        have HSS : Hid (SsX base pb g ts gs w p s) := ⟨HTw.out, hpl, by omega, by omega⟩
        have HY : Hid (StY pb g ts gs en w i p s (-1) wr XV.zero (.bad q)) := by
          unfold Hid; rw [HWr.out]
          exact ⟨bt_drewN HBt2.out nd, HX2.out, by rw [hs]; exact Nat.le_refl _, VFm.zero, ⟨HP2.out.of rfl, hq0⟩, fun x j h => by cases h⟩
        have HZ : Hid (BoxX wr w.heap.size 0 XV.zero) := by unfold Hid; rw [HWr.out]; exact HZ2.out
        obtain ⟨lv, qi, qe, hqb⟩ := HY.out.st.1
        obtain ⟨q0, q1, q2, q3⟩ := hqb.cells
        obtain ⟨z0, z1, z2, z3, z4, z5, z6, z7, z8, z9, z10, z11, z12⟩ := HY.out.box.cells
        clear hs hqb
        go_wp2_with fail
        clear q0 q1 q2 q3
        refine (takeY_any 3 _ HK.out (HY.out.tk HSS.out) HY.out.st).mono ?_
        rintro e w4 ⟨xa, xn, xc, rfl, hb4, hp4⟩
        have HY4 : Hid (StY pb g ts gs en w i p s (-1) w4 XV.zero (openX ts en (.bad q))) := HY.out.opened HSS.out hb4 hp4
        have HZ4 : Hid (BoxX w4 w.heap.size 0 XV.zero) := HZ.out.of (hb4.block _ HZ.out.lt (by omega))
        clear hb4 hp4
        obtain ⟨z0, z1, z2, z3, z4, z5, z6, z7, z8, z9, z10, z11, z12⟩ := HY4.out.box.cells
        go_wp2_with fail
        clear z0 z1 z2 z3 z4 z5 z6 z7 z8 z9 z10 z11 z12
        refine (conY_any _ HK.out (HY4.out.tk HSS.out) HY4.out.st).mono ?_
        rintro e w5 ⟨k5, a5, b5, c5, d5, e5, f5, g5, h5, i5, rfl, hb5, hp5, hv5⟩
        obtain ⟨hB5, hY5⟩ := HY4.out.conC HSS.out hb5 hp5 hv5
        have HY5 : Hid (StY pb g ts gs en w i p s (-1) ((((w5.setCell ⟨p, 1, none⟩ (.int .i64 k5)).setCell ⟨p, 2, none⟩ (.slice a5 b5 c5)).setCell ⟨p, 3, none⟩ (.slice d5 e5 f5)).setCell ⟨p, 4, none⟩ (.slice g5 h5 i5)) ⟨.int .i64 k5, .slice a5 b5 c5, .slice d5 e5 f5, .slice g5 h5 i5, .int .i64 0, .slice none 0 0, .slice none 0 0, .slice none 0 0, .slice none 0 0, .slice none 0 0, .slice none 0 0, .slice none 0 0⟩ (stepF ts en 67 (openX ts en (.bad q)))) := hY5
        have HZ5 : Hid (BoxX ((((w5.setCell ⟨p, 1, none⟩ (.int .i64 k5)).setCell ⟨p, 2, none⟩ (.slice a5 b5 c5)).setCell ⟨p, 3, none⟩ (.slice d5 e5 f5)).setCell ⟨p, 4, none⟩ (.slice g5 h5 i5)) w.heap.size 0 XV.zero) := HZ4.out.of ((heap_set1 _ _ _ _ (by omega)).trans ((heap_set1 _ _ _ _ (by omega)).trans ((heap_set1 _ _ _ _ (by omega)).trans ((heap_set1 _ _ _ _ (by omega)).trans (hb5.block _ HZ4.out.lt (by omega))))))
        obtain ⟨z0, z1, z2, z3, z4, z5, z6, z7, z8, z9, z10, z11, z12⟩ := hB5.cells
        have zf0 := hB5.frz 1
        have zf1 := hB5.frz 2
        have zf2 := hB5.frz 3
        have zf3 := hB5.frz 4
        clear hb5 hp5 hv5 hY5 hB5
        go_wp2_with fail
        clear z0 z1 z2 z3 z4 z5 z6 z7 z8 z9 z10 z11 z12 zf0 zf1 zf2 zf3
        refine (conY_any _ HK.out (HY5.out.tk HSS.out) HY5.out.st).mono ?_
        rintro e w6 ⟨k6, a6, b6, c6, d6, e6, f6, g6, h6, i6, rfl, hb6, hp6, hv6⟩
        obtain ⟨hB6, hY6⟩ := HY5.out.conD HSS.out hb6 hp6 hv6
        have HY6 : Hid (StY pb g ts gs en w i p s (-1) ((((w6.setCell ⟨p, 5, none⟩ (.int .i64 k6)).setCell ⟨p, 6, none⟩ (.slice a6 b6 c6)).setCell ⟨p, 7, none⟩ (.slice d6 e6 f6)).setCell ⟨p, 8, none⟩ (.slice g6 h6 i6)) ⟨.int .i64 k5, .slice a5 b5 c5, .slice d5 e5 f5, .slice g5 h5 i5, .int .i64 k6, .slice a6 b6 c6, .slice d6 e6 f6, .slice g6 h6 i6, .slice none 0 0, .slice none 0 0, .slice none 0 0, .slice none 0 0⟩ (stepF ts en 68 (stepF ts en 67 (openX ts en (.bad q))))) := hY6
        have HZ6 : Hid (BoxX ((((w6.setCell ⟨p, 5, none⟩ (.int .i64 k6)).setCell ⟨p, 6, none⟩ (.slice a6 b6 c6)).setCell ⟨p, 7, none⟩ (.slice d6 e6 f6)).setCell ⟨p, 8, none⟩ (.slice g6 h6 i6)) w.heap.size 0 XV.zero) := HZ5.out.of ((heap_set1 _ _ _ _ (by omega)).trans ((heap_set1 _ _ _ _ (by omega)).trans ((heap_set1 _ _ _ _ (by omega)).trans ((heap_set1 _ _ _ _ (by omega)).trans (hb6.block _ HZ5.out.lt (by omega))))))
        obtain ⟨z0, z1, z2, z3, z4, z5, z6, z7, z8, z9, z10, z11, z12⟩ := hB6.cells
        have zf0 := hB6.frz 5
        have zf1 := hB6.frz 6
        have zf2 := hB6.frz 7
        have zf3 := hB6.frz 8
        clear hb6 hp6 hv6 hY6 hB6
        go_wp2_with fail
        clear z0 z1 z2 z3 z4 z5 z6 z7 z8 z9 z10 z11 z12 zf0 zf1 zf2 zf3
        refine (takeY_any 4 _ HK.out (HY6.out.tk HSS.out) HY6.out.st).mono ?_
        rintro e w9 ⟨ya, yn, yc, rfl, hb9, hp9⟩
        obtain ⟨hB9, hE⟩ := HY6.out.fin (i := i) HSS.out (by omega) hpw hb9 hp9 HC.out #[.int .i64 (-1), .int .i64 k5, .slice a5 b5 c5, .slice d5 e5 f5, .slice g5 h5 i5, .int .i64 k6, .slice a6 b6 c6, .slice d6 e6 f6, .slice g6 h6 i6, .slice none 0 0, .slice none 0 0, .slice none 0 0, .slice none 0 0] rfl
        have HE : Hid _ := hE
        have HZ9 : Hid (BoxX w9 w.heap.size 0 XV.zero) := HZ6.out.of (hb9.block _ HZ6.out.lt (by omega))
        obtain ⟨z0, z1, z2, z3, z4, z5, z6, z7, z8, z9, z10, z11, z12⟩ := hB9.cells
        clear hb9 hp9 hE hB9
        have HRw : Hid ((w9.setRow w.heap.size #[.int .i64 (-1), .int .i64 k5, .slice a5 b5 c5, .slice d5 e5 f5, .slice g5 h5 i5, .int .i64 k6, .slice a6 b6 c6, .slice d6 e6 f6, .slice g6 h6 i6, .slice none 0 0, .slice none 0 0, .slice none 0 0, .slice none 0 0]).heap[w.heap.size]? = some (.cells #[.int .i64 (-1), .int .i64 k5, .slice a5 b5 c5, .slice d5 e5 f5, .slice g5 h5 i5, .int .i64 k6, .slice a6 b6 c6, .slice d6 e6 f6, .slice g6 h6 i6, .slice none 0 0, .slice none 0 0, .slice none 0 0, .slice none 0 0] 39 (0, 0))) := setRow_heap w9 w.heap.size zeroX _ _ _ HZ9.out
        go_wp2_with (first | (refine wpList_store_row rfl 39 (.tmp 2) (.tmp 83) rfl w.heap.size #[.int .i64 (-1), .int .i64 k5, .slice a5 b5 c5, .slice d5 e5 f5, .slice g5 h5 i5, .int .i64 k6, .slice a6 b6 c6, .slice d6 e6 f6, .slice g6 h6 i6, .slice none 0 0, .slice none 0 0, .slice none 0 0, .slice none 0 0] rfl rfl 39 zeroX HZ9.out infoX13 rfl (by simp [Value.oneCell']) ?_) | fail)
        refine bodyPost_ret (v := .agg #[.int .i64 (-1), .int .i64 k5, .slice a5 b5 c5, .slice d5 e5 f5, .slice g5 h5 i5, .int .i64 k6, .slice a6 b6 c6, .slice d6 e6 f6, .slice g6 h6 i6, .slice none 0 0, .slice none 0 0, .slice none 0 0, .slice none 0 0]) (results_cell_row rfl _ _ w.heap.size 39 _ (0, 0) _ rfl HRw.out Tryz.underlying39 rfl infoX13) rfl ?_
        exact HE.out

  · have hlt := isI_lt h1
    have hw1 : 1 ≤ (wordI ts i).length := HK.out.wd i (.inl h1)
    have hw6 : (wordI ts i).length ≤ 6 := HK.out.sh i
    obtain ⟨ta0, tc, hx, _, _, _⟩ := HT0.out.word hlt
    obtain ⟨tg, htg⟩ : ∃ tg, tg = (gs.getD i (0, 0)).1 := ⟨_, rfl⟩
    have hne0 : (ts.getD i Tok.zero).text ≠ [] := fun e => by rw [show wordI ts i = [] from e] at hw1; simp at hw1
    have hxc := txv_cons (t := ts.getD i Tok.zero) (gs.getD i (0, 0)) hne0
    rw [hx] at hxc
    simp only [Value.slice.injEq] at hxc
    obtain ⟨hxa, hxb, hxd⟩ := hxc
    clear hxb hxd
    obtain ⟨tn, htn⟩ : ∃ tn, tn = (wordI ts i).length := ⟨_, rfl⟩
    rw [hxa, ← htg] at hx
    have HX : Hid (txv (ts.getD i Tok.zero) (gs.getD i (0, 0)) = .slice (some ⟨tg, 0, none⟩) (wordI ts i).length tc) := hx
    have HTN : Hid (tn = (wordI ts i).length) := htn
    rw [← htn] at hw1 hw6
    obtain ⟨kd, hkd⟩ : ∃ kd, kd = kindXI ts i := ⟨_, rfl⟩
    have HKD : Hid (kd = kindXI ts i) := hkd
    obtain ⟨sB, hsB⟩ : ∃ s, s = strOfNums (wordI ts i) := ⟨_, rfl⟩
    have HKX : Hid (kindX sB.toList = kd) := by unfold Hid; rw [hsB, hkd]; rfl
    have hkr : -1 ≤ kd ∧ kd ≤ 5 := by have := kindXI_range ts i; rw [← hkd] at this; omega
    clear hx htn hkd hxa hne0 htg
    go_wp2_with fail
    rw [← HW0.out]
    refine (takeS_ok base pb g i ts gs en 1 _ HP0.out HT0.out HK.out.len h1).mono ?_
    rintro e w1 ⟨rfl, hP1, hb1⟩
    rw [HX.out, ← HTN.out]
    have hT1 : TkM base pb w1 g ts gs := HT0.out.bt hb1 (by have := HB0.out.size; omega)
    have HRd1 : Hid (Rd 0 pb w1 (some ⟨tg, 0, none⟩) tn tc (wordI ts i)) := by
      obtain ⟨a', c', hx', _, hr, _⟩ := hT1.word hlt
      rw [HX.out] at hx'
      simp only [Value.slice.injEq, true_and] at hx'
      obtain ⟨rfl, rfl⟩ := hx'
      unfold Hid; rw [HTN.out]; exact hr
    obtain ⟨p, hp⟩ : ∃ p, p = w1.heap.size := ⟨_, rfl⟩
    obtain ⟨W2, HW2⟩ : ∃ W, Hid (W = w1.alloc (.cells #[.int .i64 (-1), .int .i64 0, .slice none 0 0, .slice none 0 0, .slice none 0 0, .int .i64 0, .slice none 0 0, .slice none 0 0, .slice none 0 0, .slice none 0 0, .slice none 0 0, .slice none 0 0, .slice none 0 0] 39)) := ⟨_, rfl⟩
    have hb2 : Below w1.heap.size w1 W2 := by rw [HW2.out]; exact (Below.refl _ _).alloc (Nat.le_refl _) _
    have HX2 : Hid (BoxX W2 p (-1) XV.zero) := by unfold Hid; rw [HW2.out, hp]; exact World.alloc_heap_new w1 _
    have HZ1 : BoxX w1 w.heap.size 0 XV.zero := HZ0.out.of (hb1.block _ HZ0.out.lt (by omega))
    have HZ2 : Hid (BoxX W2 w.heap.size 0 XV.zero) := HZ1.of (hb2.block _ HZ1.lt)
    have HP2 : Hid (PsAt W2 pb g (i + 1) ts en (-1)) := hP1.below hb2
    have HBt2 : Hid (Bt pb w.heap.size w W2) := ((Bt.of_below HB0.out).trans (hb1.mono HB0.out.size)).trans (Bt.of_below (hb2.mono (by have := HZ1.lt; omega)))
    have hpw : w.heap.size < p := by rw [hp]; exact HZ1.lt
    have hpW : p < W2.heap.size := HX2.out.lt
    have HCv : Hid (∀ V : World, (∀ b, b < pb → V.heap[b]? = W2.heap[b]?) → (convert 22 9 (.slice (some ⟨tg, 0, none⟩) tn tc)).run Tryz.prog V = .ok (.string sB) V) := by
      intro V hV
      rw [hsB]
      exact conv_any (HRd1.out.same (fun b _ hb => (hV b hb).trans (hb2.block b (by have := HZ1.lt; omega))))
    clear hb1 hb2 hP1 hT1 HZ1 hsB HRd1
    go_wp2_with fail
    rw [← HW2.out, ← hp]
    clear hp
    go_loopw [5] (fun x wr => ∃ n : Nat, n ≤ 6 ∧ x = .int .i64 n ∧ BoxX wr p (foundK kd n) XV.zero ∧ Bt p W2.heap.size W2 wr) (fun x _ => 6 - (intOf x).toNat)
    case atStart => exact ⟨0, Nat.zero_le _, rfl, by rw [show foundK kd 0 = -1 from if_neg (by omega)]; exact HX2.out, Bt.refl _ _ _⟩
    case round =>
      obtain ⟨n, hn, rfl, hbx, hbt⟩ := hrel
      rename World => wo
      obtain ⟨kq, hkq⟩ : ∃ k, k = foundK kd n := ⟨_, rfl⟩
      rw [← hkq] at hbx
      have HKQ : Hid (kq = foundK kd n) := hkq
      have HBx : Hid (BoxX wo p kq XV.zero) := hbx
      have HBt : Hid (Bt p W2.heap.size W2 wo) := hbt
      clear hbx hbt hkq
      by_cases hlt5 : n ≤ 5
      · have hki : (n : Int) ≤ 5 := by omega
        have hni : (0 : Int) < (tn : Int) := by omega
        have hpw5 : pb ≤ wo.heap.size := by have := HBt.out.size; omega
        obtain ⟨t, HTt⟩ : ∃ t, Hid (t = axWordB n) := ⟨_, rfl⟩
        have hcv1 : (convert 22 9 (.slice (some ⟨tg, 0, none⟩) tn tc)).run Tryz.prog wo.drew = .ok (.string sB) wo.drew := HCv.out wo.drew (fun b hb => HBt.out.block b (by omega) (by omega))
        cases hbq : (t.toList == sB.toList)
        · have HF : Hid (foundK kd (n + 1) = kq) := by
            unfold Hid
            rw [HKQ.out]
            unfold foundK
            have hne : kd ≠ n := fun e => by
              have := kindX_word sB.toList n hlt5 (by rw [HKX.out, e])
              rw [← HTt.out, hbq] at this
              cases this
            by_cases h0 : 0 ≤ kd ∧ kd < n
            · rw [if_pos h0, if_pos (by omega)]
            · rw [if_neg h0, if_neg (by omega)]
          go_wp2_with fail
          first
          | go_region_with (go_at_call 110; refine (l3word_any n hlt5 _).mono ?_; rintro e w5 ⟨rfl, hb5⟩; rw [← HTt.out]; have HB5 : Hid (Below wo.heap.size wo w5) := (Below.refl wo.heap.size wo).drew.trans hb5; have hcv5 : (convert 22 9 (.slice (some ⟨tg, 0, none⟩) tn tc)).run Tryz.prog w5 = .ok (.string sB) w5 := HCv.out w5 (fun b hb => (HB5.out.block b (Nat.lt_of_lt_of_le hb hpw5)).trans (HBt.out.block b (by omega) (by omega))); clear hb5)
          | fail
          all_goals
            go_wp2
            go_roundw
            case rel => exact ⟨n + 1, by omega, by go_num, by rw [HF.out]; exact HBx.out.of (HB5.out.block _ HBx.out.lt), HBt.out.trans (Bt.of_below (HB5.out.mono HBt.out.size))⟩
            case measure => simp [intOf]; omega
        · have HF : Hid (foundK kd (n + 1) = n) := by
            have e := kindX_at sB.toList n hlt5 (by rw [← HTt.out]; exact hbq)
            rw [HKX.out] at e
            unfold Hid foundK
            rw [if_pos (by omega), e]
          go_wp2_with fail
          first
          | go_region_with (go_at_call 110; refine (l3word_any n hlt5 _).mono ?_; rintro e w5 ⟨rfl, hb5⟩; rw [← HTt.out]; have HB5 : Hid (Below wo.heap.size wo w5) := (Below.refl wo.heap.size wo).drew.trans hb5; have hcv5 : (convert 22 9 (.slice (some ⟨tg, 0, none⟩) tn tc)).run Tryz.prog w5 = .ok (.string sB) w5 := HCv.out w5 (fun b hb => (HB5.out.block b (Nat.lt_of_lt_of_le hb hpw5)).trans (HBt.out.block b (by omega) (by omega))); clear hb5)
          | fail
          all_goals
            have hBx5 : BoxX w5 p kq XV.zero := HBx.out.of (HB5.out.block _ HBx.out.lt)
            have y0 := hBx5.cells.1
            have yf0 := hBx5.frz 0
            have HBx7 : Hid (BoxX (w5.setCell ⟨p, 0, none⟩ (.int .i64 n)) p n XV.zero) := by
              unfold Hid BoxX XV.arr at *
              rw [heap_setCell_same w5 p 0 _ _ _ hBx5]
              rfl
            clear hBx5
            go_wp2
            go_roundw
            case rel => exact ⟨n + 1, by omega, by go_num, by rw [HF.out]; exact HBx7.out, (HBt.out.trans (Bt.of_below (HB5.out.mono HBt.out.size))).set (.inr rfl) _⟩
            case measure => simp [intOf]; omega
      · have hki : ¬ (n : Int) ≤ 5 := by omega
        have hkk : kq = kd := by
          rw [HKQ.out]
          unfold foundK
          by_cases h0 : 0 ≤ kd
          · rw [if_pos (by omega)]
          · rw [if_neg (by omega)]; omega
        clear HKQ
        subst hkk
        obtain ⟨s, hs⟩ : ∃ s, s = wo.heap.size := ⟨_, rfl⟩
        have hsz2 := HBt.out.size
        have HSS : Hid (SsX base pb g ts gs w p s) := ⟨HTw.out, hpl, by omega, by omega⟩
        have HPo : Hid (PsAt wo pb g (i + 1) ts en (-1)) := HP2.out.of (HBt.out.block _ (by omega) (by omega))
        have HBto : Hid (Bt pb w.heap.size w wo) := by
          have h1 := HBt2.out
          have h2 := HBt.out
          exact ⟨h2.os.trans h1.os, h2.tape.trans h1.tape, h2.output.trans h1.output, Nat.le_trans h1.size h2.size, fun b hb hbp => (h2.block b (by omega) (by omega)).trans (h1.block b hb hbp)⟩
        have HZo : Hid (BoxX wo w.heap.size 0 XV.zero) := HZ2.out.of (HBt.out.block _ (by omega) (by omega))
        by_cases hkm : kq = -1
        · subst hkm
          obtain ⟨q, hq⟩ : ∃ q, q = hereI ts en i := ⟨_, rfl⟩
          have HC : Hid (axR ts en i = .bad q) := by unfold Hid; rw [axR, if_neg (by simp [h1]), if_pos HKD.out.symm, hq]
          have hq0 : 0 ≤ q := by rw [hq]; exact HK.out.pos i
          have HQ : Hid (q = hereI ts en i) := hq
          have hwr : IntKind.i64.wrap (((i + 1 : Nat) : Int) - 1) = (i : Int) := by rw [wrap64_id (by have := HK.out.len; omega)]; omega
          have hwr2 : IntKind.i64.wrap (i : Int) = (i : Int) := wrap64_id (by have := HK.out.len; omega)
          have hi15 : i ≤ 1500 := Nat.le_trans hi HK.out.len
          obtain ⟨qa, qc, hqb, hqr⟩ := HPo.out
          have HQb : Hid (BoxQ wo pb (.slice qa ts.length qc) ((i + 1 : Nat) : Int) en (-1)) := hqb
          obtain ⟨q0, q1, q2, q3⟩ := hqb.cells
          have qf := hqb.frz 1
          obtain ⟨z0, z1, z2, z3, z4, z5, z6, z7, z8, z9, z10, z11, z12⟩ := HBx.out.cells
          have HP8 : Hid (PsAt (wo.setCell ⟨pb, 1, none⟩ (.int .i64 i)) pb g i ts en (-1)) := ⟨qa, qc, HQb.out.set1 i, hqr⟩
          clear hq hqb hs hqr
          go_wp2_with fail
          clear q0 q1 q2 q3 qf z0 z1 z2 z3 z4 z5 z6 z7 z8 z9 z10 z11 z12
          refine (fail_any base pb g i ts gs en _ HP8.out (HTw.out.bt (HBto.out.set (.inr rfl) _) (Nat.le_of_lt hpl)) hi).mono ?_
          rintro e w3 ⟨rfl, hP3, hb3⟩
          rw [← HQ.out] at hP3
          have hb83 : Bt pb wo.heap.size wo w3 := ((Bt.refl pb wo.heap.size wo).set (p := ⟨pb, 1, none⟩) (.inr rfl) (.int .i64 i)).trans (hb3.mono (by simp))
          obtain ⟨s, hs⟩ : ∃ s, s = w3.heap.size := ⟨_, rfl⟩
          have HSS : Hid (SsX base pb g ts gs w p s) := ⟨HTw.out, hpl, by omega, by have := hb83.size; omega⟩
          have HY : Hid (StY pb g ts gs en w i p s (-1) w3 XV.zero (.bad q)) :=
            ⟨HBto.out.trans (hb83.mono HBto.out.size), HBx.out.of (hb83.block _ HBx.out.lt (by omega)), by rw [hs]; exact Nat.le_refl _, VFm.zero, ⟨hP3, hq0⟩, fun x j h => by cases h⟩
          have HZ : Hid (BoxX w3 w.heap.size 0 XV.zero) := HZo.out.of (hb83.block _ HZo.out.lt (by omega))
          clear hP3 hb3 hb83 hs
          go_wp2_with fail
          refine (takeY_any 3 _ HK.out (HY.out.tk HSS.out) HY.out.st).mono ?_
          rintro e w4 ⟨xa, xn, xc, rfl, hb4, hp4⟩
          have HY4 : Hid (StY pb g ts gs en w i p s (-1) w4 XV.zero (openX ts en (.bad q))) := HY.out.opened HSS.out hb4 hp4
          have HZ4 : Hid (BoxX w4 w.heap.size 0 XV.zero) := HZ.out.of (hb4.block _ HZ.out.lt (by omega))
          clear hb4 hp4
          obtain ⟨z0, z1, z2, z3, z4, z5, z6, z7, z8, z9, z10, z11, z12⟩ := HY4.out.box.cells
          go_wp2_with fail
          clear z0 z1 z2 z3 z4 z5 z6 z7 z8 z9 z10 z11 z12
          refine (conY_any _ HK.out (HY4.out.tk HSS.out) HY4.out.st).mono ?_
          rintro e w5 ⟨k5, a5, b5, c5, d5, e5, f5, g5, h5, i5, rfl, hb5, hp5, hv5⟩
          obtain ⟨hB5, hY5⟩ := HY4.out.conC HSS.out hb5 hp5 hv5
          have HY5 : Hid (StY pb g ts gs en w i p s (-1) ((((w5.setCell ⟨p, 1, none⟩ (.int .i64 k5)).setCell ⟨p, 2, none⟩ (.slice a5 b5 c5)).setCell ⟨p, 3, none⟩ (.slice d5 e5 f5)).setCell ⟨p, 4, none⟩ (.slice g5 h5 i5)) ⟨.int .i64 k5, .slice a5 b5 c5, .slice d5 e5 f5, .slice g5 h5 i5, .int .i64 0, .slice none 0 0, .slice none 0 0, .slice none 0 0, .slice none 0 0, .slice none 0 0, .slice none 0 0, .slice none 0 0⟩ (stepF ts en 67 (openX ts en (.bad q)))) := hY5
          have HZ5 : Hid (BoxX ((((w5.setCell ⟨p, 1, none⟩ (.int .i64 k5)).setCell ⟨p, 2, none⟩ (.slice a5 b5 c5)).setCell ⟨p, 3, none⟩ (.slice d5 e5 f5)).setCell ⟨p, 4, none⟩ (.slice g5 h5 i5)) w.heap.size 0 XV.zero) := HZ4.out.of ((heap_set1 _ _ _ _ (by omega)).trans ((heap_set1 _ _ _ _ (by omega)).trans ((heap_set1 _ _ _ _ (by omega)).trans ((heap_set1 _ _ _ _ (by omega)).trans (hb5.block _ HZ4.out.lt (by omega))))))
          obtain ⟨z0, z1, z2, z3, z4, z5, z6, z7, z8, z9, z10, z11, z12⟩ := hB5.cells
          have zf0 := hB5.frz 1
          have zf1 := hB5.frz 2
          have zf2 := hB5.frz 3
          have zf3 := hB5.frz 4
          clear hb5 hp5 hv5 hY5 hB5
          go_wp2_with fail
          clear z0 z1 z2 z3 z4 z5 z6 z7 z8 z9 z10 z11 z12 zf0 zf1 zf2 zf3
          refine (conY_any _ HK.out (HY5.out.tk HSS.out) HY5.out.st).mono ?_
          rintro e w6 ⟨k6, a6, b6, c6, d6, e6, f6, g6, h6, i6, rfl, hb6, hp6, hv6⟩
          obtain ⟨hB6, hY6⟩ := HY5.out.conD HSS.out hb6 hp6 hv6
          have HY6 : Hid (StY pb g ts gs en w i p s (-1) ((((w6.setCell ⟨p, 5, none⟩ (.int .i64 k6)).setCell ⟨p, 6, none⟩ (.slice a6 b6 c6)).setCell ⟨p, 7, none⟩ (.slice d6 e6 f6)).setCell ⟨p, 8, none⟩ (.slice g6 h6 i6)) ⟨.int .i64 k5, .slice a5 b5 c5, .slice d5 e5 f5, .slice g5 h5 i5, .int .i64 k6, .slice a6 b6 c6, .slice d6 e6 f6, .slice g6 h6 i6, .slice none 0 0, .slice none 0 0, .slice none 0 0, .slice none 0 0⟩ (stepF ts en 68 (stepF ts en 67 (openX ts en (.bad q))))) := hY6
          have HZ6 : Hid (BoxX ((((w6.setCell ⟨p, 5, none⟩ (.int .i64 k6)).setCell ⟨p, 6, none⟩ (.slice a6 b6 c6)).setCell ⟨p, 7, none⟩ (.slice d6 e6 f6)).setCell ⟨p, 8, none⟩ (.slice g6 h6 i6)) w.heap.size 0 XV.zero) := HZ5.out.of ((heap_set1 _ _ _ _ (by omega)).trans ((heap_set1 _ _ _ _ (by omega)).trans ((heap_set1 _ _ _ _ (by omega)).trans ((heap_set1 _ _ _ _ (by omega)).trans (hb6.block _ HZ5.out.lt (by omega))))))
          obtain ⟨z0, z1, z2, z3, z4, z5, z6, z7, z8, z9, z10, z11, z12⟩ := hB6.cells
          have zf0 := hB6.frz 5
          have zf1 := hB6.frz 6
          have zf2 := hB6.frz 7
          have zf3 := hB6.frz 8
          clear hb6 hp6 hv6 hY6 hB6
          go_wp2_with fail
          clear z0 z1 z2 z3 z4 z5 z6 z7 z8 z9 z10 z11 z12 zf0 zf1 zf2 zf3
          refine (takeY_any 4 _ HK.out (HY6.out.tk HSS.out) HY6.out.st).mono ?_
          rintro e w9 ⟨ya, yn, yc, rfl, hb9, hp9⟩
          obtain ⟨hB9, hE⟩ := HY6.out.fin (i := i) HSS.out (by omega) hpw hb9 hp9 HC.out #[.int .i64 (-1), .int .i64 k5, .slice a5 b5 c5, .slice d5 e5 f5, .slice g5 h5 i5, .int .i64 k6, .slice a6 b6 c6, .slice d6 e6 f6, .slice g6 h6 i6, .slice none 0 0, .slice none 0 0, .slice none 0 0, .slice none 0 0] rfl
          have HE : Hid _ := hE
          have HZ9 : Hid (BoxX w9 w.heap.size 0 XV.zero) := HZ6.out.of (hb9.block _ HZ6.out.lt (by omega))
          obtain ⟨z0, z1, z2, z3, z4, z5, z6, z7, z8, z9, z10, z11, z12⟩ := hB9.cells
          clear hb9 hp9 hE hB9
          have HRw : Hid ((w9.setRow w.heap.size #[.int .i64 (-1), .int .i64 k5, .slice a5 b5 c5, .slice d5 e5 f5, .slice g5 h5 i5, .int .i64 k6, .slice a6 b6 c6, .slice d6 e6 f6, .slice g6 h6 i6, .slice none 0 0, .slice none 0 0, .slice none 0 0, .slice none 0 0]).heap[w.heap.size]? = some (.cells #[.int .i64 (-1), .int .i64 k5, .slice a5 b5 c5, .slice d5 e5 f5, .slice g5 h5 i5, .int .i64 k6, .slice a6 b6 c6, .slice d6 e6 f6, .slice g6 h6 i6, .slice none 0 0, .slice none 0 0, .slice none 0 0, .slice none 0 0] 39 (0, 0))) := setRow_heap w9 w.heap.size zeroX _ _ _ HZ9.out
          go_wp2_with (first | (refine wpList_store_row rfl 39 (.tmp 2) (.tmp 83) rfl w.heap.size #[.int .i64 (-1), .int .i64 k5, .slice a5 b5 c5, .slice d5 e5 f5, .slice g5 h5 i5, .int .i64 k6, .slice a6 b6 c6, .slice d6 e6 f6, .slice g6 h6 i6, .slice none 0 0, .slice none 0 0, .slice none 0 0, .slice none 0 0] rfl rfl 39 zeroX HZ9.out infoX13 rfl (by simp [Value.oneCell']) ?_) | fail)
          refine bodyPost_ret (v := .agg #[.int .i64 (-1), .int .i64 k5, .slice a5 b5 c5, .slice d5 e5 f5, .slice g5 h5 i5, .int .i64 k6, .slice a6 b6 c6, .slice d6 e6 f6, .slice g6 h6 i6, .slice none 0 0, .slice none 0 0, .slice none 0 0, .slice none 0 0]) (results_cell_row rfl _ _ w.heap.size 39 _ (0, 0) _ rfl HRw.out Tryz.underlying39 rfl infoX13) rfl ?_
          exact HE.out

        · have hk0 : 0 ≤ kq := by omega
          have hkn : ¬ kq < 0 := by omega
          have HY : Hid (StY pb g ts gs en w (i + 1) p s kq wo XV.zero (.ok (AX.kd kq) (i + 1))) := by
            refine ⟨HBto.out, HBx.out, by omega, VFm.zero, ⟨HPo.out, hlt⟩, fun x j h => ?_⟩
            simp only [ResX.ok.injEq] at h
            obtain ⟨rfl, rfl⟩ := h
            exact ⟨Nat.le_refl _, rfl, fun _ => [], HBto.out, HBx.out, ⟨(OwnR.leafS ts gs 0 0 0 wo 5 0).ow, (OwnR.leafS ts gs 0 0 0 wo 5 0).ow, OwS.nil _, OwS.nil _, OwS.nil _, OwS.nil _⟩, Se6.nil _ _ _ _ _ _ _, HPo.out, by omega⟩
          have HZ : Hid (BoxX wo w.heap.size 0 XV.zero) := HZo.out
          obtain ⟨qa, qc, hqb, _⟩ := HPo.out
          obtain ⟨q0, q1, q2, q3⟩ := hqb.cells
          obtain ⟨z0, z1, z2, z3, z4, z5, z6, z7, z8, z9, z10, z11, z12⟩ := HBx.out.cells
          have HKm : Hid (kq ≠ -1) := hkm
          have HSq : Hid (s = wo.heap.size) := hs
          clear hqb hs hkm
          go_wp2_with fail
          clear q0 q1 q2 q3 z0 z1 z2 z3 z4 z5 z6 z7 z8 z9 z10 z11 z12
          have hkc : kq = 3 ∨ kq = 4 ∨ kq = 5 ∨ (kq = 0 ∨ kq = 1 ∨ kq = 2) := by omega
          rcases hkc with rfl | rfl | rfl | hkc
          · skip
            refine (takeY_any 3 _ HK.out (HY.out.tk HSS.out) HY.out.st).mono ?_
            rintro e w4 ⟨xa, xn, xc, rfl, hb4, hp4⟩
            have HY4 : Hid (StY pb g ts gs en w (i + 1) p s 3 w4 XV.zero (openX ts en (.ok (AX.kd 3) (i + 1)))) := HY.out.opened HSS.out hb4 hp4
            have HZ4 : Hid (BoxX w4 w.heap.size 0 XV.zero) := HZ.out.of (hb4.block _ HZ.out.lt (by omega))
            clear hb4 hp4
            obtain ⟨z0, z1, z2, z3, z4, z5, z6, z7, z8, z9, z10, z11, z12⟩ := HY4.out.box.cells
            go_wp2_with fail
            clear z0 z1 z2 z3 z4 z5 z6 z7 z8 z9 z10 z11 z12
            refine (lowY_any _ HK.out (HY4.out.tk HSS.out) HY4.out.st).mono ?_
            rintro e w5 ⟨a5, b5, c5, rfl, hb5, hp5, hv5⟩
            obtain ⟨hB5, hY5⟩ := HY4.out.lowR HSS.out hb5 hp5 hv5
            have HY5 : Hid (StY pb g ts gs en w (i + 1) p s 3 (w5.setCell ⟨p, 9, none⟩ (.slice a5 b5 c5)) ⟨.int .i64 0, .slice none 0 0, .slice none 0 0, .slice none 0 0, .int .i64 0, .slice none 0 0, .slice none 0 0, .slice none 0 0, .slice a5 b5 c5, .slice none 0 0, .slice none 0 0, .slice none 0 0⟩ (stepF ts en 82 (openX ts en (.ok (AX.kd 3) (i + 1))))) := hY5
            have HZ5 : Hid (BoxX (w5.setCell ⟨p, 9, none⟩ (.slice a5 b5 c5)) w.heap.size 0 XV.zero) := HZ4.out.of ((heap_set1 _ _ _ _ (by omega)).trans (hb5.block _ HZ4.out.lt (by omega)))
            obtain ⟨z0, z1, z2, z3, z4, z5, z6, z7, z8, z9, z10, z11, z12⟩ := hB5.cells
            have zf0 := hB5.frz 9
            clear hb5 hp5 hv5 hY5 hB5
            go_wp2_with fail
            clear z0 z1 z2 z3 z4 z5 z6 z7 z8 z9 z10 z11 z12 zf0
            refine (lowY_any _ HK.out (HY5.out.tk HSS.out) HY5.out.st).mono ?_
            rintro e w6 ⟨a6, b6, c6, rfl, hb6, hp6, hv6⟩
            obtain ⟨hB6, hY6⟩ := HY5.out.lowS HSS.out hb6 hp6 hv6
            have HY6 : Hid (StY pb g ts gs en w (i + 1) p s 3 (w6.setCell ⟨p, 10, none⟩ (.slice a6 b6 c6)) ⟨.int .i64 0, .slice none 0 0, .slice none 0 0, .slice none 0 0, .int .i64 0, .slice none 0 0, .slice none 0 0, .slice none 0 0, .slice a5 b5 c5, .slice a6 b6 c6, .slice none 0 0, .slice none 0 0⟩ (stepF ts en 83 (stepF ts en 82 (openX ts en (.ok (AX.kd 3) (i + 1)))))) := hY6
            have HZ6 : Hid (BoxX (w6.setCell ⟨p, 10, none⟩ (.slice a6 b6 c6)) w.heap.size 0 XV.zero) := HZ5.out.of ((heap_set1 _ _ _ _ (by omega)).trans (hb6.block _ HZ5.out.lt (by omega)))
            obtain ⟨z0, z1, z2, z3, z4, z5, z6, z7, z8, z9, z10, z11, z12⟩ := hB6.cells
            have zf0 := hB6.frz 10
            clear hb6 hp6 hv6 hY6 hB6
            go_wp2_with fail
            clear z0 z1 z2 z3 z4 z5 z6 z7 z8 z9 z10 z11 z12 zf0
            refine (takeY_any 4 _ HK.out (HY6.out.tk HSS.out) HY6.out.st).mono ?_
            rintro e w9 ⟨ya, yn, yc, rfl, hb9, hp9⟩
            obtain ⟨hB9, hE⟩ := HY6.out.fin (i := i) HSS.out (by omega) hpw hb9 hp9 (axR_open h1 HKD.out.symm HKm.out rfl) #[.int .i64 3, .int .i64 0, .slice none 0 0, .slice none 0 0, .slice none 0 0, .int .i64 0, .slice none 0 0, .slice none 0 0, .slice none 0 0, .slice a5 b5 c5, .slice a6 b6 c6, .slice none 0 0, .slice none 0 0] rfl
            have HE : Hid _ := hE
            have HZ9 : Hid (BoxX w9 w.heap.size 0 XV.zero) := HZ6.out.of (hb9.block _ HZ6.out.lt (by omega))
            obtain ⟨z0, z1, z2, z3, z4, z5, z6, z7, z8, z9, z10, z11, z12⟩ := hB9.cells
            clear hb9 hp9 hE hB9
            have HRw : Hid ((w9.setRow w.heap.size #[.int .i64 3, .int .i64 0, .slice none 0 0, .slice none 0 0, .slice none 0 0, .int .i64 0, .slice none 0 0, .slice none 0 0, .slice none 0 0, .slice a5 b5 c5, .slice a6 b6 c6, .slice none 0 0, .slice none 0 0]).heap[w.heap.size]? = some (.cells #[.int .i64 3, .int .i64 0, .slice none 0 0, .slice none 0 0, .slice none 0 0, .int .i64 0, .slice none 0 0, .slice none 0 0, .slice none 0 0, .slice a5 b5 c5, .slice a6 b6 c6, .slice none 0 0, .slice none 0 0] 39 (0, 0))) := setRow_heap w9 w.heap.size zeroX _ _ _ HZ9.out
            go_wp2_with (first | (refine wpList_store_row rfl 39 (.tmp 2) (.tmp 83) rfl w.heap.size #[.int .i64 3, .int .i64 0, .slice none 0 0, .slice none 0 0, .slice none 0 0, .int .i64 0, .slice none 0 0, .slice none 0 0, .slice none 0 0, .slice a5 b5 c5, .slice a6 b6 c6, .slice none 0 0, .slice none 0 0] rfl rfl 39 zeroX HZ9.out infoX13 rfl (by simp [Value.oneCell']) ?_) | fail)
            refine bodyPost_ret (v := .agg #[.int .i64 3, .int .i64 0, .slice none 0 0, .slice none 0 0, .slice none 0 0, .int .i64 0, .slice none 0 0, .slice none 0 0, .slice none 0 0, .slice a5 b5 c5, .slice a6 b6 c6, .slice none 0 0, .slice none 0 0]) (results_cell_row rfl _ _ w.heap.size 39 _ (0, 0) _ rfl HRw.out Tryz.underlying39 rfl infoX13) rfl ?_
            exact HE.out

          · skip
            refine (takeY_any 3 _ HK.out (HY.out.tk HSS.out) HY.out.st).mono ?_
            rintro e w4 ⟨xa, xn, xc, rfl, hb4, hp4⟩
            have HY4 : Hid (StY pb g ts gs en w (i + 1) p s 4 w4 XV.zero (openX ts en (.ok (AX.kd 4) (i + 1)))) := HY.out.opened HSS.out hb4 hp4
            have HZ4 : Hid (BoxX w4 w.heap.size 0 XV.zero) := HZ.out.of (hb4.block _ HZ.out.lt (by omega))
            clear hb4 hp4
            obtain ⟨z0, z1, z2, z3, z4, z5, z6, z7, z8, z9, z10, z11, z12⟩ := HY4.out.box.cells
            go_wp2_with fail
            clear z0 z1 z2 z3 z4 z5 z6 z7 z8 z9 z10 z11 z12
            refine (lowY_any _ HK.out (HY4.out.tk HSS.out) HY4.out.st).mono ?_
            rintro e w5 ⟨a5, b5, c5, rfl, hb5, hp5, hv5⟩
            obtain ⟨hB5, hY5⟩ := HY4.out.lowA HSS.out hb5 hp5 hv5
            have HY5 : Hid (StY pb g ts gs en w (i + 1) p s 4 (w5.setCell ⟨p, 11, none⟩ (.slice a5 b5 c5)) ⟨.int .i64 0, .slice none 0 0, .slice none 0 0, .slice none 0 0, .int .i64 0, .slice none 0 0, .slice none 0 0, .slice none 0 0, .slice none 0 0, .slice none 0 0, .slice a5 b5 c5, .slice none 0 0⟩ (stepF ts en 65 (openX ts en (.ok (AX.kd 4) (i + 1))))) := hY5
            have HZ5 : Hid (BoxX (w5.setCell ⟨p, 11, none⟩ (.slice a5 b5 c5)) w.heap.size 0 XV.zero) := HZ4.out.of ((heap_set1 _ _ _ _ (by omega)).trans (hb5.block _ HZ4.out.lt (by omega)))
            obtain ⟨z0, z1, z2, z3, z4, z5, z6, z7, z8, z9, z10, z11, z12⟩ := hB5.cells
            have zf0 := hB5.frz 11
            clear hb5 hp5 hv5 hY5 hB5
            go_wp2_with fail
            clear z0 z1 z2 z3 z4 z5 z6 z7 z8 z9 z10 z11 z12 zf0
            refine (conY_any _ HK.out (HY5.out.tk HSS.out) HY5.out.st).mono ?_
            rintro e w6 ⟨k6, a6, b6, c6, d6, e6, f6, g6, h6, i6, rfl, hb6, hp6, hv6⟩
            obtain ⟨hB6, hY6⟩ := HY5.out.conC HSS.out hb6 hp6 hv6
            have HY6 : Hid (StY pb g ts gs en w (i + 1) p s 4 ((((w6.setCell ⟨p, 1, none⟩ (.int .i64 k6)).setCell ⟨p, 2, none⟩ (.slice a6 b6 c6)).setCell ⟨p, 3, none⟩ (.slice d6 e6 f6)).setCell ⟨p, 4, none⟩ (.slice g6 h6 i6)) ⟨.int .i64 k6, .slice a6 b6 c6, .slice d6 e6 f6, .slice g6 h6 i6, .int .i64 0, .slice none 0 0, .slice none 0 0, .slice none 0 0, .slice none 0 0, .slice none 0 0, .slice a5 b5 c5, .slice none 0 0⟩ (stepF ts en 67 (stepF ts en 65 (openX ts en (.ok (AX.kd 4) (i + 1)))))) := hY6
            have HZ6 : Hid (BoxX ((((w6.setCell ⟨p, 1, none⟩ (.int .i64 k6)).setCell ⟨p, 2, none⟩ (.slice a6 b6 c6)).setCell ⟨p, 3, none⟩ (.slice d6 e6 f6)).setCell ⟨p, 4, none⟩ (.slice g6 h6 i6)) w.heap.size 0 XV.zero) := HZ5.out.of ((heap_set1 _ _ _ _ (by omega)).trans ((heap_set1 _ _ _ _ (by omega)).trans ((heap_set1 _ _ _ _ (by omega)).trans ((heap_set1 _ _ _ _ (by omega)).trans (hb6.block _ HZ5.out.lt (by omega))))))
            obtain ⟨z0, z1, z2, z3, z4, z5, z6, z7, z8, z9, z10, z11, z12⟩ := hB6.cells
            have zf0 := hB6.frz 1
            have zf1 := hB6.frz 2
            have zf2 := hB6.frz 3
            have zf3 := hB6.frz 4
            clear hb6 hp6 hv6 hY6 hB6
            go_wp2_with fail
            clear z0 z1 z2 z3 z4 z5 z6 z7 z8 z9 z10 z11 z12 zf0 zf1 zf2 zf3
            refine (takeY_any 4 _ HK.out (HY6.out.tk HSS.out) HY6.out.st).mono ?_
            rintro e w9 ⟨ya, yn, yc, rfl, hb9, hp9⟩
            obtain ⟨hB9, hE⟩ := HY6.out.fin (i := i) HSS.out (by omega) hpw hb9 hp9 (axR_open h1 HKD.out.symm HKm.out rfl) #[.int .i64 4, .int .i64 k6, .slice a6 b6 c6, .slice d6 e6 f6, .slice g6 h6 i6, .int .i64 0, .slice none 0 0, .slice none 0 0, .slice none 0 0, .slice none 0 0, .slice none 0 0, .slice a5 b5 c5, .slice none 0 0] rfl
            have HE : Hid _ := hE
            have HZ9 : Hid (BoxX w9 w.heap.size 0 XV.zero) := HZ6.out.of (hb9.block _ HZ6.out.lt (by omega))
            obtain ⟨z0, z1, z2, z3, z4, z5, z6, z7, z8, z9, z10, z11, z12⟩ := hB9.cells
            clear hb9 hp9 hE hB9
            have HRw : Hid ((w9.setRow w.heap.size #[.int .i64 4, .int .i64 k6, .slice a6 b6 c6, .slice d6 e6 f6, .slice g6 h6 i6, .int .i64 0, .slice none 0 0, .slice none 0 0, .slice none 0 0, .slice none 0 0, .slice none 0 0, .slice a5 b5 c5, .slice none 0 0]).heap[w.heap.size]? = some (.cells #[.int .i64 4, .int .i64 k6, .slice a6 b6 c6, .slice d6 e6 f6, .slice g6 h6 i6, .int .i64 0, .slice none 0 0, .slice none 0 0, .slice none 0 0, .slice none 0 0, .slice none 0 0, .slice a5 b5 c5, .slice none 0 0] 39 (0, 0))) := setRow_heap w9 w.heap.size zeroX _ _ _ HZ9.out
            go_wp2_with (first | (refine wpList_store_row rfl 39 (.tmp 2) (.tmp 83) rfl w.heap.size #[.int .i64 4, .int .i64 k6, .slice a6 b6 c6, .slice d6 e6 f6, .slice g6 h6 i6, .int .i64 0, .slice none 0 0, .slice none 0 0, .slice none 0 0, .slice none 0 0, .slice none 0 0, .slice a5 b5 c5, .slice none 0 0] rfl rfl 39 zeroX HZ9.out infoX13 rfl (by simp [Value.oneCell']) ?_) | fail)
            refine bodyPost_ret (v := .agg #[.int .i64 4, .int .i64 k6, .slice a6 b6 c6, .slice d6 e6 f6, .slice g6 h6 i6, .int .i64 0, .slice none 0 0, .slice none 0 0, .slice none 0 0, .slice none 0 0, .slice none 0 0, .slice a5 b5 c5, .slice none 0 0]) (results_cell_row rfl _ _ w.heap.size 39 _ (0, 0) _ rfl HRw.out Tryz.underlying39 rfl infoX13) rfl ?_
            exact HE.out

          · skip
            refine (takeY_any 3 _ HK.out (HY.out.tk HSS.out) HY.out.st).mono ?_
            rintro e w4 ⟨xa, xn, xc, rfl, hb4, hp4⟩
            have HY4 : Hid (StY pb g ts gs en w (i + 1) p s 5 w4 XV.zero (openX ts en (.ok (AX.kd 5) (i + 1)))) := HY.out.opened HSS.out hb4 hp4
            have HZ4 : Hid (BoxX w4 w.heap.size 0 XV.zero) := HZ.out.of (hb4.block _ HZ.out.lt (by omega))
            clear hb4 hp4
            obtain ⟨z0, z1, z2, z3, z4, z5, z6, z7, z8, z9, z10, z11, z12⟩ := HY4.out.box.cells
            go_wp2_with fail
            clear z0 z1 z2 z3 z4 z5 z6 z7 z8 z9 z10 z11 z12
            refine (lowY_any _ HK.out (HY4.out.tk HSS.out) HY4.out.st).mono ?_
            rintro e w5 ⟨a5, b5, c5, rfl, hb5, hp5, hv5⟩
            obtain ⟨hB5, hY5⟩ := HY4.out.lowR HSS.out hb5 hp5 hv5
            have HY5 : Hid (StY pb g ts gs en w (i + 1) p s 5 (w5.setCell ⟨p, 9, none⟩ (.slice a5 b5 c5)) ⟨.int .i64 0, .slice none 0 0, .slice none 0 0, .slice none 0 0, .int .i64 0, .slice none 0 0, .slice none 0 0, .slice none 0 0, .slice a5 b5 c5, .slice none 0 0, .slice none 0 0, .slice none 0 0⟩ (stepF ts en 82 (openX ts en (.ok (AX.kd 5) (i + 1))))) := hY5
            have HZ5 : Hid (BoxX (w5.setCell ⟨p, 9, none⟩ (.slice a5 b5 c5)) w.heap.size 0 XV.zero) := HZ4.out.of ((heap_set1 _ _ _ _ (by omega)).trans (hb5.block _ HZ4.out.lt (by omega)))
            obtain ⟨z0, z1, z2, z3, z4, z5, z6, z7, z8, z9, z10, z11, z12⟩ := hB5.cells
            have zf0 := hB5.frz 9
            clear hb5 hp5 hv5 hY5 hB5
            go_wp2_with fail
            clear z0 z1 z2 z3 z4 z5 z6 z7 z8 z9 z10 z11 z12 zf0
            refine (lowY_any _ HK.out (HY5.out.tk HSS.out) HY5.out.st).mono ?_
            rintro e w6 ⟨a6, b6, c6, rfl, hb6, hp6, hv6⟩
            obtain ⟨hB6, hY6⟩ := HY5.out.lowA HSS.out hb6 hp6 hv6
            have HY6 : Hid (StY pb g ts gs en w (i + 1) p s 5 (w6.setCell ⟨p, 11, none⟩ (.slice a6 b6 c6)) ⟨.int .i64 0, .slice none 0 0, .slice none 0 0, .slice none 0 0, .int .i64 0, .slice none 0 0, .slice none 0 0, .slice none 0 0, .slice a5 b5 c5, .slice none 0 0, .slice a6 b6 c6, .slice none 0 0⟩ (stepF ts en 65 (stepF ts en 82 (openX ts en (.ok (AX.kd 5) (i + 1)))))) := hY6
            have HZ6 : Hid (BoxX (w6.setCell ⟨p, 11, none⟩ (.slice a6 b6 c6)) w.heap.size 0 XV.zero) := HZ5.out.of ((heap_set1 _ _ _ _ (by omega)).trans (hb6.block _ HZ5.out.lt (by omega)))
            obtain ⟨z0, z1, z2, z3, z4, z5, z6, z7, z8, z9, z10, z11, z12⟩ := hB6.cells
            have zf0 := hB6.frz 11
            clear hb6 hp6 hv6 hY6 hB6
            go_wp2_with fail
            clear z0 z1 z2 z3 z4 z5 z6 z7 z8 z9 z10 z11 z12 zf0
            refine (lowY_any _ HK.out (HY6.out.tk HSS.out) HY6.out.st).mono ?_
            rintro e w7 ⟨a7, b7, c7, rfl, hb7, hp7, hv7⟩
            obtain ⟨hB7, hY7⟩ := HY6.out.lowB HSS.out hb7 hp7 hv7
            have HY7 : Hid (StY pb g ts gs en w (i + 1) p s 5 (w7.setCell ⟨p, 12, none⟩ (.slice a7 b7 c7)) ⟨.int .i64 0, .slice none 0 0, .slice none 0 0, .slice none 0 0, .int .i64 0, .slice none 0 0, .slice none 0 0, .slice none 0 0, .slice a5 b5 c5, .slice none 0 0, .slice a6 b6 c6, .slice a7 b7 c7⟩ (stepF ts en 66 (stepF ts en 65 (stepF ts en 82 (openX ts en (.ok (AX.kd 5) (i + 1))))))) := hY7
            have HZ7 : Hid (BoxX (w7.setCell ⟨p, 12, none⟩ (.slice a7 b7 c7)) w.heap.size 0 XV.zero) := HZ6.out.of ((heap_set1 _ _ _ _ (by omega)).trans (hb7.block _ HZ6.out.lt (by omega)))
            obtain ⟨z0, z1, z2, z3, z4, z5, z6, z7, z8, z9, z10, z11, z12⟩ := hB7.cells
            have zf0 := hB7.frz 12
            clear hb7 hp7 hv7 hY7 hB7
            go_wp2_with fail
            clear z0 z1 z2 z3 z4 z5 z6 z7 z8 z9 z10 z11 z12 zf0
            refine (takeY_any 4 _ HK.out (HY7.out.tk HSS.out) HY7.out.st).mono ?_
            rintro e w9 ⟨ya, yn, yc, rfl, hb9, hp9⟩
            obtain ⟨hB9, hE⟩ := HY7.out.fin (i := i) HSS.out (by omega) hpw hb9 hp9 (axR_open3 h1 HKD.out.symm HKm.out rfl) #[.int .i64 5, .int .i64 0, .slice none 0 0, .slice none 0 0, .slice none 0 0, .int .i64 0, .slice none 0 0, .slice none 0 0, .slice none 0 0, .slice a5 b5 c5, .slice none 0 0, .slice a6 b6 c6, .slice a7 b7 c7] rfl
            have HE : Hid _ := hE
            have HZ9 : Hid (BoxX w9 w.heap.size 0 XV.zero) := HZ7.out.of (hb9.block _ HZ7.out.lt (by omega))
            obtain ⟨z0, z1, z2, z3, z4, z5, z6, z7, z8, z9, z10, z11, z12⟩ := hB9.cells
            clear hb9 hp9 hE hB9
            have HRw : Hid ((w9.setRow w.heap.size #[.int .i64 5, .int .i64 0, .slice none 0 0, .slice none 0 0, .slice none 0 0, .int .i64 0, .slice none 0 0, .slice none 0 0, .slice none 0 0, .slice a5 b5 c5, .slice none 0 0, .slice a6 b6 c6, .slice a7 b7 c7]).heap[w.heap.size]? = some (.cells #[.int .i64 5, .int .i64 0, .slice none 0 0, .slice none 0 0, .slice none 0 0, .int .i64 0, .slice none 0 0, .slice none 0 0, .slice none 0 0, .slice a5 b5 c5, .slice none 0 0, .slice a6 b6 c6, .slice a7 b7 c7] 39 (0, 0))) := setRow_heap w9 w.heap.size zeroX _ _ _ HZ9.out
            go_wp2_with (first | (refine wpList_store_row rfl 39 (.tmp 2) (.tmp 83) rfl w.heap.size #[.int .i64 5, .int .i64 0, .slice none 0 0, .slice none 0 0, .slice none 0 0, .int .i64 0, .slice none 0 0, .slice none 0 0, .slice none 0 0, .slice a5 b5 c5, .slice none 0 0, .slice a6 b6 c6, .slice a7 b7 c7] rfl rfl 39 zeroX HZ9.out infoX13 rfl (by simp [Value.oneCell']) ?_) | fail)
            refine bodyPost_ret (v := .agg #[.int .i64 5, .int .i64 0, .slice none 0 0, .slice none 0 0, .slice none 0 0, .int .i64 0, .slice none 0 0, .slice none 0 0, .slice none 0 0, .slice a5 b5 c5, .slice none 0 0, .slice a6 b6 c6, .slice a7 b7 c7]) (results_cell_row rfl _ _ w.heap.size 39 _ (0, 0) _ rfl HRw.out Tryz.underlying39 rfl infoX13) rfl ?_
            exact HE.out

          · have hf : fieldsN kq = [67, 68] := by rcases hkc with rfl | rfl | rfl <;> rfl
            have HFl : Hid (fieldsN kq = [67, 68]) := hf
            have hk3 : (kq == 3) = false := by rcases hkc with rfl | rfl | rfl <;> rfl
            have hk4 : (kq == 4) = false := by rcases hkc with rfl | rfl | rfl <;> rfl
            have hk5 : (kq == 5) = false := by rcases hkc with rfl | rfl | rfl <;> rfl
            clear hkc hf
            refine (takeY_any 3 _ HK.out (HY.out.tk HSS.out) HY.out.st).mono ?_
            rintro e w4 ⟨xa, xn, xc, rfl, hb4, hp4⟩
            have HY4 : Hid (StY pb g ts gs en w (i + 1) p s kq w4 XV.zero (openX ts en (.ok (AX.kd kq) (i + 1)))) := HY.out.opened HSS.out hb4 hp4
            have HZ4 : Hid (BoxX w4 w.heap.size 0 XV.zero) := HZ.out.of (hb4.block _ HZ.out.lt (by omega))
            clear hb4 hp4
            obtain ⟨z0, z1, z2, z3, z4, z5, z6, z7, z8, z9, z10, z11, z12⟩ := HY4.out.box.cells
            go_wp2_with fail
            clear z0 z1 z2 z3 z4 z5 z6 z7 z8 z9 z10 z11 z12
            refine (conY_any _ HK.out (HY4.out.tk HSS.out) HY4.out.st).mono ?_
            rintro e w5 ⟨k5, a5, b5, c5, d5, e5, f5, g5, h5, i5, rfl, hb5, hp5, hv5⟩
            obtain ⟨hB5, hY5⟩ := HY4.out.conC HSS.out hb5 hp5 hv5
            have HY5 : Hid (StY pb g ts gs en w (i + 1) p s kq ((((w5.setCell ⟨p, 1, none⟩ (.int .i64 k5)).setCell ⟨p, 2, none⟩ (.slice a5 b5 c5)).setCell ⟨p, 3, none⟩ (.slice d5 e5 f5)).setCell ⟨p, 4, none⟩ (.slice g5 h5 i5)) ⟨.int .i64 k5, .slice a5 b5 c5, .slice d5 e5 f5, .slice g5 h5 i5, .int .i64 0, .slice none 0 0, .slice none 0 0, .slice none 0 0, .slice none 0 0, .slice none 0 0, .slice none 0 0, .slice none 0 0⟩ (stepF ts en 67 (openX ts en (.ok (AX.kd kq) (i + 1))))) := hY5
            have HZ5 : Hid (BoxX ((((w5.setCell ⟨p, 1, none⟩ (.int .i64 k5)).setCell ⟨p, 2, none⟩ (.slice a5 b5 c5)).setCell ⟨p, 3, none⟩ (.slice d5 e5 f5)).setCell ⟨p, 4, none⟩ (.slice g5 h5 i5)) w.heap.size 0 XV.zero) := HZ4.out.of ((heap_set1 _ _ _ _ (by omega)).trans ((heap_set1 _ _ _ _ (by omega)).trans ((heap_set1 _ _ _ _ (by omega)).trans ((heap_set1 _ _ _ _ (by omega)).trans (hb5.block _ HZ4.out.lt (by omega))))))
            obtain ⟨z0, z1, z2, z3, z4, z5, z6, z7, z8, z9, z10, z11, z12⟩ := hB5.cells
            have zf0 := hB5.frz 1
            have zf1 := hB5.frz 2
            have zf2 := hB5.frz 3
            have zf3 := hB5.frz 4
            clear hb5 hp5 hv5 hY5 hB5
            go_wp2_with fail
            clear z0 z1 z2 z3 z4 z5 z6 z7 z8 z9 z10 z11 z12 zf0 zf1 zf2 zf3
            refine (conY_any _ HK.out (HY5.out.tk HSS.out) HY5.out.st).mono ?_
            rintro e w6 ⟨k6, a6, b6, c6, d6, e6, f6, g6, h6, i6, rfl, hb6, hp6, hv6⟩
            obtain ⟨hB6, hY6⟩ := HY5.out.conD HSS.out hb6 hp6 hv6
            have HY6 : Hid (StY pb g ts gs en w (i + 1) p s kq ((((w6.setCell ⟨p, 5, none⟩ (.int .i64 k6)).setCell ⟨p, 6, none⟩ (.slice a6 b6 c6)).setCell ⟨p, 7, none⟩ (.slice d6 e6 f6)).setCell ⟨p, 8, none⟩ (.slice g6 h6 i6)) ⟨.int .i64 k5, .slice a5 b5 c5, .slice d5 e5 f5, .slice g5 h5 i5, .int .i64 k6, .slice a6 b6 c6, .slice d6 e6 f6, .slice g6 h6 i6, .slice none 0 0, .slice none 0 0, .slice none 0 0, .slice none 0 0⟩ (stepF ts en 68 (stepF ts en 67 (openX ts en (.ok (AX.kd kq) (i + 1)))))) := hY6
            have HZ6 : Hid (BoxX ((((w6.setCell ⟨p, 5, none⟩ (.int .i64 k6)).setCell ⟨p, 6, none⟩ (.slice a6 b6 c6)).setCell ⟨p, 7, none⟩ (.slice d6 e6 f6)).setCell ⟨p, 8, none⟩ (.slice g6 h6 i6)) w.heap.size 0 XV.zero) := HZ5.out.of ((heap_set1 _ _ _ _ (by omega)).trans ((heap_set1 _ _ _ _ (by omega)).trans ((heap_set1 _ _ _ _ (by omega)).trans ((heap_set1 _ _ _ _ (by omega)).trans (hb6.block _ HZ5.out.lt (by omega))))))
            obtain ⟨z0, z1, z2, z3, z4, z5, z6, z7, z8, z9, z10, z11, z12⟩ := hB6.cells
            have zf0 := hB6.frz 5
            have zf1 := hB6.frz 6
            have zf2 := hB6.frz 7
            have zf3 := hB6.frz 8
            clear hb6 hp6 hv6 hY6 hB6
            go_wp2_with fail
            clear z0 z1 z2 z3 z4 z5 z6 z7 z8 z9 z10 z11 z12 zf0 zf1 zf2 zf3
            refine (takeY_any 4 _ HK.out (HY6.out.tk HSS.out) HY6.out.st).mono ?_
            rintro e w9 ⟨ya, yn, yc, rfl, hb9, hp9⟩
            obtain ⟨hB9, hE⟩ := HY6.out.fin (i := i) HSS.out (by omega) hpw hb9 hp9 (axR_open h1 HKD.out.symm HKm.out HFl.out) #[.int .i64 kq, .int .i64 k5, .slice a5 b5 c5, .slice d5 e5 f5, .slice g5 h5 i5, .int .i64 k6, .slice a6 b6 c6, .slice d6 e6 f6, .slice g6 h6 i6, .slice none 0 0, .slice none 0 0, .slice none 0 0, .slice none 0 0] rfl
            have HE : Hid _ := hE
            have HZ9 : Hid (BoxX w9 w.heap.size 0 XV.zero) := HZ6.out.of (hb9.block _ HZ6.out.lt (by omega))
            obtain ⟨z0, z1, z2, z3, z4, z5, z6, z7, z8, z9, z10, z11, z12⟩ := hB9.cells
            clear hb9 hp9 hE hB9
            have HRw : Hid ((w9.setRow w.heap.size #[.int .i64 kq, .int .i64 k5, .slice a5 b5 c5, .slice d5 e5 f5, .slice g5 h5 i5, .int .i64 k6, .slice a6 b6 c6, .slice d6 e6 f6, .slice g6 h6 i6, .slice none 0 0, .slice none 0 0, .slice none 0 0, .slice none 0 0]).heap[w.heap.size]? = some (.cells #[.int .i64 kq, .int .i64 k5, .slice a5 b5 c5, .slice d5 e5 f5, .slice g5 h5 i5, .int .i64 k6, .slice a6 b6 c6, .slice d6 e6 f6, .slice g6 h6 i6, .slice none 0 0, .slice none 0 0, .slice none 0 0, .slice none 0 0] 39 (0, 0))) := setRow_heap w9 w.heap.size zeroX _ _ _ HZ9.out
            go_wp2_with (first | (refine wpList_store_row rfl 39 (.tmp 2) (.tmp 83) rfl w.heap.size #[.int .i64 kq, .int .i64 k5, .slice a5 b5 c5, .slice d5 e5 f5, .slice g5 h5 i5, .int .i64 k6, .slice a6 b6 c6, .slice d6 e6 f6, .slice g6 h6 i6, .slice none 0 0, .slice none 0 0, .slice none 0 0, .slice none 0 0] rfl rfl 39 zeroX HZ9.out infoX13 rfl (by simp [Value.oneCell']) ?_) | fail)
            refine bodyPost_ret (v := .agg #[.int .i64 kq, .int .i64 k5, .slice a5 b5 c5, .slice d5 e5 f5, .slice g5 h5 i5, .int .i64 k6, .slice a6 b6 c6, .slice d6 e6 f6, .slice g6 h6 i6, .slice none 0 0, .slice none 0 0, .slice none 0 0, .slice none 0 0]) (results_cell_row rfl _ _ w.heap.size 39 _ (0, 0) _ rfl HRw.out Tryz.underlying39 rfl infoX13) rfl ?_
            exact HE.out

end Go.Proofs.YtckhjoancfbkfaaGreat
