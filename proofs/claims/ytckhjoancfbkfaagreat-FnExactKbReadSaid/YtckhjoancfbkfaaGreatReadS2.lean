/- The model's parser of a concept, the ways that meet no kid. -/
import Derived.Test.YtckhjoancfbkfaaGreatReadS1
import Derived.Test.YtckhjoancfbkfaaGreatNG8
import Derived.Test.YtckhjoancfbkfaaGreatNG15
namespace Go.Proofs.YtckhjoancfbkfaaGreat
open Go.RowKit

/-- Tokens as a text gives them. -/
structure Tks (ts : List Tok) (en : Int) : Prop where
  len : ts.length ≤ 1500
  pos : ∀ q, 0 ≤ hereI ts en q
  wd : ∀ q, (isI ts 1 q = true ∨ isI ts 2 q = true) → 1 ≤ (wordI ts q).length
  sh : ∀ q, (wordI ts q).length ≤ 6

/-- What the parser leaves. -/
def SP (ts : List Tok) (gs : List (Nat × Nat)) (en : Int) (g pb i : Nat) (w : World) (d : Nat) (r : Res) (e : Ending) (w' : World) : Prop :=
  Bt pb w.heap.size w w' ∧ match r with
    | .bad p => PsBad w' pb p ∧ ∃ k a1 n1 c1 a2 n2 c2 a3 n3 c3, e = .returned (.agg #[.int .i64 k, .slice a1 n1 c1, .slice a2 n2 c2, .slice a3 n3 c3])
    | .ok c j => ∃ v L, e = .returned v ∧ OwnR ts gs i j w.heap.size w' d v c L ∧ PsAt w' pb g j ts en (-1)

theorem SP.fell {ts : List Tok} {gs : List (Nat × Nat)} {en : Int} {g pb i : Nat} {w : World} {d : Nat} {r : Res} {p : Int} {w' : World} {k : Int} {a1 : Option Addr} {n1 c1 : Nat} {a2 : Option Addr} {n2 c2 : Nat} {a3 : Option Addr} {n3 c3 : Nat} (hb : Bt pb w.heap.size w w') (hr : r = .bad p) (hp : PsBad w' pb p) :
    SP ts gs en g pb i w d r (.returned (.agg #[.int .i64 k, .slice a1 n1 c1, .slice a2 n2 c2, .slice a3 n3 c3])) w' := by
  subst hr; exact ⟨hb, hp, _, _, _, _, _, _, _, _, _, _, rfl⟩
theorem SP.good {ts : List Tok} {gs : List (Nat × Nat)} {en : Int} {g pb i : Nat} {w : World} {d : Nat} {r : Res} {c : CN} {j : Nat} {v : Value} {L : List (Addr × IntKind)} {w' : World} (hb : Bt pb w.heap.size w w') (hr : r = .ok c j) (hO : OwnR ts gs i j w.heap.size w' d v c L) (hP : PsAt w' pb g j ts en (-1)) : SP ts gs en g pb i w d r (.returned v) w' := by
  subst hr; exact ⟨hb, v, L, rfl, hO, hP⟩

theorem set4_mem {W : World} {vb : Nat} {v0 v1 v2 v3 : Value} (hv : BoxC W vb v0 v1 v2 v3) (x0 x1 x2 x3 : Value) {pb B : Nat} {w : World} (hb : Bt pb B w W) (hB : B ≤ vb) :
    BoxC ((((W.setCell ⟨vb, 0, none⟩ x0).setCell ⟨vb, 1, none⟩ x1).setCell ⟨vb, 2, none⟩ x2).setCell ⟨vb, 3, none⟩ x3) vb x0 x1 x2 x3 ∧ Bt pb B w ((((W.setCell ⟨vb, 0, none⟩ x0).setCell ⟨vb, 1, none⟩ x1).setCell ⟨vb, 2, none⟩ x2).setCell ⟨vb, 3, none⟩ x3) :=
  ⟨hv.set4 x0 x1 x2 x3, (((hb.set (.inl hB) _).set (.inl hB) _).set (.inl hB) _).set (.inl hB) _⟩

theorem BoxC.set1 {W : World} {b : Nat} {v0 v1 v2 v3 : Value} (h : BoxC W b v0 v1 v2 v3) (v : Value) : BoxC (W.setCell ⟨b, 1, none⟩ v) b v0 v v2 v3 := by
  unfold BoxC
  rw [heap_setCell_same W b 1 _ _ v h]
  rfl

theorem kidS_rng {k : Int} (h : k = 0 ∨ k = 1 ∨ k = 2 ∨ k = 3 ∨ k = 4 ∨ k = 5 ∨ k = 6 ∨ k = 7) : kidS k = kidN k := by
  rcases h with rfl | rfl | rfl | rfl | rfl | rfl | rfl | rfl <;> decide
theorem kindS_range (ts : List Tok) (i : Nat) : kindI ts i = 0 ∨ kindI ts i = 1 ∨ kindI ts i = 2 ∨ kindI ts i = 3 ∨ kindI ts i = 4 ∨ kindI ts i = 5 ∨ kindI ts i = 6 ∨ kindI ts i = 7 := kindW_range _

set_option maxRecDepth 100000 in
set_option maxHeartbeats 2000000 in
theorem con_stuck (pb : Nat) (p : Int) (w : World) (dp : Int) (hd6 : dp ≤ 6) (hp : 0 ≤ p) (hP : PsBad w pb p) :
    Calls Tryz.prog 98 #[.pointer (some ⟨pb, 0, none⟩), .int .i64 dp] w fun e w' => e = .returned (.agg #[.int .i64 0, .slice none 0 0, .slice none 0 0, .slice none 0 0]) ∧ PsBad w' pb p ∧ Below w.heap.size w w' := by
  have hpl := hP.lt
  have hb0 : Below w.heap.size w (w.alloc (.cells #[.int .i64 0, .slice none 0 0, .slice none 0 0, .slice none 0 0] 37)) := (Below.refl _ _).alloc (Nat.le_refl _) _
  have HB0 : Hid (Below w.heap.size w (w.alloc (.cells #[.int .i64 0, .slice none 0 0, .slice none 0 0, .slice none 0 0] 37))) := hb0
  have HP0 : Hid (PsBad (w.alloc (.cells #[.int .i64 0, .slice none 0 0, .slice none 0 0, .slice none 0 0] 37)) pb p) := hP.below hb0
  have HZ0 : Hid (BoxC (w.alloc (.cells #[.int .i64 0, .slice none 0 0, .slice none 0 0, .slice none 0 0] 37)) w.heap.size (.int .i64 0) (.slice none 0 0) (.slice none 0 0) (.slice none 0 0)) := BoxC.new w _ _ _ _
  clear hb0 hP
  go_enter Tryz.func98, Tryz.ntmps98
  go_wp2_with fail
  refine (takeS_stuck pb p 1 _ hp HP0.out).mono ?_
  rintro e w1 ⟨rfl, nd, hw1⟩
  have HP1 : Hid (PsBad w1 pb p) := by unfold Hid; rw [hw1]; exact HP0.out.of rfl
  have HZ1 : Hid (BoxC w1 w.heap.size (.int .i64 0) (.slice none 0 0) (.slice none 0 0) (.slice none 0 0)) := by unfold Hid; rw [hw1]; exact HZ0.out
  have HB1 : Hid (Below w.heap.size w w1) := by unfold Hid; rw [hw1]; exact below_drewN HB0.out nd
  obtain ⟨lv, qi, qe, hq⟩ := HP1.out
  obtain ⟨q0, q1, q2, q3⟩ := hq.cells
  obtain ⟨z0, z1, z2, z3⟩ := HZ1.out.cells
  have zf0 := HZ1.out.frz 0
  have zf1 := HZ1.out.frz 1
  have zf2 := HZ1.out.frz 2
  have zf3 := HZ1.out.frz 3
  clear hw1 hq
  go_wp2
  obtain ⟨s0, s1, s2, s3⟩ := (HZ1.out.set4 (.int .i64 0) (.slice none 0 0) (.slice none 0 0) (.slice none 0 0)).cells
  refine bodyPost_ret (v := .agg #[.int .i64 0, .slice none 0 0, .slice none 0 0, .slice none 0 0]) (by simp [results, Tryz.results98, go_sem, s0, s1, s2, s3]) rfl ?_
  exact ⟨rfl, HP1.out.of (heap_set4 _ _ _ _ _ (by omega)), (((HB1.out.setCell (Nat.le_refl _) _).setCell (Nat.le_refl _) _).setCell (Nat.le_refl _) _).setCell (Nat.le_refl _) _⟩

set_option maxRecDepth 100000 in
set_option maxHeartbeats 2000000 in
theorem con_stuck7 (pb : Nat) (p : Int) (w : World) (hp : 0 ≤ p) (hP : PsBad w pb p) :
    Calls Tryz.prog 98 #[.pointer (some ⟨pb, 0, none⟩), .int .i64 7] w fun e w' => e = .returned (.agg #[.int .i64 0, .slice none 0 0, .slice none 0 0, .slice none 0 0]) ∧ PsBad w' pb p ∧ Below w.heap.size w w' := by
  have hpl := hP.lt
  have hb0 : Below w.heap.size w (w.alloc (.cells #[.int .i64 0, .slice none 0 0, .slice none 0 0, .slice none 0 0] 37)) := (Below.refl _ _).alloc (Nat.le_refl _) _
  have HB0 : Hid (Below w.heap.size w (w.alloc (.cells #[.int .i64 0, .slice none 0 0, .slice none 0 0, .slice none 0 0] 37))) := hb0
  have HP0 : Hid (PsBad (w.alloc (.cells #[.int .i64 0, .slice none 0 0, .slice none 0 0, .slice none 0 0] 37)) pb p) := hP.below hb0
  have HZ0 : Hid (BoxC (w.alloc (.cells #[.int .i64 0, .slice none 0 0, .slice none 0 0, .slice none 0 0] 37)) w.heap.size (.int .i64 0) (.slice none 0 0) (.slice none 0 0) (.slice none 0 0)) := BoxC.new w _ _ _ _
  clear hb0 hP
  go_enter Tryz.func98, Tryz.ntmps98
  go_wp2_with fail
  refine (fail_stuck pb p _ hp HP0.out).mono ?_
  rintro e w0 ⟨rfl, hw0⟩
  rw [hw0]; clear hw0
  go_wp2_with fail
  refine (takeS_stuck pb p 1 _ hp HP0.out).mono ?_
  rintro e w1 ⟨rfl, nd, hw1⟩
  have HP1 : Hid (PsBad w1 pb p) := by unfold Hid; rw [hw1]; exact HP0.out.of rfl
  have HZ1 : Hid (BoxC w1 w.heap.size (.int .i64 0) (.slice none 0 0) (.slice none 0 0) (.slice none 0 0)) := by unfold Hid; rw [hw1]; exact HZ0.out
  have HB1 : Hid (Below w.heap.size w w1) := by unfold Hid; rw [hw1]; exact below_drewN HB0.out nd
  obtain ⟨lv, qi, qe, hq⟩ := HP1.out
  obtain ⟨q0, q1, q2, q3⟩ := hq.cells
  obtain ⟨z0, z1, z2, z3⟩ := HZ1.out.cells
  have zf0 := HZ1.out.frz 0
  have zf1 := HZ1.out.frz 1
  have zf2 := HZ1.out.frz 2
  have zf3 := HZ1.out.frz 3
  clear hw1 hq
  go_wp2
  obtain ⟨s0, s1, s2, s3⟩ := (HZ1.out.set4 (.int .i64 0) (.slice none 0 0) (.slice none 0 0) (.slice none 0 0)).cells
  refine bodyPost_ret (v := .agg #[.int .i64 0, .slice none 0 0, .slice none 0 0, .slice none 0 0]) (by simp [results, Tryz.results98, go_sem, s0, s1, s2, s3]) rfl ?_
  exact ⟨rfl, HP1.out.of (heap_set4 _ _ _ _ _ (by omega)), (((HB1.out.setCell (Nat.le_refl _) _).setCell (Nat.le_refl _) _).setCell (Nat.le_refl _) _).setCell (Nat.le_refl _) _⟩

set_option maxRecDepth 100000 in
set_option maxHeartbeats 2000000 in
theorem con_deep (base pb g i : Nat) (ts : List Tok) (gs : List (Nat × Nat)) (en : Int) (w : World) (hK : Tks ts en) (hP : PsAt w pb g i ts en (-1)) (hT : TkM base pb w g ts gs) (hi : i ≤ ts.length) :
    Calls Tryz.prog 98 #[.pointer (some ⟨pb, 0, none⟩), .int .i64 7] w (SP ts gs en g pb i w 0 (conR ts en 0 i)) := by
  have hpl := hP.lt
  have hb0 : Below w.heap.size w (w.alloc (.cells #[.int .i64 0, .slice none 0 0, .slice none 0 0, .slice none 0 0] 37)) := (Below.refl _ _).alloc (Nat.le_refl _) _
  have HB0 : Hid (Below w.heap.size w (w.alloc (.cells #[.int .i64 0, .slice none 0 0, .slice none 0 0, .slice none 0 0] 37))) := hb0
  have HP0 : Hid (PsAt (w.alloc (.cells #[.int .i64 0, .slice none 0 0, .slice none 0 0, .slice none 0 0] 37)) pb g i ts en (-1)) := hP.below hb0
  have HT0 : Hid (TkM base pb (w.alloc (.cells #[.int .i64 0, .slice none 0 0, .slice none 0 0, .slice none 0 0] 37)) g ts gs) := hT.below (hb0.mono (Nat.le_of_lt hpl))
  have HZ0 : Hid (BoxC (w.alloc (.cells #[.int .i64 0, .slice none 0 0, .slice none 0 0, .slice none 0 0] 37)) w.heap.size (.int .i64 0) (.slice none 0 0) (.slice none 0 0) (.slice none 0 0)) := BoxC.new w _ _ _ _
  have HK : Hid (Tks ts en) := hK
  clear hb0 hP hT hK
  go_enter Tryz.func98, Tryz.ntmps98
  go_wp2_with fail
  refine (fail_any base pb g i ts gs en _ HP0.out HT0.out hi).mono ?_
  rintro e w0 ⟨rfl, hP1, hb1⟩
  obtain ⟨p, hp⟩ : ∃ p, p = hereI ts en i := ⟨_, rfl⟩
  rw [← hp] at hP1
  have HC : Hid (conR ts en 0 i = .bad p) := by unfold Hid; rw [conR, hp]
  have hp0 : 0 ≤ p := by rw [hp]; exact HK.out.pos i
  have HP1 : Hid (PsBad w0 pb p) := hP1
  have HZ1 : Hid (BoxC w0 w.heap.size (.int .i64 0) (.slice none 0 0) (.slice none 0 0) (.slice none 0 0)) := (hb1.block _ HZ0.out.lt (by omega)).trans HZ0.out
  have HBt1 : Hid (Bt pb w.heap.size w w0) := (Bt.of_below HB0.out).trans (hb1.mono HB0.out.size)
  clear hP1 hb1 hp
  go_wp2_with fail
  refine (takeS_stuck pb p 1 _ hp0 HP1.out).mono ?_
  rintro e w1 ⟨rfl, nd, hw1⟩
  have HP2 : Hid (PsBad w1 pb p) := by unfold Hid; rw [hw1]; exact HP1.out.of rfl
  have HZ2 : Hid (BoxC w1 w.heap.size (.int .i64 0) (.slice none 0 0) (.slice none 0 0) (.slice none 0 0)) := by unfold Hid; rw [hw1]; exact HZ1.out
  have HBt2 : Hid (Bt pb w.heap.size w w1) := by unfold Hid; rw [hw1]; exact bt_drewN HBt1.out nd
  obtain ⟨lv, qi, qe, hq⟩ := HP2.out
  obtain ⟨q0, q1, q2, q3⟩ := hq.cells
  obtain ⟨z0, z1, z2, z3⟩ := HZ2.out.cells
  have zf0 := HZ2.out.frz 0
  have zf1 := HZ2.out.frz 1
  have zf2 := HZ2.out.frz 2
  have zf3 := HZ2.out.frz 3
  clear hw1 hq
  go_wp2
  obtain ⟨hVs, hBs⟩ := set4_mem HZ2.out (.int .i64 0) (.slice none 0 0) (.slice none 0 0) (.slice none 0 0) HBt2.out (Nat.le_refl _)
  obtain ⟨s0, s1, s2, s3⟩ := hVs.cells
  refine bodyPost_ret (v := .agg #[.int .i64 0, .slice none 0 0, .slice none 0 0, .slice none 0 0]) (by simp [results, Tryz.results98, go_sem, s0, s1, s2, s3]) rfl ?_
  exact SP.fell hBs HC.out (HP2.out.of (heap_set4 _ _ _ _ _ (by omega)))

set_option maxRecDepth 100000 in
set_option maxHeartbeats 2000000 in
theorem con_first (f : Nat) (dp : Int) (hd0 : 1 ≤ dp) (hd6 : dp ≤ 6) (base pb g i : Nat) (ts : List Tok) (gs : List (Nat × Nat)) (en : Int) (w : World) (hK : Tks ts en) (hP : PsAt w pb g i ts en (-1)) (hT : TkM base pb w g ts gs) (hi : i ≤ ts.length) (h1 : isI ts 1 i = false) :
    Calls Tryz.prog 98 #[.pointer (some ⟨pb, 0, none⟩), .int .i64 dp] w (SP ts gs en g pb i w (f + 1) (conR ts en (f + 1) i)) := by
  have HC : Hid (conR ts en (f + 1) i = .bad (hereI ts en i)) := by unfold Hid; rw [conR, if_pos h1]
  have hpl := hP.lt
  have hb0 : Below w.heap.size w (w.alloc (.cells #[.int .i64 0, .slice none 0 0, .slice none 0 0, .slice none 0 0] 37)) := (Below.refl _ _).alloc (Nat.le_refl _) _
  have HB0 : Hid (Below w.heap.size w (w.alloc (.cells #[.int .i64 0, .slice none 0 0, .slice none 0 0, .slice none 0 0] 37))) := hb0
  have HP0 : Hid (PsAt (w.alloc (.cells #[.int .i64 0, .slice none 0 0, .slice none 0 0, .slice none 0 0] 37)) pb g i ts en (-1)) := hP.below hb0
  have HT0 : Hid (TkM base pb (w.alloc (.cells #[.int .i64 0, .slice none 0 0, .slice none 0 0, .slice none 0 0] 37)) g ts gs) := hT.below (hb0.mono (Nat.le_of_lt hpl))
  have HZ0 : Hid (BoxC (w.alloc (.cells #[.int .i64 0, .slice none 0 0, .slice none 0 0, .slice none 0 0] 37)) w.heap.size (.int .i64 0) (.slice none 0 0) (.slice none 0 0) (.slice none 0 0)) := BoxC.new w _ _ _ _
  have HK : Hid (Tks ts en) := hK
  clear hb0 hP hT hK
  go_enter Tryz.func98, Tryz.ntmps98
  go_wp2_with fail
  refine (takeS_bad base pb g i ts gs en 1 _ HP0.out HT0.out hi h1).mono ?_
  rintro e w1 ⟨rfl, hP1, hb1⟩
  obtain ⟨p, hp⟩ : ∃ p, p = hereI ts en i := ⟨_, rfl⟩
  have hp0 : 0 ≤ p := by rw [hp]; exact HK.out.pos i
  rw [← hp] at hP1 HC
  have HP1 : Hid (PsBad w1 pb p) := hP1
  have HZ1 : Hid (BoxC w1 w.heap.size (.int .i64 0) (.slice none 0 0) (.slice none 0 0) (.slice none 0 0)) := (hb1.block _ HZ0.out.lt (by omega)).trans HZ0.out
  have HBt1 : Hid (Bt pb w.heap.size w w1) := (Bt.of_below HB0.out).trans (hb1.mono HB0.out.size)
  obtain ⟨lv, qi, qe, hq⟩ := HP1.out
  obtain ⟨q0, q1, q2, q3⟩ := hq.cells
  obtain ⟨z0, z1, z2, z3⟩ := HZ1.out.cells
  have zf0 := HZ1.out.frz 0
  have zf1 := HZ1.out.frz 1
  have zf2 := HZ1.out.frz 2
  have zf3 := HZ1.out.frz 3
  clear hP1 hb1 hp hq
  go_wp2
  obtain ⟨hVs, hBs⟩ := set4_mem HZ1.out (.int .i64 0) (.slice none 0 0) (.slice none 0 0) (.slice none 0 0) HBt1.out (Nat.le_refl _)
  obtain ⟨s0, s1, s2, s3⟩ := hVs.cells
  refine bodyPost_ret (v := .agg #[.int .i64 0, .slice none 0 0, .slice none 0 0, .slice none 0 0]) (by simp [results, Tryz.results98, go_sem, s0, s1, s2, s3]) rfl ?_
  exact SP.fell hBs HC.out (HP1.out.of (heap_set4 _ _ _ _ _ (by omega)))

set_option maxRecDepth 100000 in
set_option maxHeartbeats 2000000 in
theorem con_kept (f : Nat) (dp : Int) (hd0 : 1 ≤ dp) (hd6 : dp ≤ 6) (base pb g i : Nat) (ts : List Tok) (gs : List (Nat × Nat)) (en : Int) (w : World) (hK : Tks ts en) (hP : PsAt w pb g i ts en (-1)) (hT : TkM base pb w g ts gs) (h1 : isI ts 1 i = true) (h2 : kindI ts i = 2) (h3 : keptB (strOfNums (wordI ts i)).toList = true) :
    Calls Tryz.prog 98 #[.pointer (some ⟨pb, 0, none⟩), .int .i64 dp] w (SP ts gs en g pb i w (f + 1) (conR ts en (f + 1) i)) := by
  have HC : Hid (conR ts en (f + 1) i = .bad (hereI ts en i)) := by unfold Hid; rw [conR, if_neg (by simp [h1]), if_pos h2, if_pos h3]
  have H2 : Hid (kindI ts i = 2) := h2
  have H3 : Hid (keptB (strOfNums (wordI ts i)).toList = true) := h3
  clear h2 h3
  have hpl := hP.lt
  have hb0 : Below w.heap.size w (w.alloc (.cells #[.int .i64 0, .slice none 0 0, .slice none 0 0, .slice none 0 0] 37)) := (Below.refl _ _).alloc (Nat.le_refl _) _
  have HB0 : Hid (Below w.heap.size w (w.alloc (.cells #[.int .i64 0, .slice none 0 0, .slice none 0 0, .slice none 0 0] 37))) := hb0
  have HP0 : Hid (PsAt (w.alloc (.cells #[.int .i64 0, .slice none 0 0, .slice none 0 0, .slice none 0 0] 37)) pb g i ts en (-1)) := hP.below hb0
  have HT0 : Hid (TkM base pb (w.alloc (.cells #[.int .i64 0, .slice none 0 0, .slice none 0 0, .slice none 0 0] 37)) g ts gs) := hT.below (hb0.mono (Nat.le_of_lt hpl))
  have HZ0 : Hid (BoxC (w.alloc (.cells #[.int .i64 0, .slice none 0 0, .slice none 0 0, .slice none 0 0] 37)) w.heap.size (.int .i64 0) (.slice none 0 0) (.slice none 0 0) (.slice none 0 0)) := BoxC.new w _ _ _ _
  have HK : Hid (Tks ts en) := hK
  clear hb0 hP hT hK
  have hlt := isI_lt h1
  have hw1 : 1 ≤ (wordI ts i).length := HK.out.wd i (.inl h1)
  have hw6 : (wordI ts i).length ≤ 6 := HK.out.sh i
  obtain ⟨ta0, tc, hx, _, _, _⟩ := HT0.out.word hlt
  obtain ⟨tg, htg⟩ : ∃ tg, tg = (gs.getD i (0, 0)).1 := ⟨_, rfl⟩
  have hne0 : (ts.getD i Tok.zero).text ≠ [] := fun e => by rw [show wordI ts i = [] from e] at hw1; simp at hw1
  have hxc := txv_cons (t := ts.getD i Tok.zero) (gs.getD i (0, 0)) hne0
  rw [hx] at hxc
  simp only [Value.slice.injEq] at hxc
  obtain ⟨hxa, hxb, hxd⟩ := hxc
  clear hxb hxd
  obtain ⟨tn, htn⟩ : ∃ tn, tn = (wordI ts i).length := ⟨_, rfl⟩
  rw [hxa, ← htg] at hx
  have HX : Hid (txv (ts.getD i Tok.zero) (gs.getD i (0, 0)) = .slice (some ⟨tg, 0, none⟩) (wordI ts i).length tc) := hx
  have HTN : Hid (tn = (wordI ts i).length) := htn
  rw [← htn] at hw1 hw6
  obtain ⟨kd, hkd⟩ : ∃ kd, kd = kindI ts i := ⟨_, rfl⟩
  have HKD : Hid (kd = kindI ts i) := hkd
  clear hx htn hkd hxa hne0 htg
  go_enter Tryz.func98, Tryz.ntmps98
  go_wp2_with fail
  refine (takeS_ok base pb g i ts gs en 1 _ HP0.out HT0.out HK.out.len h1).mono ?_
  rintro e w1 ⟨rfl, hP1, hb1⟩
  rw [HX.out, ← HTN.out]
  have HP1 : Hid (PsAt w1 pb g (i + 1) ts en (-1)) := hP1
  have HT1 : Hid (TkM base pb w1 g ts gs) := HT0.out.bt hb1 (by simp; omega)
  have HZ1 : Hid (BoxC w1 w.heap.size (.int .i64 0) (.slice none 0 0) (.slice none 0 0) (.slice none 0 0)) := (hb1.block _ HZ0.out.lt (by omega)).trans HZ0.out
  have HBt1 : Hid (Bt pb w.heap.size w w1) := (Bt.of_below HB0.out).trans (hb1.mono HB0.out.size)
  have hs1 : w.heap.size < w1.heap.size := HZ1.out.lt
  have HRd1 : Hid (Rd 0 pb w1 (some ⟨tg, 0, none⟩) tn tc (wordI ts i)) := by
    obtain ⟨a', c', hx', _, hr, _⟩ := HT1.out.word hlt
    rw [HX.out] at hx'
    simp only [Value.slice.injEq, true_and] at hx'
    obtain ⟨rfl, rfl⟩ := hx'
    unfold Hid; rw [HTN.out]; exact hr
  obtain ⟨qa, qc, hq, _, _, _⟩ := hP1
  obtain ⟨q0, q1, q2, q3⟩ := hq.cells
  clear hb1 hq
  go_wp2_with fail
  refine (l2kind_any (some ⟨tg, 0, none⟩) tn tc (wordI ts i) w1 HRd1.out (by omega) hw1).mono ?_
  rintro e w2 ⟨rfl, hb2⟩
  rw [show kindW (strOfNums (wordI ts i)).toList = kd from HKD.out.symm]
  obtain ⟨W3, HW3⟩ : ∃ W3, Hid (W3 = w2.alloc (.cells #[.int .i64 kd, .slice none 0 0, .slice none 0 0, .slice none 0 0] 37)) := ⟨_, rfl⟩
  have hb3' : Below w2.heap.size w2 W3 := by rw [HW3.out]; exact (Below.refl _ _).alloc (Nat.le_refl _) _
  have hb3 : Below w1.heap.size w1 W3 := hb2.trans (hb3'.mono hb2.size)
  have HO3 : Hid (BoxC W3 w2.heap.size (.int .i64 kd) (.slice none 0 0) (.slice none 0 0) (.slice none 0 0)) := by unfold Hid; rw [HW3.out]; exact BoxC.new w2 _ _ _ _
  have hs2 : w1.heap.size ≤ w2.heap.size := hb2.size
  have hs3 : w2.heap.size < W3.heap.size := HO3.out.lt
  have HP3 : Hid (PsAt W3 pb g (i + 1) ts en (-1)) := HP1.out.below hb3
  have HT3 : Hid (TkM base pb W3 g ts gs) := HT1.out.below (hb3.mono (by omega))
  have HZ3 : Hid (BoxC W3 w.heap.size (.int .i64 0) (.slice none 0 0) (.slice none 0 0) (.slice none 0 0)) := HZ1.out.below hb3 hs1
  have HBt3 : Hid (Bt pb w.heap.size w W3) := HBt1.out.trans (Bt.of_below (hb3.mono (by omega)))
  have HRd3 : Hid (Rd 0 pb W3 (some ⟨tg, 0, none⟩) tn tc (wordI ts i)) := HRd1.out.below hb3 (by omega)
  clear hb2 hb3 hb3' q0 q1 q2 q3 HRd1
  go_upto_region 7 with fail
  try dsimp only
  rw [← HW3.out]
  obtain ⟨o0, o1, o2, o3⟩ := HO3.out.cells
  rw [show kd = 2 from HKD.out.trans H2.out] at o0 HO3
  go_wp2_with fail
  refine (specKept_any (some ⟨tg, 0, none⟩) tn tc (wordI ts i) W3 HRd3.out (by omega)).mono ?_
  rintro e w4 ⟨rfl, hb4⟩
  rw [H3.out]
  have HP4 : Hid (PsAt w4 pb g (i + 1) ts en (-1)) := HP3.out.below hb4
  have HT4 : Hid (TkM base pb w4 g ts gs) := HT3.out.below (hb4.mono (by omega))
  have HO4' : Hid (BoxC w4 w2.heap.size (.int .i64 2) (.slice none 0 0) (.slice none 0 0) (.slice none 0 0)) := HO3.out.below hb4 hs3
  have HZ4' : Hid (BoxC w4 w.heap.size (.int .i64 0) (.slice none 0 0) (.slice none 0 0) (.slice none 0 0)) := HZ3.out.below hb4 (by omega)
  have HBt4' : Hid (Bt pb w.heap.size w w4) := HBt3.out.trans (Bt.of_below (hb4.mono (by omega)))
  have HRd4' : Hid (Rd 0 pb w4 (some ⟨tg, 0, none⟩) tn tc (wordI ts i)) := HRd3.out.below hb4 (by omega)
  have hs4 : W3.heap.size ≤ w4.heap.size := hb4.size
  clear hb4 o0 o1 o2 o3
  obtain ⟨qa, qc, hq, qr⟩ := HP4.out
  have HQ : Hid (BoxQ w4 pb (.slice qa ts.length qc) ((i + 1 : Nat) : Int) en (-1)) := hq
  obtain ⟨qi, hqi⟩ : ∃ qi : Int, qi = ((i + 1 : Nat) : Int) := ⟨_, rfl⟩
  rw [← hqi] at hq
  have hwr : IntKind.i64.wrap (qi - 1) = (i : Int) := by rw [hqi, show ((i + 1 : Nat) : Int) - 1 = (i : Int) by omega]; exact wrap64_id (by have := HK.out.len; omega)
  obtain ⟨q0, q1, q2, q3⟩ := hq.cells
  have qf := hq.frz 1
  have HPi : Hid (PsAt (w4.setCell ⟨pb, 1, none⟩ (.int .i64 i)) pb g i ts en (-1)) := ⟨qa, qc, hq.set1 _, qr⟩
  have HTi : Hid (TkM base pb (w4.setCell ⟨pb, 1, none⟩ (.int .i64 i)) g ts gs) := HT4.out.keep (fun q _ hq => Below.heap_setCell _ _ _ _ (by show q ≠ pb; omega))
  clear hq hqi
  go_wp2_with fail
  refine (fail_any base pb g i ts gs en _ HPi.out HTi.out (Nat.le_of_lt hlt)).mono ?_
  rintro e W4 ⟨rfl, hP5, hb5⟩
  have hb5' : Bt pb w4.heap.size w4 W4 := ((Bt.refl pb w4.heap.size w4).set (p := ⟨pb, 1, none⟩) (.inr rfl) _).trans (hb5.mono (by simp))
  have HP5 : Hid (PsBad W4 pb (hereI ts en i)) := hP5
  have HO4 : Hid (BoxC W4 w2.heap.size (.int .i64 2) (.slice none 0 0) (.slice none 0 0) (.slice none 0 0)) := (hb5'.block _ HO4'.out.lt (by omega)).trans HO4'.out
  have HZ4 : Hid (BoxC W4 w.heap.size (.int .i64 0) (.slice none 0 0) (.slice none 0 0) (.slice none 0 0)) := (hb5'.block _ HZ4'.out.lt (by omega)).trans HZ4'.out
  have HBt4 : Hid (Bt pb w.heap.size w W4) := HBt4'.out.trans (hb5'.mono HBt4'.out.size)
  have HRd4 : Hid (Rd 0 pb W4 (some ⟨tg, 0, none⟩) tn tc (wordI ts i)) := HRd4'.out.below (hb5'.below (by omega) (Nat.le_refl _)) (Nat.le_refl _)
  have hp4 : pb ≤ W4.heap.size := by have := HZ4.out.lt; omega
  clear hP5 hb5 hb5' q0 q1 q2 q3 qf hwr
  obtain ⟨i0, hi0, hz0, hz1, hz2⟩ := info_parts Tryz.info5
  have HON : Hid (OwnB W4.heap.size (W4.alloc (.cells #[] 5)) (.slice (some ⟨W4.heap.size, 0, none⟩) 0 0) []) := ownB_made W4 (Nat.le_refl _)
  have HLw : Hid ((wordI ts i).length = tn) := HTN.out.symm
  have HNews : Hid (∀ j u, ((wordI ts i).map (Value.int .u8))[j]? = some u → (W4.alloc (.cells #[] 5)).cell? ((⟨tg, 0, none⟩ : Addr).add j) = some u) := rd_news (HRd4.out.below ((Below.refl W4.heap.size W4).alloc (Nat.le_refl _) _) hp4)
  go_upto_region 12 with (at_builtin; refine wpList_append_own _ rfl (.tmp 38) (.tmp 39) 22 rfl W4.heap.size 5 i0 (.int .u8 0) 1 1 Tryz.underlying22 hi0 hz0 hz1 hz2 rfl (by decide) (.slice (some ⟨W4.heap.size, 0, none⟩) 0 0) 0 [] rfl HON.out ⟨tg, 0, none⟩ tn tc ((wordI ts i).map (Value.int .u8)) rfl (by rw [List.length_map, HLw.out, Nat.mul_one]) HNews.out (oneCB _) (by unfold maxLen; omega) (by omega) (by simp) ?_; intro v5 w6 hown hgrow hnil; have HF : Hid (OwnB W4.heap.size w6 v5 ([] ++ wordI ts i) ∧ Keep5 W4.heap.size _ w6) := ownB_app HON.out (by simp) (by rw [HLw.out]; exact hown) hgrow; clear hown hgrow hnil; have HB6 : Hid (Below W4.heap.size W4 w6) := ((Below.refl _ _).alloc (Nat.le_refl _) _).trans HF.out.2.1; obtain ⟨xa, xn, xc, rfl⟩ := OwnB.isSlice HF.out.1; have HO6 : Hid (BoxC w6 w2.heap.size (.int .i64 2) (.slice none 0 0) (.slice none 0 0) (.slice none 0 0)) := HO4.out.below HB6.out HO4.out.lt; obtain ⟨_, o16, _, _⟩ := HO6.out.cells; have of1 := HO6.out.frz 1)
  obtain ⟨W7, HW7⟩ : ∃ W, Hid (W = w6.setCell ⟨w2.heap.size, 1, none⟩ (.slice xa xn xc)) := ⟨_, rfl⟩
  rw [← HW7.out]
  have hs6 := HB6.out.size
  have HO7 : Hid (BoxC W7 w2.heap.size (.int .i64 2) (.slice xa xn xc) (.slice none 0 0) (.slice none 0 0)) := by unfold Hid; rw [HW7.out]; exact HO6.out.set1 _
  have hk7 : ∀ q, q < W4.heap.size → q ≠ w2.heap.size → W7.heap[q]? = W4.heap[q]? := fun q h1 h2 => by rw [HW7.out, Below.heap_setCell w6 ⟨w2.heap.size, 1, none⟩ _ q h2]; exact HB6.out.block q h1
  have HZ7 : Hid (BoxC W7 w.heap.size (.int .i64 0) (.slice none 0 0) (.slice none 0 0) (.slice none 0 0)) := (hk7 _ HZ4.out.lt (by omega)).trans HZ4.out
  have HBt7 : Hid (Bt pb w.heap.size w W7) := by unfold Hid; rw [HW7.out]; exact (HBt4.out.trans (Bt.of_below (HB6.out.mono HBt4.out.size))).set (.inl (by show w.heap.size ≤ w2.heap.size; omega)) _
  clear o16 of1
  obtain ⟨o0, o1, o2, o3⟩ := HO7.out.cells
  obtain ⟨z0, z1, z2, z3⟩ := HZ7.out.cells
  have zf0 := HZ7.out.frz 0
  have zf1 := HZ7.out.frz 1
  have zf2 := HZ7.out.frz 2
  have zf3 := HZ7.out.frz 3
  go_wp2
  obtain ⟨hVs, hBs⟩ := set4_mem HZ7.out (.int .i64 2) (.slice xa xn xc) (.slice none 0 0) (.slice none 0 0) HBt7.out (Nat.le_refl _)
  obtain ⟨s0, s1, s2, s3⟩ := hVs.cells
  refine bodyPost_ret (v := .agg #[.int .i64 2, .slice xa xn xc, .slice none 0 0, .slice none 0 0]) (by simp [results, Tryz.results98, go_sem, s0, s1, s2, s3]) rfl ?_
  exact SP.fell hBs HC.out ((HP5.out.of (hk7 _ (by have := HP5.out.lt; omega) (by omega))).of (heap_set4 _ _ _ _ _ (by omega)))

/-- A name in memory of the call's own. -/
theorem OwnR.nameS {base : Nat} {ts : List Tok} {gs : List (Nat × Nat)} {i j s : Nat} {w : World} {d : Nat} {v : Value} {zs : List Int} (hO : OwnB base w v zs) (hby : ∀ i, 0 ≤ zs.getD i 0 ∧ zs.getD i 0 ≤ 255) (hs : s ≤ base) :
    ∃ L, OwnR ts gs i j s w (d + 1) (.agg #[.int .i64 2, v, .slice none 0 0, .slice none 0 0]) (.mk 2 zs [] []) L ∧ ∀ x ∈ L, base ≤ x.1.block := by
  obtain ⟨a, c, b, rfl, hw, hf⟩ := hO.own hby
  have nilB : ∀ b o, OwB w none 0 0 [] b o := fun b o => ⟨rfl, ⟨by simp, by omega⟩, by simp, .inl rfl⟩
  have e : leafB 0 0 0 ++ leafK 0 0 (fun _ => []) 0 = [] := rfl
  have hx : ∀ x ∈ leafB b 0 zs.length ++ (leafB 0 0 0 ++ leafK 0 0 (fun _ => []) 0), (base ≤ x.1.block ∧ x.1.block < w.heap.size) ∧ w.frozen? x.1 = false := by
    intro x hx
    rw [e, List.append_nil] at hx
    obtain ⟨q, hq, rfl⟩ := mem_leafB.1 hx
    rcases hf with h | ⟨_, h1, h2, h3⟩
    · omega
    · exact ⟨⟨h1, h2⟩, h3 _⟩
  refine ⟨_, ⟨⟨a, zs.length, c, none, 0, 0, none, 0, 0, b, 0, 0, 0, 0, 0, fun _ => [], rfl, hw, nilB _ _, ⟨rfl, ⟨by simp, by omega⟩, .inl rfl⟩, rfl⟩, ?_, fun x h => (hx x h).2, fun x h => .inl ⟨Nat.le_trans hs (hx x h).1.1, (hx x h).1.2⟩⟩, fun x h => (hx x h).1.1⟩
  rw [e, List.append_nil]
  exact leafB_nodup _ _ _

theorem OwnR.toS {ts : List Tok} {gs : List (Nat × Nat)} {i j s : Nat} {w w' : World} {d : Nat} {v : Value} {c : CN} {L : List (Addr × IntKind)} (h : OwnR ts gs i j s w d v c L) (hk : ∀ x ∈ L, w'.heap[x.1.block]? = w.heap[x.1.block]?) (hs : w.heap.size ≤ w'.heap.size) : OwnR ts gs i j s w' d v c L :=
  ⟨h.ow.keep hk, h.nd, fun x hx => (World.frozen?_of_block (w := w) (hk x hx)).trans (h.fr x hx), h.us.mono (Nat.le_refl _) (Nat.le_refl _) (Nat.le_refl _) hs⟩

theorem OwnR.leafS (ts : List Tok) (gs : List (Nat × Nat)) (i j s : Nat) (w : World) (d : Nat) (k : Int) : OwnR ts gs i j s w (d + 1) (.agg #[.int .i64 k, .slice none 0 0, .slice none 0 0, .slice none 0 0]) (.mk k [] [] []) [] := by
  have nilB : ∀ b o, OwB w none 0 0 [] b o := fun b o => ⟨rfl, ⟨by simp, by omega⟩, by simp, .inl rfl⟩
  exact ⟨⟨none, 0, 0, none, 0, 0, none, 0, 0, 0, 0, 0, 0, 0, 0, fun _ => [], rfl, nilB _ _, nilB _ _, ⟨rfl, ⟨by simp, by omega⟩, .inl rfl⟩, rfl⟩, by simp, fun x hx => by simp at hx, Use.nil _ _ _ _ _ _⟩

set_option maxRecDepth 100000 in
set_option maxHeartbeats 2000000 in
theorem con_name (f : Nat) (dp : Int) (hd0 : 1 ≤ dp) (hd6 : dp ≤ 6) (base pb g i : Nat) (ts : List Tok) (gs : List (Nat × Nat)) (en : Int) (w : World) (hK : Tks ts en) (hP : PsAt w pb g i ts en (-1)) (hT : TkM base pb w g ts gs) (h1 : isI ts 1 i = true) (h2 : kindI ts i = 2) (h3 : keptB (strOfNums (wordI ts i)).toList = false) :
    Calls Tryz.prog 98 #[.pointer (some ⟨pb, 0, none⟩), .int .i64 dp] w (SP ts gs en g pb i w (f + 1) (conR ts en (f + 1) i)) := by
  have HC : Hid (conR ts en (f + 1) i = .ok (.mk 2 (wordI ts i) [] []) (i + 1)) := by unfold Hid; rw [conR, if_neg (by simp [h1]), if_pos h2, if_neg (by simp [h3])]
  have H2 : Hid (kindI ts i = 2) := h2
  have H3 : Hid (keptB (strOfNums (wordI ts i)).toList = false) := h3
  clear h2 h3
  have hpl := hP.lt
  have hb0 : Below w.heap.size w (w.alloc (.cells #[.int .i64 0, .slice none 0 0, .slice none 0 0, .slice none 0 0] 37)) := (Below.refl _ _).alloc (Nat.le_refl _) _
  have HB0 : Hid (Below w.heap.size w (w.alloc (.cells #[.int .i64 0, .slice none 0 0, .slice none 0 0, .slice none 0 0] 37))) := hb0
  have HP0 : Hid (PsAt (w.alloc (.cells #[.int .i64 0, .slice none 0 0, .slice none 0 0, .slice none 0 0] 37)) pb g i ts en (-1)) := hP.below hb0
  have HT0 : Hid (TkM base pb (w.alloc (.cells #[.int .i64 0, .slice none 0 0, .slice none 0 0, .slice none 0 0] 37)) g ts gs) := hT.below (hb0.mono (Nat.le_of_lt hpl))
  have HZ0 : Hid (BoxC (w.alloc (.cells #[.int .i64 0, .slice none 0 0, .slice none 0 0, .slice none 0 0] 37)) w.heap.size (.int .i64 0) (.slice none 0 0) (.slice none 0 0) (.slice none 0 0)) := BoxC.new w _ _ _ _
  have HK : Hid (Tks ts en) := hK
  clear hb0 hP hT hK
  have hlt := isI_lt h1
  have hw1 : 1 ≤ (wordI ts i).length := HK.out.wd i (.inl h1)
  have hw6 : (wordI ts i).length ≤ 6 := HK.out.sh i
  obtain ⟨ta0, tc, hx, _, _, _⟩ := HT0.out.word hlt
  obtain ⟨tg, htg⟩ : ∃ tg, tg = (gs.getD i (0, 0)).1 := ⟨_, rfl⟩
  have hne0 : (ts.getD i Tok.zero).text ≠ [] := fun e => by rw [show wordI ts i = [] from e] at hw1; simp at hw1
  have hxc := txv_cons (t := ts.getD i Tok.zero) (gs.getD i (0, 0)) hne0
  rw [hx] at hxc
  simp only [Value.slice.injEq] at hxc
  obtain ⟨hxa, hxb, hxd⟩ := hxc
  clear hxb hxd
  obtain ⟨tn, htn⟩ : ∃ tn, tn = (wordI ts i).length := ⟨_, rfl⟩
  rw [hxa, ← htg] at hx
  have HX : Hid (txv (ts.getD i Tok.zero) (gs.getD i (0, 0)) = .slice (some ⟨tg, 0, none⟩) (wordI ts i).length tc) := hx
  have HTN : Hid (tn = (wordI ts i).length) := htn
  rw [← htn] at hw1 hw6
  obtain ⟨kd, hkd⟩ : ∃ kd, kd = kindI ts i := ⟨_, rfl⟩
  have HKD : Hid (kd = kindI ts i) := hkd
  clear hx htn hkd hxa hne0 htg
  go_enter Tryz.func98, Tryz.ntmps98
  go_wp2_with fail
  refine (takeS_ok base pb g i ts gs en 1 _ HP0.out HT0.out HK.out.len h1).mono ?_
  rintro e w1 ⟨rfl, hP1, hb1⟩
  rw [HX.out, ← HTN.out]
  have HP1 : Hid (PsAt w1 pb g (i + 1) ts en (-1)) := hP1
  have HT1 : Hid (TkM base pb w1 g ts gs) := HT0.out.bt hb1 (by simp; omega)
  have HZ1 : Hid (BoxC w1 w.heap.size (.int .i64 0) (.slice none 0 0) (.slice none 0 0) (.slice none 0 0)) := (hb1.block _ HZ0.out.lt (by omega)).trans HZ0.out
  have HBt1 : Hid (Bt pb w.heap.size w w1) := (Bt.of_below HB0.out).trans (hb1.mono HB0.out.size)
  have hs1 : w.heap.size < w1.heap.size := HZ1.out.lt
  have HRd1 : Hid (Rd 0 pb w1 (some ⟨tg, 0, none⟩) tn tc (wordI ts i)) := by
    obtain ⟨a', c', hx', _, hr, _⟩ := HT1.out.word hlt
    rw [HX.out] at hx'
    simp only [Value.slice.injEq, true_and] at hx'
    obtain ⟨rfl, rfl⟩ := hx'
    unfold Hid; rw [HTN.out]; exact hr
  obtain ⟨qa, qc, hq, _, _, _⟩ := hP1
  obtain ⟨q0, q1, q2, q3⟩ := hq.cells
  clear hb1 hq
  go_wp2_with fail
  refine (l2kind_any (some ⟨tg, 0, none⟩) tn tc (wordI ts i) w1 HRd1.out (by omega) hw1).mono ?_
  rintro e w2 ⟨rfl, hb2⟩
  rw [show kindW (strOfNums (wordI ts i)).toList = kd from HKD.out.symm]
  obtain ⟨W3, HW3⟩ : ∃ W3, Hid (W3 = w2.alloc (.cells #[.int .i64 kd, .slice none 0 0, .slice none 0 0, .slice none 0 0] 37)) := ⟨_, rfl⟩
  have hb3' : Below w2.heap.size w2 W3 := by rw [HW3.out]; exact (Below.refl _ _).alloc (Nat.le_refl _) _
  have hb3 : Below w1.heap.size w1 W3 := hb2.trans (hb3'.mono hb2.size)
  have HO3 : Hid (BoxC W3 w2.heap.size (.int .i64 kd) (.slice none 0 0) (.slice none 0 0) (.slice none 0 0)) := by unfold Hid; rw [HW3.out]; exact BoxC.new w2 _ _ _ _
  have hs2 : w1.heap.size ≤ w2.heap.size := hb2.size
  have hs3 : w2.heap.size < W3.heap.size := HO3.out.lt
  have HP3 : Hid (PsAt W3 pb g (i + 1) ts en (-1)) := HP1.out.below hb3
  have HT3 : Hid (TkM base pb W3 g ts gs) := HT1.out.below (hb3.mono (by omega))
  have HZ3 : Hid (BoxC W3 w.heap.size (.int .i64 0) (.slice none 0 0) (.slice none 0 0) (.slice none 0 0)) := HZ1.out.below hb3 hs1
  have HBt3 : Hid (Bt pb w.heap.size w W3) := HBt1.out.trans (Bt.of_below (hb3.mono (by omega)))
  have HRd3 : Hid (Rd 0 pb W3 (some ⟨tg, 0, none⟩) tn tc (wordI ts i)) := HRd1.out.below hb3 (by omega)
  clear hb2 hb3 hb3' q0 q1 q2 q3 HRd1
  go_upto_region 7 with fail
  try dsimp only
  rw [← HW3.out]
  obtain ⟨o0, o1, o2, o3⟩ := HO3.out.cells
  rw [show kd = 2 from HKD.out.trans H2.out] at o0 HO3
  go_wp2_with fail
  refine (specKept_any (some ⟨tg, 0, none⟩) tn tc (wordI ts i) W3 HRd3.out (by omega)).mono ?_
  rintro e w4 ⟨rfl, hb4⟩
  rw [H3.out]
  have HP4 : Hid (PsAt w4 pb g (i + 1) ts en (-1)) := HP3.out.below hb4
  have HT4 : Hid (TkM base pb w4 g ts gs) := HT3.out.below (hb4.mono (by omega))
  have HO4' : Hid (BoxC w4 w2.heap.size (.int .i64 2) (.slice none 0 0) (.slice none 0 0) (.slice none 0 0)) := HO3.out.below hb4 hs3
  have HZ4' : Hid (BoxC w4 w.heap.size (.int .i64 0) (.slice none 0 0) (.slice none 0 0) (.slice none 0 0)) := HZ3.out.below hb4 (by omega)
  have HBt4' : Hid (Bt pb w.heap.size w w4) := HBt3.out.trans (Bt.of_below (hb4.mono (by omega)))
  have HRd4' : Hid (Rd 0 pb w4 (some ⟨tg, 0, none⟩) tn tc (wordI ts i)) := HRd3.out.below hb4 (by omega)
  have hs4 : W3.heap.size ≤ w4.heap.size := hb4.size
  clear hb4 o0 o1 o2 o3
  obtain ⟨W4, HW4⟩ : ∃ W, Hid (W = w4) := ⟨_, rfl⟩
  rw [← HW4.out] at HO4' HZ4' HBt4' HRd4' HP4 hs4 ⊢
  have HO4 := HO4'
  have HZ4 := HZ4'
  have HBt4 := HBt4'
  have HRd4 := HRd4'
  have hp4 : pb ≤ W4.heap.size := by have := HZ4.out.lt; omega
  obtain ⟨i0, hi0, hz0, hz1, hz2⟩ := info_parts Tryz.info5
  have HON : Hid (OwnB W4.heap.size (W4.alloc (.cells #[] 5)) (.slice (some ⟨W4.heap.size, 0, none⟩) 0 0) []) := ownB_made W4 (Nat.le_refl _)
  have HLw : Hid ((wordI ts i).length = tn) := HTN.out.symm
  have HNews : Hid (∀ j u, ((wordI ts i).map (Value.int .u8))[j]? = some u → (W4.alloc (.cells #[] 5)).cell? ((⟨tg, 0, none⟩ : Addr).add j) = some u) := rd_news (HRd4.out.below ((Below.refl W4.heap.size W4).alloc (Nat.le_refl _) _) hp4)
  go_upto_region 12 with (at_builtin; refine wpList_append_own _ rfl (.tmp 38) (.tmp 39) 22 rfl W4.heap.size 5 i0 (.int .u8 0) 1 1 Tryz.underlying22 hi0 hz0 hz1 hz2 rfl (by decide) (.slice (some ⟨W4.heap.size, 0, none⟩) 0 0) 0 [] rfl HON.out ⟨tg, 0, none⟩ tn tc ((wordI ts i).map (Value.int .u8)) rfl (by rw [List.length_map, HLw.out, Nat.mul_one]) HNews.out (oneCB _) (by unfold maxLen; omega) (by omega) (by simp) ?_; intro v5 w6 hown hgrow hnil; have HF : Hid (OwnB W4.heap.size w6 v5 ([] ++ wordI ts i) ∧ Keep5 W4.heap.size _ w6) := ownB_app HON.out (by simp) (by rw [HLw.out]; exact hown) hgrow; clear hown hgrow hnil; have HB6 : Hid (Below W4.heap.size W4 w6) := ((Below.refl _ _).alloc (Nat.le_refl _) _).trans HF.out.2.1; obtain ⟨xa, xn, xc, rfl⟩ := OwnB.isSlice HF.out.1; have HO6 : Hid (BoxC w6 w2.heap.size (.int .i64 2) (.slice none 0 0) (.slice none 0 0) (.slice none 0 0)) := HO4.out.below HB6.out HO4.out.lt; obtain ⟨_, o16, _, _⟩ := HO6.out.cells; have of1 := HO6.out.frz 1)
  obtain ⟨W7, HW7⟩ : ∃ W, Hid (W = w6.setCell ⟨w2.heap.size, 1, none⟩ (.slice xa xn xc)) := ⟨_, rfl⟩
  rw [← HW7.out]
  have hs6 := HB6.out.size
  have HO7 : Hid (BoxC W7 w2.heap.size (.int .i64 2) (.slice xa xn xc) (.slice none 0 0) (.slice none 0 0)) := by unfold Hid; rw [HW7.out]; exact HO6.out.set1 _
  have hk7 : ∀ q, q < W4.heap.size → q ≠ w2.heap.size → W7.heap[q]? = W4.heap[q]? := fun q h1 h2 => by rw [HW7.out, Below.heap_setCell w6 ⟨w2.heap.size, 1, none⟩ _ q h2]; exact HB6.out.block q h1
  have HZ7 : Hid (BoxC W7 w.heap.size (.int .i64 0) (.slice none 0 0) (.slice none 0 0) (.slice none 0 0)) := (hk7 _ HZ4.out.lt (by omega)).trans HZ4.out
  have HBt7 : Hid (Bt pb w.heap.size w W7) := by unfold Hid; rw [HW7.out]; exact (HBt4.out.trans (Bt.of_below (HB6.out.mono HBt4.out.size))).set (.inl (by show w.heap.size ≤ w2.heap.size; omega)) _
  clear o16 of1
  obtain ⟨o0, o1, o2, o3⟩ := HO7.out.cells
  obtain ⟨z0, z1, z2, z3⟩ := HZ7.out.cells
  have zf0 := HZ7.out.frz 0
  have zf1 := HZ7.out.frz 1
  have zf2 := HZ7.out.frz 2
  have zf3 := HZ7.out.frz 3
  go_wp2
  obtain ⟨hVs, hBs⟩ := set4_mem HZ7.out (.int .i64 2) (.slice xa xn xc) (.slice none 0 0) (.slice none 0 0) HBt7.out (Nat.le_refl _)
  obtain ⟨s0, s1, s2, s3⟩ := hVs.cells
  refine bodyPost_ret (v := .agg #[.int .i64 2, .slice xa xn xc, .slice none 0 0, .slice none 0 0]) (by simp [results, Tryz.results98, go_sem, s0, s1, s2, s3]) rfl ?_
  have hO6 : OwnB W4.heap.size w6 (.slice xa xn xc) (wordI ts i) := HF.out.1
  obtain ⟨L, hL, hge⟩ := OwnR.nameS (ts := ts) (gs := gs) (i := i) (j := i + 1) (s := w.heap.size) (d := f) hO6 HRd4.out.byte HBt4.out.size
  have hL7 : OwnR ts gs i (i + 1) w.heap.size W7 (f + 1) _ _ L := hL.toS (fun x hx => by rw [HW7.out]; exact Below.heap_setCell w6 ⟨w2.heap.size, 1, none⟩ _ _ (by have := hge x hx; have := HO4.out.lt; show _ ≠ w2.heap.size; omega)) (by rw [HW7.out]; simp)
  have hL8 := hL7.toS (w' := ((((W7.setCell ⟨w.heap.size, 0, none⟩ (.int .i64 2)).setCell ⟨w.heap.size, 1, none⟩ (.slice xa xn xc)).setCell ⟨w.heap.size, 2, none⟩ (.slice none 0 0)).setCell ⟨w.heap.size, 3, none⟩ (.slice none 0 0))) (fun x hx => heap_set4 _ _ _ _ _ (by have := hge x hx; have := HZ4.out.lt; omega)) (by simp)
  exact SP.good hBs HC.out hL8 ((HP4.out.of (hk7 _ (by omega) (by omega))).of (heap_set4 _ _ _ _ _ (by omega)))

set_option maxRecDepth 100000 in
set_option maxHeartbeats 2000000 in
theorem con_leaf (f : Nat) (dp : Int) (hd0 : 1 ≤ dp) (hd6 : dp ≤ 6) (base pb g i : Nat) (ts : List Tok) (gs : List (Nat × Nat)) (en : Int) (w : World) (hK : Tks ts en) (hP : PsAt w pb g i ts en (-1)) (hT : TkM base pb w g ts gs) (h1 : isI ts 1 i = true) (h2 : kindI ts i ≠ 2) (h3 : kidN (kindI ts i) = 0) :
    Calls Tryz.prog 98 #[.pointer (some ⟨pb, 0, none⟩), .int .i64 dp] w (SP ts gs en g pb i w (f + 1) (conR ts en (f + 1) i)) := by
  have HC : Hid (conR ts en (f + 1) i = .ok (.mk (kindI ts i) [] [] []) (i + 1)) := by unfold Hid; rw [conR, if_neg (by simp [h1]), if_neg h2, if_pos h3]
  have H2 : Hid (kindI ts i ≠ 2) := h2
  have H3 : Hid (kidN (kindI ts i) = 0) := h3
  clear h2 h3
  have hpl := hP.lt
  have hb0 : Below w.heap.size w (w.alloc (.cells #[.int .i64 0, .slice none 0 0, .slice none 0 0, .slice none 0 0] 37)) := (Below.refl _ _).alloc (Nat.le_refl _) _
  have HB0 : Hid (Below w.heap.size w (w.alloc (.cells #[.int .i64 0, .slice none 0 0, .slice none 0 0, .slice none 0 0] 37))) := hb0
  have HP0 : Hid (PsAt (w.alloc (.cells #[.int .i64 0, .slice none 0 0, .slice none 0 0, .slice none 0 0] 37)) pb g i ts en (-1)) := hP.below hb0
  have HT0 : Hid (TkM base pb (w.alloc (.cells #[.int .i64 0, .slice none 0 0, .slice none 0 0, .slice none 0 0] 37)) g ts gs) := hT.below (hb0.mono (Nat.le_of_lt hpl))
  have HZ0 : Hid (BoxC (w.alloc (.cells #[.int .i64 0, .slice none 0 0, .slice none 0 0, .slice none 0 0] 37)) w.heap.size (.int .i64 0) (.slice none 0 0) (.slice none 0 0) (.slice none 0 0)) := BoxC.new w _ _ _ _
  have HK : Hid (Tks ts en) := hK
  clear hb0 hP hT hK
  have hlt := isI_lt h1
  have hw1 : 1 ≤ (wordI ts i).length := HK.out.wd i (.inl h1)
  have hw6 : (wordI ts i).length ≤ 6 := HK.out.sh i
  obtain ⟨ta0, tc, hx, _, _, _⟩ := HT0.out.word hlt
  obtain ⟨tg, htg⟩ : ∃ tg, tg = (gs.getD i (0, 0)).1 := ⟨_, rfl⟩
  have hne0 : (ts.getD i Tok.zero).text ≠ [] := fun e => by rw [show wordI ts i = [] from e] at hw1; simp at hw1
  have hxc := txv_cons (t := ts.getD i Tok.zero) (gs.getD i (0, 0)) hne0
  rw [hx] at hxc
  simp only [Value.slice.injEq] at hxc
  obtain ⟨hxa, hxb, hxd⟩ := hxc
  clear hxb hxd
  obtain ⟨tn, htn⟩ : ∃ tn, tn = (wordI ts i).length := ⟨_, rfl⟩
  rw [hxa, ← htg] at hx
  have HX : Hid (txv (ts.getD i Tok.zero) (gs.getD i (0, 0)) = .slice (some ⟨tg, 0, none⟩) (wordI ts i).length tc) := hx
  have HTN : Hid (tn = (wordI ts i).length) := htn
  rw [← htn] at hw1 hw6
  obtain ⟨kd, hkd⟩ : ∃ kd, kd = kindI ts i := ⟨_, rfl⟩
  have HKD : Hid (kd = kindI ts i) := hkd
  clear hx htn hkd hxa hne0 htg
  go_enter Tryz.func98, Tryz.ntmps98
  go_wp2_with fail
  refine (takeS_ok base pb g i ts gs en 1 _ HP0.out HT0.out HK.out.len h1).mono ?_
  rintro e w1 ⟨rfl, hP1, hb1⟩
  rw [HX.out, ← HTN.out]
  have HP1 : Hid (PsAt w1 pb g (i + 1) ts en (-1)) := hP1
  have HT1 : Hid (TkM base pb w1 g ts gs) := HT0.out.bt hb1 (by simp; omega)
  have HZ1 : Hid (BoxC w1 w.heap.size (.int .i64 0) (.slice none 0 0) (.slice none 0 0) (.slice none 0 0)) := (hb1.block _ HZ0.out.lt (by omega)).trans HZ0.out
  have HBt1 : Hid (Bt pb w.heap.size w w1) := (Bt.of_below HB0.out).trans (hb1.mono HB0.out.size)
  have hs1 : w.heap.size < w1.heap.size := HZ1.out.lt
  have HRd1 : Hid (Rd 0 pb w1 (some ⟨tg, 0, none⟩) tn tc (wordI ts i)) := by
    obtain ⟨a', c', hx', _, hr, _⟩ := HT1.out.word hlt
    rw [HX.out] at hx'
    simp only [Value.slice.injEq, true_and] at hx'
    obtain ⟨rfl, rfl⟩ := hx'
    unfold Hid; rw [HTN.out]; exact hr
  obtain ⟨qa, qc, hq, _, _, _⟩ := hP1
  obtain ⟨q0, q1, q2, q3⟩ := hq.cells
  clear hb1 hq
  go_wp2_with fail
  refine (l2kind_any (some ⟨tg, 0, none⟩) tn tc (wordI ts i) w1 HRd1.out (by omega) hw1).mono ?_
  rintro e w2 ⟨rfl, hb2⟩
  rw [show kindW (strOfNums (wordI ts i)).toList = kd from HKD.out.symm]
  obtain ⟨W3, HW3⟩ : ∃ W3, Hid (W3 = w2.alloc (.cells #[.int .i64 kd, .slice none 0 0, .slice none 0 0, .slice none 0 0] 37)) := ⟨_, rfl⟩
  have hb3' : Below w2.heap.size w2 W3 := by rw [HW3.out]; exact (Below.refl _ _).alloc (Nat.le_refl _) _
  have hb3 : Below w1.heap.size w1 W3 := hb2.trans (hb3'.mono hb2.size)
  have HO3 : Hid (BoxC W3 w2.heap.size (.int .i64 kd) (.slice none 0 0) (.slice none 0 0) (.slice none 0 0)) := by unfold Hid; rw [HW3.out]; exact BoxC.new w2 _ _ _ _
  have hs2 : w1.heap.size ≤ w2.heap.size := hb2.size
  have hs3 : w2.heap.size < W3.heap.size := HO3.out.lt
  have HP3 : Hid (PsAt W3 pb g (i + 1) ts en (-1)) := HP1.out.below hb3
  have HT3 : Hid (TkM base pb W3 g ts gs) := HT1.out.below (hb3.mono (by omega))
  have HZ3 : Hid (BoxC W3 w.heap.size (.int .i64 0) (.slice none 0 0) (.slice none 0 0) (.slice none 0 0)) := HZ1.out.below hb3 hs1
  have HBt3 : Hid (Bt pb w.heap.size w W3) := HBt1.out.trans (Bt.of_below (hb3.mono (by omega)))
  have HRd3 : Hid (Rd 0 pb W3 (some ⟨tg, 0, none⟩) tn tc (wordI ts i)) := HRd1.out.below hb3 (by omega)
  clear hb2 hb3 hb3' q0 q1 q2 q3 HRd1
  go_upto_region 7 with fail
  try dsimp only
  rw [← HW3.out]
  obtain ⟨o0, o1, o2, o3⟩ := HO3.out.cells
  have hk2 : (kd == 2) = false := by rw [HKD.out]; simpa using H2.out
  obtain ⟨z0, z1, z2, z3⟩ := HZ3.out.cells
  have zf0 := HZ3.out.frz 0
  have zf1 := HZ3.out.frz 1
  have zf2 := HZ3.out.frz 2
  have zf3 := HZ3.out.frz 3
  go_wp2_with fail
  refine (l2kids_any kd W3).mono ?_
  rintro e w4 ⟨rfl, hw4⟩
  rw [hw4, show kidS kd = 0 from by rw [HKD.out, kidS_rng (kindS_range ts i)]; exact H3.out]; clear hw4
  go_wp2
  obtain ⟨hVs, hBs⟩ := set4_mem HZ3.out (.int .i64 kd) (.slice none 0 0) (.slice none 0 0) (.slice none 0 0) HBt3.out (Nat.le_refl _)
  obtain ⟨s0, s1, s2, s3⟩ := hVs.cells
  refine bodyPost_ret (v := .agg #[.int .i64 kd, .slice none 0 0, .slice none 0 0, .slice none 0 0]) (by simp [results, Tryz.results98, go_sem, s0, s1, s2, s3]) rfl ?_
  refine SP.good (L := []) hBs HC.out ?_ (HP3.out.of (heap_set4 _ _ _ _ _ (by omega)))
  rw [← HKD.out]
  exact OwnR.leafS _ _ _ _ _ _ _ _

end Go.Proofs.YtckhjoancfbkfaaGreat
