/- What is stronger than what, as the document has it: the other ways, and all of them. -/
import Derived.Test.YtjnmfjfikldiiaaClStr3
namespace Go.Proofs.Ytjnmfjfikldiiaa
open Go.RowKit

set_option maxRecDepth 100000 in
set_option maxHeartbeats 4000000 in
/-- Where heads count: other heads. -/
theorem l5str_diff {k1 f1 r1 u1 xp1 xn1 yp1 yn1 a1 b1 : Int} {ia1 : Option Addr} {im1 ic1 : Nat} {xs1 : List (Int × Int)} {lo1 hi1 : Nat} {k2 f2 r2 u2 xp2 xn2 yp2 yn2 a2 b2 : Int} {ia2 : Option Addr} {im2 ic2 : Nat} {xs2 : List (Int × Int)} {lo2 hi2 : Nat} {w : World} (h1 : RP lo1 hi1 w ia1 im1 ic1 xs1) (hh1 : hi1 ≤ w.heap.size) (h2 : RP lo2 hi2 w ia2 im2 ic2 xs2) (hh2 : hi2 ≤ w.heap.size) (hkk : ¬ (k1 = 0 ∧ k2 ≠ 4 ∧ k2 ≠ 6)) (hne : headB ⟨k1, f1, r1, u1, xp1, xn1, yp1, yn1, xs1, a1, b1⟩ ⟨k2, f2, r2, u2, xp2, xn2, yp2, yn2, xs2, a2, b2⟩ = false) :
    Calls Try.prog 121 #[.agg #[.int .i64 k1, .int .i64 f1, .int .i64 r1, .int .i64 u1, .int .i64 xp1, .int .i64 xn1, .int .i64 yp1, .int .i64 yn1, .slice ia1 im1 ic1, .int .i64 a1, .int .i64 b1], .agg #[.int .i64 k2, .int .i64 f2, .int .i64 r2, .int .i64 u2, .int .i64 xp2, .int .i64 xn2, .int .i64 yp2, .int .i64 yn2, .slice ia2 im2 ic2, .int .i64 a2, .int .i64 b2]] w fun e w' => e = .returned (.bool false) ∧ Below w.heap.size w w' := by
  obtain ⟨W, hW⟩ : ∃ W, W = (w.alloc (.cells #[.int .i64 k1, .int .i64 f1, .int .i64 r1, .int .i64 u1, .int .i64 xp1, .int .i64 xn1, .int .i64 yp1, .int .i64 yn1, .slice ia1 im1 ic1, .int .i64 a1, .int .i64 b1] 84)).alloc (.cells #[.int .i64 k2, .int .i64 f2, .int .i64 r2, .int .i64 u2, .int .i64 xp2, .int .i64 xn2, .int .i64 yp2, .int .i64 yn2, .slice ia2 im2 ic2, .int .i64 a2, .int .i64 b2] 84) := ⟨_, rfl⟩
  have HW : Hid (W = (w.alloc (.cells #[.int .i64 k1, .int .i64 f1, .int .i64 r1, .int .i64 u1, .int .i64 xp1, .int .i64 xn1, .int .i64 yp1, .int .i64 yn1, .slice ia1 im1 ic1, .int .i64 a1, .int .i64 b1] 84)).alloc (.cells #[.int .i64 k2, .int .i64 f2, .int .i64 r2, .int .i64 u2, .int .i64 xp2, .int .i64 xn2, .int .i64 yp2, .int .i64 yn2, .slice ia2 im2 ic2, .int .i64 a2, .int .i64 b2] 84)) := hW
  have hb0 : Below w.heap.size w W := by rw [hW]; exact ((Below.refl _ _).alloc (Nat.le_refl _) _).alloc (by simp) _
  have HB0 : Hid (Below w.heap.size w W) := hb0
  have hbx : BoxK 84 W w.heap.size k1 f1 r1 u1 xp1 xn1 yp1 yn1 (.slice ia1 im1 ic1) a1 b1 := by rw [hW]; exact (BoxK.new _ w _ _ _ _ _ _ _ _ _ _ _).below ((Below.refl _ _).alloc (Nat.le_refl _) _) (by simp)
  have hby : BoxK 84 W (w.heap.size + 1) k2 f2 r2 u2 xp2 xn2 yp2 yn2 (.slice ia2 im2 ic2) a2 b2 := by
    have e := BoxK.new 84 (w.alloc (.cells #[.int .i64 k1, .int .i64 f1, .int .i64 r1, .int .i64 u1, .int .i64 xp1, .int .i64 xn1, .int .i64 yp1, .int .i64 yn1, .slice ia1 im1 ic1, .int .i64 a1, .int .i64 b1] 84)) k2 f2 r2 u2 xp2 xn2 yp2 yn2 (.slice ia2 im2 ic2) a2 b2
    rw [World.size_alloc] at e
    rw [hW]; exact e
  have HX : Hid (∀ V, Below W.heap.size W V → BoxK 84 V w.heap.size k1 f1 r1 u1 xp1 xn1 yp1 yn1 (.slice ia1 im1 ic1) a1 b1) := fun V hV => hbx.below hV hbx.lt
  have HY : Hid (∀ V, Below W.heap.size W V → BoxK 84 V (w.heap.size + 1) k2 f2 r2 u2 xp2 xn2 yp2 yn2 (.slice ia2 im2 ic2) a2 b2) := fun V hV => hby.below hV hby.lt
  have HR1 : Hid (∀ V, Below W.heap.size W V → RP lo1 hi1 V ia1 im1 ic1 xs1 ∧ hi1 ≤ V.heap.size) := fun V hV => ⟨(h1.below hb0 hh1).below hV (Nat.le_trans hh1 hb0.size), Nat.le_trans hh1 (Nat.le_trans hb0.size hV.size)⟩
  have HR2 : Hid (∀ V, Below W.heap.size W V → RP lo2 hi2 V ia2 im2 ic2 xs2 ∧ hi2 ≤ V.heap.size) := fun V hV => ⟨(h2.below hb0 hh2).below hV (Nat.le_trans hh2 hb0.size), Nat.le_trans hh2 (Nat.le_trans hb0.size hV.size)⟩
  have HL1 : Hid (xs1.length = im1) := h1.len
  have HL2 : Hid (xs2.length = im2) := h2.len
  have HFin : Hid (∀ V, Below W.heap.size W V → Below w.heap.size w V) := fun V hV => HB0.out.trans (hV.mono HB0.out.size)
  have HRf : Hid (Below W.heap.size W W) := Below.refl _ _
  obtain ⟨z0, z1, z2, z3, z4, z5, z6, z7, z8, z9, z10⟩ := hbx.cells
  obtain ⟨y0, y1, y2, y3, y4, y5, y6, y7, y8, y9, y10⟩ := hby.cells
  clear hW hb0 hbx hby h1 h2 hh1 hh2
  have hgo : (k1 == 0) = false ∨ (k1 == 0) = true ∧ (k2 != 4) = false ∨ (k1 == 0) = true ∧ (k2 != 4) = true ∧ (k2 != 6) = false := by
    by_cases q0 : k1 = 0
    · right
      by_cases q4 : k2 = 4
      · left; simp [q0, q4]
      · right
        by_cases q6 : k2 = 6
        · simp [q0, q6]
        · exact absurd ⟨q0, q4, q6⟩ hkk
    · left; simpa using q0
  have hne' : ¬ ((k1 = k2 ∧ f1 = f2) ∧ (r1 = r2 ∧ u1 = u2) ∧ (a1 = a2 ∧ b1 = b2)) := of_decide_eq_false hne
  clear hne hkk
  have hdf : (k1 != k2) = true ∨ (k1 != k2) = false ∧ ((f1 != f2) = true ∨ (f1 != f2) = false ∧ ((r1 != r2) = true ∨ (r1 != r2) = false ∧ ((u1 != u2) = true ∨ (u1 != u2) = false ∧ ((a1 != a2) = true ∨ (a1 != a2) = false ∧ (b1 != b2) = true)))) := by
    by_cases e0 : k1 = k2
    · right
      refine ⟨by simp [e0], ?_⟩
      by_cases e1 : f1 = f2
      · right
        refine ⟨by simp [e1], ?_⟩
        by_cases e2 : r1 = r2
        · right
          refine ⟨by simp [e2], ?_⟩
          by_cases e3 : u1 = u2
          · right
            refine ⟨by simp [e3], ?_⟩
            by_cases e4 : a1 = a2
            · right
              refine ⟨by simp [e4], ?_⟩
              by_cases e5 : b1 = b2
              · exact absurd ⟨⟨e0, e1⟩, ⟨e2, e3⟩, ⟨e4, e5⟩⟩ hne'
              · simpa using e5
            · left; simpa using e4
          · left; simpa using e3
        · left; simpa using e2
      · left; simpa using e1
    · left; simpa using e0
  clear hne'
  go_enter Try.func121, Try.ntmps121
  go_upto_region 1 with fail
  rw [← HW.out]
  rcases hgo with g0 | ⟨g0, g4⟩ | ⟨g0, g4, g6⟩
  all_goals
    rcases hdf with d0 | ⟨d0, d1 | ⟨d1, d2 | ⟨d2, d3 | ⟨d3, d4 | ⟨d4, d5⟩⟩⟩⟩⟩
    all_goals
      go_wp2_with fail
      go_ret
      exact ⟨rfl, HFin.out _ HRf.out⟩

set_option maxRecDepth 100000 in
set_option maxHeartbeats 4000000 in
/-- One of all against what has two parts. -/
theorem l5str_two {k1 f1 r1 u1 xp1 xn1 yp1 yn1 a1 b1 : Int} {ia1 : Option Addr} {im1 ic1 : Nat} {xs1 : List (Int × Int)} {lo1 hi1 : Nat} {k2 f2 r2 u2 xp2 xn2 yp2 yn2 a2 b2 : Int} {ia2 : Option Addr} {im2 ic2 : Nat} {xs2 : List (Int × Int)} {lo2 hi2 : Nat} {w : World} (h1 : RP lo1 hi1 w ia1 im1 ic1 xs1) (hh1 : hi1 ≤ w.heap.size) (h2 : RP lo2 hi2 w ia2 im2 ic2 xs2) (hh2 : hi2 ≤ w.heap.size) (q1 : k1 = 0) (q4 : k2 ≠ 4) (q6 : k2 ≠ 6) (q5 : k2 ≠ 5) :
    Calls Try.prog 121 #[.agg #[.int .i64 k1, .int .i64 f1, .int .i64 r1, .int .i64 u1, .int .i64 xp1, .int .i64 xn1, .int .i64 yp1, .int .i64 yn1, .slice ia1 im1 ic1, .int .i64 a1, .int .i64 b1], .agg #[.int .i64 k2, .int .i64 f2, .int .i64 r2, .int .i64 u2, .int .i64 xp2, .int .i64 xn2, .int .i64 yp2, .int .i64 yn2, .slice ia2 im2 ic2, .int .i64 a2, .int .i64 b2]] w fun e w' => e = .returned (.bool (inB (xp1, xn1) (xp2, xn2) || inB (xp1, xn1) (yp2, yn2))) ∧ Below w.heap.size w w' := by
  obtain ⟨W, hW⟩ : ∃ W, W = (w.alloc (.cells #[.int .i64 k1, .int .i64 f1, .int .i64 r1, .int .i64 u1, .int .i64 xp1, .int .i64 xn1, .int .i64 yp1, .int .i64 yn1, .slice ia1 im1 ic1, .int .i64 a1, .int .i64 b1] 84)).alloc (.cells #[.int .i64 k2, .int .i64 f2, .int .i64 r2, .int .i64 u2, .int .i64 xp2, .int .i64 xn2, .int .i64 yp2, .int .i64 yn2, .slice ia2 im2 ic2, .int .i64 a2, .int .i64 b2] 84) := ⟨_, rfl⟩
  have HW : Hid (W = (w.alloc (.cells #[.int .i64 k1, .int .i64 f1, .int .i64 r1, .int .i64 u1, .int .i64 xp1, .int .i64 xn1, .int .i64 yp1, .int .i64 yn1, .slice ia1 im1 ic1, .int .i64 a1, .int .i64 b1] 84)).alloc (.cells #[.int .i64 k2, .int .i64 f2, .int .i64 r2, .int .i64 u2, .int .i64 xp2, .int .i64 xn2, .int .i64 yp2, .int .i64 yn2, .slice ia2 im2 ic2, .int .i64 a2, .int .i64 b2] 84)) := hW
  have hb0 : Below w.heap.size w W := by rw [hW]; exact ((Below.refl _ _).alloc (Nat.le_refl _) _).alloc (by simp) _
  have HB0 : Hid (Below w.heap.size w W) := hb0
  have hbx : BoxK 84 W w.heap.size k1 f1 r1 u1 xp1 xn1 yp1 yn1 (.slice ia1 im1 ic1) a1 b1 := by rw [hW]; exact (BoxK.new _ w _ _ _ _ _ _ _ _ _ _ _).below ((Below.refl _ _).alloc (Nat.le_refl _) _) (by simp)
  have hby : BoxK 84 W (w.heap.size + 1) k2 f2 r2 u2 xp2 xn2 yp2 yn2 (.slice ia2 im2 ic2) a2 b2 := by
    have e := BoxK.new 84 (w.alloc (.cells #[.int .i64 k1, .int .i64 f1, .int .i64 r1, .int .i64 u1, .int .i64 xp1, .int .i64 xn1, .int .i64 yp1, .int .i64 yn1, .slice ia1 im1 ic1, .int .i64 a1, .int .i64 b1] 84)) k2 f2 r2 u2 xp2 xn2 yp2 yn2 (.slice ia2 im2 ic2) a2 b2
    rw [World.size_alloc] at e
    rw [hW]; exact e
  have HX : Hid (∀ V, Below W.heap.size W V → BoxK 84 V w.heap.size k1 f1 r1 u1 xp1 xn1 yp1 yn1 (.slice ia1 im1 ic1) a1 b1) := fun V hV => hbx.below hV hbx.lt
  have HY : Hid (∀ V, Below W.heap.size W V → BoxK 84 V (w.heap.size + 1) k2 f2 r2 u2 xp2 xn2 yp2 yn2 (.slice ia2 im2 ic2) a2 b2) := fun V hV => hby.below hV hby.lt
  have HR1 : Hid (∀ V, Below W.heap.size W V → RP lo1 hi1 V ia1 im1 ic1 xs1 ∧ hi1 ≤ V.heap.size) := fun V hV => ⟨(h1.below hb0 hh1).below hV (Nat.le_trans hh1 hb0.size), Nat.le_trans hh1 (Nat.le_trans hb0.size hV.size)⟩
  have HR2 : Hid (∀ V, Below W.heap.size W V → RP lo2 hi2 V ia2 im2 ic2 xs2 ∧ hi2 ≤ V.heap.size) := fun V hV => ⟨(h2.below hb0 hh2).below hV (Nat.le_trans hh2 hb0.size), Nat.le_trans hh2 (Nat.le_trans hb0.size hV.size)⟩
  have HL1 : Hid (xs1.length = im1) := h1.len
  have HL2 : Hid (xs2.length = im2) := h2.len
  have HFin : Hid (∀ V, Below W.heap.size W V → Below w.heap.size w V) := fun V hV => HB0.out.trans (hV.mono HB0.out.size)
  have HRf : Hid (Below W.heap.size W W) := Below.refl _ _
  obtain ⟨z0, z1, z2, z3, z4, z5, z6, z7, z8, z9, z10⟩ := hbx.cells
  obtain ⟨y0, y1, y2, y3, y4, y5, y6, y7, y8, y9, y10⟩ := hby.cells
  clear hW hb0 hbx hby h1 h2 hh1 hh2
  have g0 : (k1 == 0) = true := by simp [q1]
  have g4 : (k2 != 4) = true := by simpa using q4
  have g6 : (k2 != 6) = true := by simpa using q6
  have g5 : (k2 == 5) = false := by simpa using q5
  clear q1 q4 q6 q5
  go_enter Try.func121, Try.ntmps121
  go_upto_region 1 with fail
  rw [← HW.out]
  go_wp2_with fail
  refine (l5within_any xp1 xn1 xp2 xn2 W).mono ?_
  rintro e w8 ⟨rfl, hb8⟩
  have HB8 : Hid (Below W.heap.size W w8) := hb8
  clear hb8
  clear z0 z1 z2 z3 z4 z5 z6 z7 z8 z9 z10 y0 y1 y2 y3 y4 y5 y6 y7 y8 y9 y10
  obtain ⟨z0, z1, z2, z3, z4, z5, z6, z7, z8, z9, z10⟩ := (HX.out _ HB8.out).cells
  obtain ⟨y0, y1, y2, y3, y4, y5, y6, y7, y8, y9, y10⟩ := (HY.out _ HB8.out).cells
  obtain ⟨d, hd⟩ : ∃ d, d = inB (xp1, xn1) (xp2, xn2) := ⟨_, rfl⟩
  rw [← hd]
  have HD : Hid (d = inB (xp1, xn1) (xp2, xn2)) := hd
  clear hd
  cases d with
  | false =>
    go_wp2_with fail
    refine (l5within_any xp1 xn1 yp2 yn2 w8).mono ?_
    rintro e w9 ⟨rfl, hb9⟩
    have HB9 : Hid (Below W.heap.size W w9) := HB8.out.trans (hb9.mono HB8.out.size)
    clear hb9
    go_wp2_with fail
    go_ret
    exact ⟨rb (by rw [← HD.out]; simp), HFin.out _ HB9.out⟩
  | true =>
    go_wp2_with fail
    go_ret
    exact ⟨rb (by rw [← HD.out]; simp), HFin.out _ HB8.out⟩

set_option maxRecDepth 100000 in
set_option maxHeartbeats 4000000 in
/-- One of all against what is said of somebodies. -/
theorem l5str_fact {k1 f1 r1 u1 xp1 xn1 yp1 yn1 a1 b1 : Int} {ia1 : Option Addr} {im1 ic1 : Nat} {xs1 : List (Int × Int)} {lo1 hi1 : Nat} {k2 f2 r2 u2 xp2 xn2 yp2 yn2 a2 b2 : Int} {ia2 : Option Addr} {im2 ic2 : Nat} {xs2 : List (Int × Int)} {lo2 hi2 : Nat} {w : World} (h1 : RP lo1 hi1 w ia1 im1 ic1 xs1) (hh1 : hi1 ≤ w.heap.size) (h2 : RP lo2 hi2 w ia2 im2 ic2 xs2) (hh2 : hi2 ≤ w.heap.size) (q1 : k1 = 0) (q5 : k2 = 5) :
    Calls Try.prog 121 #[.agg #[.int .i64 k1, .int .i64 f1, .int .i64 r1, .int .i64 u1, .int .i64 xp1, .int .i64 xn1, .int .i64 yp1, .int .i64 yn1, .slice ia1 im1 ic1, .int .i64 a1, .int .i64 b1], .agg #[.int .i64 k2, .int .i64 f2, .int .i64 r2, .int .i64 u2, .int .i64 xp2, .int .i64 xn2, .int .i64 yp2, .int .i64 yn2, .slice ia2 im2 ic2, .int .i64 a2, .int .i64 b2]] w fun e w' => e = .returned (.bool (xs2.any (fun q => inB (xp1, xn1) q))) ∧ Below w.heap.size w w' := by
  obtain ⟨W, hW⟩ : ∃ W, W = (w.alloc (.cells #[.int .i64 k1, .int .i64 f1, .int .i64 r1, .int .i64 u1, .int .i64 xp1, .int .i64 xn1, .int .i64 yp1, .int .i64 yn1, .slice ia1 im1 ic1, .int .i64 a1, .int .i64 b1] 84)).alloc (.cells #[.int .i64 k2, .int .i64 f2, .int .i64 r2, .int .i64 u2, .int .i64 xp2, .int .i64 xn2, .int .i64 yp2, .int .i64 yn2, .slice ia2 im2 ic2, .int .i64 a2, .int .i64 b2] 84) := ⟨_, rfl⟩
  have HW : Hid (W = (w.alloc (.cells #[.int .i64 k1, .int .i64 f1, .int .i64 r1, .int .i64 u1, .int .i64 xp1, .int .i64 xn1, .int .i64 yp1, .int .i64 yn1, .slice ia1 im1 ic1, .int .i64 a1, .int .i64 b1] 84)).alloc (.cells #[.int .i64 k2, .int .i64 f2, .int .i64 r2, .int .i64 u2, .int .i64 xp2, .int .i64 xn2, .int .i64 yp2, .int .i64 yn2, .slice ia2 im2 ic2, .int .i64 a2, .int .i64 b2] 84)) := hW
  have hb0 : Below w.heap.size w W := by rw [hW]; exact ((Below.refl _ _).alloc (Nat.le_refl _) _).alloc (by simp) _
  have HB0 : Hid (Below w.heap.size w W) := hb0
  have hbx : BoxK 84 W w.heap.size k1 f1 r1 u1 xp1 xn1 yp1 yn1 (.slice ia1 im1 ic1) a1 b1 := by rw [hW]; exact (BoxK.new _ w _ _ _ _ _ _ _ _ _ _ _).below ((Below.refl _ _).alloc (Nat.le_refl _) _) (by simp)
  have hby : BoxK 84 W (w.heap.size + 1) k2 f2 r2 u2 xp2 xn2 yp2 yn2 (.slice ia2 im2 ic2) a2 b2 := by
    have e := BoxK.new 84 (w.alloc (.cells #[.int .i64 k1, .int .i64 f1, .int .i64 r1, .int .i64 u1, .int .i64 xp1, .int .i64 xn1, .int .i64 yp1, .int .i64 yn1, .slice ia1 im1 ic1, .int .i64 a1, .int .i64 b1] 84)) k2 f2 r2 u2 xp2 xn2 yp2 yn2 (.slice ia2 im2 ic2) a2 b2
    rw [World.size_alloc] at e
    rw [hW]; exact e
  have HX : Hid (∀ V, Below W.heap.size W V → BoxK 84 V w.heap.size k1 f1 r1 u1 xp1 xn1 yp1 yn1 (.slice ia1 im1 ic1) a1 b1) := fun V hV => hbx.below hV hbx.lt
  have HY : Hid (∀ V, Below W.heap.size W V → BoxK 84 V (w.heap.size + 1) k2 f2 r2 u2 xp2 xn2 yp2 yn2 (.slice ia2 im2 ic2) a2 b2) := fun V hV => hby.below hV hby.lt
  have HR1 : Hid (∀ V, Below W.heap.size W V → RP lo1 hi1 V ia1 im1 ic1 xs1 ∧ hi1 ≤ V.heap.size) := fun V hV => ⟨(h1.below hb0 hh1).below hV (Nat.le_trans hh1 hb0.size), Nat.le_trans hh1 (Nat.le_trans hb0.size hV.size)⟩
  have HR2 : Hid (∀ V, Below W.heap.size W V → RP lo2 hi2 V ia2 im2 ic2 xs2 ∧ hi2 ≤ V.heap.size) := fun V hV => ⟨(h2.below hb0 hh2).below hV (Nat.le_trans hh2 hb0.size), Nat.le_trans hh2 (Nat.le_trans hb0.size hV.size)⟩
  have HL1 : Hid (xs1.length = im1) := h1.len
  have HL2 : Hid (xs2.length = im2) := h2.len
  have HFin : Hid (∀ V, Below W.heap.size W V → Below w.heap.size w V) := fun V hV => HB0.out.trans (hV.mono HB0.out.size)
  have HRf : Hid (Below W.heap.size W W) := Below.refl _ _
  obtain ⟨z0, z1, z2, z3, z4, z5, z6, z7, z8, z9, z10⟩ := hbx.cells
  obtain ⟨y0, y1, y2, y3, y4, y5, y6, y7, y8, y9, y10⟩ := hby.cells
  clear hW hb0 hbx hby h1 h2 hh1 hh2
  have g0 : (k1 == 0) = true := by simp [q1]
  have g4 : (k2 != 4) = true := by simp [q5]
  have g6 : (k2 != 6) = true := by simp [q5]
  have g5 : (k2 == 5) = true := by simp [q5]
  obtain ⟨S, hS⟩ : ∃ S, S = xs2.any (fun q => inB (xp1, xn1) q) := ⟨_, rfl⟩
  rw [← hS]
  have HS : Hid (S = xs2.any (fun q => inB (xp1, xn1) q)) := hS
  clear q1 q5 hS
  go_enter Try.func121, Try.ntmps121
  go_upto_region 1 with fail
  rw [← HW.out]
  go_wp2_with fail
  go_loopw [5] (fun i wr => ∃ j : Nat, j ≤ im2 ∧ i = .int .i64 j ∧ (∀ i, i < j → inB (xp1, xn1) (xs2.getD i (0, 0)) = false) ∧ Below W.heap.size W wr) (fun i _ => im2 - (intOf i).toNat)
  case atStart => exact ⟨0, Nat.zero_le _, rfl, fun i hi => absurd hi (by omega), HRf.out⟩
  case round =>
    obtain ⟨j, hj, rfl, hall, hbel⟩ := hrel
    have HAll : Hid (∀ i, i < j → inB (xp1, xn1) (xs2.getD i (0, 0)) = false) := hall
    have HB : Hid (Below W.heap.size W wr) := hbel
    clear z0 z1 z2 z3 z4 z5 z6 z7 z8 z9 z10 y0 y1 y2 y3 y4 y5 y6 y7 y8 y9 y10
    obtain ⟨z0, z1, z2, z3, z4, z5, z6, z7, z8, z9, z10⟩ := (HX.out _ hbel).cells
    obtain ⟨y0, y1, y2, y3, y4, y5, y6, y7, y8, y9, y10⟩ := (HY.out _ hbel).cells
    have hrp2 := (HR2.out _ hbel).1
    have hfit2 := hrp2.fits
    by_cases hlt : j < im2
    · rcases hrp2.cells with h0 | ⟨bb2, off2, e2, _, _, hc2⟩
      · omega
      · subst e2
        obtain ⟨c3, c4⟩ := hc2 j hlt
        obtain ⟨t', ht'⟩ : ∃ t, t = xs2.getD j (0, 0) := ⟨_, rfl⟩
        have HT' : Hid (t' = xs2.getD j (0, 0)) := ht'
        rw [← ht'] at c3 c4
        obtain ⟨sp, sn⟩ := t'
        obtain ⟨d, hd⟩ : ∃ d, d = inB (xp1, xn1) (sp, sn) := ⟨_, rfl⟩
        have HD : Hid (d = inB (xp1, xn1) (sp, sn)) := hd
        have hki : (j : Int) < (im2 : Int) := by omega
        clear hrp2 hc2 ht' hbel hall hd
        cases d with
        | false =>
          have HAll' : Hid (∀ i, i < j + 1 → inB (xp1, xn1) (xs2.getD i (0, 0)) = false) := by
            intro i hi
            by_cases e : i = j
            · subst e; rw [← HT'.out]; exact HD.out.symm
            · exact HAll.out i (by omega)
          go_wp2_with fail
          first | go_region_with (go_at_call 177; refine (l5within_any xp1 xn1 sp sn _).mono ?_; rintro e w' ⟨rfl, hbe⟩; rw [← HD.out]) | fail
          all_goals
            have HBn : Hid (Below W.heap.size W w') := HB.out.drew.trans (hbe.mono HB.out.size)
            clear hbe
            go_wp2_with fail
            go_roundw
            case rel => exact ⟨j + 1, by omega, by go_num, HAll'.out, HBn.out⟩
            case measure => simp [intOf]; omega
        | true =>
          have HF : Hid (S = true) := by
            have hl := HL2.out
            unfold Hid
            rw [HS.out]
            refine List.any_eq_true.2 ⟨xs2.getD j (0, 0), ?_, by rw [← HT'.out]; exact HD.out.symm⟩
            rw [List.getD_eq_getElem?_getD, List.getElem?_eq_getElem (by omega)]
            exact List.getElem_mem _
          go_wp2_with fail
          first | go_region_with (go_at_call 177; refine (l5within_any xp1 xn1 sp sn _).mono ?_; rintro e w' ⟨rfl, hbe⟩; rw [← HD.out]) | fail
          all_goals
            have HBn : Hid (Below W.heap.size W w') := HB.out.drew.trans (hbe.mono HB.out.size)
            clear hbe
            go_wp2_with fail
            go_ret
            exact ⟨rb HF.out.symm, HFin.out _ HBn.out⟩
    · have HF : Hid (S = false) := by
        have hl := HL2.out
        unfold Hid
        rw [HS.out, List.any_eq_false]
        intro p hp
        obtain ⟨i, hi, e⟩ := List.getElem_of_mem hp
        have := hall i (by omega)
        rw [List.getD_eq_getElem?_getD, List.getElem?_eq_getElem hi, e] at this
        simpa using this
      clear hrp2 hbel hall
      go_wp2_with fail
      go_ret
      exact ⟨rb HF.out.symm, HFin.out _ HB.out⟩

/-- As many somebodies as its kind has. -/
theorem lens_of {k f r u xp xn yp yn a b : Int} {xs : List (Int × Int)} (h : clauseB k f r u xp xn yp yn xs a b = true) : xs.length = if k = 5 then 4 else 0 := by
  unfold clauseB at h
  simp only [Bool.and_eq_true] at h
  have q := h.2.2.2.2.2.2.2.2.1
  unfold indB hasI at q
  by_cases e : k = 5
  · simp [e] at q; simp [e]; exact q.1
  · simp [e] at q; simp [e, q]

theorem l5stronger_any {k1 f1 r1 u1 xp1 xn1 yp1 yn1 a1 b1 : Int} {ia1 : Option Addr} {im1 ic1 : Nat} {xs1 : List (Int × Int)} {lo1 hi1 : Nat} {k2 f2 r2 u2 xp2 xn2 yp2 yn2 a2 b2 : Int} {ia2 : Option Addr} {im2 ic2 : Nat} {xs2 : List (Int × Int)} {lo2 hi2 : Nat} {w : World} (h1 : RP lo1 hi1 w ia1 im1 ic1 xs1) (hh1 : hi1 ≤ w.heap.size) (h2 : RP lo2 hi2 w ia2 im2 ic2 xs2) (hh2 : hi2 ≤ w.heap.size) (o1 : clauseB k1 f1 r1 u1 xp1 xn1 yp1 yn1 xs1 a1 b1 = true) (o2 : clauseB k2 f2 r2 u2 xp2 xn2 yp2 yn2 xs2 a2 b2 = true) :
    Calls Try.prog 121 #[.agg #[.int .i64 k1, .int .i64 f1, .int .i64 r1, .int .i64 u1, .int .i64 xp1, .int .i64 xn1, .int .i64 yp1, .int .i64 yn1, .slice ia1 im1 ic1, .int .i64 a1, .int .i64 b1], .agg #[.int .i64 k2, .int .i64 f2, .int .i64 r2, .int .i64 u2, .int .i64 xp2, .int .i64 xn2, .int .i64 yp2, .int .i64 yn2, .slice ia2 im2 ic2, .int .i64 a2, .int .i64 b2]] w fun e w' => e = .returned (.bool (strongB ⟨k1, f1, r1, u1, xp1, xn1, yp1, yn1, xs1, a1, b1⟩ ⟨k2, f2, r2, u2, xp2, xn2, yp2, yn2, xs2, a2, b2⟩)) ∧ Below w.heap.size w w' := by
  have l1 := lens_of o1
  have l2 := lens_of o2
  by_cases hkk : k1 = 0 ∧ k2 ≠ 4 ∧ k2 ≠ 6
  · have e : strongB ⟨k1, f1, r1, u1, xp1, xn1, yp1, yn1, xs1, a1, b1⟩ ⟨k2, f2, r2, u2, xp2, xn2, yp2, yn2, xs2, a2, b2⟩ = oneB ⟨k1, f1, r1, u1, xp1, xn1, yp1, yn1, xs1, a1, b1⟩ ⟨k2, f2, r2, u2, xp2, xn2, yp2, yn2, xs2, a2, b2⟩ := if_pos hkk
    rw [e]
    by_cases q5 : k2 = 5
    · have e2 : oneB ⟨k1, f1, r1, u1, xp1, xn1, yp1, yn1, xs1, a1, b1⟩ ⟨k2, f2, r2, u2, xp2, xn2, yp2, yn2, xs2, a2, b2⟩ = xs2.any (fun q => inB (xp1, xn1) q) := if_pos q5
      rw [e2]
      exact l5str_fact h1 hh1 h2 hh2 hkk.1 q5
    · have e2 : oneB ⟨k1, f1, r1, u1, xp1, xn1, yp1, yn1, xs1, a1, b1⟩ ⟨k2, f2, r2, u2, xp2, xn2, yp2, yn2, xs2, a2, b2⟩ = (inB (xp1, xn1) (xp2, xn2) || inB (xp1, xn1) (yp2, yn2)) := if_neg q5
      rw [e2]
      exact l5str_two h1 hh1 h2 hh2 hkk.1 hkk.2.1 hkk.2.2 q5
  · have e : strongB ⟨k1, f1, r1, u1, xp1, xn1, yp1, yn1, xs1, a1, b1⟩ ⟨k2, f2, r2, u2, xp2, xn2, yp2, yn2, xs2, a2, b2⟩ = (headB ⟨k1, f1, r1, u1, xp1, xn1, yp1, yn1, xs1, a1, b1⟩ ⟨k2, f2, r2, u2, xp2, xn2, yp2, yn2, xs2, a2, b2⟩ && eachB ⟨k1, f1, r1, u1, xp1, xn1, yp1, yn1, xs1, a1, b1⟩ ⟨k2, f2, r2, u2, xp2, xn2, yp2, yn2, xs2, a2, b2⟩) := if_neg hkk
    rw [e]
    by_cases hh : headB ⟨k1, f1, r1, u1, xp1, xn1, yp1, yn1, xs1, a1, b1⟩ ⟨k2, f2, r2, u2, xp2, xn2, yp2, yn2, xs2, a2, b2⟩ = true
    · rw [hh, Bool.true_and]
      obtain ⟨⟨e0, e1⟩, ⟨e2, e3⟩, ⟨e4, e5⟩⟩ : (k1 = k2 ∧ f1 = f2) ∧ (r1 = r2 ∧ u1 = u2) ∧ (a1 = a2 ∧ b1 = b2) := of_decide_eq_true hh
      refine l5str_same h1 hh1 h2 hh2 ?_ hkk e0 e1 e2 e3 e4 e5
      rw [h1.len] at l1
      rw [h2.len] at l2
      rw [l1, l2, e0]
    · have hf : headB ⟨k1, f1, r1, u1, xp1, xn1, yp1, yn1, xs1, a1, b1⟩ ⟨k2, f2, r2, u2, xp2, xn2, yp2, yn2, xs2, a2, b2⟩ = false := by simpa using hh
      rw [hf, Bool.false_and]
      exact l5str_diff h1 hh1 h2 hh2 hkk hf

def strongerB (x y : CL) : Bool := (clauseB x.kind x.fn x.role x.above x.xp x.xn x.yp x.yn x.inds x.a x.b && clauseB y.kind y.fn y.role y.above y.xp y.xn y.yp y.yn y.inds y.a y.b) && strongB x y

set_option maxRecDepth 100000 in
set_option maxHeartbeats 4000000 in
theorem specStronger_any {k1 f1 r1 u1 xp1 xn1 yp1 yn1 a1 b1 : Int} {ia1 : Option Addr} {im1 ic1 : Nat} {xs1 : List (Int × Int)} {lo1 hi1 : Nat} {k2 f2 r2 u2 xp2 xn2 yp2 yn2 a2 b2 : Int} {ia2 : Option Addr} {im2 ic2 : Nat} {xs2 : List (Int × Int)} {lo2 hi2 : Nat} {w : World} (h1 : RP lo1 hi1 w ia1 im1 ic1 xs1) (hh1 : hi1 ≤ w.heap.size) (h2 : RP lo2 hi2 w ia2 im2 ic2 xs2) (hh2 : hi2 ≤ w.heap.size) :
    Calls Try.prog 55 #[.agg #[.int .i64 k1, .int .i64 f1, .int .i64 r1, .int .i64 u1, .int .i64 xp1, .int .i64 xn1, .int .i64 yp1, .int .i64 yn1, .slice ia1 im1 ic1, .int .i64 a1, .int .i64 b1], .agg #[.int .i64 k2, .int .i64 f2, .int .i64 r2, .int .i64 u2, .int .i64 xp2, .int .i64 xn2, .int .i64 yp2, .int .i64 yn2, .slice ia2 im2 ic2, .int .i64 a2, .int .i64 b2]] w fun e w' => e = .returned (.bool (strongerB ⟨k1, f1, r1, u1, xp1, xn1, yp1, yn1, xs1, a1, b1⟩ ⟨k2, f2, r2, u2, xp2, xn2, yp2, yn2, xs2, a2, b2⟩)) ∧ Below w.heap.size w w' := by
  obtain ⟨W, hW⟩ : ∃ W, W = (w.alloc (.cells #[.int .i64 k1, .int .i64 f1, .int .i64 r1, .int .i64 u1, .int .i64 xp1, .int .i64 xn1, .int .i64 yp1, .int .i64 yn1, .slice ia1 im1 ic1, .int .i64 a1, .int .i64 b1] 84)).alloc (.cells #[.int .i64 k2, .int .i64 f2, .int .i64 r2, .int .i64 u2, .int .i64 xp2, .int .i64 xn2, .int .i64 yp2, .int .i64 yn2, .slice ia2 im2 ic2, .int .i64 a2, .int .i64 b2] 84) := ⟨_, rfl⟩
  have HW : Hid (W = (w.alloc (.cells #[.int .i64 k1, .int .i64 f1, .int .i64 r1, .int .i64 u1, .int .i64 xp1, .int .i64 xn1, .int .i64 yp1, .int .i64 yn1, .slice ia1 im1 ic1, .int .i64 a1, .int .i64 b1] 84)).alloc (.cells #[.int .i64 k2, .int .i64 f2, .int .i64 r2, .int .i64 u2, .int .i64 xp2, .int .i64 xn2, .int .i64 yp2, .int .i64 yn2, .slice ia2 im2 ic2, .int .i64 a2, .int .i64 b2] 84)) := hW
  have hb0 : Below w.heap.size w W := by rw [hW]; exact ((Below.refl _ _).alloc (Nat.le_refl _) _).alloc (by simp) _
  have HB0 : Hid (Below w.heap.size w W) := hb0
  have hbx : BoxK 84 W w.heap.size k1 f1 r1 u1 xp1 xn1 yp1 yn1 (.slice ia1 im1 ic1) a1 b1 := by rw [hW]; exact (BoxK.new _ w _ _ _ _ _ _ _ _ _ _ _).below ((Below.refl _ _).alloc (Nat.le_refl _) _) (by simp)
  have hby : BoxK 84 W (w.heap.size + 1) k2 f2 r2 u2 xp2 xn2 yp2 yn2 (.slice ia2 im2 ic2) a2 b2 := by
    have e := BoxK.new 84 (w.alloc (.cells #[.int .i64 k1, .int .i64 f1, .int .i64 r1, .int .i64 u1, .int .i64 xp1, .int .i64 xn1, .int .i64 yp1, .int .i64 yn1, .slice ia1 im1 ic1, .int .i64 a1, .int .i64 b1] 84)) k2 f2 r2 u2 xp2 xn2 yp2 yn2 (.slice ia2 im2 ic2) a2 b2
    rw [World.size_alloc] at e
    rw [hW]; exact e
  have HX : Hid (∀ V, Below W.heap.size W V → BoxK 84 V w.heap.size k1 f1 r1 u1 xp1 xn1 yp1 yn1 (.slice ia1 im1 ic1) a1 b1) := fun V hV => hbx.below hV hbx.lt
  have HY : Hid (∀ V, Below W.heap.size W V → BoxK 84 V (w.heap.size + 1) k2 f2 r2 u2 xp2 xn2 yp2 yn2 (.slice ia2 im2 ic2) a2 b2) := fun V hV => hby.below hV hby.lt
  have HR1 : Hid (∀ V, Below W.heap.size W V → RP lo1 hi1 V ia1 im1 ic1 xs1 ∧ hi1 ≤ V.heap.size) := fun V hV => ⟨(h1.below hb0 hh1).below hV (Nat.le_trans hh1 hb0.size), Nat.le_trans hh1 (Nat.le_trans hb0.size hV.size)⟩
  have HR2 : Hid (∀ V, Below W.heap.size W V → RP lo2 hi2 V ia2 im2 ic2 xs2 ∧ hi2 ≤ V.heap.size) := fun V hV => ⟨(h2.below hb0 hh2).below hV (Nat.le_trans hh2 hb0.size), Nat.le_trans hh2 (Nat.le_trans hb0.size hV.size)⟩
  have HL1 : Hid (xs1.length = im1) := h1.len
  have HL2 : Hid (xs2.length = im2) := h2.len
  have HFin : Hid (∀ V, Below W.heap.size W V → Below w.heap.size w V) := fun V hV => HB0.out.trans (hV.mono HB0.out.size)
  have HRf : Hid (Below W.heap.size W W) := Below.refl _ _
  obtain ⟨z0, z1, z2, z3, z4, z5, z6, z7, z8, z9, z10⟩ := hbx.cells
  obtain ⟨y0, y1, y2, y3, y4, y5, y6, y7, y8, y9, y10⟩ := hby.cells
  clear hW hb0 hbx hby h1 h2 hh1 hh2
  obtain ⟨S, hS⟩ : ∃ S, S = strongerB ⟨k1, f1, r1, u1, xp1, xn1, yp1, yn1, xs1, a1, b1⟩ ⟨k2, f2, r2, u2, xp2, xn2, yp2, yn2, xs2, a2, b2⟩ := ⟨_, rfl⟩
  rw [← hS]
  have HS : Hid (S = ((clauseB k1 f1 r1 u1 xp1 xn1 yp1 yn1 xs1 a1 b1 && clauseB k2 f2 r2 u2 xp2 xn2 yp2 yn2 xs2 a2 b2) && strongB ⟨k1, f1, r1, u1, xp1, xn1, yp1, yn1, xs1, a1, b1⟩ ⟨k2, f2, r2, u2, xp2, xn2, yp2, yn2, xs2, a2, b2⟩)) := hS
  clear hS
  go_enter Try.func55, Try.ntmps55
  go_upto_region 1 with fail
  rw [← HW.out]
  go_wp2_with fail
  refine (specClauseOk_any (HR1.out _ HRf.out).1 (HR1.out _ HRf.out).2).mono ?_
  rintro e v1 ⟨rfl, hb⟩
  have G1 : Hid (Below W.heap.size W v1) := hb
  clear hb
  clear z0 z1 z2 z3 z4 z5 z6 z7 z8 z9 z10 y0 y1 y2 y3 y4 y5 y6 y7 y8 y9 y10
  obtain ⟨z0, z1, z2, z3, z4, z5, z6, z7, z8, z9, z10⟩ := (HX.out _ G1.out).cells
  obtain ⟨y0, y1, y2, y3, y4, y5, y6, y7, y8, y9, y10⟩ := (HY.out _ G1.out).cells
  obtain ⟨o1, ho1⟩ : ∃ o, o = clauseB k1 f1 r1 u1 xp1 xn1 yp1 yn1 xs1 a1 b1 := ⟨_, rfl⟩
  rw [← ho1]
  have HO1 : Hid (clauseB k1 f1 r1 u1 xp1 xn1 yp1 yn1 xs1 a1 b1 = o1) := ho1.symm
  clear ho1
  cases o1 with
  | false =>
    go_wp2_with fail
    all_goals
      go_ret
      exact ⟨rb (by rw [HS.out, HO1.out]; rfl), HFin.out _ G1.out⟩
  | true =>
    go_wp2_with fail
    refine (specClauseOk_any (HR2.out _ G1.out).1 (HR2.out _ G1.out).2).mono ?_
    rintro e v2 ⟨rfl, hb⟩
    have G2 : Hid (Below W.heap.size W v2) := G1.out.trans (hb.mono G1.out.size)
    clear hb
    clear z0 z1 z2 z3 z4 z5 z6 z7 z8 z9 z10 y0 y1 y2 y3 y4 y5 y6 y7 y8 y9 y10
    obtain ⟨z0, z1, z2, z3, z4, z5, z6, z7, z8, z9, z10⟩ := (HX.out _ G2.out).cells
    obtain ⟨y0, y1, y2, y3, y4, y5, y6, y7, y8, y9, y10⟩ := (HY.out _ G2.out).cells
    obtain ⟨o2, ho2⟩ : ∃ o, o = clauseB k2 f2 r2 u2 xp2 xn2 yp2 yn2 xs2 a2 b2 := ⟨_, rfl⟩
    rw [← ho2]
    have HO2 : Hid (clauseB k2 f2 r2 u2 xp2 xn2 yp2 yn2 xs2 a2 b2 = o2) := ho2.symm
    clear ho2
    cases o2 with
    | false =>
      go_wp2_with fail
      all_goals
        go_ret
        exact ⟨rb (by rw [HS.out, HO1.out, HO2.out]; rfl), HFin.out _ G2.out⟩
    | true =>
      go_wp2_with fail
      refine (l5stronger_any (HR1.out _ G2.out).1 (HR1.out _ G2.out).2 (HR2.out _ G2.out).1 (HR2.out _ G2.out).2 HO1.out HO2.out).mono ?_
      rintro e v3 ⟨rfl, hb⟩
      have G3 : Hid (Below W.heap.size W v3) := G2.out.trans (hb.mono G2.out.size)
      clear hb
      go_wp2_with fail
      go_ret
      exact ⟨rb (by rw [HS.out, HO1.out, HO2.out]; rfl), HFin.out _ G3.out⟩

end Go.Proofs.Ytjnmfjfikldiiaa
