/- What is stronger than what, as the program has it: a contract. -/
import Derived.Test.YtjnmfjfikldiiaaClStr2
import Derived.Test.YtjnmfjfikldiiaaClStr4
import Derived.Deep.RegionHeld3
namespace Go.Proofs.Ytjnmfjfikldiiaa
open Go.RowKit

theorem six_one {k1 f1 r1 u1 xp1 xn1 yp1 yn1 a1 b1 k2 f2 r2 u2 xp2 xn2 yp2 yn2 a2 b2 : Int} {xs1 xs2 : List (Int × Int)} (o1 : clauseB k1 f1 r1 u1 xp1 xn1 yp1 yn1 xs1 a1 b1 = true) (o2 : clauseB k2 f2 r2 u2 xp2 xn2 yp2 yn2 xs2 a2 b2 = true) (hk : k1 = 0 ∧ k2 ≠ 4 ∧ k2 ≠ 6) :
    (six xp2 xn2 yp2 yn2 xs2).any (fun q => inB (xp1, xn1) q) = oneB ⟨k1, f1, r1, u1, xp1, xn1, yp1, yn1, xs1, a1, b1⟩ ⟨k2, f2, r2, u2, xp2, xn2, yp2, yn2, xs2, a2, b2⟩ := by
  obtain ⟨rfl, h4, h6⟩ := hk
  have hp := (clause_0.1 o1).2.2.2.2.2.1
  have hs := fun q => inB_some hp (q := q)
  have l2 := lens_of o2
  unfold oneB
  by_cases h5 : k2 = 5
  · subst h5
    have q := clause_5.1 o2
    have hx := noneB_iff.1 q.2.2.2.2.2.1
    have hy := noneB_iff.1 q.2.2.2.2.2.2.1
    rw [if_pos rfl] at l2
    match xs2, l2 with
    | [p0, p1, p2, p3], _ =>
      simp only [six, hx.1, hx.2, hy.1, hy.2, if_true]
      rw [Bool.eq_iff_iff]
      simp
      intro h
      exact .inl (hs _ h)
  · rw [if_neg h5] at l2
    have e : xs2 = [] := List.eq_nil_of_length_eq_zero l2
    subst e
    simp only [six, if_neg h5, List.any_cons, List.any_nil, List.getD_nil, Bool.or_false]
    cases e0 : inB (xp1, xn1) (0, 0)
    · simp
    · simp [hs _ e0]

theorem six_each {k1 f1 r1 u1 xp1 xn1 yp1 yn1 a1 b1 k2 f2 r2 u2 xp2 xn2 yp2 yn2 a2 b2 : Int} {xs1 xs2 : List (Int × Int)} (o1 : clauseB k1 f1 r1 u1 xp1 xn1 yp1 yn1 xs1 a1 b1 = true) (o2 : clauseB k2 f2 r2 u2 xp2 xn2 yp2 yn2 xs2 a2 b2 = true) (hk : k1 = k2) :
    (inB (xp1, xn1) (xp2, xn2) && (inB (yp1, yn1) (yp2, yn2) && (inB (xs1.getD 0 (0, 0)) (xs2.getD 0 (0, 0)) && (inB (xs1.getD 1 (0, 0)) (xs2.getD 1 (0, 0)) && (inB (xs1.getD 2 (0, 0)) (xs2.getD 2 (0, 0)) && inB (xs1.getD 3 (0, 0)) (xs2.getD 3 (0, 0))))))) = eachB ⟨k1, f1, r1, u1, xp1, xn1, yp1, yn1, xs1, a1, b1⟩ ⟨k2, f2, r2, u2, xp2, xn2, yp2, yn2, xs2, a2, b2⟩ := by
  have l1 := lens_of o1
  have l2 := lens_of o2
  unfold eachB
  by_cases h5 : k1 = 5
  · rw [if_pos h5] at l1
    rw [if_pos (hk ▸ h5)] at l2
    show _ = ((List.range xs1.length).all _ && _)
    rw [l1, show List.range 4 = [0, 1, 2, 3] from rfl, Bool.eq_iff_iff]
    simp only [List.all_cons, List.all_nil, Bool.and_eq_true]
    constructor
    · rintro ⟨q1, q2, q3, q4, q5, q6⟩; exact ⟨⟨q3, q4, q5, q6, trivial⟩, q1, q2⟩
    · rintro ⟨⟨q3, q4, q5, q6, _⟩, q1, q2⟩; exact ⟨q1, q2, q3, q4, q5, q6⟩
  · rw [if_neg h5] at l1
    rw [if_neg (fun q => h5 (hk.trans q))] at l2
    have e1 : xs1 = [] := List.eq_nil_of_length_eq_zero l1
    have e2 : xs2 = [] := List.eq_nil_of_length_eq_zero l2
    subst e1 e2
    simp [inB_zero]

theorem im_of {k f r u xp xn yp yn a b : Int} {xs : List (Int × Int)} {im : Nat} (h : clauseB k f r u xp xn yp yn xs a b = true) (hl : xs.length = im) : im = 0 ∨ im = 4 := by
  have := lens_of h
  rw [hl] at this
  split at this
  · exact .inr this
  · exact .inl this

set_option maxRecDepth 100000 in
set_option maxHeartbeats 8000000 in
theorem implStronger_any {k1 f1 r1 u1 xp1 xn1 yp1 yn1 a1 b1 : Int} {ia1 : Option Addr} {im1 ic1 : Nat} {xs1 : List (Int × Int)} {lo1 hi1 : Nat} {k2 f2 r2 u2 xp2 xn2 yp2 yn2 a2 b2 : Int} {ia2 : Option Addr} {im2 ic2 : Nat} {xs2 : List (Int × Int)} {lo2 hi2 : Nat} {w : World} (h1 : RP lo1 hi1 w ia1 im1 ic1 xs1) (hh1 : hi1 ≤ w.heap.size) (h2 : RP lo2 hi2 w ia2 im2 ic2 xs2) (hh2 : hi2 ≤ w.heap.size) :
    Calls Try.prog 56 #[.agg #[.int .i64 k1, .int .i64 f1, .int .i64 r1, .int .i64 u1, .int .i64 xp1, .int .i64 xn1, .int .i64 yp1, .int .i64 yn1, .slice ia1 im1 ic1, .int .i64 a1, .int .i64 b1], .agg #[.int .i64 k2, .int .i64 f2, .int .i64 r2, .int .i64 u2, .int .i64 xp2, .int .i64 xn2, .int .i64 yp2, .int .i64 yn2, .slice ia2 im2 ic2, .int .i64 a2, .int .i64 b2]] w fun e w' => e = .returned (.bool (strongerB ⟨k1, f1, r1, u1, xp1, xn1, yp1, yn1, xs1, a1, b1⟩ ⟨k2, f2, r2, u2, xp2, xn2, yp2, yn2, xs2, a2, b2⟩)) ∧ Below w.heap.size w w' := by
  obtain ⟨W, hW⟩ : ∃ W, W = (w.alloc (.cells #[.int .i64 k1, .int .i64 f1, .int .i64 r1, .int .i64 u1, .int .i64 xp1, .int .i64 xn1, .int .i64 yp1, .int .i64 yn1, .slice ia1 im1 ic1, .int .i64 a1, .int .i64 b1] 84)).alloc (.cells #[.int .i64 k2, .int .i64 f2, .int .i64 r2, .int .i64 u2, .int .i64 xp2, .int .i64 xn2, .int .i64 yp2, .int .i64 yn2, .slice ia2 im2 ic2, .int .i64 a2, .int .i64 b2] 84) := ⟨_, rfl⟩
  have HW : Hid (W = (w.alloc (.cells #[.int .i64 k1, .int .i64 f1, .int .i64 r1, .int .i64 u1, .int .i64 xp1, .int .i64 xn1, .int .i64 yp1, .int .i64 yn1, .slice ia1 im1 ic1, .int .i64 a1, .int .i64 b1] 84)).alloc (.cells #[.int .i64 k2, .int .i64 f2, .int .i64 r2, .int .i64 u2, .int .i64 xp2, .int .i64 xn2, .int .i64 yp2, .int .i64 yn2, .slice ia2 im2 ic2, .int .i64 a2, .int .i64 b2] 84)) := hW
  have hb0 : Below w.heap.size w W := by rw [hW]; exact ((Below.refl _ _).alloc (Nat.le_refl _) _).alloc (by simp) _
  have HB0 : Hid (Below w.heap.size w W) := hb0
  have hbx : BoxK 84 W w.heap.size k1 f1 r1 u1 xp1 xn1 yp1 yn1 (.slice ia1 im1 ic1) a1 b1 := by rw [hW]; exact (BoxK.new _ w _ _ _ _ _ _ _ _ _ _ _).below ((Below.refl _ _).alloc (Nat.le_refl _) _) (by simp)
  have hby : BoxK 84 W (w.heap.size + 1) k2 f2 r2 u2 xp2 xn2 yp2 yn2 (.slice ia2 im2 ic2) a2 b2 := by
    have e := BoxK.new 84 (w.alloc (.cells #[.int .i64 k1, .int .i64 f1, .int .i64 r1, .int .i64 u1, .int .i64 xp1, .int .i64 xn1, .int .i64 yp1, .int .i64 yn1, .slice ia1 im1 ic1, .int .i64 a1, .int .i64 b1] 84)) k2 f2 r2 u2 xp2 xn2 yp2 yn2 (.slice ia2 im2 ic2) a2 b2
    rw [World.size_alloc] at e
    rw [hW]; exact e
  have HX : Hid (∀ V, Below W.heap.size W V → BoxK 84 V w.heap.size k1 f1 r1 u1 xp1 xn1 yp1 yn1 (.slice ia1 im1 ic1) a1 b1) := fun V hV => hbx.below hV hbx.lt
  have HY : Hid (∀ V, Below W.heap.size W V → BoxK 84 V (w.heap.size + 1) k2 f2 r2 u2 xp2 xn2 yp2 yn2 (.slice ia2 im2 ic2) a2 b2) := fun V hV => hby.below hV hby.lt
  have HR1 : Hid (∀ V, Below W.heap.size W V → RP lo1 hi1 V ia1 im1 ic1 xs1 ∧ hi1 ≤ V.heap.size) := fun V hV => ⟨(h1.below hb0 hh1).below hV (Nat.le_trans hh1 hb0.size), Nat.le_trans hh1 (Nat.le_trans hb0.size hV.size)⟩
  have HR2 : Hid (∀ V, Below W.heap.size W V → RP lo2 hi2 V ia2 im2 ic2 xs2 ∧ hi2 ≤ V.heap.size) := fun V hV => ⟨(h2.below hb0 hh2).below hV (Nat.le_trans hh2 hb0.size), Nat.le_trans hh2 (Nat.le_trans hb0.size hV.size)⟩
  have HL1 : Hid (xs1.length = im1) := h1.len
  have HL2 : Hid (xs2.length = im2) := h2.len
  have HFin : Hid (∀ V, Below W.heap.size W V → Below w.heap.size w V) := fun V hV => HB0.out.trans (hV.mono HB0.out.size)
  have HRf : Hid (Below W.heap.size W W) := Below.refl _ _
  obtain ⟨z0, z1, z2, z3, z4, z5, z6, z7, z8, z9, z10⟩ := hbx.cells
  obtain ⟨y0, y1, y2, y3, y4, y5, y6, y7, y8, y9, y10⟩ := hby.cells
  clear hW hb0 hbx hby h1 h2 hh1 hh2
  obtain ⟨S, hS⟩ : ∃ S, S = strongerB ⟨k1, f1, r1, u1, xp1, xn1, yp1, yn1, xs1, a1, b1⟩ ⟨k2, f2, r2, u2, xp2, xn2, yp2, yn2, xs2, a2, b2⟩ := ⟨_, rfl⟩
  rw [← hS]
  have HS : Hid (S = ((clauseB k1 f1 r1 u1 xp1 xn1 yp1 yn1 xs1 a1 b1 && clauseB k2 f2 r2 u2 xp2 xn2 yp2 yn2 xs2 a2 b2) && strongB ⟨k1, f1, r1, u1, xp1, xn1, yp1, yn1, xs1, a1, b1⟩ ⟨k2, f2, r2, u2, xp2, xn2, yp2, yn2, xs2, a2, b2⟩)) := hS
  have HSat : Hid (∀ V, Below W.heap.size W V → V.cell? ⟨w.heap.size, 0, none⟩ = some (.int .i64 k1) ∧ V.cell? ⟨w.heap.size, 1, none⟩ = some (.int .i64 f1) ∧ V.cell? ⟨w.heap.size, 2, none⟩ = some (.int .i64 r1) ∧ V.cell? ⟨w.heap.size, 3, none⟩ = some (.int .i64 u1) ∧ V.cell? ⟨w.heap.size, 4, none⟩ = some (.int .i64 xp1) ∧ V.cell? ⟨w.heap.size, 5, none⟩ = some (.int .i64 xn1) ∧ V.cell? ⟨w.heap.size, 6, none⟩ = some (.int .i64 yp1) ∧ V.cell? ⟨w.heap.size, 7, none⟩ = some (.int .i64 yn1) ∧ V.cell? ⟨w.heap.size, 8, none⟩ = some (.slice ia1 im1 ic1) ∧ V.cell? ⟨w.heap.size, 9, none⟩ = some (.int .i64 a1) ∧ V.cell? ⟨w.heap.size, 10, none⟩ = some (.int .i64 b1) ∧ V.cell? ⟨w.heap.size + 1, 0, none⟩ = some (.int .i64 k2) ∧ V.cell? ⟨w.heap.size + 1, 1, none⟩ = some (.int .i64 f2) ∧ V.cell? ⟨w.heap.size + 1, 2, none⟩ = some (.int .i64 r2) ∧ V.cell? ⟨w.heap.size + 1, 3, none⟩ = some (.int .i64 u2) ∧ V.cell? ⟨w.heap.size + 1, 4, none⟩ = some (.int .i64 xp2) ∧ V.cell? ⟨w.heap.size + 1, 5, none⟩ = some (.int .i64 xn2) ∧ V.cell? ⟨w.heap.size + 1, 6, none⟩ = some (.int .i64 yp2) ∧ V.cell? ⟨w.heap.size + 1, 7, none⟩ = some (.int .i64 yn2) ∧ V.cell? ⟨w.heap.size + 1, 8, none⟩ = some (.slice ia2 im2 ic2) ∧ V.cell? ⟨w.heap.size + 1, 9, none⟩ = some (.int .i64 a2) ∧ V.cell? ⟨w.heap.size + 1, 10, none⟩ = some (.int .i64 b2)) := fun V hV => by
    obtain ⟨z0, z1, z2, z3, z4, z5, z6, z7, z8, z9, z10⟩ := (HX.out _ hV).cells
    obtain ⟨y0, y1, y2, y3, y4, y5, y6, y7, y8, y9, y10⟩ := (HY.out _ hV).cells
    exact ⟨z0, z1, z2, z3, z4, z5, z6, z7, z8, z9, z10, y0, y1, y2, y3, y4, y5, y6, y7, y8, y9, y10⟩
  clear hS
  go_enter Try.func56, Try.ntmps56
  go_upto_region 1 with fail
  rw [← HW.out]
  go_wp2_with fail
  refine (implClauseOk_any (HR1.out _ HRf.out).1 (HR1.out _ HRf.out).2).mono ?_
  rintro e v1 ⟨rfl, hb⟩
  have G1 : Hid (Below W.heap.size W v1) := hb
  clear hb
  clear z0 z1 z2 z3 z4 z5 z6 z7 z8 z9 z10 y0 y1 y2 y3 y4 y5 y6 y7 y8 y9 y10
  obtain ⟨z0, z1, z2, z3, z4, z5, z6, z7, z8, z9, z10⟩ := (HX.out _ G1.out).cells
  obtain ⟨y0, y1, y2, y3, y4, y5, y6, y7, y8, y9, y10⟩ := (HY.out _ G1.out).cells
  obtain ⟨o1, ho1⟩ : ∃ o, o = clauseB k1 f1 r1 u1 xp1 xn1 yp1 yn1 xs1 a1 b1 := ⟨_, rfl⟩
  rw [← ho1]
  have HO1 : Hid (clauseB k1 f1 r1 u1 xp1 xn1 yp1 yn1 xs1 a1 b1 = o1) := ho1.symm
  clear ho1
  cases o1 with
  | false =>
    go_wp2_with fail
    all_goals
      go_ret
      exact ⟨rb (by rw [HS.out, HO1.out]; rfl), HFin.out _ G1.out⟩
  | true =>
  go_wp2_with fail
  refine (implClauseOk_any (HR2.out _ G1.out).1 (HR2.out _ G1.out).2).mono ?_
  rintro e v2 ⟨rfl, hb⟩
  have G2 : Hid (Below W.heap.size W v2) := G1.out.trans (hb.mono G1.out.size)
  have G2d : Hid (Below W.heap.size W v2.drew) := G2.out.drew
  clear hb
  clear z0 z1 z2 z3 z4 z5 z6 z7 z8 z9 z10 y0 y1 y2 y3 y4 y5 y6 y7 y8 y9 y10
  obtain ⟨z0, z1, z2, z3, z4, z5, z6, z7, z8, z9, z10⟩ := (HX.out _ G2.out).cells
  obtain ⟨y0, y1, y2, y3, y4, y5, y6, y7, y8, y9, y10⟩ := (HY.out _ G2.out).cells
  obtain ⟨o2, ho2⟩ : ∃ o, o = clauseB k2 f2 r2 u2 xp2 xn2 yp2 yn2 xs2 a2 b2 := ⟨_, rfl⟩
  rw [← ho2]
  have HO2 : Hid (clauseB k2 f2 r2 u2 xp2 xn2 yp2 yn2 xs2 a2 b2 = o2) := ho2.symm
  clear ho2
  cases o2 with
  | false =>
    go_wp2_with fail
    all_goals
      go_ret
      exact ⟨rb (by rw [HS.out, HO1.out, HO2.out]; rfl), HFin.out _ G2.out⟩
  | true =>
  have HI1 : Hid (im1 = 0 ∨ im1 = 4) := im_of HO1.out HL1.out
  have HI2 : Hid (im2 = 0 ∨ im2 = 4) := im_of HO2.out HL2.out
  by_cases hkk : k1 = 0 ∧ k2 ≠ 4 ∧ k2 ≠ 6
  · have HE : Hid (S = (six xp2 xn2 yp2 yn2 xs2).any (fun q => inB (xp1, xn1) q)) := by
      unfold Hid
      rw [HS.out, HO1.out, HO2.out, six_one HO1.out HO2.out hkk, strongB, if_pos hkk]
      rfl
    have g0 : (k1 == 0) = true := by simp [hkk.1]
    have g4 : (k2 != 4) = true := by simpa using hkk.2.1
    have g6 : (k2 != 6) = true := by simpa using hkk.2.2
    have hl6 : (six xp2 xn2 yp2 yn2 xs2).length = 6 := rfl
    obtain ⟨l6, hll⟩ : ∃ l, l = six xp2 xn2 yp2 yn2 xs2 := ⟨_, rfl⟩
    rw [← hll] at hl6
    have HLL : Hid (l6 = six xp2 xn2 yp2 yn2 xs2) := hll
    clear hkk hll
    go_upto_region 4 with fail
    first | go_region_held3 (fun V => V.cell? ⟨w.heap.size, 0, none⟩ = some (.int .i64 k1) ∧ V.cell? ⟨w.heap.size, 1, none⟩ = some (.int .i64 f1) ∧ V.cell? ⟨w.heap.size, 2, none⟩ = some (.int .i64 r1) ∧ V.cell? ⟨w.heap.size, 3, none⟩ = some (.int .i64 u1) ∧ V.cell? ⟨w.heap.size, 4, none⟩ = some (.int .i64 xp1) ∧ V.cell? ⟨w.heap.size, 5, none⟩ = some (.int .i64 xn1) ∧ V.cell? ⟨w.heap.size, 6, none⟩ = some (.int .i64 yp1) ∧ V.cell? ⟨w.heap.size, 7, none⟩ = some (.int .i64 yn1) ∧ V.cell? ⟨w.heap.size, 8, none⟩ = some (.slice ia1 im1 ic1) ∧ V.cell? ⟨w.heap.size, 9, none⟩ = some (.int .i64 a1) ∧ V.cell? ⟨w.heap.size, 10, none⟩ = some (.int .i64 b1) ∧ V.cell? ⟨w.heap.size + 1, 0, none⟩ = some (.int .i64 k2) ∧ V.cell? ⟨w.heap.size + 1, 1, none⟩ = some (.int .i64 f2) ∧ V.cell? ⟨w.heap.size + 1, 2, none⟩ = some (.int .i64 r2) ∧ V.cell? ⟨w.heap.size + 1, 3, none⟩ = some (.int .i64 u2) ∧ V.cell? ⟨w.heap.size + 1, 4, none⟩ = some (.int .i64 xp2) ∧ V.cell? ⟨w.heap.size + 1, 5, none⟩ = some (.int .i64 xn2) ∧ V.cell? ⟨w.heap.size + 1, 6, none⟩ = some (.int .i64 yp2) ∧ V.cell? ⟨w.heap.size + 1, 7, none⟩ = some (.int .i64 yn2) ∧ V.cell? ⟨w.heap.size + 1, 8, none⟩ = some (.slice ia2 im2 ic2) ∧ V.cell? ⟨w.heap.size + 1, 9, none⟩ = some (.int .i64 a2) ∧ V.cell? ⟨w.heap.size + 1, 10, none⟩ = some (.int .i64 b2)) (first | with_reducible exact HSat.out _ Hp2.out | with_reducible exact HSat.out _ Hp1.out | with_reducible exact HSat.out _ G2d.out) (first
      | (go_at_call 120; refine (partsOf_any (HR2.out _ G2d.out).1 (HR2.out _ G2d.out).2 HI2.out).mono ?_; rintro e p1 ⟨rfl, hb⟩; rw [← HLL.out]; have Hp1 : Hid (Below W.heap.size W p1) := G2d.out.trans (hb.mono G2d.out.size); clear hb)
      | (go_at_call 122; refine (withinOne_any xp1 xn1 l6 hl6 p1).mono ?_; rintro e p2 ⟨rfl, hb⟩; have Hp2 : Hid (Below W.heap.size W p2) := Hp1.out.trans (hb.mono Hp1.out.size); clear hb)) | fail
    all_goals
      go_wp2_with fail
      go_ret
      exact ⟨rb (by rw [HE.out, HLL.out]), HFin.out _ Hp2.out⟩
  · have hgo : (k1 == 0) = false ∨ (k1 == 0) = true ∧ (k2 != 4) = false ∨ (k1 == 0) = true ∧ (k2 != 4) = true ∧ (k2 != 6) = false := by
      by_cases q0 : k1 = 0
      · right
        by_cases q4 : k2 = 4
        · left; simp [q0, q4]
        · right
          by_cases q6 : k2 = 6
          · simp [q0, q6]
          · exact absurd ⟨q0, q4, q6⟩ hkk
      · left; simpa using q0
    have HE : Hid (S = (headB ⟨k1, f1, r1, u1, xp1, xn1, yp1, yn1, xs1, a1, b1⟩ ⟨k2, f2, r2, u2, xp2, xn2, yp2, yn2, xs2, a2, b2⟩ && eachB ⟨k1, f1, r1, u1, xp1, xn1, yp1, yn1, xs1, a1, b1⟩ ⟨k2, f2, r2, u2, xp2, xn2, yp2, yn2, xs2, a2, b2⟩)) := by
      unfold Hid
      rw [HS.out, HO1.out, HO2.out, strongB, if_neg hkk]
      rfl
    obtain ⟨hd, hhd⟩ : ∃ h, h = headB ⟨k1, f1, r1, u1, xp1, xn1, yp1, yn1, xs1, a1, b1⟩ ⟨k2, f2, r2, u2, xp2, xn2, yp2, yn2, xs2, a2, b2⟩ := ⟨_, rfl⟩
    have heq : ∀ V : World, (binOp .eql 161 (.agg #[.int .i64 k1, .int .i64 f1, .int .i64 r1, .int .i64 u1, .int .i64 a1, .int .i64 b1]) (.agg #[.int .i64 k2, .int .i64 f2, .int .i64 r2, .int .i64 u2, .int .i64 a2, .int .i64 b2])).run Try.prog V = .ok (.bool hd) V := fun V => by rw [eq_head, hhd]; rfl
    have HHd : Hid (headB ⟨k1, f1, r1, u1, xp1, xn1, yp1, yn1, xs1, a1, b1⟩ ⟨k2, f2, r2, u2, xp2, xn2, yp2, yn2, xs2, a2, b2⟩ = hd) := hhd.symm
    clear hkk hhd
    cases hd with
    | true =>
      have HEe : Hid (S = (inB (xp1, xn1) (xp2, xn2) && (inB (yp1, yn1) (yp2, yn2) && (inB (xs1.getD 0 (0, 0)) (xs2.getD 0 (0, 0)) && (inB (xs1.getD 1 (0, 0)) (xs2.getD 1 (0, 0)) && (inB (xs1.getD 2 (0, 0)) (xs2.getD 2 (0, 0)) && inB (xs1.getD 3 (0, 0)) (xs2.getD 3 (0, 0)))))))) := by
        unfold Hid
        have ek : (k1 = k2 ∧ f1 = f2) ∧ (r1 = r2 ∧ u1 = u2) ∧ (a1 = a2 ∧ b1 = b2) := of_decide_eq_true HHd.out
        rw [HE.out, HHd.out, six_each HO1.out HO2.out ek.1.1]
        rfl
      have HWE : Hid (∀ V : World, Calls Try.prog 124 #[.agg (cells12 (six xp1 xn1 yp1 yn1 xs1)), .agg (cells12 (six xp2 xn2 yp2 yn2 xs2))] V fun e w' => e = .returned (.bool S) ∧ Below V.heap.size V w') := fun V => by rw [HEe.out]; exact withinEach_12 _ _ _ _ _ _ _ _ _ _ _ _ _ _ _ _ _ _ _ _ _ _ _ _ V
      obtain ⟨m1, hm1⟩ : ∃ l, l = cells12 (six xp1 xn1 yp1 yn1 xs1) := ⟨_, rfl⟩
      have HM1 : Hid (cells12 (six xp1 xn1 yp1 yn1 xs1) = m1) := hm1.symm
      obtain ⟨m2, hm2⟩ : ∃ l, l = cells12 (six xp2 xn2 yp2 yn2 xs2) := ⟨_, rfl⟩
      have HM2 : Hid (cells12 (six xp2 xn2 yp2 yn2 xs2) = m2) := hm2.symm
      have HWE' : Hid (∀ V : World, Calls Try.prog 124 #[.agg m1, .agg m2] V fun e w' => e = .returned (.bool S) ∧ Below V.heap.size V w') := by unfold Hid; rw [hm1, hm2]; exact HWE.out
      clear hm1 hm2 HWE
      rcases hgo with g0 | ⟨g0, g4⟩ | ⟨g0, g4, g6⟩
      all_goals
        go_upto_region 5 with fail
        first | go_region_held3 (fun V => V.cell? ⟨w.heap.size, 0, none⟩ = some (.int .i64 k1) ∧ V.cell? ⟨w.heap.size, 1, none⟩ = some (.int .i64 f1) ∧ V.cell? ⟨w.heap.size, 2, none⟩ = some (.int .i64 r1) ∧ V.cell? ⟨w.heap.size, 3, none⟩ = some (.int .i64 u1) ∧ V.cell? ⟨w.heap.size, 4, none⟩ = some (.int .i64 xp1) ∧ V.cell? ⟨w.heap.size, 5, none⟩ = some (.int .i64 xn1) ∧ V.cell? ⟨w.heap.size, 6, none⟩ = some (.int .i64 yp1) ∧ V.cell? ⟨w.heap.size, 7, none⟩ = some (.int .i64 yn1) ∧ V.cell? ⟨w.heap.size, 8, none⟩ = some (.slice ia1 im1 ic1) ∧ V.cell? ⟨w.heap.size, 9, none⟩ = some (.int .i64 a1) ∧ V.cell? ⟨w.heap.size, 10, none⟩ = some (.int .i64 b1) ∧ V.cell? ⟨w.heap.size + 1, 0, none⟩ = some (.int .i64 k2) ∧ V.cell? ⟨w.heap.size + 1, 1, none⟩ = some (.int .i64 f2) ∧ V.cell? ⟨w.heap.size + 1, 2, none⟩ = some (.int .i64 r2) ∧ V.cell? ⟨w.heap.size + 1, 3, none⟩ = some (.int .i64 u2) ∧ V.cell? ⟨w.heap.size + 1, 4, none⟩ = some (.int .i64 xp2) ∧ V.cell? ⟨w.heap.size + 1, 5, none⟩ = some (.int .i64 xn2) ∧ V.cell? ⟨w.heap.size + 1, 6, none⟩ = some (.int .i64 yp2) ∧ V.cell? ⟨w.heap.size + 1, 7, none⟩ = some (.int .i64 yn2) ∧ V.cell? ⟨w.heap.size + 1, 8, none⟩ = some (.slice ia2 im2 ic2) ∧ V.cell? ⟨w.heap.size + 1, 9, none⟩ = some (.int .i64 a2) ∧ V.cell? ⟨w.heap.size + 1, 10, none⟩ = some (.int .i64 b2)) (first | with_reducible exact HSat.out _ Hp5.out | with_reducible exact HSat.out _ Hp4.out | with_reducible exact HSat.out _ Hp3.out | with_reducible exact HSat.out _ Hp2.out | with_reducible exact HSat.out _ Hp1.out | with_reducible exact HSat.out _ G2d.out) (first
          | (go_at_call_of 123 k1; refine (headOf_any rfl v2.drew).mono ?_; rintro e p1 ⟨rfl, hb⟩; have Hp1 : Hid (Below W.heap.size W p1) := G2d.out.trans (hb.mono G2d.out.size); clear hb)
          | (go_at_call_of 123 k2; refine (headOf_any rfl p1).mono ?_; rintro e p2 ⟨rfl, hb⟩; have Hp2 : Hid (Below W.heap.size W p2) := Hp1.out.trans (hb.mono Hp1.out.size); clear hb)
          | (go_at_call_of 120 k1; refine (partsOf_any (HR1.out _ Hp2.out).1 (HR1.out _ Hp2.out).2 HI1.out).mono ?_; rintro e p3 ⟨rfl, hb⟩; rw [HM1.out]; have Hp3 : Hid (Below W.heap.size W p3) := Hp2.out.trans (hb.mono Hp2.out.size); clear hb)
          | (go_at_call_of 120 k2; refine (partsOf_any (HR2.out _ Hp3.out).1 (HR2.out _ Hp3.out).2 HI2.out).mono ?_; rintro e p4 ⟨rfl, hb⟩; rw [HM2.out]; have Hp4 : Hid (Below W.heap.size W p4) := Hp3.out.trans (hb.mono Hp3.out.size); clear hb)
          | (go_at_call 124; refine (HWE'.out p4).mono ?_; rintro e p5 ⟨rfl, hb⟩; have Hp5 : Hid (Below W.heap.size W p5) := Hp4.out.trans (hb.mono Hp4.out.size); clear hb)) | fail
        all_goals
          go_wp2_with fail
          go_ret
          exact ⟨rfl, HFin.out _ Hp5.out⟩
    | false =>
      have HEf : Hid (S = false) := by unfold Hid; rw [HE.out, HHd.out]; rfl
      rcases hgo with g0 | ⟨g0, g4⟩ | ⟨g0, g4, g6⟩
      all_goals
        go_upto_region 5 with fail
        first | go_region_with (first
          | (go_at_call_of 123 k1; refine (headOf_any rfl v2.drew).mono ?_; rintro e p1 ⟨rfl, hb⟩; have Hp1 : Hid (Below W.heap.size W p1) := G2d.out.trans (hb.mono G2d.out.size); clear hb z0 z1 z2 z3 z4 z5 z6 z7 z8 z9 z10 y0 y1 y2 y3 y4 y5 y6 y7 y8 y9 y10; obtain ⟨z0, z1, z2, z3, z4, z5, z6, z7, z8, z9, z10⟩ := (HX.out _ Hp1.out).cells; obtain ⟨y0, y1, y2, y3, y4, y5, y6, y7, y8, y9, y10⟩ := (HY.out _ Hp1.out).cells)
          | (go_at_call_of 123 k2; refine (headOf_any rfl p1).mono ?_; rintro e p2 ⟨rfl, hb⟩; have Hp2 : Hid (Below W.heap.size W p2) := Hp1.out.trans (hb.mono Hp1.out.size); clear hb z0 z1 z2 z3 z4 z5 z6 z7 z8 z9 z10 y0 y1 y2 y3 y4 y5 y6 y7 y8 y9 y10; obtain ⟨z0, z1, z2, z3, z4, z5, z6, z7, z8, z9, z10⟩ := (HX.out _ Hp2.out).cells; obtain ⟨y0, y1, y2, y3, y4, y5, y6, y7, y8, y9, y10⟩ := (HY.out _ Hp2.out).cells)) | fail
        all_goals
          go_wp2_with fail
          go_ret
          exact ⟨rb HEf.out.symm, HFin.out _ Hp2.out⟩

end Go.Proofs.Ytjnmfjfikldiiaa
