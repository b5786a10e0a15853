/- Clauses in order, as the document has it: a contract. -/
import Derived.Test.YtbnhdhdldcbokaaCmpNum1
import Derived.Test.YtbnhdhdldcbokaaClSpec
import Derived.Deep.RegionHeld3
namespace Go.Proofs.Ytbnhdhdldcbokaa
open Go.RowKit

theorem lens_of {k f r u xp xn yp yn a b : Int} {xs : List (Int × Int)} (h : clauseB k f r u xp xn yp yn xs a b = true) : xs.length = if k = 5 then 4 else 0 := by
  unfold clauseB at h
  simp only [Bool.and_eq_true] at h
  have q := h.2.2.2.2.2.2.2.2.1
  unfold indB hasI at q
  by_cases e : k = 5
  · simp [e] at q; simp [e]; exact q.1
  · simp [e] at q; simp [e, q]

/-- -1, 0, 1 by the first of n places at which they differ. -/
def cmpR (f g : Nat → Int) (n : Nat) : Int := match (List.range n).find? (fun i => f i != g i) with | some i => if f i < g i then -1 else 1 | none => 0

theorem cmpR_hit {f g : Nat → Int} {n i : Nat} (hi : i < n) (hj : ∀ j, j < i → f j = g j) (hd : f i ≠ g i) : cmpR f g n = if f i < g i then -1 else 1 := by
  have e : (List.range n).find? (fun i => f i != g i) = some i := by
    rw [List.find?_range_eq_some]
    exact ⟨by simpa using hd, by simpa using hi, fun j h => by simpa using hj j h⟩
  unfold cmpR
  rw [e]

theorem cmpR_none {f g : Nat → Int} {n : Nat} (h : ∀ j, j < n → f j = g j) : cmpR f g n = 0 := by
  have e : (List.range n).find? (fun i => f i != g i) = none := by
    rw [List.find?_range_eq_none]
    exact fun j hj => by simpa using h j hj
  unfold cmpR
  rw [e]

/-- Two that agree as far as one goes, and from there on have nothing that differs. -/
theorem cmpR_more {f g f' g' : Nat → Int} {n n' : Nat} (h : ∀ i, i < n → f i = f' i ∧ g i = g' i) (hn : n ≤ n') (hr : ∀ i, n ≤ i → i < n' → f' i = g' i) : cmpR f g n = cmpR f' g' n' := by
  cases e : (List.range n).find? (fun i => f i != g i) with
  | some i =>
    rw [List.find?_range_eq_some] at e
    obtain ⟨e1, e2, e3⟩ := e
    have hi : i < n := by simpa using e2
    have hd : f i ≠ g i := by simpa using e1
    have hj : ∀ j, j < i → f j = g j := fun j h => by simpa using e3 j h
    rw [cmpR_hit hi hj hd, cmpR_hit (f := f') (g := g') (n := n') (i := i) (by omega) (fun j hj' => by rw [← (h j (by omega)).1, ← (h j (by omega)).2]; exact hj j hj') (by rw [← (h i hi).1, ← (h i hi).2]; exact hd), (h i hi).1, (h i hi).2]
  | none =>
    rw [List.find?_range_eq_none] at e
    have hall : ∀ j, j < n → f j = g j := fun j hj => by simpa using e j hj
    rw [cmpR_none hall, cmpR_none]
    intro j hj
    by_cases q : j < n
    · rw [← (h j q).1, ← (h j q).2]; exact hall j q
    · exact hr j (by omega) hj

def cmpC (x y : CL) : Int :=
  if (clauseB x.kind x.fn x.role x.above x.xp x.xn x.yp x.yn x.inds x.a x.b && clauseB y.kind y.fn y.role y.above y.xp y.xn y.yp y.yn y.inds y.a y.b) = true then
    cmpR (fun i => (numsL x.kind x.fn x.role x.above x.xp x.xn x.yp x.yn x.inds x.a x.b).getD i 0) (fun i => (numsL y.kind y.fn y.role y.above y.xp y.xn y.yp y.yn y.inds y.a y.b).getD i 0) (Nat.min (10 + 2 * x.inds.length) (10 + 2 * y.inds.length))
  else 0

set_option maxRecDepth 100000 in
set_option maxHeartbeats 8000000 in
theorem specClauseCmp_any {k1 f1 r1 u1 xp1 xn1 yp1 yn1 a1 b1 : Int} {ia1 : Option Addr} {im1 ic1 : Nat} {xs1 : List (Int × Int)} {lo1 hi1 : Nat} {k2 f2 r2 u2 xp2 xn2 yp2 yn2 a2 b2 : Int} {ia2 : Option Addr} {im2 ic2 : Nat} {xs2 : List (Int × Int)} {lo2 hi2 : Nat} {w : World} (h1 : RP lo1 hi1 w ia1 im1 ic1 xs1) (hh1 : hi1 ≤ w.heap.size) (h2 : RP lo2 hi2 w ia2 im2 ic2 xs2) (hh2 : hi2 ≤ w.heap.size) :
    Calls Try.prog 17 #[.agg #[.int .i64 k1, .int .i64 f1, .int .i64 r1, .int .i64 u1, .int .i64 xp1, .int .i64 xn1, .int .i64 yp1, .int .i64 yn1, .slice ia1 im1 ic1, .int .i64 a1, .int .i64 b1], .agg #[.int .i64 k2, .int .i64 f2, .int .i64 r2, .int .i64 u2, .int .i64 xp2, .int .i64 xn2, .int .i64 yp2, .int .i64 yn2, .slice ia2 im2 ic2, .int .i64 a2, .int .i64 b2]] w fun e w' => e = .returned (.int .i64 (cmpC ⟨k1, f1, r1, u1, xp1, xn1, yp1, yn1, xs1, a1, b1⟩ ⟨k2, f2, r2, u2, xp2, xn2, yp2, yn2, xs2, a2, b2⟩)) ∧ Below w.heap.size w w' := by
  obtain ⟨W, hW⟩ : ∃ W, W = (w.alloc (.cells #[.int .i64 k1, .int .i64 f1, .int .i64 r1, .int .i64 u1, .int .i64 xp1, .int .i64 xn1, .int .i64 yp1, .int .i64 yn1, .slice ia1 im1 ic1, .int .i64 a1, .int .i64 b1] 37)).alloc (.cells #[.int .i64 k2, .int .i64 f2, .int .i64 r2, .int .i64 u2, .int .i64 xp2, .int .i64 xn2, .int .i64 yp2, .int .i64 yn2, .slice ia2 im2 ic2, .int .i64 a2, .int .i64 b2] 37) := ⟨_, rfl⟩
  have HW : Hid (W = (w.alloc (.cells #[.int .i64 k1, .int .i64 f1, .int .i64 r1, .int .i64 u1, .int .i64 xp1, .int .i64 xn1, .int .i64 yp1, .int .i64 yn1, .slice ia1 im1 ic1, .int .i64 a1, .int .i64 b1] 37)).alloc (.cells #[.int .i64 k2, .int .i64 f2, .int .i64 r2, .int .i64 u2, .int .i64 xp2, .int .i64 xn2, .int .i64 yp2, .int .i64 yn2, .slice ia2 im2 ic2, .int .i64 a2, .int .i64 b2] 37)) := hW
  have hb0 : Below w.heap.size w W := by rw [hW]; exact ((Below.refl _ _).alloc (Nat.le_refl _) _).alloc (by simp) _
  have HB0 : Hid (Below w.heap.size w W) := hb0
  have hbx : BoxK 37 W w.heap.size k1 f1 r1 u1 xp1 xn1 yp1 yn1 (.slice ia1 im1 ic1) a1 b1 := by rw [hW]; exact (BoxK.new _ w _ _ _ _ _ _ _ _ _ _ _).below ((Below.refl _ _).alloc (Nat.le_refl _) _) (by simp)
  have hby : BoxK 37 W (w.heap.size + 1) k2 f2 r2 u2 xp2 xn2 yp2 yn2 (.slice ia2 im2 ic2) a2 b2 := by
    have e := BoxK.new 37 (w.alloc (.cells #[.int .i64 k1, .int .i64 f1, .int .i64 r1, .int .i64 u1, .int .i64 xp1, .int .i64 xn1, .int .i64 yp1, .int .i64 yn1, .slice ia1 im1 ic1, .int .i64 a1, .int .i64 b1] 37)) k2 f2 r2 u2 xp2 xn2 yp2 yn2 (.slice ia2 im2 ic2) a2 b2
    rw [World.size_alloc] at e
    rw [hW]; exact e
  have HX : Hid (∀ V, Below W.heap.size W V → BoxK 37 V w.heap.size k1 f1 r1 u1 xp1 xn1 yp1 yn1 (.slice ia1 im1 ic1) a1 b1) := fun V hV => hbx.below hV hbx.lt
  have HY : Hid (∀ V, Below W.heap.size W V → BoxK 37 V (w.heap.size + 1) k2 f2 r2 u2 xp2 xn2 yp2 yn2 (.slice ia2 im2 ic2) a2 b2) := fun V hV => hby.below hV hby.lt
  have HR1 : Hid (∀ V, Below W.heap.size W V → RP lo1 hi1 V ia1 im1 ic1 xs1 ∧ hi1 ≤ V.heap.size) := fun V hV => ⟨(h1.below hb0 hh1).below hV (Nat.le_trans hh1 hb0.size), Nat.le_trans hh1 (Nat.le_trans hb0.size hV.size)⟩
  have HR2 : Hid (∀ V, Below W.heap.size W V → RP lo2 hi2 V ia2 im2 ic2 xs2 ∧ hi2 ≤ V.heap.size) := fun V hV => ⟨(h2.below hb0 hh2).below hV (Nat.le_trans hh2 hb0.size), Nat.le_trans hh2 (Nat.le_trans hb0.size hV.size)⟩
  have HL1 : Hid (xs1.length = im1) := h1.len
  have HL2 : Hid (xs2.length = im2) := h2.len
  have HFin : Hid (∀ V, Below W.heap.size W V → Below w.heap.size w V) := fun V hV => HB0.out.trans (hV.mono HB0.out.size)
  have HRf : Hid (Below W.heap.size W W) := Below.refl _ _
  obtain ⟨z0, z1, z2, z3, z4, z5, z6, z7, z8, z9, z10⟩ := hbx.cells
  obtain ⟨y0, y1, y2, y3, y4, y5, y6, y7, y8, y9, y10⟩ := hby.cells
  clear hW hb0 hbx hby h1 h2 hh1 hh2
  obtain ⟨S, hS⟩ : ∃ S, S = cmpC ⟨k1, f1, r1, u1, xp1, xn1, yp1, yn1, xs1, a1, b1⟩ ⟨k2, f2, r2, u2, xp2, xn2, yp2, yn2, xs2, a2, b2⟩ := ⟨_, rfl⟩
  rw [← hS]
  have HS : Hid (S = if (clauseB k1 f1 r1 u1 xp1 xn1 yp1 yn1 xs1 a1 b1 && clauseB k2 f2 r2 u2 xp2 xn2 yp2 yn2 xs2 a2 b2) = true then cmpR (fun i => (numsL k1 f1 r1 u1 xp1 xn1 yp1 yn1 xs1 a1 b1).getD i 0) (fun i => (numsL k2 f2 r2 u2 xp2 xn2 yp2 yn2 xs2 a2 b2).getD i 0) (Nat.min (10 + 2 * im1) (10 + 2 * im2)) else 0) := by
    unfold Hid
    rw [hS, ← HL1.out, ← HL2.out]
    rfl
  have HSat : Hid (∀ V, Below W.heap.size W V → V.cell? ⟨w.heap.size, 0, none⟩ = some (.int .i64 k1) ∧ V.cell? ⟨w.heap.size, 1, none⟩ = some (.int .i64 f1) ∧ V.cell? ⟨w.heap.size, 2, none⟩ = some (.int .i64 r1) ∧ V.cell? ⟨w.heap.size, 3, none⟩ = some (.int .i64 u1) ∧ V.cell? ⟨w.heap.size, 4, none⟩ = some (.int .i64 xp1) ∧ V.cell? ⟨w.heap.size, 5, none⟩ = some (.int .i64 xn1) ∧ V.cell? ⟨w.heap.size, 6, none⟩ = some (.int .i64 yp1) ∧ V.cell? ⟨w.heap.size, 7, none⟩ = some (.int .i64 yn1) ∧ V.cell? ⟨w.heap.size, 8, none⟩ = some (.slice ia1 im1 ic1) ∧ V.cell? ⟨w.heap.size, 9, none⟩ = some (.int .i64 a1) ∧ V.cell? ⟨w.heap.size, 10, none⟩ = some (.int .i64 b1) ∧ V.cell? ⟨w.heap.size + 1, 0, none⟩ = some (.int .i64 k2) ∧ V.cell? ⟨w.heap.size + 1, 1, none⟩ = some (.int .i64 f2) ∧ V.cell? ⟨w.heap.size + 1, 2, none⟩ = some (.int .i64 r2) ∧ V.cell? ⟨w.heap.size + 1, 3, none⟩ = some (.int .i64 u2) ∧ V.cell? ⟨w.heap.size + 1, 4, none⟩ = some (.int .i64 xp2) ∧ V.cell? ⟨w.heap.size + 1, 5, none⟩ = some (.int .i64 xn2) ∧ V.cell? ⟨w.heap.size + 1, 6, none⟩ = some (.int .i64 yp2) ∧ V.cell? ⟨w.heap.size + 1, 7, none⟩ = some (.int .i64 yn2) ∧ V.cell? ⟨w.heap.size + 1, 8, none⟩ = some (.slice ia2 im2 ic2) ∧ V.cell? ⟨w.heap.size + 1, 9, none⟩ = some (.int .i64 a2) ∧ V.cell? ⟨w.heap.size + 1, 10, none⟩ = some (.int .i64 b2)) := fun V hV => by
    obtain ⟨z0, z1, z2, z3, z4, z5, z6, z7, z8, z9, z10⟩ := (HX.out _ hV).cells
    obtain ⟨y0, y1, y2, y3, y4, y5, y6, y7, y8, y9, y10⟩ := (HY.out _ hV).cells
    exact ⟨z0, z1, z2, z3, z4, z5, z6, z7, z8, z9, z10, y0, y1, y2, y3, y4, y5, y6, y7, y8, y9, y10⟩
  clear hS
  go_enter Try.func17, Try.ntmps17
  go_upto_region 1 with fail
  rw [← HW.out]
  go_wp2_with fail
  refine (specClauseOk_any (HR1.out _ HRf.out).1 (HR1.out _ HRf.out).2).mono ?_
  rintro e v1 ⟨rfl, hb⟩
  have G1 : Hid (Below W.heap.size W v1) := hb
  clear hb
  clear z0 z1 z2 z3 z4 z5 z6 z7 z8 z9 z10 y0 y1 y2 y3 y4 y5 y6 y7 y8 y9 y10
  obtain ⟨z0, z1, z2, z3, z4, z5, z6, z7, z8, z9, z10⟩ := (HX.out _ G1.out).cells
  obtain ⟨y0, y1, y2, y3, y4, y5, y6, y7, y8, y9, y10⟩ := (HY.out _ G1.out).cells
  obtain ⟨o1, ho1⟩ : ∃ o, o = clauseB k1 f1 r1 u1 xp1 xn1 yp1 yn1 xs1 a1 b1 := ⟨_, rfl⟩
  rw [← ho1]
  have HO1 : Hid (clauseB k1 f1 r1 u1 xp1 xn1 yp1 yn1 xs1 a1 b1 = o1) := ho1.symm
  clear ho1
  cases o1 with
  | false =>
    go_wp2_with fail
    all_goals
      go_ret
      exact ⟨ri (by rw [HS.out, HO1.out]; rfl), HFin.out _ G1.out⟩
  | true =>
  go_wp2_with fail
  refine (specClauseOk_any (HR2.out _ G1.out).1 (HR2.out _ G1.out).2).mono ?_
  rintro e v2 ⟨rfl, hb⟩
  have G2 : Hid (Below W.heap.size W v2) := G1.out.trans (hb.mono G1.out.size)
  have G2d : Hid (Below W.heap.size W v2.drew) := G2.out.drew
  clear hb
  clear z0 z1 z2 z3 z4 z5 z6 z7 z8 z9 z10 y0 y1 y2 y3 y4 y5 y6 y7 y8 y9 y10
  obtain ⟨z0, z1, z2, z3, z4, z5, z6, z7, z8, z9, z10⟩ := (HX.out _ G2.out).cells
  obtain ⟨y0, y1, y2, y3, y4, y5, y6, y7, y8, y9, y10⟩ := (HY.out _ G2.out).cells
  obtain ⟨o2, ho2⟩ : ∃ o, o = clauseB k2 f2 r2 u2 xp2 xn2 yp2 yn2 xs2 a2 b2 := ⟨_, rfl⟩
  rw [← ho2]
  have HO2 : Hid (clauseB k2 f2 r2 u2 xp2 xn2 yp2 yn2 xs2 a2 b2 = o2) := ho2.symm
  clear ho2
  cases o2 with
  | false =>
    go_wp2_with fail
    all_goals
      go_ret
      exact ⟨ri (by rw [HS.out, HO1.out, HO2.out]; rfl), HFin.out _ G2.out⟩
  | true =>
  have HI1 : Hid (im1 ≤ 4) := by
    have := lens_of HO1.out
    rw [HL1.out] at this
    unfold Hid
    split at this <;> omega
  have HI2 : Hid (im2 ≤ 4) := by
    have := lens_of HO2.out
    rw [HL2.out] at this
    unfold Hid
    split at this <;> omega
  obtain ⟨F, hF⟩ : ∃ F : Nat → Int, F = fun i => (numsL k1 f1 r1 u1 xp1 xn1 yp1 yn1 xs1 a1 b1).getD i 0 := ⟨_, rfl⟩
  obtain ⟨G, hG⟩ : ∃ G : Nat → Int, G = fun i => (numsL k2 f2 r2 u2 xp2 xn2 yp2 yn2 xs2 a2 b2).getD i 0 := ⟨_, rfl⟩
  have HE : Hid (S = cmpR F G (Nat.min (10 + 2 * im1) (10 + 2 * im2))) := by
    unfold Hid
    rw [HS.out, HO1.out, HO2.out, hF, hG]
    rfl
  have HF : Hid (∀ i, (numsL k1 f1 r1 u1 xp1 xn1 yp1 yn1 xs1 a1 b1).getD i 0 = F i) := fun i => by rw [hF]
  have HG : Hid (∀ i, (numsL k2 f2 r2 u2 xp2 xn2 yp2 yn2 xs2 a2 b2).getD i 0 = G i) := fun i => by rw [hG]
  clear hF hG
  go_upto_region 3 with fail
  go_cut [5, 6] (fun v v' V => ∃ g1 c1 g2 c2, v = .slice (some ⟨g1, 0, none⟩) (10 + 2 * im1) c1 ∧ v' = .slice (some ⟨g2, 0, none⟩) (10 + 2 * im2) c2 ∧ 10 + 2 * im1 ≤ c1 ∧ 10 + 2 * im2 ≤ c2 ∧ (g1 < V.heap.size ∧ ∀ i, i < 10 + 2 * im1 → V.cell? ⟨g1, i, none⟩ = some (.int .i64 (F i))) ∧ (g2 < V.heap.size ∧ ∀ i, i < 10 + 2 * im2 → V.cell? ⟨g2, i, none⟩ = some (.int .i64 (G i))) ∧ Below W.heap.size W V)
  case first =>
    first | go_region_held3 (fun V => V.cell? ⟨w.heap.size, 0, none⟩ = some (.int .i64 k1) ∧ V.cell? ⟨w.heap.size, 1, none⟩ = some (.int .i64 f1) ∧ V.cell? ⟨w.heap.size, 2, none⟩ = some (.int .i64 r1) ∧ V.cell? ⟨w.heap.size, 3, none⟩ = some (.int .i64 u1) ∧ V.cell? ⟨w.heap.size, 4, none⟩ = some (.int .i64 xp1) ∧ V.cell? ⟨w.heap.size, 5, none⟩ = some (.int .i64 xn1) ∧ V.cell? ⟨w.heap.size, 6, none⟩ = some (.int .i64 yp1) ∧ V.cell? ⟨w.heap.size, 7, none⟩ = some (.int .i64 yn1) ∧ V.cell? ⟨w.heap.size, 8, none⟩ = some (.slice ia1 im1 ic1) ∧ V.cell? ⟨w.heap.size, 9, none⟩ = some (.int .i64 a1) ∧ V.cell? ⟨w.heap.size, 10, none⟩ = some (.int .i64 b1) ∧ V.cell? ⟨w.heap.size + 1, 0, none⟩ = some (.int .i64 k2) ∧ V.cell? ⟨w.heap.size + 1, 1, none⟩ = some (.int .i64 f2) ∧ V.cell? ⟨w.heap.size + 1, 2, none⟩ = some (.int .i64 r2) ∧ V.cell? ⟨w.heap.size + 1, 3, none⟩ = some (.int .i64 u2) ∧ V.cell? ⟨w.heap.size + 1, 4, none⟩ = some (.int .i64 xp2) ∧ V.cell? ⟨w.heap.size + 1, 5, none⟩ = some (.int .i64 xn2) ∧ V.cell? ⟨w.heap.size + 1, 6, none⟩ = some (.int .i64 yp2) ∧ V.cell? ⟨w.heap.size + 1, 7, none⟩ = some (.int .i64 yn2) ∧ V.cell? ⟨w.heap.size + 1, 8, none⟩ = some (.slice ia2 im2 ic2) ∧ V.cell? ⟨w.heap.size + 1, 9, none⟩ = some (.int .i64 a2) ∧ V.cell? ⟨w.heap.size + 1, 10, none⟩ = some (.int .i64 b2)) (first | with_reducible exact HSat.out _ Hp2.out | with_reducible exact HSat.out _ Hp1.out | with_reducible exact HSat.out _ G2d.out) (first
      | (go_at_call_of 42 k1; refine (l5nums_any (HR1.out _ G2d.out).1 (HR1.out _ G2d.out).2 HI1.out).mono ?_; rintro e p1 ⟨g1, c1, rfl, hc1, _, hg1, hcell1, hb⟩; have Hp1 : Hid (Below W.heap.size W p1) := G2d.out.trans (hb.mono G2d.out.size); have HN1 : Hid (g1 < p1.heap.size ∧ ∀ i, i < 10 + 2 * im1 → p1.cell? ⟨g1, i, none⟩ = some (.int .i64 (F i))) := ⟨hg1, fun i hi => (by rw [← HF.out]; exact hcell1 i hi)⟩; have HC1 : Hid (10 + 2 * im1 ≤ c1) := hc1; clear hb hg1 hcell1 hc1)
      | (go_at_call_of 42 k2; refine (l5nums_any (HR2.out _ Hp1.out).1 (HR2.out _ Hp1.out).2 HI2.out).mono ?_; rintro e p2 ⟨g2, c2, rfl, hc2, _, hg2, hcell2, hb⟩; have Hp2 : Hid (Below W.heap.size W p2) := Hp1.out.trans (hb.mono Hp1.out.size); have HM1 : Hid (g1 < p2.heap.size ∧ ∀ i, i < 10 + 2 * im1 → p2.cell? ⟨g1, i, none⟩ = some (.int .i64 (F i))) := ⟨Nat.lt_of_lt_of_le HN1.out.1 hb.size, fun i hi => (World.cell?_of_block (w := p1) (hb.block g1 HN1.out.1)).trans (HN1.out.2 i hi)⟩; have HN2 : Hid (g2 < p2.heap.size ∧ ∀ i, i < 10 + 2 * im2 → p2.cell? ⟨g2, i, none⟩ = some (.int .i64 (G i))) := ⟨hg2, fun i hi => (by rw [← HG.out]; exact hcell2 i hi)⟩; have HC2 : Hid (10 + 2 * im2 ≤ c2) := hc2; clear hb hg2 hcell2 hc2)) | fail
    all_goals
      go_wp2_with fail
      go_meet
      case rel => exact ⟨g1, c1, g2, c2, rfl, rfl, HC1.out, HC2.out, HM1.out, HN2.out, Hp2.out⟩
  case rest =>
    obtain ⟨g1, c1, g2, c2, hv1, hv2, hc1, hc2, ⟨hg1, hcell1⟩, ⟨hg2, hcell2⟩, hbe⟩ := hcut
    subst hv1 hv2
    obtain ⟨Wn, hWn⟩ : ∃ V, V = wc := ⟨_, rfl⟩
    subst hWn
    have HBn : Hid (Below W.heap.size W Wn) := hbe
    have HN1 : Hid (∀ i, i < 10 + 2 * im1 → Wn.cell? ⟨g1, i, none⟩ = some (.int .i64 (F i))) := hcell1
    have HN2 : Hid (∀ i, i < 10 + 2 * im2 → Wn.cell? ⟨g2, i, none⟩ = some (.int .i64 (G i))) := hcell2
    have hi1 : im1 ≤ 4 := HI1.out
    have hi2 : im2 ≤ 4 := HI2.out
    clear hbe hcell1 hcell2 z0 z1 z2 z3 z4 z5 z6 z7 z8 z9 z10 y0 y1 y2 y3 y4 y5 y6 y7 y8 y9 y10
    go_wp2_with fail
    go_loopw [7] (fun i wr => ∃ j : Nat, j ≤ 10 + 2 * im1 ∧ j ≤ 10 + 2 * im2 ∧ i = .int .i64 j ∧ (∀ i, i < j → F i = G i) ∧ Below Wn.heap.size Wn wr) (fun i _ => 10 + 2 * im1 - (intOf i).toNat)
    case atStart => exact ⟨0, Nat.zero_le _, Nat.zero_le _, rfl, fun i hi => absurd hi (by omega), Below.refl _ _⟩
    case round =>
      obtain ⟨j, hj1, hj2, rfl, hall, hbel⟩ := hrel
      have HAll : Hid (∀ i, i < j → F i = G i) := hall
      have HB : Hid (Below Wn.heap.size Wn wr) := hbel
      have HFn : Hid (Below w.heap.size w wr) := HFin.out _ (HBn.out.trans (hbel.mono HBn.out.size))
      by_cases hl1 : j < 10 + 2 * im1
      · by_cases hl2 : j < 10 + 2 * im2
        · have q1 : wr.cell? ⟨g1, j, none⟩ = some (.int .i64 (F j)) := (World.cell?_of_block (w := Wn) (hbel.block g1 hg1)).trans (HN1.out j hl1)
          have q2 : wr.cell? ⟨g2, j, none⟩ = some (.int .i64 (G j)) := (World.cell?_of_block (w := Wn) (hbel.block g2 hg2)).trans (HN2.out j hl2)
          have q1d : wr.drew.cell? ⟨g1, j, none⟩ = some (.int .i64 (F j)) := q1
          have q2d : wr.drew.cell? ⟨g2, j, none⟩ = some (.int .i64 (G j)) := q2
          obtain ⟨x, hx⟩ : ∃ x, x = F j := ⟨_, rfl⟩
          obtain ⟨y, hy⟩ : ∃ y, y = G j := ⟨_, rfl⟩
          rw [← hx] at q1 q1d
          rw [← hy] at q2 q2d
          have HX' : Hid (x = F j) := hx
          have HY' : Hid (y = G j) := hy
          have hk1 : (j : Int) < ((10 + 2 * im1 : Nat) : Int) := by omega
          have hk2 : (j : Int) < ((10 + 2 * im2 : Nat) : Int) := by omega
          clear hx hy hall hbel
          rcases (by omega : x < y ∨ y < x ∨ x = y) with hlt | hgt | heq
          · have HR : Hid (S = -1) := by
              unfold Hid
              rw [HE.out, cmpR_hit (i := j) (Nat.lt_min.2 ⟨hl1, hl2⟩) HAll.out (by rw [← HX'.out, ← HY'.out]; omega), if_pos (by rw [← HX'.out, ← HY'.out]; exact hlt)]
            go_wp2_with fail
            first | go_region | fail
            all_goals
              go_wp2_with fail
              go_ret
              exact ⟨ri HR.out.symm, HFn.out.drew⟩
          · have HR : Hid (S = 1) := by
              unfold Hid
              rw [HE.out, cmpR_hit (i := j) (Nat.lt_min.2 ⟨hl1, hl2⟩) HAll.out (by rw [← HX'.out, ← HY'.out]; omega), if_neg (by rw [← HX'.out, ← HY'.out]; omega)]
            have hnl : ¬ x < y := by omega
            go_wp2_with fail
            first | go_region | fail
            all_goals
              go_wp2_with fail
              first | go_region | fail
              all_goals
                go_wp2_with fail
                go_ret
                exact ⟨ri HR.out.symm, HFn.out.drew.drew⟩
          · have HAll' : Hid (∀ i, i < j + 1 → F i = G i) := by
              intro i hi
              by_cases e : i = j
              · subst e; rw [← HX'.out, ← HY'.out]; exact heq
              · exact HAll.out i (by omega)
            have hnl : ¬ x < y := by omega
            have hng : ¬ y < x := by omega
            clear heq
            go_wp2_with fail
            first | go_region | fail
            all_goals
              go_wp2_with fail
              first | go_region | fail
              all_goals
                go_wp2_with fail
                go_roundw
                case rel => exact ⟨j + 1, by omega, by omega, by go_num, HAll'.out, HB.out.drew.drew⟩
                case measure => simp [intOf]; omega
        · have HR : Hid (S = 0) := by
            unfold Hid
            rw [HE.out]
            exact cmpR_none (fun i hi => HAll.out i (by have := Nat.min_le_right (10 + 2 * im1) (10 + 2 * im2); have : Nat.min (10 + 2 * im1) (10 + 2 * im2) ≤ 10 + 2 * im2 := Nat.min_le_right _ _; omega))
          have hk1 : (j : Int) < ((10 + 2 * im1 : Nat) : Int) := by omega
          have hd : decide ((j : Int) < ((10 + 2 * im2 : Nat) : Int)) = false := by simp; omega
          clear hall hbel
          go_wp2_with fail
          all_goals
            go_ret
            exact ⟨ri HR.out.symm, HFn.out⟩
      · have HR : Hid (S = 0) := by
          unfold Hid
          rw [HE.out]
          exact cmpR_none (fun i hi => HAll.out i (by have : Nat.min (10 + 2 * im1) (10 + 2 * im2) ≤ 10 + 2 * im1 := Nat.min_le_left _ _; omega))
        have hd : decide ((j : Int) < ((10 + 2 * im1 : Nat) : Int)) = false := by simp; omega
        clear hall hbel
        go_wp2_with fail
        all_goals
          go_ret
          exact ⟨ri HR.out.symm, HFn.out⟩

end Go.Proofs.Ytbnhdhdldcbokaa
