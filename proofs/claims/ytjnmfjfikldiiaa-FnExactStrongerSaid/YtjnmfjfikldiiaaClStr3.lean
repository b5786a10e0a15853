/- What is stronger than what, as the document has it: a contract of each function. -/
import Derived.Test.YtjnmfjfikldiiaaClStr1
import Derived.Test.YtjnmfjfikldiiaaClSpec
namespace Go.Proofs.Ytjnmfjfikldiiaa
open Go.RowKit

def headB (x y : CL) : Bool := decide ((x.kind = y.kind ∧ x.fn = y.fn) ∧ (x.role = y.role ∧ x.above = y.above) ∧ (x.a = y.a ∧ x.b = y.b))
def oneB (x y : CL) : Bool := if y.kind = 5 then y.inds.any (fun q => inB (x.xp, x.xn) q) else inB (x.xp, x.xn) (y.xp, y.xn) || inB (x.xp, x.xn) (y.yp, y.yn)
def eachB (x y : CL) : Bool := (List.range x.inds.length).all (fun i => inB (x.inds.getD i (0, 0)) (y.inds.getD i (0, 0))) && (inB (x.xp, x.xn) (y.xp, y.xn) && inB (x.yp, x.yn) (y.yp, y.yn))
def strongB (x y : CL) : Bool := if x.kind = 0 ∧ y.kind ≠ 4 ∧ y.kind ≠ 6 then oneB x y else headB x y && eachB x y

theorem range_all_step {n j : Nat} {g : Nat → Bool} (h : ∀ i, i < j → g i = true) (hj : n ≤ j) : (List.range n).all g = true := by
  rw [List.all_eq_true]
  intro i hi
  exact h i (by have := List.mem_range.1 hi; omega)

set_option maxRecDepth 100000 in
set_option maxHeartbeats 4000000 in
/-- Where heads count: the same heads. -/
theorem l5str_same {k1 f1 r1 u1 xp1 xn1 yp1 yn1 a1 b1 : Int} {ia1 : Option Addr} {im1 ic1 : Nat} {xs1 : List (Int × Int)} {lo1 hi1 : Nat} {k2 f2 r2 u2 xp2 xn2 yp2 yn2 a2 b2 : Int} {ia2 : Option Addr} {im2 ic2 : Nat} {xs2 : List (Int × Int)} {lo2 hi2 : Nat} {w : World} (h1 : RP lo1 hi1 w ia1 im1 ic1 xs1) (hh1 : hi1 ≤ w.heap.size) (h2 : RP lo2 hi2 w ia2 im2 ic2 xs2) (hh2 : hi2 ≤ w.heap.size) (hlen : im1 = im2) (hkk : ¬ (k1 = 0 ∧ k2 ≠ 4 ∧ k2 ≠ 6))
    (ek : k1 = k2) (ef : f1 = f2) (er : r1 = r2) (eu : u1 = u2) (ea : a1 = a2) (eb : b1 = b2) :
    Calls Try.prog 121 #[.agg #[.int .i64 k1, .int .i64 f1, .int .i64 r1, .int .i64 u1, .int .i64 xp1, .int .i64 xn1, .int .i64 yp1, .int .i64 yn1, .slice ia1 im1 ic1, .int .i64 a1, .int .i64 b1], .agg #[.int .i64 k2, .int .i64 f2, .int .i64 r2, .int .i64 u2, .int .i64 xp2, .int .i64 xn2, .int .i64 yp2, .int .i64 yn2, .slice ia2 im2 ic2, .int .i64 a2, .int .i64 b2]] w fun e w' => e = .returned (.bool (eachB ⟨k1, f1, r1, u1, xp1, xn1, yp1, yn1, xs1, a1, b1⟩ ⟨k2, f2, r2, u2, xp2, xn2, yp2, yn2, xs2, a2, b2⟩)) ∧ Below w.heap.size w w' := by
  have HLen : Hid (im1 = im2) := hlen
  clear hlen
  obtain ⟨W, hW⟩ : ∃ W, W = (w.alloc (.cells #[.int .i64 k1, .int .i64 f1, .int .i64 r1, .int .i64 u1, .int .i64 xp1, .int .i64 xn1, .int .i64 yp1, .int .i64 yn1, .slice ia1 im1 ic1, .int .i64 a1, .int .i64 b1] 84)).alloc (.cells #[.int .i64 k2, .int .i64 f2, .int .i64 r2, .int .i64 u2, .int .i64 xp2, .int .i64 xn2, .int .i64 yp2, .int .i64 yn2, .slice ia2 im2 ic2, .int .i64 a2, .int .i64 b2] 84) := ⟨_, rfl⟩
  have HW : Hid (W = (w.alloc (.cells #[.int .i64 k1, .int .i64 f1, .int .i64 r1, .int .i64 u1, .int .i64 xp1, .int .i64 xn1, .int .i64 yp1, .int .i64 yn1, .slice ia1 im1 ic1, .int .i64 a1, .int .i64 b1] 84)).alloc (.cells #[.int .i64 k2, .int .i64 f2, .int .i64 r2, .int .i64 u2, .int .i64 xp2, .int .i64 xn2, .int .i64 yp2, .int .i64 yn2, .slice ia2 im2 ic2, .int .i64 a2, .int .i64 b2] 84)) := hW
  have hb0 : Below w.heap.size w W := by rw [hW]; exact ((Below.refl _ _).alloc (Nat.le_refl _) _).alloc (by simp) _
  have HB0 : Hid (Below w.heap.size w W) := hb0
  have hbx : BoxK 84 W w.heap.size k1 f1 r1 u1 xp1 xn1 yp1 yn1 (.slice ia1 im1 ic1) a1 b1 := by rw [hW]; exact (BoxK.new _ w _ _ _ _ _ _ _ _ _ _ _).below ((Below.refl _ _).alloc (Nat.le_refl _) _) (by simp)
  have hby : BoxK 84 W (w.heap.size + 1) k2 f2 r2 u2 xp2 xn2 yp2 yn2 (.slice ia2 im2 ic2) a2 b2 := by
    have e := BoxK.new 84 (w.alloc (.cells #[.int .i64 k1, .int .i64 f1, .int .i64 r1, .int .i64 u1, .int .i64 xp1, .int .i64 xn1, .int .i64 yp1, .int .i64 yn1, .slice ia1 im1 ic1, .int .i64 a1, .int .i64 b1] 84)) k2 f2 r2 u2 xp2 xn2 yp2 yn2 (.slice ia2 im2 ic2) a2 b2
    rw [World.size_alloc] at e
    rw [hW]; exact e
  have HX : Hid (∀ V, Below W.heap.size W V → BoxK 84 V w.heap.size k1 f1 r1 u1 xp1 xn1 yp1 yn1 (.slice ia1 im1 ic1) a1 b1) := fun V hV => hbx.below hV hbx.lt
  have HY : Hid (∀ V, Below W.heap.size W V → BoxK 84 V (w.heap.size + 1) k2 f2 r2 u2 xp2 xn2 yp2 yn2 (.slice ia2 im2 ic2) a2 b2) := fun V hV => hby.below hV hby.lt
  have HR1 : Hid (∀ V, Below W.heap.size W V → RP lo1 hi1 V ia1 im1 ic1 xs1 ∧ hi1 ≤ V.heap.size) := fun V hV => ⟨(h1.below hb0 hh1).below hV (Nat.le_trans hh1 hb0.size), Nat.le_trans hh1 (Nat.le_trans hb0.size hV.size)⟩
  have HR2 : Hid (∀ V, Below W.heap.size W V → RP lo2 hi2 V ia2 im2 ic2 xs2 ∧ hi2 ≤ V.heap.size) := fun V hV => ⟨(h2.below hb0 hh2).below hV (Nat.le_trans hh2 hb0.size), Nat.le_trans hh2 (Nat.le_trans hb0.size hV.size)⟩
  have HL1 : Hid (xs1.length = im1) := h1.len
  have HL2 : Hid (xs2.length = im2) := h2.len
  have HFin : Hid (∀ V, Below W.heap.size W V → Below w.heap.size w V) := fun V hV => HB0.out.trans (hV.mono HB0.out.size)
  have HRf : Hid (Below W.heap.size W W) := Below.refl _ _
  obtain ⟨z0, z1, z2, z3, z4, z5, z6, z7, z8, z9, z10⟩ := hbx.cells
  obtain ⟨y0, y1, y2, y3, y4, y5, y6, y7, y8, y9, y10⟩ := hby.cells
  clear hW hb0 hbx hby h1 h2 hh1 hh2
  have hgo : (k1 == 0) = false ∨ (k1 == 0) = true ∧ (k2 != 4) = false ∨ (k1 == 0) = true ∧ (k2 != 4) = true ∧ (k2 != 6) = false := by
    by_cases q0 : k1 = 0
    · right
      by_cases q4 : k2 = 4
      · left; simp [q0, q4]
      · right
        by_cases q6 : k2 = 6
        · simp [q0, q6]
        · exact absurd ⟨q0, q4, q6⟩ hkk
    · left; simpa using q0
  have d0 : (k1 != k2) = false := by simp [ek]
  have d1 : (f1 != f2) = false := by simp [ef]
  have d2 : (r1 != r2) = false := by simp [er]
  have d3 : (u1 != u2) = false := by simp [eu]
  have d4 : (a1 != a2) = false := by simp [ea]
  have d5 : (b1 != b2) = false := by simp [eb]
  obtain ⟨S, hS⟩ : ∃ S, S = eachB ⟨k1, f1, r1, u1, xp1, xn1, yp1, yn1, xs1, a1, b1⟩ ⟨k2, f2, r2, u2, xp2, xn2, yp2, yn2, xs2, a2, b2⟩ := ⟨_, rfl⟩
  rw [← hS]
  have HS : Hid (S = ((List.range im1).all (fun i => inB (xs1.getD i (0, 0)) (xs2.getD i (0, 0))) && (inB (xp1, xn1) (xp2, xn2) && inB (yp1, yn1) (yp2, yn2)))) := by
    unfold Hid
    rw [hS]
    show ((List.range xs1.length).all _ && _) = _
    rw [HL1.out]
  clear hS hkk ek ef er eu ea eb
  go_enter Try.func121, Try.ntmps121
  go_upto_region 1 with fail
  rw [← HW.out]
  rcases hgo with g0 | ⟨g0, g4⟩ | ⟨g0, g4, g6⟩
  all_goals
    go_upto_region 12 with fail
    go_wp2_with fail
    go_loopw [6] (fun i wr => ∃ j : Nat, j ≤ im1 ∧ i = .int .i64 j ∧ (∀ i, i < j → inB (xs1.getD i (0, 0)) (xs2.getD i (0, 0)) = true) ∧ Below W.heap.size W wr) (fun i _ => im1 - (intOf i).toNat)
    case atStart => exact ⟨0, Nat.zero_le _, rfl, fun i hi => absurd hi (by omega), HRf.out⟩
    case round =>
      obtain ⟨j, hj, rfl, hall, hbel⟩ := hrel
      have HAll : Hid (∀ i, i < j → inB (xs1.getD i (0, 0)) (xs2.getD i (0, 0)) = true) := hall
      have HB : Hid (Below W.heap.size W wr) := hbel
      clear z0 z1 z2 z3 z4 z5 z6 z7 z8 z9 z10 y0 y1 y2 y3 y4 y5 y6 y7 y8 y9 y10
      obtain ⟨z0, z1, z2, z3, z4, z5, z6, z7, z8, z9, z10⟩ := (HX.out _ hbel).cells
      obtain ⟨y0, y1, y2, y3, y4, y5, y6, y7, y8, y9, y10⟩ := (HY.out _ hbel).cells
      have hrp1 := (HR1.out _ hbel).1
      have hrp2 := (HR2.out _ hbel).1
      have hfit1 := hrp1.fits
      have hfit2 := hrp2.fits
      by_cases hlt : j < im1
      · have hlt2 : j < im2 := by have := HLen.out; omega
        rcases hrp1.cells with h0 | ⟨bb1, off1, e1, _, _, hc1⟩
        · omega
        · rcases hrp2.cells with h0 | ⟨bb2, off2, e2, _, _, hc2⟩
          · omega
          · subst e1 e2
            obtain ⟨c1, c2⟩ := hc1 j hlt
            obtain ⟨c3, c4⟩ := hc2 j hlt2
            obtain ⟨t, ht⟩ : ∃ t, t = xs1.getD j (0, 0) := ⟨_, rfl⟩
            have HT : Hid (t = xs1.getD j (0, 0)) := ht
            rw [← ht] at c1 c2
            obtain ⟨t', ht'⟩ : ∃ t, t = xs2.getD j (0, 0) := ⟨_, rfl⟩
            have HT' : Hid (t' = xs2.getD j (0, 0)) := ht'
            rw [← ht'] at c3 c4
            obtain ⟨tp, tn⟩ := t
            obtain ⟨sp, sn⟩ := t'
            obtain ⟨d, hd⟩ : ∃ d, d = inB (tp, tn) (sp, sn) := ⟨_, rfl⟩
            have HD : Hid (d = inB (tp, tn) (sp, sn)) := hd
            have hki : (j : Int) < (im1 : Int) := by omega
            have hki2 : (j : Int) < (im2 : Int) := by omega
            clear hrp1 hrp2 hc1 hc2 ht ht' hbel hall hd
            cases d with
            | true =>
              have HAll' : Hid (∀ i, i < j + 1 → inB (xs1.getD i (0, 0)) (xs2.getD i (0, 0)) = true) := by
                intro i hi
                by_cases e : i = j
                · subst e; rw [← HT.out, ← HT'.out]; exact HD.out.symm
                · exact HAll.out i (by omega)
              go_wp2_with fail
              first | go_region_with (go_at_call 177; refine (l5within_any tp tn sp sn _).mono ?_; rintro e w' ⟨rfl, hbe⟩; rw [← HD.out]) | fail
              all_goals
                have HBn : Hid (Below W.heap.size W w') := HB.out.drew.trans (hbe.mono HB.out.size)
                clear hbe
                go_wp2_with fail
                go_roundw
                case rel => exact ⟨j + 1, by omega, by go_num, HAll'.out, HBn.out⟩
                case measure => simp [intOf]; omega
            | false =>
              have HF : Hid (S = false) := by
                unfold Hid
                rw [HS.out, Bool.and_eq_false_iff]
                left
                rw [List.all_eq_false]
                exact ⟨j, List.mem_range.2 hlt, by rw [← HT.out, ← HT'.out, ← HD.out]; simp⟩
              go_wp2_with fail
              first | go_region_with (go_at_call 177; refine (l5within_any tp tn sp sn _).mono ?_; rintro e w' ⟨rfl, hbe⟩; rw [← HD.out]) | fail
              all_goals
                have HBn : Hid (Below W.heap.size W w') := HB.out.drew.trans (hbe.mono HB.out.size)
                clear hbe
                go_wp2_with fail
                go_ret
                exact ⟨rb HF.out.symm, HFin.out _ HBn.out⟩
      · have HA : Hid (S = (inB (xp1, xn1) (xp2, xn2) && inB (yp1, yn1) (yp2, yn2))) := by
          unfold Hid
          rw [HS.out, range_all_step hall (by omega)]
          simp
        clear hrp1 hrp2 hbel hall
        go_wp2_with fail
        refine (l5within_any xp1 xn1 xp2 xn2 wr).mono ?_
        rintro e w8 ⟨rfl, hb8⟩
        have HB8 : Hid (Below W.heap.size W w8) := HB.out.trans (hb8.mono HB.out.size)
        clear hb8
        clear z0 z1 z2 z3 z4 z5 z6 z7 z8 z9 z10 y0 y1 y2 y3 y4 y5 y6 y7 y8 y9 y10
        obtain ⟨z0, z1, z2, z3, z4, z5, z6, z7, z8, z9, z10⟩ := (HX.out _ HB8.out).cells
        obtain ⟨y0, y1, y2, y3, y4, y5, y6, y7, y8, y9, y10⟩ := (HY.out _ HB8.out).cells
        obtain ⟨d, hd⟩ : ∃ d, d = inB (xp1, xn1) (xp2, xn2) := ⟨_, rfl⟩
        rw [← hd]
        have HD : Hid (d = inB (xp1, xn1) (xp2, xn2)) := hd
        clear hd
        cases d with
        | true =>
          go_wp2_with fail
          refine (l5within_any yp1 yn1 yp2 yn2 w8).mono ?_
          rintro e w9 ⟨rfl, hb9⟩
          have HB9 : Hid (Below W.heap.size W w9) := HB8.out.trans (hb9.mono HB8.out.size)
          clear hb9
          go_wp2_with fail
          go_ret
          exact ⟨rb (by rw [HA.out, ← HD.out]; simp), HFin.out _ HB9.out⟩
        | false =>
          go_wp2_with fail
          go_ret
          exact ⟨rb (by rw [HA.out, ← HD.out]; simp), HFin.out _ HB8.out⟩

end Go.Proofs.Ytjnmfjfikldiiaa
