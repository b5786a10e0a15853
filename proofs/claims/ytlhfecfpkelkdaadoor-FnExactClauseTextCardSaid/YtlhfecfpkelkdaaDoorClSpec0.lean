/- The document's ClauseOk at the kind 0. -/
import Derived.Test.YtlhfecfpkelkdaaDoorNGr
import Derived.Deep.DeepCutAuto
namespace Go.Proofs.YtlhfecfpkelkdaaDoor
open Go.RowKit

theorem clause_0 {f r u xp xn yp yn : Int} {xs : List (Int × Int)} {a b : Int} : clauseB 0 f r u xp xn yp yn xs a b = true ↔ f = 0 ∧ r = 0 ∧ u = 0 ∧ a = 0 ∧ b = 0 ∧ partB xp xn = true ∧ noneB yp yn = true ∧ xs.length = 0 := by
  simp [clauseB, numB, parB, indB, hasF, hasR, hasU, hasX, hasY, hasI, hasP]

set_option maxRecDepth 100000 in
set_option maxHeartbeats 4000000 in
theorem specOk_0 {f r u xp xn yp yn : Int} {ia : Option Addr} {im ic : Nat} {a b : Int} {xs : List (Int × Int)} {w : World} {lo hi : Nat} (h : RP lo hi w ia im ic xs) (hhi : hi ≤ w.heap.size) :
    Calls Tryd.prog 17 #[.agg #[.int .i64 0, .int .i64 f, .int .i64 r, .int .i64 u, .int .i64 xp, .int .i64 xn, .int .i64 yp, .int .i64 yn, .slice ia im ic, .int .i64 a, .int .i64 b]] w fun e w' => e = .returned (.bool (clauseB 0 f r u xp xn yp yn xs a b)) ∧ Below w.heap.size w w' := by
  obtain ⟨W, hW⟩ : ∃ W, W = w.alloc (.cells #[.int .i64 0, .int .i64 f, .int .i64 r, .int .i64 u, .int .i64 xp, .int .i64 xn, .int .i64 yp, .int .i64 yn, .slice ia im ic, .int .i64 a, .int .i64 b] 32) := ⟨_, rfl⟩
  have HW : Hid (W = w.alloc (.cells #[.int .i64 0, .int .i64 f, .int .i64 r, .int .i64 u, .int .i64 xp, .int .i64 xn, .int .i64 yp, .int .i64 yn, .slice ia im ic, .int .i64 a, .int .i64 b] 32)) := hW
  have hb0 : Below w.heap.size w W := by rw [hW]; exact (Below.refl _ _).alloc (Nat.le_refl _) _
  have HB0 : Hid (Below w.heap.size w W) := hb0
  have hbx : BoxK 32 W w.heap.size 0 f r u xp xn yp yn (.slice ia im ic) a b := by rw [hW]; exact BoxK.new _ w _ _ _ _ _ _ _ _ _ _ _
  have HX : Hid (∀ V, Below W.heap.size W V → BoxK 32 V w.heap.size 0 f r u xp xn yp yn (.slice ia im ic) a b) := fun V hV => hbx.below hV hbx.lt
  have HRP : Hid (∀ V, Below W.heap.size W V → RP lo hi V ia im ic xs) := fun V hV => (h.below hb0 hhi).below hV (Nat.le_trans hhi hb0.size)
  have HL : Hid (xs.length = im) := h.len
  have HH : Hid (hi ≤ W.heap.size) := Nat.le_trans hhi hb0.size
  obtain ⟨C, hC⟩ : ∃ C, C = clauseB 0 f r u xp xn yp yn xs a b := ⟨_, rfl⟩
  rw [← hC]
  have HC : Hid (C = clauseB 0 f r u xp xn yp yn xs a b) := hC
  obtain ⟨z0, z1, z2, z3, z4, z5, z6, z7, z8, z9, z10⟩ := hbx.cells
  clear hW hb0 hbx h hC hhi
  go_enter Tryd.func17, Tryd.ntmps17
  go_upto_region 1 with fail
  rw [← HW.out]
  go_wp2_with fail
  refine (l5part_any xp xn W).mono ?_
  rintro e w1 ⟨rfl, hb1⟩
  have H1 : Hid (Below W.heap.size W w1) := hb1
  clear hb1 z0 z1 z2 z3 z4 z5 z6 z7 z8 z9 z10
  obtain ⟨z0, z1, z2, z3, z4, z5, z6, z7, z8, z9, z10⟩ := (HX.out _ H1.out).cells
  by_cases hx : partB xp xn = true
  case neg =>
    have hf : partB xp xn = false := by simpa using hx
    rw [hf]
    have HF : Hid (C = false) := by unfold Hid; rw [HC.out]; simp [clauseB, parB_none hf]
    clear hx hf
    go_wp2_with fail
    go_ret
    exact ⟨rb HF.out.symm, HB0.out.trans (H1.out.mono HB0.out.size)⟩
  rw [hx]
  have HPX : Hid (partB xp xn = true) := hx
  clear hx
  go_wp2_with fail
  refine (l5part_any yp yn w1).mono ?_
  rintro e w2 ⟨rfl, hb2⟩
  have H2 : Hid (Below W.heap.size W w2) := H1.out.trans (hb2.mono H1.out.size)
  clear hb2 z0 z1 z2 z3 z4 z5 z6 z7 z8 z9 z10
  obtain ⟨z0, z1, z2, z3, z4, z5, z6, z7, z8, z9, z10⟩ := (HX.out _ H2.out).cells
  by_cases hy : partB yp yn = true
  case neg =>
    have hf : partB yp yn = false := by simpa using hy
    rw [hf]
    have HF : Hid (C = false) := by unfold Hid; rw [HC.out]; simp [clauseB, parB_none hf]
    clear hy hf
    go_wp2_with fail
    go_ret
    exact ⟨rb HF.out.symm, HB0.out.trans (H2.out.mono HB0.out.size)⟩
  rw [hy]
  have HPY : Hid (partB yp yn = true) := hy
  clear hy
  go_upto_region 7 with fail
  all_goals (try (go_ret; refine ⟨rb (Eq.symm (Bool.eq_false_iff.2 fun q0 => ?_)), HB0.out.trans (H2.out.mono HB0.out.size)⟩; rw [HC.out] at q0; have q1 := clause_0.1 q0; have hl := HL.out; rename_i hh; first | omega | (simp at hh; omega)))
  go_wp2_with fail
  refine (l5none_any yp yn w2).mono ?_
  rintro e w3 ⟨rfl, hb⟩
  have H3 : Hid (Below W.heap.size W w3) := H2.out.trans (hb.mono H2.out.size)
  clear hb z0 z1 z2 z3 z4 z5 z6 z7 z8 z9 z10
  obtain ⟨z0, z1, z2, z3, z4, z5, z6, z7, z8, z9, z10⟩ := (HX.out _ H3.out).cells
  by_cases hn : noneB yp yn = true
  case neg =>
    have hf : noneB yp yn = false := by simpa using hn
    rw [hf]
    have HF : Hid (C = false) := by
      unfold Hid; rw [HC.out, Bool.eq_false_iff]
      intro q
      have q := clause_0.1 q
      simp_all
    clear hn hf
    go_wp2_with fail
    go_ret
    exact ⟨rb HF.out.symm, HB0.out.trans (H3.out.mono HB0.out.size)⟩
  rw [hn]
  have HN3 : Hid (noneB yp yn = true) := hn
  clear hn
  go_upto_region 11 with fail
  all_goals (try (go_ret; refine ⟨rb (Eq.symm (Bool.eq_false_iff.2 fun q0 => ?_)), HB0.out.trans (H3.out.mono HB0.out.size)⟩; rw [HC.out] at q0; have q1 := clause_0.1 q0; have hl := HL.out; rename_i hh; first | omega | (simp at hh; omega)))
  go_wp2_with fail
  go_ret
  refine ⟨rb ?_, HB0.out.trans (H3.out.mono HB0.out.size)⟩
  rw [HC.out, Bool.eq_iff_iff, clause_0]
  have hl := HL.out
  have hx := HPX.out
  have hy := HPY.out
  have hn3 := HN3.out
  try simp only [bne_eq_false_iff_eq] at *
  constructor
  · intro q
    have q' : (im : Int) = 0 := by simpa using q
    refine ⟨?_, ?_, ?_, ?_, ?_, ?_, ?_, ?_⟩
    all_goals first | assumption | omega
  · intro q
    have q' : im = 0 := by omega
    simp [q']

end Go.Proofs.YtlhfecfpkelkdaaDoor
