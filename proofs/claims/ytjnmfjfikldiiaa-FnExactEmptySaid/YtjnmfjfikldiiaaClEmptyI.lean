/- Empty, as the program has it: a contract. -/
import Derived.Test.YtjnmfjfikldiiaaClEmptyS
import Derived.Test.YtjnmfjfikldiiaaClImpl3
import Derived.Test.YtjnmfjfikldiiaaClParts
import Derived.Test.YtjnmfjfikldiiaaClEq
namespace Go.Proofs.Ytjnmfjfikldiiaa
open Go.RowKit

set_option maxRecDepth 100000 in
set_option maxHeartbeats 4000000 in
theorem implEmpty_any {k f r u xp xn yp yn : Int} {ia : Option Addr} {im ic : Nat} {a b : Int} {xs : List (Int × Int)} {w : World} {lo hi : Nat} (h : RP lo hi w ia im ic xs) (hhi : hi ≤ w.heap.size) :
    Calls Try.prog 54 #[.agg #[.int .i64 k, .int .i64 f, .int .i64 r, .int .i64 u, .int .i64 xp, .int .i64 xn, .int .i64 yp, .int .i64 yn, .slice ia im ic, .int .i64 a, .int .i64 b]] w fun e w' => e = .returned (.bool (emptyB k f r u xp xn yp yn xs a b)) ∧ Below w.heap.size w w' := by
  obtain ⟨W, hW⟩ : ∃ W, W = w.alloc (.cells #[.int .i64 k, .int .i64 f, .int .i64 r, .int .i64 u, .int .i64 xp, .int .i64 xn, .int .i64 yp, .int .i64 yn, .slice ia im ic, .int .i64 a, .int .i64 b] 84) := ⟨_, rfl⟩
  have HW : Hid (W = w.alloc (.cells #[.int .i64 k, .int .i64 f, .int .i64 r, .int .i64 u, .int .i64 xp, .int .i64 xn, .int .i64 yp, .int .i64 yn, .slice ia im ic, .int .i64 a, .int .i64 b] 84)) := hW
  have hb0 : Below w.heap.size w W := by rw [hW]; exact (Below.refl _ _).alloc (Nat.le_refl _) _
  have HB0 : Hid (Below w.heap.size w W) := hb0
  have hbx : BoxK 84 W w.heap.size k f r u xp xn yp yn (.slice ia im ic) a b := by rw [hW]; exact BoxK.new _ w _ _ _ _ _ _ _ _ _ _ _
  have HX : Hid (∀ V, Below W.heap.size W V → BoxK 84 V w.heap.size k f r u xp xn yp yn (.slice ia im ic) a b) := fun V hV => hbx.below hV hbx.lt
  have HRP : Hid (∀ V, Below W.heap.size W V → RP lo hi V ia im ic xs ∧ hi ≤ V.heap.size) := fun V hV => ⟨(h.below hb0 hhi).below hV (Nat.le_trans hhi hb0.size), Nat.le_trans hhi (Nat.le_trans hb0.size hV.size)⟩
  have HL : Hid (xs.length = im) := h.len
  have HFin : Hid (∀ V, Below W.heap.size W V → Below w.heap.size w V) := fun V hV => HB0.out.trans (hV.mono HB0.out.size)
  have HRf : Hid (Below W.heap.size W W) := Below.refl _ _
  obtain ⟨z0, z1, z2, z3, z4, z5, z6, z7, z8, z9, z10⟩ := hbx.cells
  clear hW hb0 hbx h
  have hbuild : ∀ V : World, (Instr.build 157 #[]).run Try.prog V = .ok (.agg #[.int .i64 0, .int .i64 0, .int .i64 0, .int .i64 0, .int .i64 0, .int .i64 0, .int .i64 0, .int .i64 0, .int .i64 0, .int .i64 0, .int .i64 0, .int .i64 0]) V := fun V => run_build V _ _ _ (by kernel_rfl)
  obtain ⟨E, hE⟩ : ∃ E, E = emptyB k f r u xp xn yp yn xs a b := ⟨_, rfl⟩
  rw [← hE]
  have HE : Hid (E = (clauseB k f r u xp xn yp yn xs a b && bareB k xp xn xs)) := hE
  clear hE
  go_enter Try.func54, Try.ntmps54
  go_upto_region 1 with fail
  rw [← HW.out]
  go_wp2_with fail
  refine (implClauseOk_any (HRP.out _ HRf.out).1 (HRP.out _ HRf.out).2).mono ?_
  rintro e w1 ⟨rfl, hb1⟩
  have H1 : Hid (Below W.heap.size W w1) := hb1
  clear hb1 z0 z1 z2 z3 z4 z5 z6 z7 z8 z9 z10
  obtain ⟨z0, z1, z2, z3, z4, z5, z6, z7, z8, z9, z10⟩ := (HX.out _ H1.out).cells
  obtain ⟨C, hC⟩ : ∃ C, C = clauseB k f r u xp xn yp yn xs a b := ⟨_, rfl⟩
  rw [← hC]
  have HC : Hid (clauseB k f r u xp xn yp yn xs a b = C) := hC.symm
  clear hC
  cases C with
  | false =>
    go_wp2_with fail
    all_goals
      go_ret
      exact ⟨rb (by rw [HE.out, HC.out]; rfl), HFin.out _ H1.out⟩
  | true =>
    by_cases hk0 : k = 0
    · subst hk0
      have q := clause_0.1 HC.out
      have hl := HL.out
      have him : im = 0 := by omega
      subst him
      have hy := noneB_iff.1 q.2.2.2.2.2.2.1
      have HEq : Hid (E = decide (((xp = 0 ∧ xn = 0) ∧ (yp = 0 ∧ yn = 0)) ∧ (((0 : Int) = 0 ∧ (0 : Int) = 0) ∧ ((0 : Int) = 0 ∧ (0 : Int) = 0)) ∧ (((0 : Int) = 0 ∧ (0 : Int) = 0) ∧ ((0 : Int) = 0 ∧ (0 : Int) = 0)))) := by
        have hx : xs = [] := List.eq_nil_of_length_eq_zero hl
        unfold Hid
        rw [HE.out, HC.out, hx, hy.1, hy.2]
        simp [bareB, noneB]
      have heq : ∀ V : World, (binOp .eql 157 (.agg #[.int .i64 xp, .int .i64 xn, .int .i64 yp, .int .i64 yn, .int .i64 0, .int .i64 0, .int .i64 0, .int .i64 0, .int .i64 0, .int .i64 0, .int .i64 0, .int .i64 0]) (.agg #[.int .i64 0, .int .i64 0, .int .i64 0, .int .i64 0, .int .i64 0, .int .i64 0, .int .i64 0, .int .i64 0, .int .i64 0, .int .i64 0, .int .i64 0, .int .i64 0])).run Try.prog V = .ok (.bool E) V := fun V => by rw [eq_parts, ← HEq.out]
      clear q hl hy
      go_wp2_with fail
      refine partsOf_0.mono ?_
      rintro e w2 ⟨rfl, hb2⟩
      have H2 : Hid (Below W.heap.size W w2) := H1.out.trans (hb2.mono H1.out.size)
      clear hb2
      go_wp2_with fail
      go_ret
      exact ⟨rfl, HFin.out _ H2.out⟩
    · have hk0b : (k == 0) = false := by simpa using hk0
      by_cases hk5 : k = 5
      · subst hk5
        have q := clause_5.1 HC.out
        have hl := HL.out
        have him : im = 4 := by omega
        subst him
        match xs, hl with
        | [(p0, q0), (p1, q1), (p2, q2), (p3, q3)], _ =>
        have hx := noneB_iff.1 q.2.2.2.2.2.1
        have hy := noneB_iff.1 q.2.2.2.2.2.2.1
        have HEq : Hid (E = decide (((xp = 0 ∧ xn = 0) ∧ (yp = 0 ∧ yn = 0)) ∧ ((p0 = 0 ∧ q0 = 0) ∧ (p1 = 0 ∧ q1 = 0)) ∧ ((p2 = 0 ∧ q2 = 0) ∧ (p3 = 0 ∧ q3 = 0)))) := by
          unfold Hid
          rw [HE.out, HC.out, Bool.eq_iff_iff]
          simp [bareB, noneB, hx.1, hx.2, hy.1, hy.2, and_assoc]
        have heq : ∀ V : World, (binOp .eql 157 (.agg #[.int .i64 xp, .int .i64 xn, .int .i64 yp, .int .i64 yn, .int .i64 p0, .int .i64 q0, .int .i64 p1, .int .i64 q1, .int .i64 p2, .int .i64 q2, .int .i64 p3, .int .i64 q3]) (.agg #[.int .i64 0, .int .i64 0, .int .i64 0, .int .i64 0, .int .i64 0, .int .i64 0, .int .i64 0, .int .i64 0, .int .i64 0, .int .i64 0, .int .i64 0, .int .i64 0])).run Try.prog V = .ok (.bool E) V := fun V => by rw [eq_parts, ← HEq.out]
        obtain ⟨bb, off, rfl⟩ : ∃ bb off, ia = some ⟨bb, off, none⟩ := by
          rcases (HRP.out _ HRf.out).1.cells with h0 | ⟨bb, off, e1, _⟩
          · omega
          · exact ⟨bb, off, e1⟩
        clear q hx hy hk0
        go_wp2_with fail
        refine (partsOf_4 ((HRP.out _ H1.out).1.mono (Nat.zero_le _) (Nat.le_refl _)) (HRP.out _ H1.out).2).mono ?_
        rintro e w2 ⟨rfl, hb2⟩
        have H2 : Hid (Below W.heap.size W w2) := H1.out.trans (hb2.mono H1.out.size)
        clear hb2
        go_wp2_with fail
        go_ret
        exact ⟨rfl, HFin.out _ H2.out⟩
      · have hk5b : (k == 5) = false := by simpa using hk5
        have HF : Hid (E = false) := by unfold Hid; rw [HE.out, HC.out]; simp [bareB, hk0, hk5]
        clear hk0 hk5
        go_wp2_with fail
        all_goals
          go_ret
          exact ⟨rb HF.out.symm, HFin.out _ H1.out⟩

end Go.Proofs.Ytjnmfjfikldiiaa
