/- Which clauses hold whatever there is, as the program looks: one that may not be, one of roles: contracts. -/
import Derived.Test.YtcaljggnihinaaaDoorTautS
import Derived.Test.YtcaljggnihinaaaDoorTautKey
import Derived.Test.YtcaljggnihinaaaDoorClImpl3
import Derived.Test.YtcaljggnihinaaaDoorLitTell
namespace Go.Proofs.YtcaljggnihinaaaDoor
open Go.RowKit

theorem clauseB_inds {k f r u xp xn yp yn a b : Int} {xs : List (Int × Int)} (h : clauseB k f r u xp xn yp yn xs a b = true) : xs.length = 0 ∨ xs.length = 4 := by
  unfold clauseB at h
  simp only [Bool.and_eq_true] at h
  obtain ⟨_, _, _, _, _, _, _, _, h, _⟩ := h
  unfold indB at h
  split at h
  · simp only [Bool.and_eq_true, decide_eq_true_eq] at h
    exact .inr h.1
  · exact .inl (by simpa using h)

theorem partB_none {p n : Int} (h : noneB p n = true) : partB p n = true := by
  obtain ⟨rfl, rfl⟩ := noneB_iff.1 h
  rfl

theorem clauseB_parts {k f r u xp xn yp yn a b : Int} {xs : List (Int × Int)} (h : clauseB k f r u xp xn yp yn xs a b = true) : ∀ x ∈ six xp xn yp yn xs, partB x.1 x.2 = true := by
  have hl := clauseB_inds h
  unfold clauseB at h
  simp only [Bool.and_eq_true] at h
  obtain ⟨_, _, _, _, _, _, hx, hy, hi, _⟩ := h
  have h1 : partB xp xn = true := by
    unfold parB at hx
    split at hx
    · exact hx
    · exact partB_none hx
  have h2 : partB yp yn = true := by
    unfold parB at hy
    split at hy
    · exact hy
    · exact partB_none hy
  have h3 : ∀ j, partB (xs.getD j (0, 0)).1 (xs.getD j (0, 0)).2 = true := by
    intro j
    by_cases hj : j < xs.length
    · unfold indB at hi
      split at hi
      · simp only [Bool.and_eq_true, decide_eq_true_eq, List.all_eq_true] at hi
        exact hi.2 _ (by rw [List.getD_eq_getElem?_getD, List.getElem?_eq_getElem hj]; exact List.getElem_mem _)
      · have : xs.length = 0 := by simpa using hi
        omega
    · rw [List.getD_eq_getElem?_getD, List.getElem?_eq_none (by omega)]
      rfl
  intro x hx
  simp only [six, List.mem_cons, List.not_mem_nil, or_false] at hx
  rcases hx with rfl | rfl | rfl | rfl | rfl | rfl
  · exact h1
  · exact h2
  · exact h3 0
  · exact h3 1
  · exact h3 2
  · exact h3 3

theorem boxed_noncells {W W' : World} {B t : Nat} {v : Value} {row : Option Nat} (h : Boxed W B t v) (hg : W.grownBy W' row)
    (hr : ∀ r, row = some r → ∃ o : Obj, W.heap[r]? = some o ∧ o.isCells = false) : Boxed W' B t v :=
  h.kept hg (fun e => by
    obtain ⟨o, ho, hc⟩ := hr B e.symm
    rw [show W.heap[B]? = _ from h] at ho; cases ho; cases hc)
theorem boxed_setOther {W : World} {B t : Nat} {v : Value} (h : Boxed W B t v) {B' : Nat} (hne : B ≠ B') (x : Value) : Boxed (W.setCell ⟨B', 0, none⟩ x) B t v :=
  (Below.heap_setCell W ⟨B', 0, none⟩ x B hne).trans h
theorem boxed_below {W W' : World} {B t : Nat} {v : Value} (h : Boxed W B t v) {n : Nat} (hb : Below n W W') (hn : B < n) : Boxed W' B t v := (hb.block B hn).trans h
theorem keepsOthers_below {W W' : World} (h : Below W.heap.size W W') : KeepsOthers W W' := ⟨h.size, fun k _ hk _ => (h.block k (Array.getElem?_eq_some_iff.1 hk).1).trans hk⟩

set_option maxRecDepth 100000 in
set_option maxHeartbeats 4000000 in
theorem implTaut_no {k f r u xp xn yp yn : Int} {ia : Option Addr} {im ic : Nat} {a b : Int} {xs : List (Int × Int)} {w : World} {lo hi : Nat} (hR : RP lo hi w ia im ic xs) (hhi : hi ≤ w.heap.size) (hok : clauseB k f r u xp xn yp yn xs a b = false) :
    Calls Tryd.prog 8 #[.agg #[.int .i64 k, .int .i64 f, .int .i64 r, .int .i64 u, .int .i64 xp, .int .i64 xn, .int .i64 yp, .int .i64 yn, .slice ia im ic, .int .i64 a, .int .i64 b]] w fun e w' => e = .returned (.bool (isTaut k f r u xp xn yp yn a b xs)) ∧ Below w.heap.size w w' := by
  obtain ⟨W, hW⟩ : ∃ W, W = (w.alloc (.cells #[.int .i64 k, .int .i64 f, .int .i64 r, .int .i64 u, .int .i64 xp, .int .i64 xn, .int .i64 yp, .int .i64 yn, .slice ia im ic, .int .i64 a, .int .i64 b] 32)).alloc (.cells #[.bool false] 4) := ⟨_, rfl⟩
  have HW : Hid (W = (w.alloc (.cells #[.int .i64 k, .int .i64 f, .int .i64 r, .int .i64 u, .int .i64 xp, .int .i64 xn, .int .i64 yp, .int .i64 yn, .slice ia im ic, .int .i64 a, .int .i64 b] 32)).alloc (.cells #[.bool false] 4)) := hW
  have hb0 : Below w.heap.size w W := by rw [hW]; exact ((Below.refl _ _).alloc (Nat.le_refl _) _).alloc (by simp) _
  have HB0 : Hid (Below w.heap.size w W) := hb0
  have hsz : w.heap.size + 1 < W.heap.size := by rw [hW]; simp
  have hkb : BoxK 32 W w.heap.size k f r u xp xn yp yn (.slice ia im ic) a b := by rw [hW]; exact (BoxK.new _ w _ _ _ _ _ _ _ _ _ _ _).below ((Below.refl _ _).alloc (Nat.le_refl _) _) (by simp)
  have hrs : Boxed W (w.heap.size + 1) 4 (.bool false) := by
    have := Boxed.new (w.alloc (.cells #[.int .i64 k, .int .i64 f, .int .i64 r, .int .i64 u, .int .i64 xp, .int .i64 xn, .int .i64 yp, .int .i64 yn, .slice ia im ic, .int .i64 a, .int .i64 b] 32)) 4 (.bool false)
    rw [World.size_alloc] at this
    rw [hW]; exact this
  have HRs : Hid (Boxed W (w.heap.size + 1) 4 (.bool false)) := hrs
  have HE : Hid (isTaut k f r u xp xn yp yn a b xs = false) := by unfold Hid isTaut; rw [hok]; rfl
  have HR : Hid (RP lo hi W ia im ic xs) := hR.below hb0 hhi
  obtain ⟨y0, y1, y2, y3, y4, y5, y6, y7, y8, y9, y10⟩ := hkb.cells
  clear hW hkb hR hb0
  go_enter Tryd.func8, Tryd.ntmps8
  go_upto_region 1 with fail
  rw [← HW.out]
  go_wp2_with fail
  refine (implClauseOk_any HR.out (Nat.le_trans hhi HB0.out.size)).mono ?_
  rintro e w1 ⟨rfl, hb1⟩
  rw [hok]
  have hr1 := boxed_below hrs hb1 hsz
  have HB1 : Hid (Below w.heap.size w w1) := HB0.out.trans (hb1.mono HB0.out.size)
  have HR1 : Hid (Boxed w1 (w.heap.size + 1) 4 (.bool false)) := hr1
  have cR := Boxed.cell hr1
  have fR := Boxed.frozen hr1
  clear hb1 hr1 hrs
  go_wp2_with fail
  · have cS := Boxed.cell (Boxed.set (.bool false) HR1.out)
    refine bodyPost_ret (v := .bool false) (by simp [results, Tryd.results8, go_sem, cS]) rfl ⟨rb HE.out.symm, HB1.out.setCell (p := ⟨w.heap.size + 1, 0, none⟩) (by show w.heap.size ≤ w.heap.size + 1; omega) _⟩

set_option maxRecDepth 100000 in
set_option maxHeartbeats 4000000 in
theorem implTaut_role {k f r u xp xn yp yn : Int} {ia : Option Addr} {im ic : Nat} {a b : Int} {xs : List (Int × Int)} {w : World} {lo hi : Nat} (hR : RP lo hi w ia im ic xs) (hhi : hi ≤ w.heap.size) (hok : clauseB k f r u xp xn yp yn xs a b = true) (h4 : k = 4) (hex : tautB k r u xp xn yp yn xs = decide (r = u)) :
    Calls Tryd.prog 8 #[.agg #[.int .i64 k, .int .i64 f, .int .i64 r, .int .i64 u, .int .i64 xp, .int .i64 xn, .int .i64 yp, .int .i64 yn, .slice ia im ic, .int .i64 a, .int .i64 b]] w fun e w' => e = .returned (.bool (isTaut k f r u xp xn yp yn a b xs)) ∧ Below w.heap.size w w' := by
  obtain ⟨W, hW⟩ : ∃ W, W = (w.alloc (.cells #[.int .i64 k, .int .i64 f, .int .i64 r, .int .i64 u, .int .i64 xp, .int .i64 xn, .int .i64 yp, .int .i64 yn, .slice ia im ic, .int .i64 a, .int .i64 b] 32)).alloc (.cells #[.bool false] 4) := ⟨_, rfl⟩
  have HW : Hid (W = (w.alloc (.cells #[.int .i64 k, .int .i64 f, .int .i64 r, .int .i64 u, .int .i64 xp, .int .i64 xn, .int .i64 yp, .int .i64 yn, .slice ia im ic, .int .i64 a, .int .i64 b] 32)).alloc (.cells #[.bool false] 4)) := hW
  have hb0 : Below w.heap.size w W := by rw [hW]; exact ((Below.refl _ _).alloc (Nat.le_refl _) _).alloc (by simp) _
  have HB0 : Hid (Below w.heap.size w W) := hb0
  have hsz : w.heap.size + 1 < W.heap.size := by rw [hW]; simp
  have hkb : BoxK 32 W w.heap.size k f r u xp xn yp yn (.slice ia im ic) a b := by rw [hW]; exact (BoxK.new _ w _ _ _ _ _ _ _ _ _ _ _).below ((Below.refl _ _).alloc (Nat.le_refl _) _) (by simp)
  have hrs : Boxed W (w.heap.size + 1) 4 (.bool false) := by
    have := Boxed.new (w.alloc (.cells #[.int .i64 k, .int .i64 f, .int .i64 r, .int .i64 u, .int .i64 xp, .int .i64 xn, .int .i64 yp, .int .i64 yn, .slice ia im ic, .int .i64 a, .int .i64 b] 32)) 4 (.bool false)
    rw [World.size_alloc] at this
    rw [hW]; exact this
  have HRs : Hid (Boxed W (w.heap.size + 1) 4 (.bool false)) := hrs
  obtain ⟨v, hv⟩ : ∃ v, v = decide (r = u) := ⟨_, rfl⟩
  have HE : Hid (isTaut k f r u xp xn yp yn a b xs = v) := by unfold Hid isTaut; rw [hok, hex, hv]; rfl
  have hru : (r == u) = v := by rw [hv]; rfl
  have HR : Hid (RP lo hi W ia im ic xs) := hR.below hb0 hhi
  have h4' : (k == 4) = true := by simp [h4]
  have HK : Hid (BoxK 32 W w.heap.size k f r u xp xn yp yn (.slice ia im ic) a b) := hkb
  obtain ⟨y0, y1, y2, y3, y4, y5, y6, y7, y8, y9, y10⟩ := hkb.cells
  clear hW hkb hR hb0 h4 hex hv
  go_enter Tryd.func8, Tryd.ntmps8
  go_upto_region 1 with fail
  rw [← HW.out]
  go_wp2_with fail
  refine (implClauseOk_any HR.out (Nat.le_trans hhi HB0.out.size)).mono ?_
  rintro e w1 ⟨rfl, hb1⟩
  rw [hok]
  have hr1 := boxed_below hrs hb1 hsz
  have HB1 : Hid (Below w.heap.size w w1) := HB0.out.trans (hb1.mono HB0.out.size)
  have HR1 : Hid (Boxed w1 (w.heap.size + 1) 4 (.bool false)) := hr1
  have cR := Boxed.cell hr1
  have fR := Boxed.frozen hr1
  have hk1 := HK.out.below hb1 (by omega)
  clear y0 y1 y2 y3 y4 y5 y6 y7 y8 y9 y10
  obtain ⟨y0, y1, y2, y3, y4, y5, y6, y7, y8, y9, y10⟩ := hk1.cells
  clear hb1 hr1 hrs hk1
  go_wp2_with fail
  · have cS := Boxed.cell (Boxed.set (.bool v) HR1.out)
    refine bodyPost_ret (v := .bool v) (by simp [results, Tryd.results8, go_sem, cS]) rfl ⟨rb HE.out.symm, HB1.out.setCell (p := ⟨w.heap.size + 1, 0, none⟩) (by show w.heap.size ≤ w.heap.size + 1; omega) _⟩

end Go.Proofs.YtcaljggnihinaaaDoor
