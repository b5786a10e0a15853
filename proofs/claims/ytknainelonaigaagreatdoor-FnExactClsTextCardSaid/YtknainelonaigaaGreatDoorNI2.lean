/- Several texts in one: ClsI2, ClsI2b. -/
import Derived.Test.YtknainelonaigaaGreatDoorNS12
import Derived.Test.YtknainelonaigaaGreatDoorClImpl3
import Derived.Test.YtknainelonaigaaGreatDoorNLit
import Derived.Test.YtknainelonaigaaGreatDoorConOkImpl
namespace Go.Proofs.YtknainelonaigaaGreatDoor

section
open Go.RowKit Go.Shelf

attribute [local go_sem] Oper.semAt_some
attribute [local go_sem ↓] about_wide

theorem literals_in (n : Nat) {k f r u xp xn yp yn : Int} {ia : Option Addr} {im ic : Nat} {a b : Int} (w : World) :
    CallsIn Fence.wide n Tryz.prog 57 #[.agg #[.int .i64 k, .int .i64 f, .int .i64 r, .int .i64 u, .int .i64 xp, .int .i64 xn, .int .i64 yp, .int .i64 yn, .slice ia im ic, .int .i64 a, .int .i64 b]] w fun e w' => e = .returned (.func (.func 83) #[] #[.pointer (some ⟨w.heap.size, 0, none⟩)]) ∧ w' = w.alloc (.cells #[.int .i64 k, .int .i64 f, .int .i64 r, .int .i64 u, .int .i64 xp, .int .i64 xn, .int .i64 yp, .int .i64 yn, .slice ia im ic, .int .i64 a, .int .i64 b] 53) := by
  refine callsIn_of_wp Tryz.func57 rfl trivial ?_ rfl
  simp only [Tryz.ntmps57, List.size_toArray, List.length_cons, List.length_nil, Nat.reduceAdd, Nat.reduceSub, Array.replicate_succ, Array.replicate_zero, List.push_toArray, List.append_toArray, List.nil_append, List.cons_append]
  gi_wp2
  go_ret
  exact ⟨rfl, rfl⟩

theorem clauseB_inds {k f r u xp xn yp yn a b : Int} {xs : List (Int × Int)} (h : clauseB k f r u xp xn yp yn xs a b = true) : xs.length = 0 ∨ xs.length = 4 := by
  unfold clauseB at h
  simp only [Bool.and_eq_true] at h
  obtain ⟨_, _, _, _, _, _, _, _, h, _⟩ := h
  unfold indB at h
  split at h
  · simp only [Bool.and_eq_true, decide_eq_true_eq] at h
    exact .inr h.1
  · exact .inl (by simpa using h)

theorem partB_none {p n : Int} (h : noneB p n = true) : partB p n = true := by
  obtain ⟨rfl, rfl⟩ := noneB_iff.1 h
  rfl

theorem clauseB_parts {k f r u xp xn yp yn a b : Int} {xs : List (Int × Int)} (h : clauseB k f r u xp xn yp yn xs a b = true) : ∀ x ∈ six xp xn yp yn xs, partB x.1 x.2 = true := by
  have hl := clauseB_inds h
  unfold clauseB at h
  simp only [Bool.and_eq_true] at h
  obtain ⟨_, _, _, _, _, _, hx, hy, hi, _⟩ := h
  have h1 : partB xp xn = true := by
    unfold parB at hx
    split at hx
    · exact hx
    · exact partB_none hx
  have h2 : partB yp yn = true := by
    unfold parB at hy
    split at hy
    · exact hy
    · exact partB_none hy
  have h3 : ∀ j, partB (xs.getD j (0, 0)).1 (xs.getD j (0, 0)).2 = true := by
    intro j
    by_cases hj : j < xs.length
    · unfold indB at hi
      split at hi
      · simp only [Bool.and_eq_true, decide_eq_true_eq, List.all_eq_true] at hi
        exact hi.2 _ (by rw [List.getD_eq_getElem?_getD, List.getElem?_eq_getElem hj]; exact List.getElem_mem _)
      · have : xs.length = 0 := by simpa using hi
        omega
    · rw [List.getD_eq_getElem?_getD, List.getElem?_eq_none (by omega)]
      rfl
  intro x hx
  simp only [six, List.mem_cons, List.not_mem_nil, or_false] at hx
  rcases hx with rfl | rfl | rfl | rfl | rfl | rfl
  · exact h1
  · exact h2
  · exact h3 0
  · exact h3 1
  · exact h3 2
  · exact h3 3

set_option maxRecDepth 100000 in
set_option maxHeartbeats 2000000 in
theorem clauseFits_no {aa : Option Addr} {an ac : Nat} {ra : Option Addr} {rn rc : Nat} {wa : Option Addr} {wn wc : Nat} {la : Option Addr} {ln lc : Nat} {k f r u xp xn yp yn : Int} {ia : Option Addr} {im ic : Nat} {a b : Int} {xs : List (Int × Int)} {w : World} {lo hi : Nat} (hR : RP lo hi w ia im ic xs) (hhi : hi ≤ w.heap.size) (hok : clauseB k f r u xp xn yp yn xs a b = false) :
    Calls Tryz.prog 51 #[.agg #[.int .i64 k, .int .i64 f, .int .i64 r, .int .i64 u, .int .i64 xp, .int .i64 xn, .int .i64 yp, .int .i64 yn, .slice ia im ic, .int .i64 a, .int .i64 b], .agg #[.slice aa an ac, .slice ra rn rc, .slice wa wn wc, .slice la ln lc]] w fun e w' => e = .returned (.bool (fitK an rn ⟨k, f, r, u, xp, xn, yp, yn, xs, a, b⟩)) ∧ Below w.heap.size w w' := by
  obtain ⟨W, hW⟩ : ∃ W, W = ((w.alloc (.cells #[.int .i64 k, .int .i64 f, .int .i64 r, .int .i64 u, .int .i64 xp, .int .i64 xn, .int .i64 yp, .int .i64 yn, .slice ia im ic, .int .i64 a, .int .i64 b] 53)).alloc (.cells #[.slice aa an ac, .slice ra rn rc, .slice wa wn wc, .slice la ln lc] 33)).alloc (.cells #[.bool false] 4) := ⟨_, rfl⟩
  have HW : Hid (W = ((w.alloc (.cells #[.int .i64 k, .int .i64 f, .int .i64 r, .int .i64 u, .int .i64 xp, .int .i64 xn, .int .i64 yp, .int .i64 yn, .slice ia im ic, .int .i64 a, .int .i64 b] 53)).alloc (.cells #[.slice aa an ac, .slice ra rn rc, .slice wa wn wc, .slice la ln lc] 33)).alloc (.cells #[.bool false] 4)) := hW
  have hb0 : Below w.heap.size w W := by rw [hW]; exact (((Below.refl _ _).alloc (Nat.le_refl _) _).alloc (by simp) _).alloc (by simp; omega) _
  have HB0 : Hid (Below w.heap.size w W) := hb0
  have hsz : w.heap.size + 1 + 1 < W.heap.size := by rw [hW]; simp
  have hkb : BoxK 53 W w.heap.size k f r u xp xn yp yn (.slice ia im ic) a b := by rw [hW]; exact ((BoxK.new _ w _ _ _ _ _ _ _ _ _ _ _).below ((Below.refl _ _).alloc (Nat.le_refl _) _) (by simp)).below ((Below.refl _ _).alloc (Nat.le_refl _) _) (by simp; omega)
  have hrs : Boxed W (w.heap.size + 1 + 1) 4 (.bool false) := by
    have := Boxed.new ((w.alloc (.cells #[.int .i64 k, .int .i64 f, .int .i64 r, .int .i64 u, .int .i64 xp, .int .i64 xn, .int .i64 yp, .int .i64 yn, .slice ia im ic, .int .i64 a, .int .i64 b] 53)).alloc (.cells #[.slice aa an ac, .slice ra rn rc, .slice wa wn wc, .slice la ln lc] 33)) 4 (.bool false)
    rw [World.size_alloc, World.size_alloc] at this
    rw [hW]; exact this
  have HRs : Hid (Boxed W (w.heap.size + 1 + 1) 4 (.bool false)) := hrs
  have HE : Hid (fitK an rn ⟨k, f, r, u, xp, xn, yp, yn, xs, a, b⟩ = false) := by unfold Hid fitK okK; dsimp only; rw [hok]; rfl
  have HR : Hid (RP lo hi W ia im ic xs) := hR.below hb0 hhi
  obtain ⟨y0, y1, y2, y3, y4, y5, y6, y7, y8, y9, y10⟩ := hkb.cells
  clear hW hkb hR hb0
  go_enter Tryz.func51, Tryz.ntmps51
  go_upto_region 1 with fail
  rw [← HW.out]
  go_wp2_with fail
  refine (implClauseOk_any HR.out (Nat.le_trans hhi HB0.out.size)).mono ?_
  rintro e w1 ⟨rfl, hb1⟩
  rw [hok]
  have hr1 := boxed_below hrs hb1 hsz
  have HB1 : Hid (Below w.heap.size w w1) := HB0.out.trans (hb1.mono HB0.out.size)
  have HR1 : Hid (Boxed w1 (w.heap.size + 1 + 1) 4 (.bool false)) := hr1
  have cR := Boxed.cell hr1
  have fR := Boxed.frozen hr1
  clear hb1 hr1 hrs
  go_wp2_with fail
  have cS := Boxed.cell (Boxed.set (.bool false) HR1.out)
  refine bodyPost_ret (v := .bool false) (by simp [results, Tryz.results51, go_sem, cS]) rfl ⟨rb HE.out.symm, HB1.out.setCell (p := ⟨w.heap.size + 1 + 1, 0, none⟩) (by show w.heap.size ≤ w.heap.size + 1 + 1; omega) _⟩

/-! ### Which literals there are -/

theorem mem_litsTo (i p n : Nat) (x : LT) : ∀ k, x ∈ litsTo i p n k ↔ ∃ a, a < k ∧ ((p.testBit a = true ∧ x = ⟨i, a, false⟩) ∨ (n.testBit a = true ∧ x = ⟨i, a, true⟩))
  | 0 => by simp [litsTo]
  | k + 1 => by
    rw [litsTo, List.mem_append, mem_litsTo i p n x k]
    constructor
    · rintro (⟨a, h1, h2⟩ | h)
      · exact ⟨a, by omega, h2⟩
      · unfold litAt at h
        rw [List.mem_append] at h
        rcases h with h | h
        · split at h
          · rename_i hb; exact ⟨k, by omega, .inl ⟨hb, by simpa using h⟩⟩
          · simp at h
        · split at h
          · rename_i hb; exact ⟨k, by omega, .inr ⟨hb, by simpa using h⟩⟩
          · simp at h
    · rintro ⟨a, h1, h2⟩
      by_cases e : a = k
      · subst e
        refine .inr ?_
        unfold litAt
        rw [List.mem_append]
        rcases h2 with ⟨hb, rfl⟩ | ⟨hb, rfl⟩
        · exact .inl (by rw [if_pos hb]; simp)
        · exact .inr (by rw [if_pos hb]; simp)
      · exact .inl ⟨a, by omega, h2⟩

theorem lt_of_bits {p n : Nat} (hp : p < 16777216) (h : ∀ a, a < 24 → p.testBit a = true → a < n) : p < 2 ^ n := by
  apply Nat.lt_pow_two_of_testBit
  intro j hj
  cases hb : p.testBit j with
  | false => rfl
  | true =>
    by_cases h24 : j < 24
    · have := h j h24 hb; omega
    · rw [Nat.testBit_lt_two_pow (x := p) (Nat.lt_of_lt_of_le (show p < 2 ^ 24 by omega) (Nat.pow_le_pow_right (by omega) (by omega)))] at hb
      cases hb

theorem lits_small (i p q n : Nat) (hp : p < 16777216) (hq : q < 16777216) : (litsP i p q).all (fun x => decide (x.atom < n)) = smallB n (p : Int) (q : Int) := by
  have hc : ∀ m : Nat, decide ((m : Int) < (2 : Int) ^ n) = decide (m < 2 ^ n) := fun m => by
    have : ((2 ^ n : Nat) : Int) = (2 : Int) ^ n := by simp
    rw [← this]
    congr 1
    exact propext (by omega)
  unfold smallB
  rw [hc, hc, Bool.eq_iff_iff, List.all_eq_true, Bool.and_eq_true, decide_eq_true_eq, decide_eq_true_eq]
  constructor
  · intro h
    refine ⟨lt_of_bits hp fun a ha hb => ?_, lt_of_bits hq fun a ha hb => ?_⟩
    · have := h ⟨i, a, false⟩ ((mem_litsTo i p q _ 24).2 ⟨a, ha, .inl ⟨hb, rfl⟩⟩)
      simpa using this
    · have := h ⟨i, a, true⟩ ((mem_litsTo i p q _ 24).2 ⟨a, ha, .inr ⟨hb, rfl⟩⟩)
      simpa using this
  · rintro ⟨h1, h2⟩ x hx
    obtain ⟨a, ha, h⟩ := (mem_litsTo i p q x 24).1 hx
    have key : ∀ m : Nat, m < 2 ^ n → m.testBit a = true → a < n := fun m hm hb => by
      apply Nat.lt_of_not_le
      intro hle
      rw [Nat.testBit_lt_two_pow (x := m) (Nat.lt_of_lt_of_le hm (Nat.pow_le_pow_right (by omega) hle))] at hb
      cases hb
    rcases h with ⟨hb, rfl⟩ | ⟨hb, rfl⟩
    · exact decide_eq_true (key p h1 hb)
    · exact decide_eq_true (key q h2 hb)

theorem litsL_small (n : Nat) : ∀ (l : List (Int × Int)) (i : Nat), (∀ x ∈ l, partB x.1 x.2 = true) → (litsL i (natP l)).all (fun x => decide (x.atom < n)) = l.all (fun p => smallB n p.1 p.2)
  | [], i, _ => rfl
  | x :: l, i, h => by
    obtain ⟨⟨h1, h2⟩, h3, h4⟩ := partB_iff.1 (h x (by simp))
    have e1 : ((x.1.toNat : Nat) : Int) = x.1 := by omega
    have e2 : ((x.2.toNat : Nat) : Int) = x.2 := by omega
    have key := lits_small i x.1.toNat x.2.toNat n (by omega) (by omega)
    rw [e1, e2] at key
    show (litsP i x.1.toNat x.2.toNat ++ litsL (i + 1) (natP l)).all _ = _
    rw [List.all_append, key, litsL_small n l (i + 1) (fun y hy => h y (by simp [hy]))]
    rfl

theorem small_zero (n : Nat) : smallB n 0 0 = true := by
  unfold smallB
  have : (0 : Int) < 2 ^ n := by
    have h : ((2 ^ n : Nat) : Int) = (2 : Int) ^ n := by simp
    rw [← h]
    have := Nat.two_pow_pos n
    omega
  rw [decide_eq_true this]
  rfl

theorem six_small {xp xn yp yn : Int} {xs : List (Int × Int)} (n : Nat) (hl : xs.length = 0 ∨ xs.length = 4) : (six xp xn yp yn xs).all (fun p => smallB n p.1 p.2) = (xs.all (fun p => smallB n p.1 p.2) && (smallB n xp xn && smallB n yp yn)) := by
  rcases hl with h | h
  · obtain rfl := List.eq_nil_of_length_eq_zero h
    simp [six, small_zero]
  · match xs, h with
    | [x0, x1, x2, x3], _ =>
      simp only [six, List.all_cons, List.all_nil, List.getD_cons_zero, List.getD_cons_succ, Bool.and_true]
      cases smallB n xp xn <;> cases smallB n yp yn <;> simp

theorem role_fits {k f r u xp xn yp yn a b : Int} {xs : List (Int × Int)} (nr : Nat) (h : clauseB k f r u xp xn yp yn xs a b = true) : roleOkB nr k r u = (numB r nr (hasR k) && numB u nr (hasU k)) := by
  unfold clauseB at h
  simp only [Bool.and_eq_true, decide_eq_true_eq] at h
  obtain ⟨⟨hk0, hk6⟩, _, hr, hu, _⟩ := h
  rcases (by omega : k = 0 ∨ k = 1 ∨ k = 2 ∨ k = 3 ∨ k = 4 ∨ k = 5 ∨ k = 6) with rfl | rfl | rfl | rfl | rfl | rfl | rfl <;> simp [roleOkB, needR, numB, hasR, hasU] at hr hu ⊢ <;> (try omega) <;> (rw [Bool.eq_iff_iff]; simp; omega)

/-- Whether a clause that may be fits. -/
theorem fit_yes {k f r u xp xn yp yn a b : Int} {xs : List (Int × Int)} (na nr : Nat) (h : clauseB k f r u xp xn yp yn xs a b = true) :
    fitK na nr ⟨k, f, r, u, xp, xn, yp, yn, xs, a, b⟩ = ((litsL 0 (natP (six xp xn yp yn xs))).all (fun x => decide (x.atom < na)) && (numB r nr (hasR k) && numB u nr (hasU k))) := by
  unfold fitK okK nameB
  dsimp only
  rw [h, litsL_small na _ 0 (clauseB_parts h), six_small na (clauseB_inds h), role_fits nr h, Bool.true_and, Bool.and_assoc, Bool.and_assoc]
end

section
open Go.RowKit Go.Shelf

attribute [local go_sem] Oper.semAt_some
attribute [local go_sem ↓] about_wide

/-- A block of cells stays as it is where other blocks turn. -/
theorem cells_noncells {W W' : World} {B : Nat} {c : Array Value} {t : TypeId} {fz : Nat × Nat} {row : Option Nat} (h : W.heap[B]? = some (.cells c t fz)) (hg : W.grownBy W' row)
    (hr : ∀ r, row = some r → ∃ o : Obj, W.heap[r]? = some o ∧ o.isCells = false) : W'.heap[B]? = some (.cells c t fz) :=
  (hg.block B (Array.getElem?_eq_some_iff.1 h).1 (fun e => by
    obtain ⟨o, ho, hc⟩ := hr B e.symm
    rw [h] at ho; cases ho; cases hc)).trans h

/-- Between two rounds. -/
structure InvF (s n1 na : Nat) (KC SC : Array Value) (w : World) (pre : List LT) (W : World) : Prop where
  kb : W.heap[s]? = some (.cells KC 53 (0, 0))
  sb : W.heap[s + 1]? = some (.cells SC 33 (0, 0))
  res : Boxed W (s + 1 + 1) 4 (.bool false)
  bel : Below s w W
  good : pre.all (fun x => decide (x.atom < na)) = true
  size : n1 ≤ W.heap.size

structure InvFx (s na : Nat) (w : World) (c : Code) (pre : List LT) (W : World) : Prop where
  code : c = .ret
  res : Boxed W (s + 1 + 1) 4 (.bool false)
  bel : Below s w W
  bad : pre.all (fun x => decide (x.atom < na)) = false

theorem InvF.own {s n1 na : Nat} {KC SC : Array Value} {w : World} {B : Nat} (hB : s ≤ B) : OwnFrom B (InvF s n1 na KC SC w) := by
  rintro pre W W' row ⟨h1, h2, h3, h4, h5, h6⟩ hg hr
  have : s ≤ W.heap.size := by have := Boxed.lt h3; omega
  exact ⟨cells_noncells h1 hg fun r e => (hr r e).2, cells_noncells h2 hg fun r e => (hr r e).2, boxed_noncells h3 hg fun r e => (hr r e).2, h4.grown hg this fun k e => by have := (hr k e).1; omega, h5, Nat.le_trans h6 hg.size⟩

theorem InvFx.own {s na : Nat} {w : World} {B : Nat} (hB : s ≤ B) (c : Code) : OwnFrom B (InvFx s na w c) := by
  rintro pre W W' row ⟨h0, h1, h3, h4⟩ hg hr
  have : s ≤ W.heap.size := by have := Boxed.lt h1; omega
  exact ⟨h0, boxed_noncells h1 hg fun r e => (hr r e).2, h3.grown hg this fun k e => by have := (hr k e).1; omega, h4⟩

/-- A round's variable: the literal in a box of its own. -/
def AxL (n1 t : Nat) (f : Value → Value → Array Value) (x : LT) (a' : Act) (W : World) : Prop :=
  ∃ Bx : Nat, n1 ≤ Bx ∧ W.heap[Bx]? = some (.cells #[.int .i64 (x.place : Nat), .int .i64 (x.atom : Nat), .bool x.no] t (0, 0)) ∧ a' = { tmps := f (.agg #[.int .i64 (x.place : Nat), .int .i64 (x.atom : Nat), .bool x.no]) (.pointer (some ⟨Bx, 0, none⟩)), defers := [] }

theorem AxL.own {n1 t B : Nat} {f : Value → Value → Array Value} (x : LT) (a' : Act) : OwnFrom B (fun (_ : Unit) W => AxL n1 t f x a' W) := by
  rintro _ W W' row ⟨Bx, h1, h2, h3⟩ hg hr
  exact ⟨Bx, h1, cells_noncells h2 hg fun r e => (hr r e).2, h3⟩

set_option maxRecDepth 100000 in
set_option maxHeartbeats 4000000 in
theorem clauseFits_yes {aa : Option Addr} {an ac : Nat} {ra : Option Addr} {rn rc : Nat} {wa : Option Addr} {wn wc : Nat} {la : Option Addr} {ln lc : Nat} {k f r u xp xn yp yn : Int} {ia : Option Addr} {im ic : Nat} {a b : Int} {xs : List (Int × Int)} {w : World} {lo hi : Nat} (hR : RP lo hi w ia im ic xs) (hhi : hi ≤ w.heap.size) (hT : TabD w) (hg : 2 < w.heap.size) (hok : clauseB k f r u xp xn yp yn xs a b = true) :
    Calls Tryz.prog 51 #[.agg #[.int .i64 k, .int .i64 f, .int .i64 r, .int .i64 u, .int .i64 xp, .int .i64 xn, .int .i64 yp, .int .i64 yn, .slice ia im ic, .int .i64 a, .int .i64 b], .agg #[.slice aa an ac, .slice ra rn rc, .slice wa wn wc, .slice la ln lc]] w fun e w' => e = .returned (.bool (fitK an rn ⟨k, f, r, u, xp, xn, yp, yn, xs, a, b⟩)) ∧ Below w.heap.size w w' := by
  obtain ⟨W, hW⟩ : ∃ W, W = ((w.alloc (.cells #[.int .i64 k, .int .i64 f, .int .i64 r, .int .i64 u, .int .i64 xp, .int .i64 xn, .int .i64 yp, .int .i64 yn, .slice ia im ic, .int .i64 a, .int .i64 b] 53)).alloc (.cells #[.slice aa an ac, .slice ra rn rc, .slice wa wn wc, .slice la ln lc] 33)).alloc (.cells #[.bool false] 4) := ⟨_, rfl⟩
  have HW : Hid (W = ((w.alloc (.cells #[.int .i64 k, .int .i64 f, .int .i64 r, .int .i64 u, .int .i64 xp, .int .i64 xn, .int .i64 yp, .int .i64 yn, .slice ia im ic, .int .i64 a, .int .i64 b] 53)).alloc (.cells #[.slice aa an ac, .slice ra rn rc, .slice wa wn wc, .slice la ln lc] 33)).alloc (.cells #[.bool false] 4)) := hW
  have hb0 : Below w.heap.size w W := by rw [hW]; exact (((Below.refl _ _).alloc (Nat.le_refl _) _).alloc (by simp) _).alloc (by simp; omega) _
  have HB0 : Hid (Below w.heap.size w W) := hb0
  have hsz : w.heap.size + 1 + 1 < W.heap.size := by rw [hW]; simp
  have hkb : BoxK 53 W w.heap.size k f r u xp xn yp yn (.slice ia im ic) a b := by rw [hW]; exact ((BoxK.new _ w _ _ _ _ _ _ _ _ _ _ _).below ((Below.refl _ _).alloc (Nat.le_refl _) _) (by simp)).below ((Below.refl _ _).alloc (Nat.le_refl _) _) (by simp; omega)
  have hsb : Blk W (w.heap.size + 1) 33 (.slice aa an ac) (.slice ra rn rc) (.slice wa wn wc) (.slice la ln lc) := by rw [hW]; exact (Blk.alloc_new _ _ _ _ _ _ _ (by simp)).alloc _
  have hrs : Boxed W (w.heap.size + 1 + 1) 4 (.bool false) := by
    have := Boxed.new ((w.alloc (.cells #[.int .i64 k, .int .i64 f, .int .i64 r, .int .i64 u, .int .i64 xp, .int .i64 xn, .int .i64 yp, .int .i64 yn, .slice ia im ic, .int .i64 a, .int .i64 b] 53)).alloc (.cells #[.slice aa an ac, .slice ra rn rc, .slice wa wn wc, .slice la ln lc] 33)) 4 (.bool false)
    rw [World.size_alloc, World.size_alloc] at this
    rw [hW]; exact this
  have HE : Hid (fitK an rn ⟨k, f, r, u, xp, xn, yp, yn, xs, a, b⟩ = ((litsL 0 (natP (six xp xn yp yn xs))).all (fun x => decide (x.atom < an)) && (numB r rn (hasR k) && numB u rn (hasU k)))) := fit_yes an rn hok
  have HR : Hid (RP lo hi w ia im ic xs) := hR
  have HRW : Hid (RP lo hi W ia im ic xs) := hR.below hb0 hhi
  have HIm : Hid (im = 0 ∨ im = 4) := by unfold Hid; rw [← hR.len]; exact clauseB_inds hok
  have HPt : Hid (∀ x ∈ six xp xn yp yn xs, partB x.1 x.2 = true) := clauseB_parts hok
  have HTb : Hid (TabD w) := hT
  have HKB : Hid (BoxK 53 W w.heap.size k f r u xp xn yp yn (.slice ia im ic) a b) := hkb
  have HSB : Hid (Blk W (w.heap.size + 1) 33 (.slice aa an ac) (.slice ra rn rc) (.slice wa wn wc) (.slice la ln lc)) := hsb
  have HRS : Hid (Boxed W (w.heap.size + 1 + 1) 4 (.bool false)) := hrs
  obtain ⟨y0, y1, y2, y3, y4, y5, y6, y7, y8, y9, y10⟩ := hkb.cells
  clear hkb hR hb0 hT hsb hrs hW
  refine (callsIn_wide (n := 6)).1 ?_
  refine callsIn_of_wp_marks Tryz.func51 rfl trivial ?_ rfl
  simp only [Tryz.ntmps51, List.size_toArray, List.length_cons, List.length_nil, Nat.reduceAdd, Nat.reduceSub, Array.replicate_succ, Array.replicate_zero, List.push_toArray, List.append_toArray, List.nil_append, List.cons_append]
  gi_upto_region 1 with fail
  rw [← HW.out]
  gi_wp2_with fail
  refine (callsIn_wide.2 (implClauseOk_any HRW.out (Nat.le_trans hhi HB0.out.size))).mono ?_
  rintro e w1 ⟨rfl, hb1⟩
  rw [hok]
  have HB1 : Hid (Below w.heap.size w w1) := HB0.out.trans (hb1.mono HB0.out.size)
  have hs1 := hb1.size
  have HKB1 : Hid (BoxK 53 w1 w.heap.size k f r u xp xn yp yn (.slice ia im ic) a b) := HKB.out.below hb1 (by omega)
  have HSB1 : Hid (Blk w1 (w.heap.size + 1) 33 (.slice aa an ac) (.slice ra rn rc) (.slice wa wn wc) (.slice la ln lc)) := HSB.out.below hb1 (by omega)
  have HRS1 : Hid (Boxed w1 (w.heap.size + 1 + 1) 4 (.bool false)) := boxed_below HRS.out hb1 hsz
  clear hb1 y0 y1 y2 y3 y4 y5 y6 y7 y8 y9 y10
  obtain ⟨y0, y1, y2, y3, y4, y5, y6, y7, y8, y9, y10⟩ := HKB1.out.cells
  gi_wp2_with fail
  refine (literals_in _ w1).mono ?_
  rintro e w2 ⟨rfl, hw2⟩
  have hb2 : Below w1.heap.size w1 w2 := by rw [hw2]; exact (Below.refl _ _).alloc (Nat.le_refl _) _
  have HB2 : Hid (Below w.heap.size w w2) := HB1.out.trans (hb2.mono HB1.out.size)
  have hs2 := hb2.size
  have hs2' : w1.heap.size < w2.heap.size := by rw [hw2]; simp
  have HBt : Hid (BoxK 53 w2 w1.heap.size k f r u xp xn yp yn (.slice ia im ic) a b) := by unfold Hid; rw [hw2]; exact BoxK.new _ w1 _ _ _ _ _ _ _ _ _ _ _
  have HKB2 : Hid (BoxK 53 w2 w.heap.size k f r u xp xn yp yn (.slice ia im ic) a b) := HKB1.out.below hb2 (by omega)
  have HSB2 : Hid (Blk w2 (w.heap.size + 1) 33 (.slice aa an ac) (.slice ra rn rc) (.slice wa wn wc) (.slice la ln lc)) := HSB1.out.below hb2 (by omega)
  have HRS2 : Hid (Boxed w2 (w.heap.size + 1 + 1) 4 (.bool false)) := boxed_below HRS1.out hb2 (by omega)
  clear hb2 hw2 y0 y1 y2 y3 y4 y5 y6 y7 y8 y9 y10
  gi_wp2_with fail
  refine wpIn_rangeFunc_ownH rfl (by omega) (gf := 83) (lb := #[.pointer (some ⟨w1.heap.size, 0, none⟩)]) rfl trivial (enters_of Tryz.func83 (by kernel_rfl) rfl)
    (lits_stops (lo := lo) (hi := hi) (B := w.heap.size) (n1 := w2.heap.size) 5 w1.heap.size hhi (by omega) hg HR.out HIm.out HPt.out HTb.out HB2.out (Nat.le_refl _) HBt.out) KpC.trans
    (fun W l o o' hl hW hc _ => KpC.putObj W l o o' (by omega) hW hc) (Below.refl _ _) (fun _ => rfl)
    (InvF w.heap.size w2.heap.size an #[.int .i64 k, .int .i64 f, .int .i64 r, .int .i64 u, .int .i64 xp, .int .i64 xn, .int .i64 yp, .int .i64 yn, .slice ia im ic, .int .i64 a, .int .i64 b] #[.slice aa an ac, .slice ra rn rc, .slice wa wn wc, .slice la ln lc] w) (InvFx w.heap.size an w) (InvF.own (by omega)) (InvFx.own (by omega))
    ⟨HKB2.out, HSB2.out, HRS2.out, HB2.out, rfl, Nat.le_refl _⟩
    (AxL w2.heap.size 98 (fun lv bx => #[.agg #[.int .i64 k, .int .i64 f, .int .i64 r, .int .i64 u, .int .i64 xp, .int .i64 xn, .int .i64 yp, .int .i64 yn, .slice ia im ic, .int .i64 a, .int .i64 b], .agg #[.slice aa an ac, .slice ra rn rc, .slice wa wn wc, .slice la ln lc], .pointer (some ⟨w.heap.size, 0, none⟩), .pointer (some ⟨w.heap.size + 1, 0, none⟩), .pointer (some ⟨w.heap.size + 1 + 1, 0, none⟩), bx, undef, undef, .agg #[.int .i64 k, .int .i64 f, .int .i64 r, .int .i64 u, .int .i64 xp, .int .i64 xn, .int .i64 yp, .int .i64 yn, .slice ia im ic, .int .i64 a, .int .i64 b], .bool true, .bool false, .agg #[.int .i64 k, .int .i64 f, .int .i64 r, .int .i64 u, .int .i64 xp, .int .i64 xn, .int .i64 yp, .int .i64 yn, .slice ia im ic, .int .i64 a, .int .i64 b], .func (.func 83) #[] #[.pointer (some ⟨w1.heap.size, 0, none⟩)], lv, undef, undef, undef, undef, undef, undef, undef, undef, undef, undef, undef, undef, undef, undef, undef, undef, undef, undef, undef, undef, undef, undef, undef, undef, undef, undef, undef, undef, undef, undef])) AxL.own ?assign ?body ?done ?stop
  case assign =>
    rintro l pre x W K hI hK
    unfold encL
    have hlt := hI.size
    gi_wp2_with fail
    have hB : Below W.heap.size W (W.alloc (.cells #[.int .i64 (x.place : Nat), .int .i64 (x.atom : Nat), .bool x.no] 98)) := (Below.refl _ _).alloc (Nat.le_refl _) _
    exact hK _ _ ((keepsOthers_below hB).from _) (KpC.of_below hB (by omega)) ⟨(hB.block _ (Array.getElem?_eq_some_iff.1 hI.kb).1).trans hI.kb, (hB.block _ (Array.getElem?_eq_some_iff.1 hI.sb).1).trans hI.sb, hI.res.alloc _, hI.bel.alloc (by omega) _, hI.good, Nat.le_trans hI.size hB.size⟩
      ⟨W.heap.size, hlt, World.alloc_heap_new W _, rfl⟩
  case body =>
    rintro l pre x a' W hl ⟨r', hr'⟩ hI ⟨Bx, hBx, hbox, rfl⟩ hlen
    have HI : Hid (InvF w.heap.size w2.heap.size an #[.int .i64 k, .int .i64 f, .int .i64 r, .int .i64 u, .int .i64 xp, .int .i64 xn, .int .i64 yp, .int .i64 yn, .slice ia im ic, .int .i64 a, .int .i64 b] #[.slice aa an ac, .slice ra rn rc, .slice wa wn wc, .slice la ln lc] w pre W) := hI
    have cR := Boxed.cell hI.res
    have fR := Boxed.frozen hI.res
    obtain ⟨x0, x1, x2, x3, _⟩ := Blk.cells hI.sb
    have l0 : W.cell? ⟨Bx, 0, none⟩ = some (.int .i64 (x.place : Nat)) := by simp [World.cell?, hbox]
    have l1 : W.cell? ⟨Bx, 1, none⟩ = some (.int .i64 (x.atom : Nat)) := by simp [World.cell?, hbox]
    have l2 : W.cell? ⟨Bx, 2, none⟩ = some (.bool x.no) := by simp [World.cell?, hbox]
    have HAll : Hid ((pre ++ [x]).all (fun x => decide (x.atom < an)) = decide (x.atom < an)) := by unfold Hid; rw [List.all_append, HI.out.good]; simp
    clear hI hbox hr' hlen
    by_cases ha : x.atom < an
    · have HG : Hid ((pre ++ [x]).all (fun x => decide (x.atom < an)) = true) := by unfold Hid; rw [HAll.out]; exact decide_eq_true ha
      have hd : decide ((an : Int) ≤ (x.atom : Int)) = false := decide_eq_false (by omega)
      gi_wp2_with fail
      exact ⟨(KeepsOthers.refl _).from _, KpC.refl _ _ _, HI.out.kb, HI.out.sb, HI.out.res, HI.out.bel, HG.out, HI.out.size⟩
    · have HG : Hid ((pre ++ [x]).all (fun x => decide (x.atom < an)) = false) := by unfold Hid; rw [HAll.out]; exact decide_eq_false ha
      have hd : (an : Int) ≤ (x.atom : Int) := by omega
      gi_wp2_with fail
      exact ⟨(KeepsOthers.setCell _ _ _).from _, rfl, Boxed.set _ HI.out.res, HI.out.bel.setCell (p := ⟨w.heap.size + 1 + 1, 0, none⟩) (by show w.heap.size ≤ w.heap.size + 1 + 1; omega) _, HG.out⟩
  case done =>
    rintro D ys W hD hS hI hK
    have hgood := hI.good
    rw [show ys = litsL 0 (natP (six xp xn yp yn xs)) from hS] at hgood
    have HG : Hid (fitK an rn ⟨k, f, r, u, xp, xn, yp, yn, xs, a, b⟩ = (numB r rn (hasR k) && numB u rn (hasU k))) := by unfold Hid; rw [HE.out, hgood, Bool.true_and]
    clear hgood hS
    have hKb : BoxK 53 W w.heap.size k f r u xp xn yp yn (.slice ia im ic) a b := hI.kb
    have hSb : Blk W (w.heap.size + 1) 33 (.slice aa an ac) (.slice ra rn rc) (.slice wa wn wc) (.slice la ln lc) := hI.sb
    obtain ⟨y0, y1, y2, y3, y4, y5, y6, y7, y8, y9, y10⟩ := hKb.cells
    obtain ⟨x0, x1, x2, x3, _⟩ := hSb.cells
    have hlr := Boxed.lt hI.res
    have HI : Hid (InvF w.heap.size w2.heap.size an #[.int .i64 k, .int .i64 f, .int .i64 r, .int .i64 u, .int .i64 xp, .int .i64 xn, .int .i64 yp, .int .i64 yn, .slice ia im ic, .int .i64 a, .int .i64 b] #[.slice aa an ac, .slice ra rn rc, .slice wa wn wc, .slice la ln lc] w ys W) := hI
    clear hI hKb hSb
    gi_wp2_with fail
    refine (callsIn_wide.2 (shapeOf_any k W)).mono ?_
    rintro e W3 ⟨rfl, hb3⟩
    obtain ⟨ws, v1, v2, v3, v4, v5, v6, v7, hv, hv2, hv3⟩ : ∃ ws v1 v2 v3 v4 v5 v6 v7, shapeV k = #[.string ws, .bool v1, .bool v2, .bool v3, .bool v4, .bool v5, .bool v6, .bool v7] ∧ v2 = hasR k ∧ v3 = hasU k := ⟨_, _, _, _, _, _, _, _, rfl, rfl, rfl⟩
    obtain ⟨kn, hkn⟩ : ∃ b, b = knownK k := ⟨_, rfl⟩
    rw [hv, ← hkn]
    have HV2 : Hid (v2 = hasR k) := hv2
    have HV3 : Hid (v3 = hasU k) := hv3
    have hs3 := hb3.size
    have hkb3 : BoxK 53 W3 w.heap.size k f r u xp xn yp yn (.slice ia im ic) a b := (hb3.block _ (by omega)).trans HI.out.kb
    have hsb3 : Blk W3 (w.heap.size + 1) 33 (.slice aa an ac) (.slice ra rn rc) (.slice wa wn wc) (.slice la ln lc) := (hb3.block _ (by omega)).trans HI.out.sb
    have hrs3 : Boxed W3 (w.heap.size + 1 + 1) 4 (.bool false) := boxed_below HI.out.res hb3 hlr
    have hK3 : W3.heap[D]? = some (.deferred (some [])) := (hb3.block D (Array.getElem?_eq_some_iff.1 hK).1).trans hK
    have HB3 : Hid (Below w.heap.size w W3) := HI.out.bel.trans (hb3.mono (by omega))
    obtain ⟨W4, hW4⟩ : ∃ W4, W4 = W3.alloc (.cells #[.string ws, .bool v1, .bool v2, .bool v3, .bool v4, .bool v5, .bool v6, .bool v7] 91) := ⟨_, rfl⟩
    have HW4 : Hid (W4 = W3.alloc (.cells #[.string ws, .bool v1, .bool v2, .bool v3, .bool v4, .bool v5, .bool v6, .bool v7] 91)) := hW4
    have hb4 : Below W3.heap.size W3 W4 := by rw [hW4]; exact (Below.refl _ _).alloc (Nat.le_refl _) _
    have hs4 := hb4.size
    have hbs : W4.heap[W3.heap.size]? = some (.cells #[.string ws, .bool v1, .bool v2, .bool v3, .bool v4, .bool v5, .bool v6, .bool v7] 91 (0, 0)) := by rw [hW4]; exact World.alloc_heap_new W3 _
    have s2 : W4.cell? ⟨W3.heap.size, 2, none⟩ = some (.bool v2) := by simp [World.cell?, hbs]
    have s3 : W4.cell? ⟨W3.heap.size, 3, none⟩ = some (.bool v3) := by simp [World.cell?, hbs]
    have hrs4 : Boxed W4 (w.heap.size + 1 + 1) 4 (.bool false) := boxed_below hrs3 hb4 (by omega)
    have HRS4 : Hid (Boxed W4 (w.heap.size + 1 + 1) 4 (.bool false)) := hrs4
    have HK4 : Hid (W4.heap[D]? = some (.deferred (some []))) := (hb4.block D (Array.getElem?_eq_some_iff.1 hK3).1).trans hK3
    have HB4 : Hid (Below w.heap.size w W4) := HB3.out.trans (hb4.mono (by omega))
    clear y0 y1 y2 y3 y4 y5 y6 y7 y8 y9 y10 x0 x1 x2 x3
    obtain ⟨y0, y1, y2, y3, y4, y5, y6, y7, y8, y9, y10⟩ := (hkb3.below hb4 (by omega)).cells
    obtain ⟨x0, x1, x2, x3, _⟩ := (hsb3.below hb4 (by omega)).cells
    have cR := Boxed.cell hrs4
    have fR := Boxed.frozen hrs4
    clear hv hv2 hv3 hkn hb3 hb4 hK hK3 hW4 hbs hkb3 hsb3 hrs3 hrs4
    gi_upto_region 8 with fail
    rw [← HW4.out]
    obtain ⟨g1, hg1⟩ : ∃ g, g = numB r rn v2 := ⟨_, rfl⟩
    obtain ⟨g2, hg2⟩ : ∃ g, g = numB u rn v3 := ⟨_, rfl⟩
    have HG1 : Hid (fitK an rn ⟨k, f, r, u, xp, xn, yp, yn, xs, a, b⟩ = (g1 && g2)) := by unfold Hid; rw [HG.out, hg1, hg2, HV2.out, HV3.out]
    have HN1 : Hid (numB r rn v2 = g1) := hg1.symm
    have HN2 : Hid (numB u rn v3 = g2) := hg2.symm
    clear hg1 hg2
    gi_wp2_with fail
    refine (callsIn_wide.2 (numberFits_any r rn v2 W4)).mono ?_
    rintro e w' ⟨rfl, hw'⟩
    rw [HN1.out, hw']
    clear hw'
    cases g1 with
    | false =>
      gi_wp2_with fail
      have hK' : (W4.setCell ⟨w.heap.size + 1 + 1, 0, none⟩ (.bool false)).heap[D]? = some (.deferred (some [])) := (KeepsOthers.setCell _ _ _).same D _ HK4.out rfl
      refine ⟨by simp, .inl ⟨_, _, rfl, run_takeDeferred hK', ?_⟩⟩
      have hB := boxed_noncells (Boxed.set (.bool false) HRS4.out) (grownBy_putObj' _ D (.deferred none)) (fun r e => by cases e; exact ⟨_, hK', rfl⟩)
      have cB := Boxed.cell hB
      exact ⟨.bool false, by simp [results, Tryz.results51, go_sem, cB], rb (by rw [HG1.out]; rfl), (HB4.out.setCell (p := ⟨w.heap.size + 1 + 1, 0, none⟩) (by show w.heap.size ≤ w.heap.size + 1 + 1; omega) _).grown (grownBy_putObj' _ D _) (by simp; omega) (fun k e => by cases e; omega)⟩
    | true =>
      gi_wp2_with fail
      refine (callsIn_wide.2 (numberFits_any u rn v3 W4)).mono ?_
      rintro e w' ⟨rfl, hw'⟩
      rw [HN2.out, hw']
      clear hw'
      gi_wp2_with fail
      have hK' : (W4.setCell ⟨w.heap.size + 1 + 1, 0, none⟩ (.bool g2)).heap[D]? = some (.deferred (some [])) := (KeepsOthers.setCell _ _ _).same D _ HK4.out rfl
      refine ⟨by simp, .inl ⟨_, _, rfl, run_takeDeferred hK', ?_⟩⟩
      have hB := boxed_noncells (Boxed.set (.bool g2) HRS4.out) (grownBy_putObj' _ D (.deferred none)) (fun r e => by cases e; exact ⟨_, hK', rfl⟩)
      have cB := Boxed.cell hB
      exact ⟨.bool g2, by simp [results, Tryz.results51, go_sem, cB], rb (by rw [HG1.out]; rfl), (HB4.out.setCell (p := ⟨w.heap.size + 1 + 1, 0, none⟩) (by show w.heap.size ≤ w.heap.size + 1 + 1; omega) _).grown (grownBy_putObj' _ D _) (by simp; omega) (fun k e => by cases e; omega)⟩
  case stop =>
    rintro D cd pre W hD hpre hI hK
    obtain ⟨rfl, hres, hbel, hbad⟩ := hI
    have cR := Boxed.cell hres
    have hF : fitK an rn ⟨k, f, r, u, xp, xn, yp, yn, xs, a, b⟩ = false := by
      rw [HE.out]
      obtain ⟨t, ht⟩ := hpre
      rw [← ht, List.all_append, hbad]
      rfl
    gi_wp2
    refine ⟨by simp, .inl ⟨_, _, rfl, run_takeDeferred hK, ?_⟩⟩
    have hB := boxed_noncells hres (grownBy_putObj' _ D (.deferred none)) (fun r e => by cases e; exact ⟨_, hK, rfl⟩)
    have cB := Boxed.cell hB
    exact ⟨.bool false, by simp [results, Tryz.results51, go_sem, cB], rb hF.symm, hbel.grown (grownBy_putObj' _ D _) (by have := Boxed.lt hres; omega) (fun k e => by cases e; omega)⟩
end

end Go.Proofs.YtknainelonaigaaGreatDoor
