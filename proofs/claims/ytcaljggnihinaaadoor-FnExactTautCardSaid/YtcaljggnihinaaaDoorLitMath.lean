/- The literals of a clause, in the order in which they are written: as mathematics. -/
import Derived.Test.YtcaljggnihinaaaDoorClMath
import Derived.Lib.TrailingZeros
namespace Go.Proofs.YtcaljggnihinaaaDoor
open Go.RowKit

/-- A literal: the number of its part, its atom, whether it is not it. -/
structure LT where
  place : Nat
  atom : Nat
  no : Bool

def litAt (i p n a : Nat) : List LT := (if p.testBit a = true then [⟨i, a, false⟩] else []) ++ (if n.testBit a = true then [⟨i, a, true⟩] else [])
/-- The literals of a part whose atoms are below k. -/
def litsTo (i p n : Nat) : Nat → List LT
  | 0 => []
  | k + 1 => litsTo i p n k ++ litAt i p n k
def litsP (i p n : Nat) : List LT := litsTo i p n 24
/-- The literals of parts, the first one's number being i. -/
def litsL : Nat → List (Nat × Nat) → List LT
  | _, [] => []
  | i, x :: xs => litsP i x.1 x.2 ++ litsL (i + 1) xs

theorem litsL_append : ∀ (xs ys : List (Nat × Nat)) (i : Nat), litsL i (xs ++ ys) = litsL i xs ++ litsL (i + xs.length) ys
  | [], ys, i => by simp [litsL]
  | x :: xs, ys, i => by
    rw [List.cons_append, litsL, litsL, litsL_append xs ys (i + 1), List.append_assoc, List.length_cons]
    congr 3
    omega

theorem litsTo_skip (i p n a : Nat) : ∀ d, (∀ j, a ≤ j → j < a + d → (p ||| n).testBit j = false) → litsTo i p n (a + d) = litsTo i p n a
  | 0, _ => rfl
  | d + 1, h => by
    have hb := h (a + d) (by omega) (by omega)
    rw [Nat.testBit_or, Bool.or_eq_false_iff] at hb
    rw [← Nat.add_assoc, litsTo, litsTo_skip i p n a d (fun j h1 h2 => h j h1 (by omega))]
    simp [litAt, hb.1, hb.2]

theorem litsTo_length (i p n : Nat) : ∀ k, (litsTo i p n k).length ≤ 2 * k
  | 0 => by simp [litsTo]
  | k + 1 => by
    have := litsTo_length i p n k
    have h : (litAt i p n k).length ≤ 2 := by unfold litAt; split <;> split <;> simp
    rw [litsTo, List.length_append]
    omega

theorem litsL_length : ∀ (xs : List (Nat × Nat)) (i : Nat), (litsL i xs).length ≤ 48 * xs.length
  | [], _ => by simp [litsL]
  | x :: xs, i => by
    have := litsL_length xs (i + 1)
    have h : (litsP i x.1 x.2).length ≤ 48 := litsTo_length _ _ _ 24
    rw [litsL, List.length_append, List.length_cons]
    omega

/-- What is left of a number when its bits below a are taken away. -/
def RestAt (x a r : Nat) : Prop := ∀ j, r.testBit j = (decide (a ≤ j) && x.testBit j)

theorem RestAt.start (x : Nat) : RestAt x 0 x := fun j => by simp

theorem RestAt.zero {x a : Nat} (h : RestAt x a 0) (j : Nat) (hj : a ≤ j) : x.testBit j = false := by
  have := h j
  simp [hj] at this
  exact this.symm ▸ rfl

theorem RestAt.lt {x a r : Nat} (h : RestAt x a r) (hx : x < 16777216) : r < 16777216 := by
  have : r < 2 ^ 24 := by
    apply Nat.lt_of_not_le
    intro hle
    obtain ⟨i, hi, hb⟩ := Nat.exists_ge_and_testBit_of_ge_two_pow hle
    rw [h i, Nat.testBit_lt_two_pow (x := x) (Nat.lt_of_lt_of_le (show x < 2 ^ 24 by omega) (Nat.pow_le_pow_right (by omega) hi))] at hb
    simp at hb
  omega

/-- The least bit of what is left, and what is left behind it. -/
theorem RestAt.step {x a r : Nat} (h : RestAt x a r) (hx : x < 16777216) (h0 : r ≠ 0) :
    a ≤ Lib.ctz 64 r ∧ Lib.ctz 64 r < 24 ∧ (∀ j, a ≤ j → j < Lib.ctz 64 r → x.testBit j = false) ∧ x.testBit (Lib.ctz 64 r) = true ∧ RestAt x (Lib.ctz 64 r + 1) (r &&& (r - 1)) ∧ r &&& (r - 1) < r := by
  have hr := h.lt hx
  obtain ⟨m, hm, hk⟩ := Lib.ctzFrom_spec 64 r (by omega) (by omega)
  have e : Lib.ctz 64 r = Lib.ctzFrom 64 r := by simp [Lib.ctz, h0]
  rw [← e] at hm hk
  obtain ⟨t, ht⟩ : ∃ t, t = Lib.ctz 64 r := ⟨_, rfl⟩
  rw [← ht] at hm ⊢
  have hpos : 0 < 2 ^ t := Nat.two_pow_pos t
  have hrb : ∀ j, r.testBit j = (decide (t ≤ j) && (2 * m + 1).testBit (j - t)) := by
    intro j
    rw [hm, Nat.testBit_two_pow_mul]
  have e1 : r - 1 = 2 ^ t * (2 * m) + (2 ^ t - 1) := by
    rw [hm, Nat.mul_add]
    omega
  have hr1 : ∀ j, (r - 1).testBit j = if j < t then (2 ^ t - 1).testBit j else (2 * m).testBit (j - t) := by
    intro j
    rw [e1, Nat.testBit_two_pow_mul_add _ (by omega)]
  have hta : r.testBit t = true := by rw [hrb]; simp
  have hand : ∀ j, (r &&& (r - 1)).testBit j = (decide (t + 1 ≤ j) && r.testBit j) := by
    intro j
    rw [Nat.testBit_and, hr1, hrb]
    by_cases h1 : j < t
    · simp [h1, show ¬ t ≤ j by omega]
    · by_cases h2 : j = t
      · subst h2
        simp
      · obtain ⟨d, rfl⟩ : ∃ d, j = t + (d + 1) := ⟨j - t - 1, by omega⟩
        have e2 : t + (d + 1) - t = d + 1 := by omega
        have d1 : (2 * m + 1) / 2 = m := by omega
        have d2 : 2 * m / 2 = m := by omega
        simp only [h1, e2, if_false, Nat.testBit_succ, d1, d2]
        simp
  have hx1 : ∀ j, r.testBit j = true → x.testBit j = true ∧ a ≤ j := by
    intro j hj
    rw [h j] at hj
    simp at hj
    exact ⟨hj.2, hj.1⟩
  obtain ⟨hxt, hat⟩ := hx1 t hta
  refine ⟨hat, ?_, ?_, hxt, ?_, ?_⟩
  · apply Nat.lt_of_not_le
    intro hle
    rw [Nat.testBit_lt_two_pow (x := x) (Nat.lt_of_lt_of_le (show x < 2 ^ 24 by omega) (Nat.pow_le_pow_right (by omega) hle))] at hxt
    cases hxt
  · intro j h1 h2
    have := h j
    rw [hrb, show decide (t ≤ j) = false from by simp; omega, show decide (a ≤ j) = true from by simp; omega] at this
    simpa using this.symm
  · intro j
    rw [hand, h j]
    by_cases hj : t + 1 ≤ j
    · simp [hj, show a ≤ j by omega]
    · simp [hj]
  · refine Nat.lt_of_le_of_ne Nat.and_le_left fun e => ?_
    have := hand t
    rw [e, hta] at this
    simp at this
    omega

theorem litsTo_step {x a p n i t : Nat} (hx : x = p ||| n) (hat : a ≤ t) (hsk : ∀ j, a ≤ j → j < t → x.testBit j = false) : litsTo i p n (t + 1) = litsTo i p n a ++ litAt i p n t := by
  have : litsTo i p n t = litsTo i p n a := by
    have := litsTo_skip i p n a (t - a) (fun j h1 h2 => by rw [← hx]; exact hsk j h1 (by omega))
    rwa [show a + (t - a) = t by omega] at this
  rw [litsTo, this]

theorem litsTo_end {x a p n i : Nat} (hx : x = p ||| n) (hr : RestAt x a 0) (ha : a ≤ 24) : litsP i p n = litsTo i p n a := by
  have := litsTo_skip i p n a (24 - a) (fun j h1 h2 => by rw [← hx]; exact hr.zero j h1)
  rwa [show a + (24 - a) = 24 by omega] at this

end Go.Proofs.YtcaljggnihinaaaDoor
