/- What makes a concept one that may be, as mathematics: the parts in their order, each with its depth; counting them down gives the same answer as looking at each. -/
import Derived.Test.YthojlfcahhjfaaaConMem
import Derived.Test.YthojlfcahhjfaaaWords
import Derived.Test.YthojlfcahhjfaaaKept
namespace Go.Proofs.Ythojlfcahhjfaaa
open Go.RowKit

/-- How many kids a concept of this kind has; of no kind: -1. -/
def kidN (k : Int) : Int := if k = 0 ∨ k = 1 ∨ k = 2 then 0 else if k = 3 ∨ k = 6 ∨ k = 7 then 1 else if k = 4 ∨ k = 5 then 2 else -1
def roleB (k : Int) : Bool := decide (k = 6) || decide (k = 7)
def nameFit (c : CN) : Bool := if c.kind = 2 then (upOk c.name && !keptB (strOfNums c.name).toList) else decide (c.name.length = 0)
def roleFit (c : CN) : Bool := if roleB c.kind = true then lowOk c.role else decide (c.role.length = 0)
def shapeB (c : CN) : Bool := nameFit c && (roleFit c && decide ((c.kids.length : Int) = kidN c.kind))

mutual
/-- All parts, from the outside on, each with its depth. -/
def parts : CN → Nat → List (Nat × CN)
  | .mk k n r ks, deep => (deep, .mk k n r ks) :: partsL ks (deep + 1)
def partsL : List CN → Nat → List (Nat × CN)
  | [], _ => []
  | c :: cs, deep => parts c deep ++ partsL cs deep
end

theorem parts_eq (c : CN) (deep : Nat) : parts c deep = (deep, c) :: partsL c.kids (deep + 1) := by
  cases c; rw [parts]; rfl

theorem partsL_append (xs ys : List CN) (deep : Nat) : partsL (xs ++ ys) deep = partsL xs deep ++ partsL ys deep := by
  induction xs with
  | nil => simp [partsL]
  | cons x xs ih => simp only [List.cons_append, partsL, ih, List.append_assoc]

theorem partsL_take_succ (cs : List CN) (k deep : Nat) (h : k < cs.length) : partsL (cs.take (k + 1)) deep = partsL (cs.take k) deep ++ parts (cs.getD k CN.zero) deep := by
  rw [take_succ_getD cs CN.zero k h, partsL_append]
  simp only [partsL, List.append_nil]

theorem partsL_take_drop (cs : List CN) (k deep : Nat) : partsL cs deep = partsL (cs.take k) deep ++ partsL (cs.drop k) deep := by
  rw [← partsL_append, List.take_append_drop]

def okOne (x : Nat × CN) : Bool := decide (x.1 ≤ 6) && shapeB x.2

/-- It is one that may be. -/
def conOk (c : CN) : Bool := decide ((parts c 1).length ≤ 16) && (parts c 1).all okOne

/-- What is left behind these parts; -1: it may not be. -/
def leftOf (left : Int) (L : List (Nat × CN)) : Int := if (L.length : Int) ≤ left ∧ L.all okOne = true then left - L.length else -1

theorem leftOf_pos {left : Int} {L : List (Nat × CN)} (h : (L.length : Int) ≤ left) (k : L.all okOne = true) : leftOf left L = left - L.length := if_pos ⟨h, k⟩
theorem leftOf_neg {left : Int} {L : List (Nat × CN)} (h : ¬ ((L.length : Int) ≤ left ∧ L.all okOne = true)) : leftOf left L = -1 := if_neg h

theorem leftOf_append {left : Int} (L M : List (Nat × CN)) : leftOf left (L ++ M) = if leftOf left L < 0 then -1 else leftOf (leftOf left L) M := by
  by_cases h1 : (L.length : Int) ≤ left ∧ L.all okOne = true
  · rw [leftOf_pos h1.1 h1.2, if_neg (by omega)]
    by_cases h2 : (M.length : Int) ≤ left - L.length ∧ M.all okOne = true
    · rw [leftOf_pos h2.1 h2.2, leftOf_pos (by rw [List.length_append]; omega) (by rw [List.all_append, h1.2, h2.2]; rfl), List.length_append]; omega
    · rw [leftOf_neg h2, leftOf_neg]
      rintro ⟨h3, h4⟩
      rw [List.length_append] at h3
      rw [List.all_append, Bool.and_eq_true] at h4
      exact h2 ⟨by omega, h4.2⟩
  · rw [leftOf_neg h1, if_pos (by omega), leftOf_neg]
    rintro ⟨h3, h4⟩
    rw [List.length_append] at h3
    rw [List.all_append, Bool.and_eq_true] at h4
    exact h1 ⟨by omega, h4.1⟩

theorem leftOf_le {left : Int} (h : 0 ≤ left) (L : List (Nat × CN)) : leftOf left L ≤ left := by
  unfold leftOf; split <;> omega

theorem leftOf_nil (left : Int) (h : 0 ≤ left) : leftOf left [] = left := by simp [leftOf, h]

/-- The outermost part is refused. -/
theorem leftOf_bad (c : CN) (deep : Nat) (left : Int) (h : left - 1 < 0 ∨ 6 < deep ∨ shapeB c = false) : leftOf left (parts c deep) = -1 := by
  rw [parts_eq]
  unfold leftOf
  rw [if_neg]
  rintro ⟨h1, h2⟩
  simp only [List.length_cons, List.all_cons, okOne, Bool.and_eq_true, decide_eq_true_eq] at h1 h2
  rcases h with h | h | h
  · omega
  · omega
  · rw [h2.1.2] at h; cases h

theorem leftOf_good (c : CN) (deep : Nat) (left : Int) (h1 : 0 ≤ left - 1) (h2 : deep ≤ 6) (h3 : shapeB c = true) : leftOf left (parts c deep) = leftOf (left - 1) (partsL c.kids (deep + 1)) := by
  rw [parts_eq, show ((deep, c) :: partsL c.kids (deep + 1)) = [(deep, c)] ++ partsL c.kids (deep + 1) from rfl, leftOf_append]
  have e : leftOf left [(deep, c)] = left - 1 := by
    unfold leftOf
    rw [if_pos ⟨by simp; omega, by simp [okOne, h2, h3]⟩]; simp
  rw [e, if_neg (by omega)]

theorem conOk_left (c : CN) : conOk c = decide (0 ≤ leftOf 16 (parts c 1)) := by
  unfold conOk leftOf
  by_cases h1 : (parts c 1).length ≤ 16
  · by_cases h2 : (parts c 1).all okOne = true
    · rw [if_pos ⟨by omega, h2⟩, h2]; simp; omega
    · rw [if_neg (fun h => h2 h.2)]; simp at h2 ⊢; intro _; exact h2
  · rw [if_neg (by omega)]; simp [h1]

end Go.Proofs.Ythojlfcahhjfaaa
