/- Which clauses may be, as mathematics. -/
import Derived.Test.YtpedjcabapldgaaDoorGrFn
namespace Go.Proofs.YtpedjcabapldgaaDoor
open Go.RowKit

/-- What a kind of clause has. -/
def hasF (k : Int) : Bool := decide (k = 1) || decide (k = 2)
def hasR (k : Int) : Bool := decide (k = 2) || (decide (k = 3) || (decide (k = 4) || decide (k = 6)))
def hasU (k : Int) : Bool := decide (k = 4)
def hasX (k : Int) : Bool := decide (k = 0) || (decide (k = 1) || (decide (k = 2) || decide (k = 3)))
def hasY (k : Int) : Bool := decide (k = 1) || decide (k = 3)
def hasI (k : Int) : Bool := decide (k = 5)
def hasP (k : Int) : Bool := decide (k = 6)

def numB (n lim : Int) (wanted : Bool) : Bool := if wanted = true then decide (0 ≤ n ∧ n < lim) else decide (n = 0)
def parB (p n : Int) (wanted : Bool) : Bool := if wanted = true then partB p n else noneB p n
def indB (xs : List (Int × Int)) (wanted : Bool) : Bool := if wanted = true then decide (xs.length = 4) && xs.all (fun p => partB p.1 p.2) else decide (xs.length = 0)

def clauseB (k f r u xp xn yp yn : Int) (xs : List (Int × Int)) (a b : Int) : Bool :=
  decide (0 ≤ k ∧ k ≤ 6) && (numB f 12 (hasF k) && (numB r 3 (hasR k) && (numB u 3 (hasU k) && (numB a 4 (hasP k) && (numB b 4 (hasP k) && (parB xp xn (hasX k) && (parB yp yn (hasY k) && (indB xs (hasI k) && (!(decide (k = 1)) || !(noneB yp yn))))))))))

theorem none_part {p n : Int} (h : partB p n = false) : noneB p n = false := by
  rw [Bool.eq_false_iff] at h ⊢
  intro q
  apply h
  rw [noneB_iff] at q
  rw [partB_iff]
  omega

theorem parB_none {p n : Int} {c : Bool} (h : partB p n = false) : parB p n c = false := by
  unfold parB
  split
  · exact h
  · exact none_part h

end Go.Proofs.YtpedjcabapldgaaDoor
