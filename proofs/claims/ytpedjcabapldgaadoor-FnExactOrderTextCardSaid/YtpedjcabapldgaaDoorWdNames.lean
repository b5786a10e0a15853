/- What makes a world one that may be, as mathematics. -/
import Derived.Test.YtpedjcabapldgaaDoorWdLaw3
import Derived.Test.YtpedjcabapldgaaDoorWords
import Derived.Test.YtpedjcabapldgaaDoorConv
import Derived.Test.YtpedjcabapldgaaDoorCmpB
import Derived.Deep.QuietTactic
import Derived.BigQuiet
namespace Go.Proofs.YtpedjcabapldgaaDoor
open Go.RowKit

def wordOkB (up : Bool) (zs : List Int) : Bool := if up = true then upOk zs else lowOk zs
def ltB (xs ys : List Int) : Bool := Op.bytesLess (strOfNums xs).toList (strOfNums ys).toList
def nameAt (up : Bool) (l : List (List Int)) (i : Nat) : Bool := wordOkB up (l.getD i []) && (decide (i = 0) || ltB (l.getD (i - 1) []) (l.getD i []))
def namesB (up : Bool) (l : List (List Int)) : Bool := (List.range l.length).all (nameAt up l)

theorem range_all_succ (p : Nat → Bool) (k : Nat) : (List.range (k + 1)).all p = ((List.range k).all p && p k) := by
  rw [List.range_succ, List.all_append]; simp

theorem range_all_false {p : Nat → Bool} {n k : Nat} (hk : k < n) (h : p k = false) : (List.range n).all p = false := by
  rw [List.all_eq_false]
  exact ⟨k, List.mem_range.2 hk, by simp [h]⟩

def flagsB (l : List (List Bool)) (m : Int) : Bool := (List.range l.length).all (fun i => decide (((l.getD i []).length : Int) = m))
def atB (l : List Int) (n : Int) : Bool := (List.range l.length).all (fun i => decide (0 ≤ l.getD i 0 ∧ l.getD i 0 < n))

def worldB (x : WD) : Bool :=
  (decide (1 ≤ x.n ∧ x.n ≤ 128) && (decide (x.names.length ≤ 12) && (decide (x.roles.length ≤ 6) && (decide (x.inds.length ≤ 6) && (decide (x.sets.length = x.names.length) && (decide (x.rels.length = x.roles.length) && decide (x.at'.length = x.inds.length))))))) &&
  ((namesB true x.names && (namesB false x.roles && namesB false x.inds)) && (flagsB x.sets x.n && (flagsB x.rels (x.n * x.n) && atB x.at' x.n)))

end Go.Proofs.YtpedjcabapldgaaDoor
