/- Clauses in order, as the document has it: a contract. -/
import Derived.Test.YtcaljggnihinaaaDoorCmpNum1
import Derived.Test.YtcaljggnihinaaaDoorClSpec
import Derived.Deep.RegionHeld3
namespace Go.Proofs.YtcaljggnihinaaaDoor
open Go.RowKit

theorem lens_of {k f r u xp xn yp yn a b : Int} {xs : List (Int × Int)} (h : clauseB k f r u xp xn yp yn xs a b = true) : xs.length = if k = 5 then 4 else 0 := by
  unfold clauseB at h
  simp only [Bool.and_eq_true] at h
  have q := h.2.2.2.2.2.2.2.2.1
  unfold indB hasI at q
  by_cases e : k = 5
  · simp [e] at q; simp [e]; exact q.1
  · simp [e] at q; simp [e, q]

/-- -1, 0, 1 by the first of n places at which they differ. -/
def cmpR (f g : Nat → Int) (n : Nat) : Int := match (List.range n).find? (fun i => f i != g i) with | some i => if f i < g i then -1 else 1 | none => 0

theorem cmpR_hit {f g : Nat → Int} {n i : Nat} (hi : i < n) (hj : ∀ j, j < i → f j = g j) (hd : f i ≠ g i) : cmpR f g n = if f i < g i then -1 else 1 := by
  have e : (List.range n).find? (fun i => f i != g i) = some i := by
    rw [List.find?_range_eq_some]
    exact ⟨by simpa using hd, by simpa using hi, fun j h => by simpa using hj j h⟩
  unfold cmpR
  rw [e]

theorem cmpR_none {f g : Nat → Int} {n : Nat} (h : ∀ j, j < n → f j = g j) : cmpR f g n = 0 := by
  have e : (List.range n).find? (fun i => f i != g i) = none := by
    rw [List.find?_range_eq_none]
    exact fun j hj => by simpa using h j hj
  unfold cmpR
  rw [e]

/-- Two that agree as far as one goes, and from there on have nothing that differs. -/
theorem cmpR_more {f g f' g' : Nat → Int} {n n' : Nat} (h : ∀ i, i < n → f i = f' i ∧ g i = g' i) (hn : n ≤ n') (hr : ∀ i, n ≤ i → i < n' → f' i = g' i) : cmpR f g n = cmpR f' g' n' := by
  cases e : (List.range n).find? (fun i => f i != g i) with
  | some i =>
    rw [List.find?_range_eq_some] at e
    obtain ⟨e1, e2, e3⟩ := e
    have hi : i < n := by simpa using e2
    have hd : f i ≠ g i := by simpa using e1
    have hj : ∀ j, j < i → f j = g j := fun j h => by simpa using e3 j h
    rw [cmpR_hit hi hj hd, cmpR_hit (f := f') (g := g') (n := n') (i := i) (by omega) (fun j hj' => by rw [← (h j (by omega)).1, ← (h j (by omega)).2]; exact hj j hj') (by rw [← (h i hi).1, ← (h i hi).2]; exact hd), (h i hi).1, (h i hi).2]
  | none =>
    rw [List.find?_range_eq_none] at e
    have hall : ∀ j, j < n → f j = g j := fun j hj => by simpa using e j hj
    rw [cmpR_none hall, cmpR_none]
    intro j hj
    by_cases q : j < n
    · rw [← (h j q).1, ← (h j q).2]; exact hall j q
    · exact hr j (by omega) hj

def cmpC (x y : CL) : Int :=
  if (clauseB x.kind x.fn x.role x.above x.xp x.xn x.yp x.yn x.inds x.a x.b && clauseB y.kind y.fn y.role y.above y.xp y.xn y.yp y.yn y.inds y.a y.b) = true then
    cmpR (fun i => (numsL x.kind x.fn x.role x.above x.xp x.xn x.yp x.yn x.inds x.a x.b).getD i 0) (fun i => (numsL y.kind y.fn y.role y.above y.xp y.xn y.yp y.yn y.inds y.a y.b).getD i 0) (Nat.min (10 + 2 * x.inds.length) (10 + 2 * y.inds.length))
  else 0

end Go.Proofs.YtcaljggnihinaaaDoor
