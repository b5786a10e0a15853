/- Of whom a concept holds in a world, as a function. -/
import Derived.Test.YtfbokljbmihlbaaGreatWdRel0
import Derived.Test.YtfbokljbmihlbaaGreatConTxt
import Derived.Test.YtfbokljbmihlbaaGreatConMark
namespace Go.Proofs.YtfbokljbmihlbaaGreat
open Go.RowKit

mutual
/-- Does the concept hold of the element e? -/
def holdC (x : WD) (L : Nat) : CN → Nat → Bool
  | .mk k n r ks, e =>
    if k = 0 then true else if k = 1 then false else if k = 2 then flagO x.names x.sets n e
    else if k = 3 then !(holdK x L ks 0 e)
    else if k = 4 then holdK x L ks 0 e && holdK x L ks 1 e
    else if k = 5 then holdK x L ks 0 e || holdK x L ks 1 e
    else if k = 6 then (List.range L).any (fun y => relO x r e y L && holdK x L ks 0 y)
    else (List.range L).all (fun y => !(relO x r e y L) || holdK x L ks 0 y)
def holdK (x : WD) (L : Nat) : List CN → Nat → Nat → Bool
  | [], _, _ => false
  | c :: _, 0, e => holdC x L c e
  | _ :: cs, i + 1, e => holdK x L cs i e
end

theorem holdK_getD (x : WD) (L : Nat) : ∀ (cs : List CN) (i e : Nat), i < cs.length → holdK x L cs i e = holdC x L (cs.getD i CN.zero) e
  | [], _, _, h => by simp at h
  | c :: cs, 0, e, _ => by rw [holdK]; rfl
  | c :: cs, i + 1, e, h => by
    rw [holdK, holdK_getD x L cs i e (by simpa using h)]
    rfl

theorem holdC_eq (x : WD) (L : Nat) (c : CN) (e : Nat) : holdC x L c e =
    if c.kind = 0 then true else if c.kind = 1 then false else if c.kind = 2 then flagO x.names x.sets c.name e
    else if c.kind = 3 then !(holdK x L c.kids 0 e)
    else if c.kind = 4 then holdK x L c.kids 0 e && holdK x L c.kids 1 e
    else if c.kind = 5 then holdK x L c.kids 0 e || holdK x L c.kids 1 e
    else if c.kind = 6 then (List.range L).any (fun y => relO x c.role e y L && holdK x L c.kids 0 y)
    else (List.range L).all (fun y => !(relO x c.role e y L) || holdK x L c.kids 0 y) := by
  cases c with
  | mk k n r ks => rw [holdC]; rfl

/-- What the look along a role has found so far: nothing. -/
def someB (x : WD) (L : Nat) (r : List Int) (c : CN) (e : Nat) : Bool := (List.range L).any (fun y => relO x r e y L && holdC x L c y)
def allB (x : WD) (L : Nat) (r : List Int) (c : CN) (e : Nat) : Bool := (List.range L).all (fun y => !(relO x r e y L) || holdC x L c y)

theorem someB_at {x : WD} {L : Nat} {r : List Int} {c : CN} {e y : Nat} (hy : y < L) (h : (relO x r e y L && holdC x L c y) = true) : someB x L r c e = true := by
  unfold someB
  rw [List.any_eq_true]
  exact ⟨y, List.mem_range.2 hy, h⟩
theorem someB_none {x : WD} {L : Nat} {r : List Int} {c : CN} {e : Nat} (h : ∀ y, y < L → (relO x r e y L && holdC x L c y) = false) : someB x L r c e = false := by
  unfold someB
  rw [List.any_eq_false]
  intro y hy
  rw [h y (List.mem_range.1 hy)]
  decide
theorem allB_at {x : WD} {L : Nat} {r : List Int} {c : CN} {e y : Nat} (hy : y < L) (h : (relO x r e y L && !(holdC x L c y)) = true) : allB x L r c e = false := by
  unfold allB
  rw [List.all_eq_false]
  refine ⟨y, List.mem_range.2 hy, ?_⟩
  revert h
  cases relO x r e y L <;> cases holdC x L c y <;> decide
theorem allB_none {x : WD} {L : Nat} {r : List Int} {c : CN} {e : Nat} (h : ∀ y, y < L → (relO x r e y L && !(holdC x L c y)) = false) : allB x L r c e = true := by
  unfold allB
  rw [List.all_eq_true]
  intro y hy
  have := h y (List.mem_range.1 hy)
  revert this
  cases relO x r e y L <;> cases holdC x L c y <;> decide

theorem wf_kids {c : CN} (h : wfC c = true) : (c.kids.length : Int) = kidN c.kind ∧ wfL c.kids = true ∧ 0 ≤ c.kind ∧ c.kind ≤ 7 := by
  rw [wfC_eq, Bool.and_eq_true] at h
  have hs := shape_facts h.1
  have h2 := h.1
  unfold shapeB at h2
  simp only [Bool.and_eq_true, decide_eq_true_eq] at h2
  exact ⟨h2.2.2, h.2, hs.1.1, hs.1.2⟩

end Go.Proofs.YtfbokljbmihlbaaGreat
