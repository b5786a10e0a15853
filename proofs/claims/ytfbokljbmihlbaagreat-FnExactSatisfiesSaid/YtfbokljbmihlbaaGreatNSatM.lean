/- Several texts in one: HoldM, AxMem, SatM. -/
import Derived.Test.YtfbokljbmihlbaaGreatNFind
import Derived.Test.YtfbokljbmihlbaaGreatNCon
import Derived.Test.YtfbokljbmihlbaaGreatWdSpec
namespace Go.Proofs.YtfbokljbmihlbaaGreat

section
open Go.RowKit

mutual
/-- Does the concept hold of the element e? -/
def holdC (x : WD) (L : Nat) : CN → Nat → Bool
  | .mk k n r ks, e =>
    if k = 0 then true else if k = 1 then false else if k = 2 then flagO x.names x.sets n e
    else if k = 3 then !(holdK x L ks 0 e)
    else if k = 4 then holdK x L ks 0 e && holdK x L ks 1 e
    else if k = 5 then holdK x L ks 0 e || holdK x L ks 1 e
    else if k = 6 then (List.range L).any (fun y => relO x r e y L && holdK x L ks 0 y)
    else (List.range L).all (fun y => !(relO x r e y L) || holdK x L ks 0 y)
def holdK (x : WD) (L : Nat) : List CN → Nat → Nat → Bool
  | [], _, _ => false
  | c :: _, 0, e => holdC x L c e
  | _ :: cs, i + 1, e => holdK x L cs i e
end

theorem holdK_getD (x : WD) (L : Nat) : ∀ (cs : List CN) (i e : Nat), i < cs.length → holdK x L cs i e = holdC x L (cs.getD i CN.zero) e
  | [], _, _, h => by simp at h
  | c :: cs, 0, e, _ => by rw [holdK]; rfl
  | c :: cs, i + 1, e, h => by
    rw [holdK, holdK_getD x L cs i e (by simpa using h)]
    rfl

theorem holdC_eq (x : WD) (L : Nat) (c : CN) (e : Nat) : holdC x L c e =
    if c.kind = 0 then true else if c.kind = 1 then false else if c.kind = 2 then flagO x.names x.sets c.name e
    else if c.kind = 3 then !(holdK x L c.kids 0 e)
    else if c.kind = 4 then holdK x L c.kids 0 e && holdK x L c.kids 1 e
    else if c.kind = 5 then holdK x L c.kids 0 e || holdK x L c.kids 1 e
    else if c.kind = 6 then (List.range L).any (fun y => relO x c.role e y L && holdK x L c.kids 0 y)
    else (List.range L).all (fun y => !(relO x c.role e y L) || holdK x L c.kids 0 y) := by
  cases c with
  | mk k n r ks => rw [holdC]; rfl

/-- What the look along a role has found so far: nothing. -/
def someB (x : WD) (L : Nat) (r : List Int) (c : CN) (e : Nat) : Bool := (List.range L).any (fun y => relO x r e y L && holdC x L c y)
def allB (x : WD) (L : Nat) (r : List Int) (c : CN) (e : Nat) : Bool := (List.range L).all (fun y => !(relO x r e y L) || holdC x L c y)

theorem someB_at {x : WD} {L : Nat} {r : List Int} {c : CN} {e y : Nat} (hy : y < L) (h : (relO x r e y L && holdC x L c y) = true) : someB x L r c e = true := by
  unfold someB
  rw [List.any_eq_true]
  exact ⟨y, List.mem_range.2 hy, h⟩
theorem someB_none {x : WD} {L : Nat} {r : List Int} {c : CN} {e : Nat} (h : ∀ y, y < L → (relO x r e y L && holdC x L c y) = false) : someB x L r c e = false := by
  unfold someB
  rw [List.any_eq_false]
  intro y hy
  rw [h y (List.mem_range.1 hy)]
  decide
theorem allB_at {x : WD} {L : Nat} {r : List Int} {c : CN} {e y : Nat} (hy : y < L) (h : (relO x r e y L && !(holdC x L c y)) = true) : allB x L r c e = false := by
  unfold allB
  rw [List.all_eq_false]
  refine ⟨y, List.mem_range.2 hy, ?_⟩
  revert h
  cases relO x r e y L <;> cases holdC x L c y <;> decide
theorem allB_none {x : WD} {L : Nat} {r : List Int} {c : CN} {e : Nat} (h : ∀ y, y < L → (relO x r e y L && !(holdC x L c y)) = false) : allB x L r c e = true := by
  unfold allB
  rw [List.all_eq_true]
  intro y hy
  have := h y (List.mem_range.1 hy)
  revert this
  cases relO x r e y L <;> cases holdC x L c y <;> decide

theorem wf_kids {c : CN} (h : wfC c = true) : (c.kids.length : Int) = kidN c.kind ∧ wfL c.kids = true ∧ 0 ≤ c.kind ∧ c.kind ≤ 7 := by
  rw [wfC_eq, Bool.and_eq_true] at h
  have hs := shape_facts h.1
  have h2 := h.1
  unfold shapeB at h2
  simp only [Bool.and_eq_true, decide_eq_true_eq] at h2
  exact ⟨h2.2.2, h.2, hs.1.1, hs.1.2⟩
end

section
open Go.RowKit

structure AX where
  kind : Int
  c : CN
  d : CN
  r : List Int
  s : List Int
  a : List Int
  b : List Int

/-- Thirteen cells that read as this axiom. -/
structure RdA (lo hi : Nat) (w : World) (dp : Nat) (c0 c1 c2 c3 d0 d1 d2 d3 : Value) (ra : Option Addr) (rn rc : Nat) (sa : Option Addr) (sn sc : Nat) (aa : Option Addr) (an ac : Nat) (ba : Option Addr) (bn bc : Nat) (x : AX) : Prop where
  c : RdC lo hi w dp (.agg #[c0, c1, c2, c3]) x.c
  d : RdC lo hi w dp (.agg #[d0, d1, d2, d3]) x.d
  r : Rd lo hi w ra rn rc x.r
  s : Rd lo hi w sa sn sc x.s
  a : Rd lo hi w aa an ac x.a
  b : Rd lo hi w ba bn bc x.b

theorem RdA.below {lo hi B : Nat} {w w' : World} {dp : Nat} {c0 c1 c2 c3 d0 d1 d2 d3 : Value} {ra : Option Addr} {rn rc : Nat} {sa : Option Addr} {sn sc : Nat} {aa : Option Addr} {an ac : Nat} {ba : Option Addr} {bn bc : Nat} {x : AX}
    (h : RdA lo hi w dp c0 c1 c2 c3 d0 d1 d2 d3 ra rn rc sa sn sc aa an ac ba bn bc x) (hb : Below B w w') (hB : hi ≤ B) : RdA lo hi w' dp c0 c1 c2 c3 d0 d1 d2 d3 ra rn rc sa sn sc aa an ac ba bn bc x :=
  ⟨h.c.below hb hB, h.d.below hb hB, h.r.below hb hB, h.s.below hb hB, h.a.below hb hB, h.b.below hb hB⟩

/-- The box of an axiom. -/
def BoxA (t : Nat) (W : World) (p : Nat) (k : Int) (c0 c1 c2 c3 d0 d1 d2 d3 : Value) (r s a b : Value) : Prop := W.heap[p]? = some (.cells #[.int .i64 k, c0, c1, c2, c3, d0, d1, d2, d3, r, s, a, b] t (0, 0))

theorem BoxA.new (t : Nat) (W : World) (k : Int) (c0 c1 c2 c3 d0 d1 d2 d3 r s a b : Value) : BoxA t (W.alloc (.cells #[.int .i64 k, c0, c1, c2, c3, d0, d1, d2, d3, r, s, a, b] t)) W.heap.size k c0 c1 c2 c3 d0 d1 d2 d3 r s a b := World.alloc_heap_new W _
theorem BoxA.below {t : Nat} {W W' : World} {p B : Nat} {k : Int} {c0 c1 c2 c3 d0 d1 d2 d3 r s a b : Value} (h : BoxA t W p k c0 c1 c2 c3 d0 d1 d2 d3 r s a b) (hb : Below B W W') (hB : p < B) : BoxA t W' p k c0 c1 c2 c3 d0 d1 d2 d3 r s a b := (hb.block p hB).trans h
theorem BoxA.lt {t : Nat} {W : World} {p : Nat} {k : Int} {c0 c1 c2 c3 d0 d1 d2 d3 r s a b : Value} (h : BoxA t W p k c0 c1 c2 c3 d0 d1 d2 d3 r s a b) : p < W.heap.size := (Array.getElem?_eq_some_iff.1 h).1
theorem BoxA.cells {t : Nat} {W : World} {p : Nat} {k : Int} {c0 c1 c2 c3 d0 d1 d2 d3 r s a b : Value} (h : BoxA t W p k c0 c1 c2 c3 d0 d1 d2 d3 r s a b) :
    W.cell? ⟨p, 0, none⟩ = some (.int .i64 k) ∧ W.cell? ⟨p, 1, none⟩ = some c0 ∧ W.cell? ⟨p, 2, none⟩ = some c1 ∧ W.cell? ⟨p, 3, none⟩ = some c2 ∧ W.cell? ⟨p, 4, none⟩ = some c3 ∧ W.cell? ⟨p, 5, none⟩ = some d0 ∧ W.cell? ⟨p, 6, none⟩ = some d1 ∧ W.cell? ⟨p, 7, none⟩ = some d2 ∧ W.cell? ⟨p, 8, none⟩ = some d3 ∧
      W.cell? ⟨p, 9, none⟩ = some r ∧ W.cell? ⟨p, 10, none⟩ = some s ∧ W.cell? ⟨p, 11, none⟩ = some a ∧ W.cell? ⟨p, 12, none⟩ = some b := by
  unfold BoxA at h
  refine ⟨?_, ?_, ?_, ?_, ?_, ?_, ?_, ?_, ?_, ?_, ?_, ?_, ?_⟩ <;> simp [World.cell?, h]

/-! ### Which may be -/

def wantC (k : Int) : Bool := decide (k = 0) || decide (k = 1) || decide (k = 2) || decide (k = 4)
def wantD (k : Int) : Bool := decide (k = 0) || decide (k = 1) || decide (k = 2)
def wantR (k : Int) : Bool := decide (k = 3) || decide (k = 5)
def wantS (k : Int) : Bool := decide (k = 3)
def wantA (k : Int) : Bool := decide (k = 4) || decide (k = 5)
def wantB (k : Int) : Bool := decide (k = 5)

/-- The concept that is nothing but its zero value. -/
def zeroB (c : CN) : Bool := decide (c.kind = 0) && (decide (c.name.length = 0) && (decide (c.role.length = 0) && decide (c.kids.length = 0)))
def fitC (c : CN) (wanted : Bool) : Bool := if wanted = true then conOk c else zeroB c
def fitL (zs : List Int) (wanted : Bool) : Bool := if wanted = true then lowOk zs else decide (zs.length = 0)

def axOk (x : AX) : Bool := decide (0 ≤ x.kind ∧ x.kind ≤ 5) && (fitC x.c (wantC x.kind) && (fitC x.d (wantD x.kind) && (fitL x.r (wantR x.kind) && (fitL x.s (wantS x.kind) && (fitL x.a (wantA x.kind) && fitL x.b (wantB x.kind))))))

theorem ok_of_zero {c : CN} (h : zeroB c = true) : conOk c = true := by
  cases c with
  | mk k n r ks =>
    unfold zeroB at h
    simp only [CN.kind, CN.name, CN.role, CN.kids, Bool.and_eq_true] at h
    obtain ⟨h1, h2, h3, h4⟩ := h
    have h1 := of_decide_eq_true h1
    have h2 := of_decide_eq_true h2
    have h3 := of_decide_eq_true h3
    have h4 := of_decide_eq_true h4
    have e2 := List.eq_nil_of_length_eq_zero h2
    have e3 := List.eq_nil_of_length_eq_zero h3
    have e4 := List.eq_nil_of_length_eq_zero h4
    subst h1 e2 e3 e4
    decide +kernel
end

section
open Go.RowKit

/-- At whom somebody is; -1: the world doesn't know him. -/
def seatZ (x : WD) (wd : List Int) : Int := match idxO x.inds wd with | some i => x.at'.getD i 0 | none => -1
/-- What is told of two concepts, at one element. -/
def ruleE (k : Int) (a b : Bool) : Bool := if k = 0 then !a || b else if k = 1 then a == b else !(a && b)
def ruleB (x : WD) (L : Nat) (c d : CN) (k : Int) : Bool := (List.range L).all (fun e => ruleE k (holdC x L c e) (holdC x L d e))
def rolesB (x : WD) (L : Nat) (r s : List Int) : Bool := (List.range (L * L)).all (fun q => !(flagO x.roles x.rels r q) || flagO x.roles x.rels s q)
def satB (x : WD) (L : Nat) (y : AX) : Bool :=
  if y.kind = 3 then rolesB x L y.r y.s
  else if y.kind = 4 then hasB x.n (seatZ x y.a) && holdC x L y.c (seatZ x y.a).toNat
  else if y.kind = 5 then hasB x.n (seatZ x y.a) && (hasB x.n (seatZ x y.b) && relO x y.r (seatZ x y.a).toNat (seatZ x y.b).toNat L)
  else ruleB x L y.c y.d y.kind
def satisB (x : WD) (y : AX) : Bool := worldB x && (axOk y && satB x x.n.toNat y)

theorem ruleB_at {x : WD} {L : Nat} {c d : CN} {k : Int} {e : Nat} (he : e < L) (h : ruleE k (holdC x L c e) (holdC x L d e) = false) : ruleB x L c d k = false := by
  unfold ruleB
  rw [Bool.eq_false_iff]
  intro hall
  rw [List.all_eq_true] at hall
  have := hall e (List.mem_range.2 he)
  rw [h] at this
  cases this

theorem ruleB_all {x : WD} {L : Nat} {c d : CN} {k : Int} (h : ∀ e, e < L → ruleE k (holdC x L c e) (holdC x L d e) = true) : ruleB x L c d k = true := by
  unfold ruleB
  rw [List.all_eq_true]
  intro e he
  exact h e (List.mem_range.1 he)

theorem rolesB_at {x : WD} {L : Nat} {r s : List Int} {p q : Nat} (hp : p < L) (hq : q < L) (h : (relO x r p q L && !(relO x s p q L)) = true) : rolesB x L r s = false := by
  unfold rolesB
  rw [Bool.eq_false_iff]
  intro hall
  rw [List.all_eq_true] at hall
  have := hall (p * L + q) (List.mem_range.2 (cell_lt hp hq))
  unfold relO at h
  rw [Bool.and_eq_true] at h
  rw [h.1] at this
  simp only [Bool.not_true, Bool.false_or] at this
  rw [this] at h
  exact absurd h.2 (by simp)

theorem rolesB_all {x : WD} {L : Nat} {r s : List Int} (h : ∀ p q, p < L → q < L → (relO x r p q L && !(relO x s p q L)) = false) : rolesB x L r s = true := by
  unfold rolesB
  rw [List.all_eq_true]
  intro q hq
  have hq := List.mem_range.1 hq
  have hL : 0 < L := by
    rcases Nat.eq_zero_or_pos L with h0 | h0
    · subst h0; simp at hq
    · exact h0
  have h1 : q / L < L := Nat.div_lt_of_lt_mul hq
  have h2 : q % L < L := Nat.mod_lt _ hL
  have := h _ _ h1 h2
  unfold relO at this
  rw [Nat.div_add_mod'] at this
  cases e1 : flagO x.roles x.rels r q <;> cases e2 : flagO x.roles x.rels s q <;> simp_all

theorem seat_has {x : WD} {wd : List Int} {i : Nat} (hok : worldB x = true) (h : idxO x.inds wd = some i) : i < x.at'.length ∧ 0 ≤ x.at'.getD i 0 ∧ x.at'.getD i 0 < x.n := by
  obtain ⟨⟨_, _, _, _, _, _, hl⟩, _, _, _, ha⟩ := (worldB_iff x).1 hok
  have hi := idx_of h
  have hi' : i < x.at'.length := by omega
  unfold atB at ha
  rw [List.all_eq_true] at ha
  have := of_decide_eq_true (ha i (List.mem_range.2 hi'))
  exact ⟨hi', this.1, this.2⟩

theorem fit_ok {c : CN} {b : Bool} (h : fitC c b = true) : conOk c = true := by
  unfold fitC at h
  cases b with
  | true => simpa using h
  | false => exact ok_of_zero (by simpa using h)

theorem ax_cons {y : AX} (h : axOk y = true) : wfC y.c = true ∧ wfC y.d = true ∧ 0 ≤ y.kind ∧ y.kind ≤ 5 := by
  unfold axOk at h
  rw [Bool.and_eq_true, Bool.and_eq_true, Bool.and_eq_true] at h
  obtain ⟨hk, hc, hd, _⟩ := h
  have := of_decide_eq_true hk
  exact ⟨wfC_of_ok (fit_ok hc), wfC_of_ok (fit_ok hd), this.1, this.2⟩

theorem rb' {a b : Bool} (h : a = b) : Ending.returned (.bool a) = .returned (.bool b) := by rw [h]
end

end Go.Proofs.YtfbokljbmihlbaaGreat
