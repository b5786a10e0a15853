/- What an axiom in memory reads as; what makes one that may be, as mathematics. -/
import Derived.Test.YtnhiccklpllkhaaConTxt
import Derived.Test.YtnhiccklpllkhaaConMark
namespace Go.Proofs.Ytnhiccklpllkhaa
open Go.RowKit

structure AX where
  kind : Int
  c : CN
  d : CN
  r : List Int
  s : List Int
  a : List Int
  b : List Int

/-- Thirteen cells that read as this axiom. -/
structure RdA (lo hi : Nat) (w : World) (dp : Nat) (c0 c1 c2 c3 d0 d1 d2 d3 : Value) (ra : Option Addr) (rn rc : Nat) (sa : Option Addr) (sn sc : Nat) (aa : Option Addr) (an ac : Nat) (ba : Option Addr) (bn bc : Nat) (x : AX) : Prop where
  c : RdC lo hi w dp (.agg #[c0, c1, c2, c3]) x.c
  d : RdC lo hi w dp (.agg #[d0, d1, d2, d3]) x.d
  r : Rd lo hi w ra rn rc x.r
  s : Rd lo hi w sa sn sc x.s
  a : Rd lo hi w aa an ac x.a
  b : Rd lo hi w ba bn bc x.b

theorem RdA.below {lo hi B : Nat} {w w' : World} {dp : Nat} {c0 c1 c2 c3 d0 d1 d2 d3 : Value} {ra : Option Addr} {rn rc : Nat} {sa : Option Addr} {sn sc : Nat} {aa : Option Addr} {an ac : Nat} {ba : Option Addr} {bn bc : Nat} {x : AX}
    (h : RdA lo hi w dp c0 c1 c2 c3 d0 d1 d2 d3 ra rn rc sa sn sc aa an ac ba bn bc x) (hb : Below B w w') (hB : hi ≤ B) : RdA lo hi w' dp c0 c1 c2 c3 d0 d1 d2 d3 ra rn rc sa sn sc aa an ac ba bn bc x :=
  ⟨h.c.below hb hB, h.d.below hb hB, h.r.below hb hB, h.s.below hb hB, h.a.below hb hB, h.b.below hb hB⟩

/-- The box of an axiom. -/
def BoxA (t : Nat) (W : World) (p : Nat) (k : Int) (c0 c1 c2 c3 d0 d1 d2 d3 : Value) (r s a b : Value) : Prop := W.heap[p]? = some (.cells #[.int .i64 k, c0, c1, c2, c3, d0, d1, d2, d3, r, s, a, b] t (0, 0))

theorem BoxA.new (t : Nat) (W : World) (k : Int) (c0 c1 c2 c3 d0 d1 d2 d3 r s a b : Value) : BoxA t (W.alloc (.cells #[.int .i64 k, c0, c1, c2, c3, d0, d1, d2, d3, r, s, a, b] t)) W.heap.size k c0 c1 c2 c3 d0 d1 d2 d3 r s a b := World.alloc_heap_new W _
theorem BoxA.below {t : Nat} {W W' : World} {p B : Nat} {k : Int} {c0 c1 c2 c3 d0 d1 d2 d3 r s a b : Value} (h : BoxA t W p k c0 c1 c2 c3 d0 d1 d2 d3 r s a b) (hb : Below B W W') (hB : p < B) : BoxA t W' p k c0 c1 c2 c3 d0 d1 d2 d3 r s a b := (hb.block p hB).trans h
theorem BoxA.lt {t : Nat} {W : World} {p : Nat} {k : Int} {c0 c1 c2 c3 d0 d1 d2 d3 r s a b : Value} (h : BoxA t W p k c0 c1 c2 c3 d0 d1 d2 d3 r s a b) : p < W.heap.size := (Array.getElem?_eq_some_iff.1 h).1
theorem BoxA.cells {t : Nat} {W : World} {p : Nat} {k : Int} {c0 c1 c2 c3 d0 d1 d2 d3 r s a b : Value} (h : BoxA t W p k c0 c1 c2 c3 d0 d1 d2 d3 r s a b) :
    W.cell? ⟨p, 0, none⟩ = some (.int .i64 k) ∧ W.cell? ⟨p, 1, none⟩ = some c0 ∧ W.cell? ⟨p, 2, none⟩ = some c1 ∧ W.cell? ⟨p, 3, none⟩ = some c2 ∧ W.cell? ⟨p, 4, none⟩ = some c3 ∧ W.cell? ⟨p, 5, none⟩ = some d0 ∧ W.cell? ⟨p, 6, none⟩ = some d1 ∧ W.cell? ⟨p, 7, none⟩ = some d2 ∧ W.cell? ⟨p, 8, none⟩ = some d3 ∧
      W.cell? ⟨p, 9, none⟩ = some r ∧ W.cell? ⟨p, 10, none⟩ = some s ∧ W.cell? ⟨p, 11, none⟩ = some a ∧ W.cell? ⟨p, 12, none⟩ = some b := by
  unfold BoxA at h
  refine ⟨?_, ?_, ?_, ?_, ?_, ?_, ?_, ?_, ?_, ?_, ?_, ?_, ?_⟩ <;> simp [World.cell?, h]

/-! ### Which may be -/

def wantC (k : Int) : Bool := decide (k = 0) || decide (k = 1) || decide (k = 2) || decide (k = 4)
def wantD (k : Int) : Bool := decide (k = 0) || decide (k = 1) || decide (k = 2)
def wantR (k : Int) : Bool := decide (k = 3) || decide (k = 5)
def wantS (k : Int) : Bool := decide (k = 3)
def wantA (k : Int) : Bool := decide (k = 4) || decide (k = 5)
def wantB (k : Int) : Bool := decide (k = 5)

/-- The concept that is nothing but its zero value. -/
def zeroB (c : CN) : Bool := decide (c.kind = 0) && (decide (c.name.length = 0) && (decide (c.role.length = 0) && decide (c.kids.length = 0)))
def fitC (c : CN) (wanted : Bool) : Bool := if wanted = true then conOk c else zeroB c
def fitL (zs : List Int) (wanted : Bool) : Bool := if wanted = true then lowOk zs else decide (zs.length = 0)

def axOk (x : AX) : Bool := decide (0 ≤ x.kind ∧ x.kind ≤ 5) && (fitC x.c (wantC x.kind) && (fitC x.d (wantD x.kind) && (fitL x.r (wantR x.kind) && (fitL x.s (wantS x.kind) && (fitL x.a (wantA x.kind) && fitL x.b (wantB x.kind))))))

theorem ok_of_zero {c : CN} (h : zeroB c = true) : conOk c = true := by
  cases c with
  | mk k n r ks =>
    unfold zeroB at h
    simp only [CN.kind, CN.name, CN.role, CN.kids, Bool.and_eq_true] at h
    obtain ⟨h1, h2, h3, h4⟩ := h
    have h1 := of_decide_eq_true h1
    have h2 := of_decide_eq_true h2
    have h3 := of_decide_eq_true h3
    have h4 := of_decide_eq_true h4
    have e2 := List.eq_nil_of_length_eq_zero h2
    have e3 := List.eq_nil_of_length_eq_zero h3
    have e4 := List.eq_nil_of_length_eq_zero h4
    subst h1 e2 e3 e4
    decide +kernel

end Go.Proofs.Ytnhiccklpllkhaa
