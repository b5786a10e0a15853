/- What a question in memory reads as; which may be, as mathematics. -/
import Derived.Test.YtnhiccklpllkhaaAxMem
namespace Go.Proofs.Ytnhiccklpllkhaa
open Go.RowKit

structure AK where
  kind : Int
  c : CN
  d : CN
  r : List Int

/-- Ten cells that read as this question. -/
structure RdAk (lo hi : Nat) (w : World) (dp : Nat) (c0 c1 c2 c3 d0 d1 d2 d3 : Value) (ra : Option Addr) (rn rc : Nat) (x : AK) : Prop where
  c : RdC lo hi w dp (.agg #[c0, c1, c2, c3]) x.c
  d : RdC lo hi w dp (.agg #[d0, d1, d2, d3]) x.d
  r : Rd lo hi w ra rn rc x.r

theorem RdAk.below {lo hi B : Nat} {w w' : World} {dp : Nat} {c0 c1 c2 c3 d0 d1 d2 d3 : Value} {ra : Option Addr} {rn rc : Nat} {x : AK}
    (h : RdAk lo hi w dp c0 c1 c2 c3 d0 d1 d2 d3 ra rn rc x) (hb : Below B w w') (hB : hi ≤ B) : RdAk lo hi w' dp c0 c1 c2 c3 d0 d1 d2 d3 ra rn rc x :=
  ⟨h.c.below hb hB, h.d.below hb hB, h.r.below hb hB⟩

/-- The box of a question. -/
def BoxAk (t : Nat) (W : World) (p : Nat) (k : Int) (c0 c1 c2 c3 d0 d1 d2 d3 : Value) (r : Value) : Prop := W.heap[p]? = some (.cells #[.int .i64 k, c0, c1, c2, c3, d0, d1, d2, d3, r] t (0, 0))

theorem BoxAk.new (t : Nat) (W : World) (k : Int) (c0 c1 c2 c3 d0 d1 d2 d3 r : Value) : BoxAk t (W.alloc (.cells #[.int .i64 k, c0, c1, c2, c3, d0, d1, d2, d3, r] t)) W.heap.size k c0 c1 c2 c3 d0 d1 d2 d3 r := World.alloc_heap_new W _
theorem BoxAk.below {t : Nat} {W W' : World} {p B : Nat} {k : Int} {c0 c1 c2 c3 d0 d1 d2 d3 r : Value} (h : BoxAk t W p k c0 c1 c2 c3 d0 d1 d2 d3 r) (hb : Below B W W') (hB : p < B) : BoxAk t W' p k c0 c1 c2 c3 d0 d1 d2 d3 r := (hb.block p hB).trans h
theorem BoxAk.lt {t : Nat} {W : World} {p : Nat} {k : Int} {c0 c1 c2 c3 d0 d1 d2 d3 r : Value} (h : BoxAk t W p k c0 c1 c2 c3 d0 d1 d2 d3 r) : p < W.heap.size := (Array.getElem?_eq_some_iff.1 h).1
theorem BoxAk.cells {t : Nat} {W : World} {p : Nat} {k : Int} {c0 c1 c2 c3 d0 d1 d2 d3 r : Value} (h : BoxAk t W p k c0 c1 c2 c3 d0 d1 d2 d3 r) :
    W.cell? ⟨p, 0, none⟩ = some (.int .i64 k) ∧ W.cell? ⟨p, 1, none⟩ = some c0 ∧ W.cell? ⟨p, 2, none⟩ = some c1 ∧ W.cell? ⟨p, 3, none⟩ = some c2 ∧ W.cell? ⟨p, 4, none⟩ = some c3 ∧ W.cell? ⟨p, 5, none⟩ = some d0 ∧ W.cell? ⟨p, 6, none⟩ = some d1 ∧ W.cell? ⟨p, 7, none⟩ = some d2 ∧ W.cell? ⟨p, 8, none⟩ = some d3 ∧
      W.cell? ⟨p, 9, none⟩ = some r := by
  unfold BoxAk at h
  refine ⟨?_, ?_, ?_, ?_, ?_, ?_, ?_, ?_, ?_, ?_⟩ <;> simp [World.cell?, h]

def askOk (x : AK) : Bool := decide (0 ≤ x.kind ∧ x.kind ≤ 4) && (fitC x.c (!decide (x.kind = 4)) && (fitC x.d (decide (x.kind = 1)) && fitL x.r (decide (x.kind = 2))))

end Go.Proofs.Ytnhiccklpllkhaa
