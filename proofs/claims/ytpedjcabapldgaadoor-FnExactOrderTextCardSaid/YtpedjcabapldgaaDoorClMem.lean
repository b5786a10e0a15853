/- What a list of parts and a clause in memory read as; what stays so. -/
import Derived.Test.YtpedjcabapldgaaDoorBytes
import Derived.Test.YtpedjcabapldgaaDoorClMath
import Derived.RangeFuncRecord
namespace Go.Proofs.YtpedjcabapldgaaDoor
open Go.RowKit

/-- The box of a part. -/
def BoxP (t : Nat) (W : World) (b : Nat) (p n : Int) : Prop := W.heap[b]? = some (.cells #[.int .i64 p, .int .i64 n] t (0, 0))
theorem BoxP.new (t : Nat) (W : World) (p n : Int) : BoxP t (W.alloc (.cells #[.int .i64 p, .int .i64 n] t)) W.heap.size p n := World.alloc_heap_new W _
theorem BoxP.below {t : Nat} {W W' : World} {b B : Nat} {p n : Int} (h : BoxP t W b p n) (hb : Below B W W') (hB : b < B) : BoxP t W' b p n := (hb.block b hB).trans h
theorem BoxP.lt {t : Nat} {W : World} {b : Nat} {p n : Int} (h : BoxP t W b p n) : b < W.heap.size := (Array.getElem?_eq_some_iff.1 h).1
theorem BoxP.cells {t : Nat} {W : World} {b : Nat} {p n : Int} (h : BoxP t W b p n) : W.cell? ⟨b, 0, none⟩ = some (.int .i64 p) ∧ W.cell? ⟨b, 1, none⟩ = some (.int .i64 n) := by
  unfold BoxP at h
  refine ⟨?_, ?_⟩ <;> simp [World.cell?, h]

/-- A slice's value reads as these parts. -/
structure RP (lo hi : Nat) (w : World) (a : Option Addr) (n cap : Nat) (xs : List (Int × Int)) : Prop where
  len : xs.length = n
  fits : n ≤ cap ∧ cap ≤ 9223372036854775807
  cells : n = 0 ∨ ∃ b off, a = some ⟨b, off, none⟩ ∧ lo ≤ b ∧ b < hi ∧ ∀ i, i < n →
    w.cell? ⟨b, off + i * 2, none⟩ = some (.int .i64 (xs.getD i (0, 0)).1) ∧ w.cell? ⟨b, off + i * 2 + 1, none⟩ = some (.int .i64 (xs.getD i (0, 0)).2)

theorem RP.same {lo hi : Nat} {w w' : World} {a : Option Addr} {n cap : Nat} {xs : List (Int × Int)} (h : RP lo hi w a n cap xs) (hs : Same lo hi w w') : RP lo hi w' a n cap xs := by
  obtain ⟨hl, hm, hc⟩ := h
  refine ⟨hl, hm, ?_⟩
  rcases hc with h0 | ⟨b, off, e, h1, h2, hc⟩
  · exact .inl h0
  · exact .inr ⟨b, off, e, h1, h2, fun i hi => ⟨(hs.cell (p := ⟨b, _, none⟩) h1 h2).trans (hc i hi).1, (hs.cell (p := ⟨b, _, none⟩) h1 h2).trans (hc i hi).2⟩⟩
theorem RP.below {lo hi B : Nat} {w w' : World} {a : Option Addr} {n cap : Nat} {xs : List (Int × Int)} (h : RP lo hi w a n cap xs) (hb : Below B w w') (hB : hi ≤ B) : RP lo hi w' a n cap xs := h.same (Same.of_below hb hB)
theorem RP.mono {lo hi lo' hi' : Nat} {w : World} {a : Option Addr} {n cap : Nat} {xs : List (Int × Int)} (h : RP lo hi w a n cap xs) (h1 : lo' ≤ lo) (h2 : hi ≤ hi') : RP lo' hi' w a n cap xs := by
  obtain ⟨hl, hm, hc⟩ := h
  refine ⟨hl, hm, ?_⟩
  rcases hc with h0 | ⟨b, off, e, q1, q2, hc⟩
  · exact .inl h0
  · exact .inr ⟨b, off, e, by omega, by omega, hc⟩
/-- One of them, by its place. -/
theorem RP.at {lo hi : Nat} {w : World} {b off n cap : Nat} {xs : List (Int × Int)} (h : RP lo hi w (some ⟨b, off, none⟩) n cap xs) {i : Nat} (hin : i < n) :
    w.cell? ⟨b, off + i * 2, none⟩ = some (.int .i64 (xs.getD i (0, 0)).1) ∧ w.cell? ⟨b, off + i * 2 + 1, none⟩ = some (.int .i64 (xs.getD i (0, 0)).2) ∧ b < hi := by
  rcases h.cells with h0 | ⟨b', off', e, _, h2, hc⟩
  · omega
  · simp only [Option.some.injEq, Addr.mk.injEq, and_true] at e
    obtain ⟨rfl, rfl⟩ := e
    exact ⟨(hc i hin).1, (hc i hin).2, h2⟩

/-- Eleven cells: a clause. -/
def BoxK (t : Nat) (W : World) (q : Nat) (k f r u xp xn yp yn : Int) (s : Value) (a b : Int) : Prop := W.heap[q]? = some (.cells #[.int .i64 k, .int .i64 f, .int .i64 r, .int .i64 u, .int .i64 xp, .int .i64 xn, .int .i64 yp, .int .i64 yn, s, .int .i64 a, .int .i64 b] t (0, 0))
theorem BoxK.new (t : Nat) (W : World) (k f r u xp xn yp yn : Int) (s : Value) (a b : Int) : BoxK t (W.alloc (.cells #[.int .i64 k, .int .i64 f, .int .i64 r, .int .i64 u, .int .i64 xp, .int .i64 xn, .int .i64 yp, .int .i64 yn, s, .int .i64 a, .int .i64 b] t)) W.heap.size k f r u xp xn yp yn s a b := World.alloc_heap_new W _
theorem BoxK.below {t : Nat} {W W' : World} {q B : Nat} {k f r u xp xn yp yn : Int} {s : Value} {a b : Int} (h : BoxK t W q k f r u xp xn yp yn s a b) (hb : Below B W W') (hB : q < B) : BoxK t W' q k f r u xp xn yp yn s a b := (hb.block q hB).trans h
theorem BoxK.lt {t : Nat} {W : World} {q : Nat} {k f r u xp xn yp yn : Int} {s : Value} {a b : Int} (h : BoxK t W q k f r u xp xn yp yn s a b) : q < W.heap.size := (Array.getElem?_eq_some_iff.1 h).1
theorem BoxK.cells {t : Nat} {W : World} {q : Nat} {k f r u xp xn yp yn : Int} {s : Value} {a b : Int} (h : BoxK t W q k f r u xp xn yp yn s a b) :
    W.cell? ⟨q, 0, none⟩ = some (.int .i64 k) ∧ W.cell? ⟨q, 1, none⟩ = some (.int .i64 f) ∧ W.cell? ⟨q, 2, none⟩ = some (.int .i64 r) ∧ W.cell? ⟨q, 3, none⟩ = some (.int .i64 u) ∧ W.cell? ⟨q, 4, none⟩ = some (.int .i64 xp) ∧ W.cell? ⟨q, 5, none⟩ = some (.int .i64 xn) ∧
      W.cell? ⟨q, 6, none⟩ = some (.int .i64 yp) ∧ W.cell? ⟨q, 7, none⟩ = some (.int .i64 yn) ∧ W.cell? ⟨q, 8, none⟩ = some s ∧ W.cell? ⟨q, 9, none⟩ = some (.int .i64 a) ∧ W.cell? ⟨q, 10, none⟩ = some (.int .i64 b) := by
  unfold BoxK at h
  refine ⟨?_, ?_, ?_, ?_, ?_, ?_, ?_, ?_, ?_, ?_, ?_⟩ <;> simp [World.cell?, h]
theorem BoxK.frz {t : Nat} {W : World} {q : Nat} {k f r u xp xn yp yn : Int} {s : Value} {a b : Int} (h : BoxK t W q k f r u xp xn yp yn s a b) (o : Nat) : W.frozen? ⟨q, o, none⟩ = false := by
  unfold BoxK at h
  simp [World.frozen?, h]
theorem BoxK.at {t : Nat} {W : World} {q : Nat} {k f r u xp xn yp yn : Int} {s : Value} {a b : Int} (h : BoxK t W q k f r u xp xn yp yn s a b) (i : Nat) (v : Value) :
    (W.setCell ⟨q, i, none⟩ v).heap[q]? = some (.cells (#[.int .i64 k, .int .i64 f, .int .i64 r, .int .i64 u, .int .i64 xp, .int .i64 xn, .int .i64 yp, .int .i64 yn, s, .int .i64 a, .int .i64 b].setIfInBounds i v) t (0, 0)) := heap_setCell_same W q i _ _ v h

end Go.Proofs.YtpedjcabapldgaaDoor
