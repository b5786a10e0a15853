/- What an order in memory reads as; what stays so. -/
import Derived.Test.YtpedjcabapldgaaDoorWdMem
import Derived.Test.YtpedjcabapldgaaDoorClMem
namespace Go.Proofs.YtpedjcabapldgaaDoor
open Go.RowKit

def SlSS (lo hi : Nat) (w : World) (v : Value) (zs : List (List Int)) : Prop := ∃ a n c, v = .slice a n c ∧ RSS lo hi w a n c zs
/-- Lists of words. -/
def RSSS (lo hi : Nat) (w : World) (a : Option Addr) (n cap : Nat) (xs : List (List (List Int))) : Prop := RdN [] (SlSS lo hi w) lo hi w a n cap xs
theorem SlSS.same {lo hi : Nat} {w w' : World} {v : Value} {zs : List (List Int)} (h : SlSS lo hi w v zs) (hs : Same lo hi w w') : SlSS lo hi w' v zs := by obtain ⟨a, n, c, e, h⟩ := h; exact ⟨a, n, c, e, h.same hs⟩
theorem SlSS.mono {lo hi lo' hi' : Nat} {w : World} {v : Value} {zs : List (List Int)} (h : SlSS lo hi w v zs) (h1 : lo' ≤ lo) (h2 : hi ≤ hi') : SlSS lo' hi' w v zs := by obtain ⟨a, n, c, e, h⟩ := h; exact ⟨a, n, c, e, h.mono h1 h2⟩
theorem RSSS.same {lo hi : Nat} {w w' : World} {a : Option Addr} {n cap : Nat} {xs : List (List (List Int))} (h : RSSS lo hi w a n cap xs) (hs : Same lo hi w w') : RSSS lo hi w' a n cap xs := RdN.imp h (fun _ _ q => q.same hs) hs (Nat.le_refl _) (Nat.le_refl _)
theorem RSSS.mono {lo hi lo' hi' : Nat} {w : World} {a : Option Addr} {n cap : Nat} {xs : List (List (List Int))} (h : RSSS lo hi w a n cap xs) (h1 : lo' ≤ lo) (h2 : hi ≤ hi') : RSSS lo' hi' w a n cap xs := RdN.imp h (fun _ _ q => q.mono h1 h2) (Same.refl _ _ _) h1 h2
theorem RSSS.below {lo hi B : Nat} {w w' : World} {a : Option Addr} {n cap : Nat} {xs : List (List (List Int))} (h : RSSS lo hi w a n cap xs) (hb : Below B w w') (hB : hi ≤ B) : RSSS lo hi w' a n cap xs := h.same (Same.of_below hb hB)

/-- An order. -/
structure OD where
  cls : List (List (List Int))
  edg : List (Int × Int)
  code : Int

structure RdO (lo hi : Nat) (w : World) (ca : Option Addr) (cn cc : Nat) (ea : Option Addr) (en ec : Nat) (x : OD) : Prop where
  cls : RSSS lo hi w ca cn cc x.cls
  edg : RP lo hi w ea en ec x.edg

theorem RdO.below {lo hi B : Nat} {w w' : World} {ca : Option Addr} {cn cc : Nat} {ea : Option Addr} {en ec : Nat} {x : OD} (h : RdO lo hi w ca cn cc ea en ec x) (hb : Below B w w') (hB : hi ≤ B) : RdO lo hi w' ca cn cc ea en ec x := ⟨h.cls.below hb hB, h.edg.below hb hB⟩
theorem RdO.same {lo hi : Nat} {w w' : World} {ca : Option Addr} {cn cc : Nat} {ea : Option Addr} {en ec : Nat} {x : OD} (h : RdO lo hi w ca cn cc ea en ec x) (hs : Same lo hi w w') : RdO lo hi w' ca cn cc ea en ec x := ⟨h.cls.same hs, h.edg.same hs⟩
theorem RdO.mono {lo hi lo' hi' : Nat} {w : World} {ca : Option Addr} {cn cc : Nat} {ea : Option Addr} {en ec : Nat} {x : OD} (h : RdO lo hi w ca cn cc ea en ec x) (h1 : lo' ≤ lo) (h2 : hi ≤ hi') : RdO lo' hi' w ca cn cc ea en ec x := ⟨h.cls.mono h1 h2, h.edg.mono h1 h2⟩

def BoxO (t : Nat) (W : World) (p : Nat) (v1 v2 : Value) (c : Int) : Prop := W.heap[p]? = some (.cells #[v1, v2, .int .i64 c] t (0, 0))
theorem BoxO.new (t : Nat) (W : World) (v1 v2 : Value) (c : Int) : BoxO t (W.alloc (.cells #[v1, v2, .int .i64 c] t)) W.heap.size v1 v2 c := World.alloc_heap_new W _
theorem BoxO.below {t : Nat} {W W' : World} {p B : Nat} {v1 v2 : Value} {c : Int} (h : BoxO t W p v1 v2 c) (hb : Below B W W') (hB : p < B) : BoxO t W' p v1 v2 c := (hb.block p hB).trans h
theorem BoxO.lt {t : Nat} {W : World} {p : Nat} {v1 v2 : Value} {c : Int} (h : BoxO t W p v1 v2 c) : p < W.heap.size := (Array.getElem?_eq_some_iff.1 h).1
theorem BoxO.cells {t : Nat} {W : World} {p : Nat} {v1 v2 : Value} {c : Int} (h : BoxO t W p v1 v2 c) : W.cell? ⟨p, 0, none⟩ = some v1 ∧ W.cell? ⟨p, 1, none⟩ = some v2 ∧ W.cell? ⟨p, 2, none⟩ = some (.int .i64 c) := by
  unfold BoxO at h
  refine ⟨?_, ?_, ?_⟩ <;> simp [World.cell?, h]
theorem BoxO.frz {t : Nat} {W : World} {p : Nat} {v1 v2 : Value} {c : Int} (h : BoxO t W p v1 v2 c) (o : Nat) : W.frozen? ⟨p, o, none⟩ = false := by
  unfold BoxO at h
  simp [World.frozen?, h]
theorem BoxO.at {t : Nat} {W : World} {p : Nat} {v1 v2 : Value} {c : Int} (h : BoxO t W p v1 v2 c) (i : Nat) (v : Value) : (W.setCell ⟨p, i, none⟩ v).heap[p]? = some (.cells (#[v1, v2, .int .i64 c].setIfInBounds i v) t (0, 0)) := heap_setCell_same W p i _ _ v h

/-- What is counted is not too much. -/
def BdSSS (n : Nat) (xs : List (List (List Int))) : Prop := n ≤ 1048576 ∧ ∀ j, j < n → (xs.getD j []).length ≤ 1048576 ∧ ∀ i, i < (xs.getD j []).length → ((xs.getD j []).getD i []).length ≤ 1048576
structure BdO (x : OD) (cn en : Nat) : Prop where
  c : BdSSS cn x.cls
  e : en ≤ 1048576

end Go.Proofs.YtpedjcabapldgaaDoor
