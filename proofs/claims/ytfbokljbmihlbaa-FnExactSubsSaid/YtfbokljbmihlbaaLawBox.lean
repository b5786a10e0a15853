/- A law's argument that is a concept, in its box: what stays. -/
import Derived.Test.YtfbokljbmihlbaaConMem
import Derived.RangeFuncRecord
namespace Go.Proofs.Ytfbokljbmihlbaa
open Go.RowKit

/-- The box of a law's argument. -/
def BoxL (W : World) (b : Nat) (v0 v1 v2 v3 : Value) : Prop := W.heap[b]? = some (.cells #[v0, v1, v2, v3] 30 (0, 0))
theorem BoxL.new (W : World) (v0 v1 v2 v3 : Value) : BoxL (W.alloc (.cells #[v0, v1, v2, v3] 30)) W.heap.size v0 v1 v2 v3 := World.alloc_heap_new W _
theorem BoxL.below {W W' : World} {b B : Nat} {v0 v1 v2 v3 : Value} (h : BoxL W b v0 v1 v2 v3) (hb : Below B W W') (hB : b < B) : BoxL W' b v0 v1 v2 v3 := (hb.block b hB).trans h
theorem BoxL.lt {W : World} {b : Nat} {v0 v1 v2 v3 : Value} (h : BoxL W b v0 v1 v2 v3) : b < W.heap.size := (Array.getElem?_eq_some_iff.1 h).1
theorem BoxL.cells {W : World} {b : Nat} {v0 v1 v2 v3 : Value} (h : BoxL W b v0 v1 v2 v3) : W.cell? ⟨b, 0, none⟩ = some v0 ∧ W.cell? ⟨b, 1, none⟩ = some v1 ∧ W.cell? ⟨b, 2, none⟩ = some v2 ∧ W.cell? ⟨b, 3, none⟩ = some v3 := by
  unfold BoxL at h
  refine ⟨?_, ?_, ?_, ?_⟩ <;> simp [World.cell?, h]

end Go.Proofs.Ytfbokljbmihlbaa
