/- The box of a clause's six parts, number by number. -/
import Derived.Test.YtcaljggnihinaaaDoorClStr1
namespace Go.Proofs.YtcaljggnihinaaaDoor
open Go.RowKit

def BoxM (W : World) (q : Nat) (n0 n1 n2 n3 n4 n5 n6 n7 n8 n9 n10 n11 : Int) : Prop := W.heap[q]? = some (.cells #[.int .i64 n0, .int .i64 n1, .int .i64 n2, .int .i64 n3, .int .i64 n4, .int .i64 n5, .int .i64 n6, .int .i64 n7, .int .i64 n8, .int .i64 n9, .int .i64 n10, .int .i64 n11] 68 (0, 0))
theorem BoxM.new (W : World) (n0 n1 n2 n3 n4 n5 n6 n7 n8 n9 n10 n11 : Int) : BoxM (W.alloc (.cells #[.int .i64 n0, .int .i64 n1, .int .i64 n2, .int .i64 n3, .int .i64 n4, .int .i64 n5, .int .i64 n6, .int .i64 n7, .int .i64 n8, .int .i64 n9, .int .i64 n10, .int .i64 n11] 68)) W.heap.size n0 n1 n2 n3 n4 n5 n6 n7 n8 n9 n10 n11 := World.alloc_heap_new W _
theorem BoxM.below {W W' : World} {q B : Nat} {n0 n1 n2 n3 n4 n5 n6 n7 n8 n9 n10 n11 : Int} (h : BoxM W q n0 n1 n2 n3 n4 n5 n6 n7 n8 n9 n10 n11) (hb : Below B W W') (hB : q < B) : BoxM W' q n0 n1 n2 n3 n4 n5 n6 n7 n8 n9 n10 n11 := (hb.block q hB).trans h
theorem BoxM.lt {W : World} {q : Nat} {n0 n1 n2 n3 n4 n5 n6 n7 n8 n9 n10 n11 : Int} (h : BoxM W q n0 n1 n2 n3 n4 n5 n6 n7 n8 n9 n10 n11) : q < W.heap.size := (Array.getElem?_eq_some_iff.1 h).1
theorem BoxM.cells {W : World} {q : Nat} {n0 n1 n2 n3 n4 n5 n6 n7 n8 n9 n10 n11 : Int} (h : BoxM W q n0 n1 n2 n3 n4 n5 n6 n7 n8 n9 n10 n11) : W.cell? ⟨q, 0, none⟩ = some (.int .i64 n0) ∧ W.cell? ⟨q, 1, none⟩ = some (.int .i64 n1) ∧ W.cell? ⟨q, 2, none⟩ = some (.int .i64 n2) ∧ W.cell? ⟨q, 3, none⟩ = some (.int .i64 n3) ∧ W.cell? ⟨q, 4, none⟩ = some (.int .i64 n4) ∧ W.cell? ⟨q, 5, none⟩ = some (.int .i64 n5) ∧ W.cell? ⟨q, 6, none⟩ = some (.int .i64 n6) ∧ W.cell? ⟨q, 7, none⟩ = some (.int .i64 n7) ∧ W.cell? ⟨q, 8, none⟩ = some (.int .i64 n8) ∧ W.cell? ⟨q, 9, none⟩ = some (.int .i64 n9) ∧ W.cell? ⟨q, 10, none⟩ = some (.int .i64 n10) ∧ W.cell? ⟨q, 11, none⟩ = some (.int .i64 n11) := by
  unfold BoxM at h
  refine ⟨?_, ?_, ?_, ?_, ?_, ?_, ?_, ?_, ?_, ?_, ?_, ?_⟩ <;> simp [World.cell?, h]

end Go.Proofs.YtcaljggnihinaaaDoor
