/- spec.l2nnf: for every concept whose parts are as their kinds ask it answers what 'nnfC' says; names and roles it shares with its argument. -/
import Derived.Test.YthojlfcahhjfaaaConSpO
namespace Go.Proofs.Ythojlfcahhjfaaa
open Go.RowKit

theorem fin_postS {w W : World} {d hi : Nat} {c : CN} {L : List (Addr × IntKind)} {v0 v1 v2 v3 : Value} (hL : OwC W d (.agg #[v0, v1, v2, v3]) c L) (hx : ∀ x ∈ L, (x.1.block < hi ∨ w.heap.size ≤ x.1.block) ∧ x.1.block < W.heap.size ∧ x.1.block ≠ w.heap.size + 1) (h0 : Below w.heap.size w W) :
    ∃ v' L, Ending.returned (.agg #[v0, v1, v2, v3]) = .returned v' ∧ OwC ((((W.setCell ⟨w.heap.size + 1, 0, none⟩ v0).setCell ⟨w.heap.size + 1, 1, none⟩ v1).setCell ⟨w.heap.size + 1, 2, none⟩ v2).setCell ⟨w.heap.size + 1, 3, none⟩ v3) d v' c L ∧
      (∀ x ∈ L, (x.1.block < hi ∨ w.heap.size ≤ x.1.block) ∧ x.1.block < ((((W.setCell ⟨w.heap.size + 1, 0, none⟩ v0).setCell ⟨w.heap.size + 1, 1, none⟩ v1).setCell ⟨w.heap.size + 1, 2, none⟩ v2).setCell ⟨w.heap.size + 1, 3, none⟩ v3).heap.size) ∧
      Below w.heap.size w ((((W.setCell ⟨w.heap.size + 1, 0, none⟩ v0).setCell ⟨w.heap.size + 1, 1, none⟩ v1).setCell ⟨w.heap.size + 1, 2, none⟩ v2).setCell ⟨w.heap.size + 1, 3, none⟩ v3) := by
  refine ⟨_, L, rfl, hL.sameF (fun x hx' => (hx x hx').2.2) rfl, fun x hx' => ⟨(hx x hx').1, by simpa using (hx x hx').2.1⟩, ?_⟩
  exact ((((h0.setCell (by show w.heap.size ≤ w.heap.size + 1; omega) _).setCell (by show w.heap.size ≤ w.heap.size + 1; omega) _).setCell (by show w.heap.size ≤ w.heap.size + 1; omega) _).setCell (by show w.heap.size ≤ w.heap.size + 1; omega) _)

end Go.Proofs.Ythojlfcahhjfaaa
