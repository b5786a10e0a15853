/- The laws' own count, comparison and copy of a world. -/
import Derived.Test.YtpedjcabapldgaaDoorWdLaw2
import Derived.Deep.DeepCutAuto
namespace Go.Proofs.YtpedjcabapldgaaDoor
open Go.RowKit

/-- What is counted is not too much. -/
structure BdW (x : WD) (nn sn rn ln im tn : Nat) : Prop where
  n : nn ≤ 1048576 ∧ ∀ i, i < nn → (x.names.getD i []).length ≤ 1048576
  s : sn ≤ 1048576 ∧ ∀ i, i < sn → (x.sets.getD i []).length ≤ 1048576
  r : rn ≤ 1048576 ∧ ∀ i, i < rn → (x.roles.getD i []).length ≤ 1048576
  l : ln ≤ 1048576 ∧ ∀ i, i < ln → (x.rels.getD i []).length ≤ 1048576
  i : im ≤ 1048576 ∧ ∀ i, i < im → (x.inds.getD i []).length ≤ 1048576
  t : tn ≤ 1048576

def set7 (W : World) (p : Nat) (v0 v1 v2 v3 v4 v5 v6 : Value) : World := ((((((W.setCell ⟨p, 0, none⟩ v0).setCell ⟨p, 1, none⟩ v1).setCell ⟨p, 2, none⟩ v2).setCell ⟨p, 3, none⟩ v3).setCell ⟨p, 4, none⟩ v4).setCell ⟨p, 5, none⟩ v5).setCell ⟨p, 6, none⟩ v6

theorem heap_set7 (W : World) {b p : Nat} (v0 v1 v2 v3 v4 v5 v6 : Value) (hb : b ≠ p) : (set7 W p v0 v1 v2 v3 v4 v5 v6).heap[b]? = W.heap[b]? := by
  unfold set7
  rw [Below.heap_setCell _ ⟨p, 6, none⟩ _ b hb, Below.heap_setCell _ ⟨p, 5, none⟩ _ b hb, Below.heap_setCell _ ⟨p, 4, none⟩ _ b hb, Below.heap_setCell _ ⟨p, 3, none⟩ _ b hb, Below.heap_setCell _ ⟨p, 2, none⟩ _ b hb, Below.heap_setCell _ ⟨p, 1, none⟩ _ b hb, Below.heap_setCell _ ⟨p, 0, none⟩ _ b hb]

theorem size_set7 (W : World) (p : Nat) (v0 v1 v2 v3 v4 v5 v6 : Value) : (set7 W p v0 v1 v2 v3 v4 v5 v6).heap.size = W.heap.size := by unfold set7; simp

theorem below_set7 {B : Nat} {w W : World} (h : Below B w W) {p : Nat} (hp : B ≤ p) (v0 v1 v2 v3 v4 v5 v6 : Value) : Below B w (set7 W p v0 v1 v2 v3 v4 v5 v6) := by
  unfold set7
  exact ((((((h.setCell (p := ⟨p, 0, none⟩) hp _).setCell (p := ⟨p, 1, none⟩) hp _).setCell (p := ⟨p, 2, none⟩) hp _).setCell (p := ⟨p, 3, none⟩) hp _).setCell (p := ⟨p, 4, none⟩) hp _).setCell (p := ⟨p, 5, none⟩) hp _).setCell (p := ⟨p, 6, none⟩) hp _

theorem BoxW.set7 {t : Nat} {W : World} {p : Nat} {n : Int} {v1 v2 v3 v4 v5 v6 : Value} (h : BoxW t W p n v1 v2 v3 v4 v5 v6) (n' : Int) (u1 u2 u3 u4 u5 u6 : Value) : BoxW t (set7 W p (.int .i64 n') u1 u2 u3 u4 u5 u6) p n' u1 u2 u3 u4 u5 u6 := by
  unfold Go.Proofs.YtpedjcabapldgaaDoor.set7
  have h0 : BoxW t (W.setCell ⟨p, 0, none⟩ (.int .i64 n')) p n' v1 v2 v3 v4 v5 v6 := h.at 0 _
  have h1 : BoxW t _ p n' u1 v2 v3 v4 v5 v6 := h0.at 1 u1
  have h2 : BoxW t _ p n' u1 u2 v3 v4 v5 v6 := h1.at 2 u2
  have h3 : BoxW t _ p n' u1 u2 u3 v4 v5 v6 := h2.at 3 u3
  have h4 : BoxW t _ p n' u1 u2 u3 u4 v5 v6 := h3.at 4 u4
  have h5 : BoxW t _ p n' u1 u2 u3 u4 u5 v6 := h4.at 5 u5
  exact h5.at 6 u6

end Go.Proofs.YtpedjcabapldgaaDoor
