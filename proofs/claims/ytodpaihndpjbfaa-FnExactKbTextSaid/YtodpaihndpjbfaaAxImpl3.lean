/- impl.AxiomOk: for every axiom that can be read it answers what 'axOk' says. -/
import Derived.Test.YtodpaihndpjbfaaAxImpl2
import Derived.Deep.RegionHeld
import Derived.Deep.DeepCutAuto
namespace Go.Proofs.Ytodpaihndpjbfaa
open Go.RowKit

theorem has_fields {k : Int} (h : 0 ≤ k ∧ k ≤ 5) : inS (fieldsS k) 67 = wantC k ∧ inS (fieldsS k) 68 = wantD k ∧ inS (fieldsS k) 82 = wantR k ∧ inS (fieldsS k) 83 = wantS k ∧ inS (fieldsS k) 65 = wantA k ∧ inS (fieldsS k) 66 = wantB k := by
  have hkk : k = 0 ∨ k = 1 ∨ k = 2 ∨ k = 3 ∨ k = 4 ∨ k = 5 := by omega
  rcases hkk with rfl | rfl | rfl | rfl | rfl | rfl <;> decide +kernel

theorem fields_long {k : Int} (h : 0 ≤ k ∧ k ≤ 5) : 2 ≤ (fieldsS k).toList.length := by
  have hkk : k = 0 ∨ k = 1 ∨ k = 2 ∨ k = 3 ∨ k = 4 ∨ k = 5 := by omega
  rcases hkk with rfl | rfl | rfl | rfl | rfl | rfl <;> (rw [ByteArray.toList_eq]; decide +kernel)

theorem one_ne {c : UInt8} {l : List UInt8} (h : 2 ≤ l.length) : (([c] : List UInt8) == l) = false := by
  match l, h with
  | x :: y :: l, _ => simp

theorem ne_nil {l : List UInt8} (h : 2 ≤ l.length) : (l != []) = true ∧ (l == []) = false := by
  match l, h with
  | x :: y :: l, _ => exact ⟨rfl, rfl⟩

end Go.Proofs.Ytodpaihndpjbfaa
