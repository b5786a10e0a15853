/- impl.sameCon: for every two concepts that can be read it tells whether they are the same. -/
import Derived.Test.YtpedjcabapldgaaDoorConMark
import Derived.Test.YtpedjcabapldgaaDoorConv
import Derived.Test.YtpedjcabapldgaaDoorConTo
import Derived.Deep.RegionWith
import Derived.Deep.DeepCutAuto
namespace Go.Proofs.YtpedjcabapldgaaDoor
open Go.RowKit

mutual
def sameC : CN → CN → Bool
  | .mk k n r ks, .mk k' n' r' ks' => decide (k = k') && (decide (n = n') && (decide (r = r') && sameL ks ks'))
def sameL : List CN → List CN → Bool
  | [], [] => true
  | a :: xs1, b :: ys1 => sameC a b && sameL xs1 ys1
  | _, _ => false
end

mutual
theorem sameC_iff : ∀ a b : CN, sameC a b = true ↔ a = b
  | .mk k n r ks, .mk k' n' r' ks' => by
    rw [sameC]
    simp only [Bool.and_eq_true, decide_eq_true_eq, sameL_iff ks ks', CN.mk.injEq]
theorem sameL_iff : ∀ xs1 ys1 : List CN, sameL xs1 ys1 = true ↔ xs1 = ys1
  | [], [] => by simp [sameL]
  | a :: xs1, b :: ys1 => by
    rw [sameL, Bool.and_eq_true, sameC_iff a b, sameL_iff xs1 ys1, List.cons.injEq]
  | [], b :: ys1 => by simp [sameL]
  | a :: xs1, [] => by simp [sameL]
end

theorem sameC_eq (c c' : CN) : sameC c c' = (decide (c.kind = c'.kind) && (decide (c.name = c'.name) && (decide (c.role = c'.role) && sameL c.kids c'.kids))) := by
  cases c; cases c'; rw [sameC]; rfl

theorem sameL_false_of {xs1 ys1 : List CN} (h : xs1 ≠ ys1) : sameL xs1 ys1 = false := by
  cases e : sameL xs1 ys1
  · rfl
  · exact absurd ((sameL_iff xs1 ys1).1 e) h

theorem str_inj {xs ys : List Int} (hx : ∀ i, 0 ≤ xs.getD i 0 ∧ xs.getD i 0 ≤ 255) (hy : ∀ i, 0 ≤ ys.getD i 0 ∧ ys.getD i 0 ≤ 255) : ((strOfNums xs).toList == (strOfNums ys).toList) = decide (xs = ys) := by
  have e : ∀ zs : List Int, (strOfNums zs).toList = zs.map (fun n => UInt8.ofNat n.toNat) := fun zs => by rw [ByteArray.toList_eq]; rfl
  rw [e, e]
  by_cases h : xs = ys
  · subst h; simp
  · rw [decide_eq_false h]
    cases hb : (xs.map (fun n : Int => UInt8.ofNat n.toNat) == ys.map (fun n : Int => UInt8.ofNat n.toNat))
    · rfl
    · refine absurd ?_ h
      have hb' := eq_of_beq hb
      have hl : xs.length = ys.length := by have := congrArg List.length hb'; simpa using this
      refine List.ext_getElem hl (fun i h1 h2 => ?_)
      have hi := congrArg (fun l => l[i]?) hb'
      simp only [List.getElem?_map, List.getElem?_eq_getElem h1, List.getElem?_eq_getElem h2, Option.map_some, Option.some.injEq] at hi
      have a1 := hx i
      have a2 := hy i
      simp only [List.getD, List.getElem?_eq_getElem h1, List.getElem?_eq_getElem h2, Option.getD_some] at a1 a2
      have hi' := congrArg UInt8.toNat hi
      simp only [UInt8.toNat_ofNat'] at hi'
      omega

end Go.Proofs.YtpedjcabapldgaaDoor
