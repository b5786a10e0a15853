/- Which words are the language's own: the program's switch and the model's list, a contract each, for every list of bytes. -/
import Derived.Test.YtpedjcabapldgaaDoorConv
namespace Go.Proofs.YtpedjcabapldgaaDoor
open Go.RowKit

/-- Top, Bot, Not, And, Or, Some, All, Sub, Eq, Dis, Role, Is, Rel, by their bytes. -/
def keptWords : List (List UInt8) := [[84, 111, 112], [66, 111, 116], [78, 111, 116], [65, 110, 100], [79, 114], [83, 111, 109, 101], [65, 108, 108], [83, 117, 98], [69, 113], [68, 105, 115], [82, 111, 108, 101], [73, 115], [82, 101, 108]]
def keptB (l : List UInt8) : Bool := (l == [84, 111, 112]) || ((l == [66, 111, 116]) || ((l == [78, 111, 116]) || ((l == [65, 110, 100]) || ((l == [79, 114]) || ((l == [83, 111, 109, 101]) || ((l == [65, 108, 108]) || ((l == [83, 117, 98]) || ((l == [69, 113]) || ((l == [68, 105, 115]) || ((l == [82, 111, 108, 101]) || ((l == [73, 115]) || (l == [82, 101, 108]))))))))))))

theorem keptB_eq (l : List UInt8) : keptB l = keptWords.any (fun x => x == l) := by
  simp only [keptB, keptWords, List.any_cons, List.any_nil, Bool.or_false, Bool.beq_comm (a := l)]

def wordVal (j : Nat) : Value := .string ⟨(keptWords.getD j []).toArray⟩

theorem toList_mk (l : List UInt8) : (ByteArray.mk l.toArray).toList = l := by
  rw [ByteArray.toList_eq]

theorem any_take_succ (k : Nat) (hk : k < 13) (l : List UInt8) : (keptWords.take (k + 1)).any (fun x => x == l) = ((keptWords.take k).any (fun x => x == l) || (keptWords.getD k [] == l)) := by
  have : k < keptWords.length := by simp [keptWords]; omega
  rw [List.take_succ_eq_append_getElem this, List.any_append]; simp [List.getD, this]

theorem any_true_of (k : Nat) (hk : k < 13) (l : List UInt8) (h : (keptWords.getD k [] == l) = true) : keptB l = true := by
  have hk' : k < keptWords.length := by simp [keptWords]; omega
  rw [keptB_eq, List.any_eq_true]
  exact ⟨keptWords[k], List.getElem_mem hk', by simpa [List.getD, hk'] using h⟩

end Go.Proofs.YtpedjcabapldgaaDoor
