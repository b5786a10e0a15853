/- Two lists of bytes compared: the library's function and the model's, a contract each. -/
import Derived.Test.YtpedjcabapldgaaDoorConv
import Derived.Lib.BytesEntry
namespace Go.Proofs.YtpedjcabapldgaaDoor
open Go.RowKit

/-- -1, 0, 1: by their bytes. -/
def cmpZ (xs ys : List Int) : Int := Lib.compareBytes (strOfNums xs).toList (strOfNums ys).toList

theorem bytesOf_any {a : Option Addr} {n cap : Nat} {zs : List Int} {w : World} {lo hi : Nat} (h : Rd lo hi w a n cap zs) : (Extern.Bytes.bytesOf (.slice a n cap)).run Tryd.prog w = .ok (strOfNums zs) w := by
  rcases h.cells with h0 | ⟨b, off, rfl, _, _, hc⟩
  · subst h0
    have hz : zs = [] := List.eq_nil_of_length_eq_zero h.len
    subst hz
    cases a with
    | none => rfl
    | some a => rfl
  · have hl := Lib.run_loadBytesX (P := Tryd.prog) w zs ⟨b, off, none⟩ .empty (fun j x hj => by
      have hjl : j < zs.length := (List.getElem?_eq_some_iff.1 hj).1
      have e : (⟨b, off, none⟩ : Addr).add j = ⟨b, off + j, none⟩ := by unfold Addr.add; split <;> simp_all
      rw [e, hc j (by have := h.len; omega), List.getD_eq_getElem?_getD, hj]
      rfl)
    rw [h.len] at hl
    show (Extern.Bytes.loadBytes ⟨b, off, none⟩ n .empty).run Tryd.prog w = _
    rw [hl]
    congr 1
    apply ByteArray.ext
    show (#[] : Array UInt8) ++ (Lib.bytesOf zs).toArray = _
    simp [Lib.bytesOf, strOfNums]

theorem compare_run {a a' : Option Addr} {n cap n' cap' : Nat} {xs ys : List Int} {w : World} {lo hi lo' hi' : Nat} (h : Rd lo hi w a n cap xs) (h' : Rd lo' hi' w a' n' cap' ys) :
    (Extern.BytealgCompare.compare #[.slice a n cap, .slice a' n' cap']).run Tryd.prog w = .ok (.int .i64 (cmpZ xs ys)) w := by
  change Sem.run Tryd.prog (do pure (goInt (Extern.BytealgCompare.cmp (← Extern.Bytes.bytesOf (.slice a n cap)) (← Extern.Bytes.bytesOf (.slice a' n' cap'))))) w = _
  simp only [Sem.run_bind, Sem.run_pure, bytesOf_any h, bytesOf_any h', Result.andThen]
  rw [Lib.cmp_eq]
  unfold cmpZ
  rw [ByteArray.toList_eq, ByteArray.toList_eq]
  rfl

theorem less_cmp : ∀ (a b : List UInt8), (if Op.bytesLess a b = true then (-1 : Int) else if Op.bytesLess b a = true then 1 else 0) = Lib.compareBytes a b
  | [], [] => by simp [Op.bytesLess, Lib.compareBytes]
  | [], b :: ys => by simp [Op.bytesLess, Lib.compareBytes]
  | a :: xs, [] => by simp [Op.bytesLess, Lib.compareBytes]
  | a :: xs, b :: ys => by
    have ih := less_cmp xs ys
    rw [Lib.compareBytes, ← ih]
    by_cases h1 : a < b
    · simp [Op.bytesLess, h1]
    · by_cases h2 : b < a
      · have hne : ¬ a = b := fun e => by subst e; exact h1 h2
        simp [Op.bytesLess, h1, h2, hne]
      · have he : a = b := UInt8.le_antisymm (UInt8.not_lt.1 h2) (UInt8.not_lt.1 h1)
        subst he
        simp [Op.bytesLess]

theorem less_self : ∀ a : List UInt8, Op.bytesLess a a = false
  | [] => rfl
  | a :: xs => by simp [Op.bytesLess, less_self xs, UInt8.lt_irrefl]

theorem less_tri : ∀ a b : List UInt8, Op.bytesLess a b = false → (a == b) = false → Op.bytesLess b a = true
  | [], [], _, h => by simp at h
  | [], b :: ys, h, _ => by simp [Op.bytesLess] at h
  | a :: xs, [], _, _ => by simp [Op.bytesLess]
  | a :: xs, b :: ys, h1, h2 => by
    have ih := less_tri xs ys
    by_cases h3 : a < b
    · simp [Op.bytesLess, h3] at h1
    · by_cases h4 : b < a
      · simp [Op.bytesLess, h4]
      · have he : a = b := UInt8.le_antisymm (UInt8.not_lt.1 h4) (UInt8.not_lt.1 h3)
        subst he
        simp [Op.bytesLess] at h1 h2 ⊢
        exact ih h1 (by simpa using h2)

end Go.Proofs.YtpedjcabapldgaaDoor
