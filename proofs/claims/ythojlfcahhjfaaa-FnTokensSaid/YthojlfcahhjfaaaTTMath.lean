/- The text of tokens as a function on lists; a slice of bytes that the call itself has made. -/
import Derived.Test.YthojlfcahhjfaaaTTTo
import Derived.Test.YthojlfcahhjfaaaWords
import Derived.Test.YthojlfcahhjfaaaOwnB
namespace Go.Proofs.Ythojlfcahhjfaaa
open Go.RowKit

/-- What a token is written as; nothing, if it can't be. -/
def tokPiece (t : Tok) : List Int :=
  if t.kind = 3 then (if t.text = [] then [40] else [])
  else if t.kind = 4 then (if t.text = [] then [41] else [])
  else if t.kind = 1 then (if upOk t.text then t.text else [])
  else if t.kind = 2 then (if lowOk t.text then t.text else [])
  else []

theorem tokPiece_len (t : Tok) : (tokPiece t).length ≤ 6 := by
  unfold tokPiece
  split
  · split <;> simp
  · split
    · split <;> simp
    · split
      · split
        · rename_i h; exact (longB_of_up h).2
        · simp
      · split
        · split
          · rename_i h; exact (longB_of_low h).2
          · simp
        · simp

def txtTo (ts : List Tok) : Nat → List Int
  | 0 => []
  | k + 1 => (txtTo ts k ++ gapT k) ++ tokPiece (ts.getD k Tok.zero)

theorem txtTo_len (ts : List Tok) : ∀ k, (txtTo ts k).length ≤ k * 7
  | 0 => by simp [txtTo]
  | k + 1 => by
    have h1 := txtTo_len ts k
    have h2 := tokPiece_len (ts.getD k Tok.zero)
    have h3 : (gapT k).length ≤ 1 := by unfold gapT; split <;> simp
    simp only [txtTo, List.length_append]
    omega

def okTo (ts : List Tok) (k : Nat) : Bool := (List.range k).all (fun i => !(tokPiece (ts.getD i Tok.zero)).isEmpty)

theorem okTo_succ (ts : List Tok) (k : Nat) : okTo ts (k + 1) = (okTo ts k && !(tokPiece (ts.getD k Tok.zero)).isEmpty) := by
  simp [okTo, List.range_succ]

def tokText (ts : List Tok) : List Int := if 1500 < ts.length then [] else if okTo ts ts.length then txtTo ts ts.length else []

theorem tokText_bad {ts : List Tok} {k : Nat} (h : k < ts.length) (hp : tokPiece (ts.getD k Tok.zero) = []) : tokText ts = [] := by
  unfold tokText
  split
  · rfl
  · rw [if_neg]
    intro hok
    simp only [okTo, List.all_eq_true, List.mem_range] at hok
    have := hok k h
    rw [hp] at this
    simp at this

theorem tokText_good {ts : List Tok} (h : ts.length ≤ 1500) (hok : okTo ts ts.length = true) : tokText ts = txtTo ts ts.length := by
  unfold tokText
  rw [if_neg (by omega), if_pos hok]

theorem tokText_len (ts : List Tok) : (tokText ts).length ≤ 10500 := by
  unfold tokText
  split
  · simp
  · split
    · have := txtTo_len ts ts.length; omega
    · simp

theorem piece_byteT {ts : List Tok} (h : ∀ i j, 0 ≤ (ts.getD i Tok.zero).text.getD j 0 ∧ (ts.getD i Tok.zero).text.getD j 0 ≤ 255) (k : Nat) : ∀ x ∈ tokPiece (ts.getD k Tok.zero), 0 ≤ x ∧ x ≤ 255 := by
  have key : ∀ x ∈ (ts.getD k Tok.zero).text, 0 ≤ x ∧ x ≤ 255 := by
    intro x hx
    obtain ⟨j, hj, rfl⟩ := List.mem_iff_getElem.1 hx
    have := h k j
    rw [List.getD, List.getElem?_eq_getElem hj] at this
    exact this
  intro x hx
  unfold tokPiece at hx
  split at hx
  · split at hx <;> simp at hx; omega
  · split at hx
    · split at hx <;> simp at hx; omega
    · split at hx
      · split at hx
        · exact key x hx
        · simp at hx
      · split at hx
        · split at hx
          · exact key x hx
          · simp at hx
        · simp at hx

theorem txtTo_byte {ts : List Tok} (h : ∀ i j, 0 ≤ (ts.getD i Tok.zero).text.getD j 0 ∧ (ts.getD i Tok.zero).text.getD j 0 ≤ 255) : ∀ k, ∀ x ∈ txtTo ts k, 0 ≤ x ∧ x ≤ 255
  | 0 => by simp [txtTo]
  | k + 1 => by
    intro x hx
    simp only [txtTo, List.mem_append] at hx
    rcases hx with (hx | hx) | hx
    · exact txtTo_byte h k x hx
    · unfold gapT at hx; split at hx <;> simp at hx; omega
    · exact piece_byteT h k x hx

theorem tokText_byte {ts : List Tok} (h : ∀ i j, 0 ≤ (ts.getD i Tok.zero).text.getD j 0 ∧ (ts.getD i Tok.zero).text.getD j 0 ≤ 255) : ∀ i, 0 ≤ (tokText ts).getD i 0 ∧ (tokText ts).getD i 0 ≤ 255 := by
  have key : ∀ x ∈ tokText ts, 0 ≤ x ∧ x ≤ 255 := by
    intro x hx
    unfold tokText at hx
    split at hx
    · simp at hx
    · split at hx
      · exact txtTo_byte h _ x hx
      · simp at hx
  intro i
  by_cases hi : i < (tokText ts).length
  · have := key _ (List.getElem_mem hi)
    simpa [List.getD, hi] using this
  · rw [List.getD, List.getElem?_eq_none (by omega)]; simp

end Go.Proofs.Ythojlfcahhjfaaa
