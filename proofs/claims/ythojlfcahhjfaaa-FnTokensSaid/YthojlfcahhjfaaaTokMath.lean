/- The tokens of a list of bytes, as plain mathematics: where a piece ends, its kind, all tokens or the place where there is none. -/
import Derived.Test.YthojlfcahhjfaaaWords
import Derived.Test.YthojlfcahhjfaaaToks
namespace Go.Proofs.Ythojlfcahhjfaaa

def runLow (zs : List Int) (i : Nat) : Nat := ((zs.drop i).takeWhile lowB).length

theorem runLow_le (zs : List Int) (i : Nat) : runLow zs i ≤ zs.length - i := by
  unfold runLow
  have := (List.takeWhile_sublist lowB (l := zs.drop i)).length_le
  simpa using this

theorem runLow_stop (zs : List Int) (i : Nat) (h : zs.length ≤ i ∨ lowB (zs.getD i 0) = false) : runLow zs i = 0 := by
  unfold runLow
  by_cases hi : i < zs.length
  · have h' : lowB (zs.getD i 0) = false := by rcases h with h | h; omega; exact h
    rw [List.drop_eq_getElem_cons hi, List.takeWhile_cons]
    simp [List.getD, hi] at h'
    simp [h']
  · rw [List.drop_eq_nil_of_le (by omega)]; rfl

theorem runLow_go (zs : List Int) (i : Nat) (hi : i < zs.length) (h : lowB (zs.getD i 0) = true) : runLow zs i = runLow zs (i + 1) + 1 := by
  unfold runLow
  rw [List.drop_eq_getElem_cons hi, List.takeWhile_cons]
  simp [List.getD, hi] at h
  simp [h]

/-- Where the piece that begins at i ends. -/
def pend (zs : List Int) (i : Nat) : Nat := if zs.getD i 0 = 40 ∨ zs.getD i 0 = 41 then i + 1 else i + 1 + runLow zs (i + 1)
def piece (zs : List Int) (i : Nat) : List Int := (zs.drop i).take (pend zs i - i)

theorem pend_gt (zs : List Int) (i : Nat) : i < pend zs i := by unfold pend; split <;> omega
theorem pend_le (zs : List Int) (i : Nat) (hi : i < zs.length) : pend zs i ≤ zs.length := by
  unfold pend
  have := runLow_le zs (i + 1)
  split <;> omega
theorem piece_length (zs : List Int) (i : Nat) (hi : i < zs.length) : (piece zs i).length = pend zs i - i := by
  have := pend_le zs i hi
  simp [piece]; omega
theorem piece_getD (zs : List Int) (i j : Nat) (hi : i < zs.length) (hj : j < pend zs i - i) : (piece zs i).getD j 0 = zs.getD (i + j) 0 := by
  have := pend_le zs i hi
  simp [piece, List.getD, hj]

/-- What a piece is: 1, 2 a word, 3, 4 a bracket, 0 none of these. -/
def kindOf (p : List Int) : Int := if upOk p then 1 else if lowOk p then 2 else if p = [40] then 3 else if p = [41] then 4 else 0
def blankB (c : Int) : Bool := c == 32 || c == 10

def tokAt (zs : List Int) (i : Nat) : Tok := ⟨kindOf (piece zs i), i, if kindOf (piece zs i) = 1 ∨ kindOf (piece zs i) = 2 then piece zs i else []⟩

def toksFrom (zs : List Int) : Nat → Nat → List Tok → List Tok × Int
  | 0, _, acc => (acc, -1)
  | f + 1, i, acc => if i < zs.length then (if blankB (zs.getD i 0) then toksFrom zs f (i + 1) acc else if kindOf (piece zs i) = 0 then ([], (i : Int)) else toksFrom zs f (pend zs i) (acc ++ [tokAt zs i])) else (acc, -1)

/-- The tokens of a text and -1; or none, and a place. -/
def toks (zs : List Int) : List Tok × Int := if 1500 < zs.length then ([], 0) else toksFrom zs (zs.length + 1) 0 []

theorem piece_open (zs : List Int) (i : Nat) (hi : i < zs.length) (h : zs.getD i 0 = 40) : piece zs i = [40] ∧ pend zs i = i + 1 := by
  have hp : pend zs i = i + 1 := by unfold pend; rw [if_pos (.inl h)]
  refine ⟨?_, hp⟩
  unfold piece; rw [hp, show i + 1 - i = 1 from by omega, List.drop_eq_getElem_cons hi]
  simp [List.getD, hi] at h
  simp [h]

theorem piece_close (zs : List Int) (i : Nat) (hi : i < zs.length) (h : zs.getD i 0 = 41) : piece zs i = [41] ∧ pend zs i = i + 1 := by
  have hp : pend zs i = i + 1 := by unfold pend; rw [if_pos (.inr h)]
  refine ⟨?_, hp⟩
  unfold piece; rw [hp, show i + 1 - i = 1 from by omega, List.drop_eq_getElem_cons hi]
  simp [List.getD, hi] at h
  simp [h]

theorem kind_open : kindOf [40] = 3 := by decide
theorem kind_close : kindOf [41] = 4 := by decide

def wordKind (c : Int) : Int := if upB c then 1 else 2
def wordOk (p : List Int) : Bool := upOk p || lowOk p

/-- Of a piece that is no bracket: a word, by its first letter, or nothing. -/
theorem kind_word (p : List Int) (h0 : p.getD 0 0 ≠ 40) (h1 : p.getD 0 0 ≠ 41) : kindOf p = if wordOk p then wordKind (p.getD 0 0) else 0 := by
  unfold wordOk wordKind
  have e0 : p ≠ [40] := fun e => by rw [e] at h0; simp at h0
  have e1 : p ≠ [41] := fun e => by rw [e] at h1; simp at h1
  unfold kindOf
  by_cases hu : upOk p = true
  · have hb : upB (p.getD 0 0) = true := by simp only [upOk, Bool.and_eq_true] at hu; exact hu.2.1
    rw [if_pos hu, hu, hb]
    rfl
  · have hu' : upOk p = false := by simpa using hu
    rw [if_neg hu]
    by_cases hl : lowOk p = true
    · have hb : upB (p.getD 0 0) = false := by
        simp only [lowOk, longB, Bool.and_eq_true, decide_eq_true_eq] at hl
        obtain ⟨⟨h1, _⟩, h2⟩ := hl
        have hm := List.all_eq_true.1 h2 (p.getD 0 0) (by
          simp only [List.getD]
          rw [List.getElem?_eq_getElem (by omega)]
          simp)
        generalize p.getD 0 0 = c at hm
        simp only [lowB, upB, Bool.and_eq_true, decide_eq_true_eq] at hm ⊢
        simp; omega
      rw [if_pos hl, hl, hb, hu']
      rfl
    · have hl' : lowOk p = false := by simpa using hl
      rw [if_neg hl, if_neg e0, if_neg e1]
      simp [hu', hl']

end Go.Proofs.Ythojlfcahhjfaaa
