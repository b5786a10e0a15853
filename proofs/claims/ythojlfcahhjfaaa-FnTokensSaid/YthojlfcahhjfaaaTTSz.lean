/- How much a slice of tokens holds in all: the laws' own count of it, a contract each. -/
import Derived.Test.YthojlfcahhjfaaaToks
import Derived.Test.YthojlfcahhjfaaaSzB
namespace Go.Proofs.Ythojlfcahhjfaaa
open Go.RowKit

/-- The lengths of the first k texts, in all. -/
def sumT (ts : List Tok) : Nat → Nat
  | 0 => 0
  | k + 1 => sumT ts k + (ts.getD k Tok.zero).text.length

theorem sumT_mono (ts : List Tok) : ∀ {k n : Nat}, k ≤ n → sumT ts k ≤ sumT ts n := by
  intro k n h
  induction h with
  | refl => exact Nat.le_refl _
  | step _ ih => simp only [sumT]; omega

theorem sumT_ge (ts : List Tok) {i n : Nat} (h : i < n) : (ts.getD i Tok.zero).text.length ≤ sumT ts n := by
  have := sumT_mono ts (show i + 1 ≤ n from h)
  simp only [sumT] at this
  omega

end Go.Proofs.Ythojlfcahhjfaaa
