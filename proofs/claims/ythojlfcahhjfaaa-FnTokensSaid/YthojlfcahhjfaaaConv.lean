/- A slice of bytes, turned into a string: for every list of bytes. -/
import Derived.Test.YthojlfcahhjfaaaBytes
import Derived.Laws.BytesArg
namespace Go.Proofs.Ythojlfcahhjfaaa
open Go.RowKit

theorem conv_any {a : Option Addr} {n cap : Nat} {zs : List Int} {w : World} {lo hi : Nat} (h : Rd lo hi w a n cap zs) : (convert 22 9 (.slice a n cap)).run Try.prog w = .ok (.string (strOfNums zs)) w := by
  obtain ⟨hl, _, _, hc⟩ := h
  rcases hc with h0 | ⟨b, off, rfl, hlo, hb, hc⟩
  · subst h0
    have hz : zs = [] := List.eq_nil_of_length_eq_zero hl
    subst hz
    rw [run_convert_bytes_string w 22 9 5 _ 0 cap Try.underlying22 Try.underlying5 Try.underlying9]
    cases a <;> simp [Conv.bytesToString, loadCells]
    all_goals rfl
  · exact run_convert_bytes_arg w 22 5 Try.underlying22 Try.underlying5 b off n cap zs hl hc 9 Try.underlying9

end Go.Proofs.Ythojlfcahhjfaaa
