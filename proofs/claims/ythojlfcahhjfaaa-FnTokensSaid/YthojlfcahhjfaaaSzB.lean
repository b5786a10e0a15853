/- How much a slice of bytes holds: the laws' own count of it. -/
import Derived.Test.YthojlfcahhjfaaaBytes
namespace Go.Proofs.Ythojlfcahhjfaaa
open Go.RowKit

/-- What is left, or -1. -/
def szRes (left : Int) (n : Nat) : Int := if left < n then -1 else left - n

theorem szByteS_any (a : Option Addr) (n cap : Nat) (left : Int) (w : World) (hl : 0 ≤ left ∧ left ≤ 1048576) (hn : n ≤ 9223372036854775807) :
    Calls Try.prog 67 #[.slice a n cap, .int .i64 left] w fun e w' => e = .returned (.int .i64 (szRes left n)) ∧ w' = w := by
  obtain ⟨h0, h1⟩ := hl
  by_cases h : left < n
  · have HE : Hid (szRes left n = -1) := if_pos h
    go_enter Try.func67, Try.ntmps67
    go_wp2
    go_ret
    exact ⟨ri HE.out.symm, rfl⟩
  · have HE : Hid (szRes left n = left - n) := if_neg h
    go_enter Try.func67, Try.ntmps67
    go_wp2
    go_ret
    exact ⟨ri HE.out.symm, rfl⟩

end Go.Proofs.Ythojlfcahhjfaaa
