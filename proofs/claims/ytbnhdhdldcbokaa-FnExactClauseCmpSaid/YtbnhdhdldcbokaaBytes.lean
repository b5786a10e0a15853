/- The laws' own copy of a slice of bytes, their comparison of two, their marking of one and their look at the marks: a contract each. -/
import Derived.Test.YtbnhdhdldcbokaaRows
import Derived.Test.YtbnhdhdldcbokaaMem
import Derived.Deep.QuietTactic
import Derived.BigQuiet
namespace Go.Proofs.Ytbnhdhdldcbokaa
open Go.RowKit

theorem Try.info5 : (Try.prog.info? 5).map (fun i => (i.zero, i.size, i.bytes)) = some (some (.int .u8 0), 1, 1) := by kernel_rfl

def part (zs : List Int) (k : Nat) (i : Nat) : Value := .int .u8 (if i < k then zs.getD i 0 else 0)

theorem row_step {w : World} {g n : Nat} {zs : List Int} {k : Nat} (h : w.rowIs g 5 n (part zs k)) : (w.setCell ⟨g, k, none⟩ (.int .u8 (zs.getD k 0))).rowIs g 5 n (part zs (k + 1)) := by
  refine (h.set k _).congr fun i _ => ?_
  unfold part
  by_cases e : i = k
  · subst e; simp
  · rw [if_neg e]
    congr 1
    by_cases h1 : i < k
    · rw [if_pos h1, if_pos (by omega)]
    · rw [if_neg h1, if_neg (by omega)]

theorem take_eq_succ {xs ys : List Int} {k : Nat} (hx : k < xs.length) (hy : k < ys.length) (h : xs.take k = ys.take k) (e : xs.getD k 0 = ys.getD k 0) : xs.take (k + 1) = ys.take (k + 1) := by
  rw [List.take_succ_eq_append_getElem hx, List.take_succ_eq_append_getElem hy, h]
  simp [List.getD, hx, hy] at e
  rw [e]

/-- The cells of a slice of bytes. -/
def leafB (b off n : Nat) : List (Addr × IntKind) := (List.range n).map (fun j => (⟨b, off + j, none⟩, .u8))

theorem leafB_succ (b off n : Nat) : leafB b off (n + 1) = leafB b off n ++ [(⟨b, off + n, none⟩, .u8)] := by simp [leafB, List.range_succ]
theorem leafB_length (b off n : Nat) : (leafB b off n).length = n := by simp [leafB]

theorem held_leafB {w : World} {b off : Nat} {k : Int} : ∀ {n : Nat}, Held w (leafB b off n) k → ∀ j, j < n → w.cell? ⟨b, off + j, none⟩ = some (.int .u8 (IntKind.u8.wrap (k + j))) := by
  intro n
  induction n with
  | zero => intro _ j hj; omega
  | succ n ih =>
    intro h j hj
    rw [leafB_succ, held_append, leafB_length] at h
    by_cases e : j = n
    · subst e; exact h.2.1
    · exact ih h.1 j (by omega)

end Go.Proofs.Ytbnhdhdldcbokaa
