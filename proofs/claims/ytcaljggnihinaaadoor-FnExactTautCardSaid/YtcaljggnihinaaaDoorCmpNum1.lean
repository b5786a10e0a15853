/- The numbers of a clause in one list, as the document lays them: a contract. -/
import Derived.Test.YtcaljggnihinaaaDoorClStr1
import Derived.Deep.RegionLaw
import Derived.Deep.AppendLies
namespace Go.Proofs.YtcaljggnihinaaaDoor
open Go.RowKit

def indN (xs : List (Int × Int)) : List Int := xs.flatMap (fun p => [p.1, p.2])
def numsL (k f r u xp xn yp yn : Int) (xs : List (Int × Int)) (a b : Int) : List Int := [k, f, r, u, xp, xn, yp, yn, a, b] ++ indN xs

theorem indN_take (xs : List (Int × Int)) {j : Nat} (h : j < xs.length) : indN (xs.take (j + 1)) = indN (xs.take j) ++ [(xs.getD j (0, 0)).1, (xs.getD j (0, 0)).2] := by
  have e : xs.take (j + 1) = xs.take j ++ [xs.getD j (0, 0)] := by
    rw [List.take_add_one, List.getElem?_eq_getElem h]
    simp [List.getD, h]
  rw [e]
  simp [indN]
theorem indN_len (xs : List (Int × Int)) : (indN xs).length = 2 * xs.length := by
  induction xs with
  | nil => rfl
  | cons p xs ih => simp [indN] at ih ⊢; omega

theorem Tryd.infoInt : (Tryd.prog.info? 3).map (fun i => (i.zero, i.size, i.bytes)) = some (some (.int .i64 0), 1, 8) := by kernel_rfl

/-- A row of numbers of its own reads as them. -/
theorem owns_rd {w : World} {base : Nat} {v : Value} {n : Nat} {l : List Int} (h : w.ownsRow base 3 1 v n (l.map (Value.int .i64))) (hn : 0 < n) : ∃ g cap, v = .slice (some ⟨g, 0, none⟩) n cap ∧ base ≤ g ∧ g < w.heap.size ∧ n ≤ cap ∧ l.length = n ∧ ∀ i, i < n → w.cell? ⟨g, i, none⟩ = some (.int .i64 (l.getD i 0)) := by
  obtain ⟨hl, h⟩ := h
  rcases h with ⟨_, h0⟩ | ⟨g, cap, cur, rfl, hb, hg, hc, _, hsz, hcs⟩
  · omega
  · have hll : l.length = n := by simpa using hl
    refine ⟨g, cap, rfl, hb, (Array.getElem?_eq_some_iff.1 hg).1, hc, hll, fun i hi => ?_⟩
    have e : (cur.toList.take (n * 1))[i]? = some (.int .i64 (l.getD i 0)) := by
      rw [hcs, List.getElem?_map, List.getElem?_eq_getElem (by omega)]
      simp [List.getD, show i < l.length by omega]
    rw [List.getElem?_take, if_pos (by omega), Array.getElem?_toList] at e
    simp only [World.cell?, hg]
    exact e

theorem owns_keep {w w' : World} {base g cap n : Nat} {xs : List Value} (h : w.ownsRow base 3 1 (.slice (some ⟨g, 0, none⟩) n cap) n xs) (hk : w'.heap[g]? = w.heap[g]?) : w'.ownsRow base 3 1 (.slice (some ⟨g, 0, none⟩) n cap) n xs := by
  obtain ⟨hl, h⟩ := h
  refine ⟨hl, ?_⟩
  rcases h with ⟨h0, h1⟩ | ⟨g', cap', cur, e, r⟩
  · exact .inl ⟨h0, h1⟩
  · simp only [Value.slice.injEq, Option.some.injEq, Addr.mk.injEq, and_true, true_and] at e
    obtain ⟨rfl, rfl⟩ := e
    exact .inr ⟨g, cap, cur, rfl, r.1, hk.trans r.2.1, r.2.2⟩

end Go.Proofs.YtcaljggnihinaaaDoor
