/- Which clauses hold whatever there is, as the program looks: whole. -/
import Derived.Test.YtcaljggnihinaaaDoorTautI3
namespace Go.Proofs.YtcaljggnihinaaaDoor
open Go.RowKit

theorem numB_small {n lim : Int} {h : Bool} (hl : lim ≤ 16) (hl' : 0 < lim) (e : numB n lim h = true) : 0 ≤ n ∧ n < 16 := by
  unfold numB at e
  split at e
  · have := of_decide_eq_true e; omega
  · have := of_decide_eq_true e; omega

theorem wf_small {n : Int} (h : 0 ≤ n ∧ n < 16) : (Lit.int .i64 n).wf = true := by
  obtain ⟨m, rfl⟩ := Int.eq_ofNat_of_zero_le h.1
  have : ∀ q : Nat, q < 16 → (Lit.int .i64 (q : Int)).wf = true := by decide +kernel
  exact this m (by omega)

theorem clauseB_wf {k f r u xp xn yp yn a b : Int} {xs : List (Int × Int)} (h : clauseB k f r u xp xn yp yn xs a b = true) : (0 ≤ k ∧ k < 16) ∧ (0 ≤ f ∧ f < 16) ∧ (0 ≤ r ∧ r < 16) ∧ (0 ≤ u ∧ u < 16) ∧ (0 ≤ a ∧ a < 16) ∧ (0 ≤ b ∧ b < 16) := by
  unfold clauseB at h
  simp only [Bool.and_eq_true] at h
  obtain ⟨h0, h1, h2, h3, h4, h5, _⟩ := h
  have h0 := of_decide_eq_true h0
  exact ⟨by omega, numB_small (by decide) (by decide) h1, numB_small (by decide) (by decide) h2, numB_small (by decide) (by decide) h3, numB_small (by decide) (by decide) h4, numB_small (by decide) (by decide) h5⟩

theorem taut_role {f r u xp xn yp yn a b : Int} {xs : List (Int × Int)} (h : clauseB 4 f r u xp xn yp yn xs a b = true) : tautB 4 r u xp xn yp yn xs = decide (r = u) := by
  unfold clauseB at h
  simp only [Bool.and_eq_true] at h
  obtain ⟨_, _, _, _, _, _, hx, hy, hi, _⟩ := h
  have ex : noneB xp xn = true := by simpa [parB, hasX] using hx
  have ey : noneB yp yn = true := by simpa [parB, hasY] using hy
  have ei : xs.length = 0 := by simpa [indB, hasI] using hi
  obtain rfl := List.eq_nil_of_length_eq_zero ei
  rw [noneB_iff] at ex ey
  obtain ⟨rfl, rfl⟩ := ex
  obtain ⟨rfl, rfl⟩ := ey
  have z : bothB 0 0 = false := by decide +kernel
  simp [tautB, z]

theorem implTaut_any {k f r u xp xn yp yn : Int} {ia : Option Addr} {im ic : Nat} {a b : Int} {xs : List (Int × Int)} {w : World} {lo hi : Nat} (hR : RP lo hi w ia im ic xs) (hhi : hi ≤ w.heap.size) (hT : TabD w) (hg : 1 < w.heap.size) :
    Calls Tryd.prog 8 #[.agg #[.int .i64 k, .int .i64 f, .int .i64 r, .int .i64 u, .int .i64 xp, .int .i64 xn, .int .i64 yp, .int .i64 yn, .slice ia im ic, .int .i64 a, .int .i64 b]] w fun e w' => e = .returned (.bool (isTaut k f r u xp xn yp yn a b xs)) ∧ Below w.heap.size w w' := by
  cases hok : clauseB k f r u xp xn yp yn xs a b with
  | false => exact implTaut_no hR hhi hok
  | true =>
    by_cases h4 : k = 4
    · have hex : tautB k r u xp xn yp yn xs = decide (r = u) := by
        rw [h4] at hok ⊢
        exact taut_role hok
      exact implTaut_role hR hhi hok h4 hex
    · obtain ⟨e0, e1, e2, e3, e4, e5⟩ := clauseB_wf hok
      exact implTaut_lits hR hhi hT hg hok h4 (fun x hx => keyX_key (wf_small e0) (wf_small e1) (wf_small e2) (wf_small e3) (wf_small e4) (wf_small e5) hx)

end Go.Proofs.YtcaljggnihinaaaDoor
