/- The model's look at a concept: for every concept in memory it answers what 'conOk' says. -/
import Derived.Test.YthojlfcahhjfaaaConMath
import Derived.BigQuiet
import Derived.RangeFuncRecord
namespace Go.Proofs.Ythojlfcahhjfaaa
open Go.RowKit

def kidS (k : Int) : Int := if k = 0 ∨ k = 1 ∨ k = 2 then 0 else if k = 4 ∨ k = 5 then 2 else 1

set_option maxHeartbeats 400000 in
theorem l2kids_any (k : Int) (w : World) : Calls Try.prog 93 #[.int .i64 k] w fun e w' => e = .returned (.int .i64 (kidS k)) ∧ w' = w := by
  go_enter Try.func93, Try.ntmps93
  go_wp2
  all_goals
    go_ret
    refine ⟨ri ?_, rfl⟩
    first | (simp_all [kidS]; done) | (unfold kidS; simp_all; omega)

theorem kidS_kidN {k : Int} (h0 : 0 ≤ k) (h7 : k ≤ 7) : kidS k = kidN k := by
  unfold kidS kidN
  by_cases h1 : k = 0 ∨ k = 1 ∨ k = 2
  · rw [if_pos h1, if_pos h1]
  · rw [if_neg h1, if_neg h1]
    by_cases h2 : k = 4 ∨ k = 5
    · rw [if_pos h2, if_neg (by omega), if_pos h2]
    · rw [if_neg h2, if_pos (by omega)]

theorem kidN_out {k : Int} (h : k < 0 ∨ 7 < k) : kidN k = -1 := by
  unfold kidN
  rw [if_neg (by omega), if_neg (by omega), if_neg (by omega)]

/-- A box of four cells. -/
def BoxC (W : World) (b : Nat) (v0 v1 v2 v3 : Value) : Prop := W.heap[b]? = some (.cells #[v0, v1, v2, v3] 35 (0, 0))

theorem BoxC.new (W : World) (v0 v1 v2 v3 : Value) : BoxC (W.alloc (.cells #[v0, v1, v2, v3] 35)) W.heap.size v0 v1 v2 v3 := World.alloc_heap_new W _
theorem BoxC.below {W W' : World} {b B : Nat} {v0 v1 v2 v3 : Value} (h : BoxC W b v0 v1 v2 v3) (hb : Below B W W') (hB : b < B) : BoxC W' b v0 v1 v2 v3 := (hb.block b hB).trans h
theorem BoxC.lt {W : World} {b : Nat} {v0 v1 v2 v3 : Value} (h : BoxC W b v0 v1 v2 v3) : b < W.heap.size := (Array.getElem?_eq_some_iff.1 h).1
theorem BoxC.cells {W : World} {b : Nat} {v0 v1 v2 v3 : Value} (h : BoxC W b v0 v1 v2 v3) : W.cell? ⟨b, 0, none⟩ = some v0 ∧ W.cell? ⟨b, 1, none⟩ = some v1 ∧ W.cell? ⟨b, 2, none⟩ = some v2 ∧ W.cell? ⟨b, 3, none⟩ = some v3 := by
  unfold BoxC at h
  refine ⟨?_, ?_, ?_, ?_⟩ <;> simp [World.cell?, h]

def OkC (d : Nat) : Prop := ∀ (v : Value) (c : CN) (deep : Nat) (left : Int) (w : World) (lo hi : Nat), RdC lo hi w d v c → hi ≤ w.heap.size → deep ≤ 7 → 0 ≤ left → left ≤ 16 →
  Calls Try.prog 56 #[v, .int .i64 deep, .int .i64 left] w fun e w' => e = .returned (.int .i64 (leftOf left (parts c deep))) ∧ Below w.heap.size w w'

set_option maxRecDepth 100000 in
set_option maxHeartbeats 1000000 in
theorem l2ok_bad {v : Value} {c : CN} {d deep : Nat} {left : Int} {w : World} {lo hi : Nat} (h : RdC lo hi w (d + 1) v c) (hdp : deep ≤ 7) (h0 : 0 ≤ left) (h16 : left ≤ 16)
    (hbad : left = 0 ∨ deep = 7 ∨ c.kind < 0 ∨ 7 < c.kind ∨ ((c.kids.length : Nat) : Int) ≠ kidS c.kind) :
    Calls Try.prog 56 #[v, .int .i64 deep, .int .i64 left] w fun e w' => e = .returned (.int .i64 (leftOf left (parts c deep))) ∧ Below w.heap.size w w' := by
  obtain ⟨na, nn, nc, ra, rn, rc, ka, kn, kc, rfl, hn, hr, hk⟩ := h
  have hkl := hk.len
  have hE : leftOf left (parts c deep) = -1 := by
    refine leftOf_bad c deep left ?_
    rcases hbad with h | h | h | h | h
    · exact .inl (by omega)
    · exact .inr (.inl (by omega))
    · exact .inr (.inr (by simp [shapeB, kidN_out (.inl h)]; done))
    · exact .inr (.inr (by simp [shapeB, kidN_out (.inr h)]; done))
    · by_cases ho : c.kind < 0 ∨ 7 < c.kind
      · exact .inr (.inr (by simp [shapeB, kidN_out ho]; done))
      · rw [kidS_kidN (by omega) (by omega)] at h
        exact .inr (.inr (by simp [shapeB, h]))
  have HE : Hid (leftOf left (parts c deep) = -1) := hE
  have HB : Hid (∀ n, Below w.heap.size w ((w.alloc (.cells #[.int .i64 c.kind, .slice na nn nc, .slice ra rn rc, .slice ka kn kc] 35)).drewN n)) := fun n => below_drewN ((Below.refl _ _).alloc (Nat.le_refl _) _) n
  obtain ⟨k, hkd⟩ : ∃ k, k = c.kind := ⟨_, rfl⟩
  rw [← hkd] at hbad HB ⊢
  rw [hkl] at hbad
  have hdi : (deep : Int) ≤ 7 := by omega
  clear hn hr hk hE hkd hkl
  go_enter Try.func56, Try.ntmps56
  go_wp2_with fail
  by_cases b1 : left = 0
  · subst b1
    go_quiet (fail)
    go_wp2_with fail
    go_ret
    exact ⟨ri HE.out.symm, HB.out _⟩
  · have d1 : decide (left - 1 < 0) = false := by simp; omega
    by_cases b2 : deep = 7
    · subst b2
      go_quiet (fail)
      go_wp2_with fail
      go_ret
      exact ⟨ri HE.out.symm, HB.out _⟩
    · have d2 : decide ((6 : Int) < (deep : Int)) = false := by simp; omega
      by_cases b3 : k < 0
      · go_quiet (fail)
        go_wp2_with fail
        go_ret
        exact ⟨ri HE.out.symm, HB.out _⟩
      · have d3 : decide (k < 0) = false := by simp; omega
        by_cases b4 : 7 < k
        · go_quiet (fail)
          go_wp2_with fail
          go_ret
          exact ⟨ri HE.out.symm, HB.out _⟩
        · have d4 : decide (7 < k) = false := by simp; omega
          have b5 : ((kn : Int) != kidS k) = true := by simp; omega
          clear hbad
          go_quiet (first | (go_at_call 93; exact Calls.quiet_of_same (l2kids_any _ _)))
          go_wp2_with fail
          go_ret
          exact ⟨ri HE.out.symm, HB.out _⟩

end Go.Proofs.Ythojlfcahhjfaaa
