/- How much a slice of tokens holds in all: the laws' own count of it, a contract each. -/
import Derived.Test.YtbjkokndnfmcpagToks
namespace Go.Proofs.Ytbjkokndnfmcpag
open Go.RowKit

/-- What is left, or -1. -/
def szRes (left : Int) (n : Nat) : Int := if left < n then -1 else left - n

theorem szByteS_any (a : Option Addr) (n cap : Nat) (left : Int) (w : World) (hl : 0 ≤ left ∧ left ≤ 1048576) (hn : n ≤ 9223372036854775807) :
    Calls Try.prog 45 #[.slice a n cap, .int .i64 left] w fun e w' => e = .returned (.int .i64 (szRes left n)) ∧ w' = w := by
  obtain ⟨h0, h1⟩ := hl
  by_cases h : left < n
  · have HE : Hid (szRes left n = -1) := if_pos h
    go_enter Try.func45, Try.ntmps45
    go_wp2
    go_ret
    exact ⟨ri HE.out.symm, rfl⟩
  · have HE : Hid (szRes left n = left - n) := if_neg h
    go_enter Try.func45, Try.ntmps45
    go_wp2
    go_ret
    exact ⟨ri HE.out.symm, rfl⟩

theorem szToken_any (k p : Int) (a : Option Addr) (n cap : Nat) (left : Int) (w : World) (hl : 0 ≤ left ∧ left ≤ 1048576) (hn : n ≤ 9223372036854775807) :
    Calls Try.prog 40 #[.agg #[.int .i64 k, .int .i64 p, .slice a n cap], .int .i64 left] w fun e w' => e = .returned (.int .i64 (szRes left n)) ∧ Below w.heap.size w w' := by
  have hb : Hid (Below w.heap.size w (w.alloc (Obj.cells #[Value.int IntKind.i64 k, Value.int IntKind.i64 p, Value.slice a n cap] 64))) := (Below.refl _ _).alloc (Nat.le_refl _) _
  obtain ⟨r, hr⟩ : ∃ r, r = szRes left n := ⟨_, rfl⟩
  have HR : Hid (r = szRes left n) := hr
  have hr0 : -1 ≤ r := by rw [hr]; unfold szRes; obtain ⟨h0, h1⟩ := hl; split <;> omega
  have HM : Hid (r < 0 → r = -1) := by intro h; omega
  go_enter Try.func40, Try.ntmps40
  go_wp2_with fail
  refine (szByteS_any a n cap left _ hl hn).mono ?_
  rintro e w' ⟨rfl, hw⟩
  rw [hw, ← HR.out]
  clear hw hr
  by_cases hneg : r < 0
  · go_wp2
    go_ret
    exact ⟨ri ((HM.out hneg).symm.trans HR.out), hb.out⟩
  · go_wp2
    go_ret
    exact ⟨ri HR.out, hb.out⟩

/-- The lengths of the first k texts, in all. -/
def sumT (ts : List Tok) : Nat → Nat
  | 0 => 0
  | k + 1 => sumT ts k + (ts.getD k Tok.zero).text.length

theorem sumT_mono (ts : List Tok) : ∀ {k n : Nat}, k ≤ n → sumT ts k ≤ sumT ts n := by
  intro k n h
  induction h with
  | refl => exact Nat.le_refl _
  | step _ ih => simp only [sumT]; omega

theorem sumT_ge (ts : List Tok) {i n : Nat} (h : i < n) : (ts.getD i Tok.zero).text.length ≤ sumT ts n := by
  have := sumT_mono ts (show i + 1 ≤ n from h)
  simp only [sumT] at this
  omega

set_option maxHeartbeats 400000 in
theorem szTokenS_any (a : Option Addr) (n cap : Nat) (ts : List Tok) (w : World) {lo hi : Nat} (h : RdT lo hi w a n cap ts) (hhi : hi ≤ w.heap.size) :
    Calls Try.prog 17 #[.slice a n cap, .int .i64 1048576] w fun e w' => ∃ r, e = .returned (.int .i64 r) ∧ (0 ≤ r → n + sumT ts n ≤ 1048576) ∧ Below w.heap.size w w' := by
  have H : Hid (RdT lo hi w a n cap ts) := h
  obtain ⟨hl, ⟨hm, hM⟩, hc⟩ := h
  clear hc hl
  by_cases hbig : 1048576 < n
  · go_enter Try.func17, Try.ntmps17
    go_wp2
    go_ret
    exact ⟨-1, rfl, fun h => absurd h (by decide), Below.refl _ _⟩
  · go_enter Try.func17, Try.ntmps17
    go_wp2
    go_loopw [1, 5] (fun l i wr => ∃ k L : Nat, k ≤ n ∧ i = .int .i64 k ∧ l = .int .i64 L ∧ L + n + sumT ts k = 1048576 ∧ Below w.heap.size w wr) (fun _ i _ => n - (intOf i).toNat)
    case atStart => exact ⟨0, 1048576 - n, Nat.zero_le _, rfl, by go_num, by simp only [sumT]; omega, Below.refl _ _⟩
    case round =>
      obtain ⟨k, L, hk, rfl, rfl, hs, hbel⟩ := hrel
      have HB : Hid (Below w.heap.size w wr) := hbel
      have HS : Hid (L + n + sumT ts k = 1048576) := hs
      by_cases hlt : k < n
      · have hR := H.out.same (Same.of_below hbel hhi)
        rcases hR.cells with h0 | ⟨b, off, e1, _, _, hc⟩
        · omega
        · subst e1
          obtain ⟨ta, tn, tc, c1, c2, c3, c4⟩ := hc k hlt
          obtain ⟨t, ht⟩ : ∃ t, t = ts.getD k Tok.zero := ⟨_, rfl⟩
          rw [← ht] at c1 c2 c4
          obtain ⟨tk, tp, tx⟩ := t
          have htn := c4.fits
          have HT : Hid (sumT ts (k + 1) = sumT ts k + tn) := by unfold Hid; rw [sumT, ← ht, ← c4.len]
          have hki : (k : Int) < (n : Int) := by omega
          have hL : L ≤ 1048576 := by omega
          clear hR hc ht c4 hbel hs
          obtain ⟨r, hr⟩ : ∃ r, r = szRes L tn := ⟨_, rfl⟩
          have HR : Hid (r = szRes L tn) := hr
          clear hr
          go_wp2_with fail
          refine (szToken_any tk tp ta tn tc L _ (by omega) (by omega)).mono ?_
          rintro e w' ⟨rfl, hb'⟩
          have HB' : Hid (Below w.heap.size w w') := HB.out.trans (hb'.mono HB.out.size)
          rw [← HR.out]
          clear hb'
          by_cases hneg : r < 0
          · go_wp2
            go_ret
            exact ⟨-1, rfl, fun h => absurd h (by decide), HB'.out⟩
          · have hrL : tn ≤ L ∧ r = (L - tn : Nat) := by
              have := HR.out
              unfold szRes at this
              split at this
              · omega
              · omega
            obtain ⟨h1, rfl⟩ := hrL
            go_wp2
            go_roundw
            case rel => exact ⟨k + 1, L - tn, by omega, by go_num, rfl, by have := HS.out; have := HT.out; omega, HB'.out⟩
            case measure => simp [intOf]; omega
      · have hkn : k = n := by omega
        subst hkn
        clear hs hbel
        go_wp2
        go_ret
        exact ⟨_, rfl, fun _ => by have := HS.out; omega, HB.out⟩

end Go.Proofs.Ytbjkokndnfmcpag
