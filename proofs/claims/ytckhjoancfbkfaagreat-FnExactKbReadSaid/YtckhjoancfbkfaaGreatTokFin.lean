/- The readers of tokens, the model's and the program's, told by one list of tokens and one place; how long that list and its texts are. -/
import Derived.Test.YtckhjoancfbkfaaGreatImplTok4
namespace Go.Proofs.YtckhjoancfbkfaaGreat
open Go.RowKit

theorem toksFrom_bound (zs : List Int) : ∀ (f i : Nat) (acc : List Tok), i ≤ zs.length → acc.length ≤ i → (∀ t ∈ acc, t.text.length ≤ zs.length) → (toksFrom zs f i acc).1.length ≤ zs.length ∧ ∀ t ∈ (toksFrom zs f i acc).1, t.text.length ≤ zs.length
  | 0, i, acc, hi, hl, ht => ⟨by simp only [toksFrom]; omega, ht⟩
  | f + 1, i, acc, hi, hl, ht => by
    by_cases h : i < zs.length
    · cases hb : blankB (zs.getD i 0)
      · by_cases hk : kindOf (piece zs i) = 0
        · rw [toksFrom_bad zs f i acc h hb hk]; exact ⟨by simp, fun t h => by simp at h⟩
        · rw [toksFrom_tok zs f i acc h hb hk]
          refine toksFrom_bound zs f _ _ (pend_le zs i h) (by have := pend_gt zs i; simp; omega) ?_
          intro t h'
          rcases List.mem_append.1 h' with h' | h'
          · exact ht t h'
          · simp at h'; subst h'
            simp only [tokAt]
            split
            · rw [piece_length zs i h]; have := pend_le zs i h; omega
            · simp
      · rw [toksFrom_blank zs f i acc h hb]; exact toksFrom_bound zs f _ _ (by omega) (by omega) ht
    · rw [toksFrom_stop zs _ i acc (by omega)]; exact ⟨by show acc.length ≤ _; omega, ht⟩

theorem toks_bound (zs : List Int) : (toks zs).1.length ≤ 1500 ∧ ∀ i, ((toks zs).1.getD i Tok.zero).text.length ≤ 1500 := by
  have key : (toks zs).1.length ≤ 1500 ∧ ∀ t ∈ (toks zs).1, t.text.length ≤ 1500 := by
    unfold toks
    split
    · exact ⟨by simp, fun t h => by simp at h⟩
    · have := toksFrom_bound zs (zs.length + 1) 0 [] (by omega) (by simp) (fun t h => by simp at h)
      exact ⟨by omega, fun t h => by have := this.2 t h; omega⟩
  refine ⟨key.1, fun i => ?_⟩
  by_cases hi : i < (toks zs).1.length
  · have := key.2 ((toks zs).1[i]) (List.getElem_mem hi)
    simpa [List.getD, hi] using this
  · simp only [List.getD]
    rw [List.getElem?_eq_none (by omega)]
    simp [Tok.zero]

theorem implTok_at (b off n cap : Nat) (zs : List Int) (ts : List Tok) (p : Int) (ht : toks zs = (ts, p)) (w : World) (h : Rd 0 w.heap.size w (some ⟨b, off, none⟩) n cap zs) (hb : b < w.heap.size) :
    Calls Tryz.prog 79 #[.slice (some ⟨b, off, none⟩) n cap] w fun e w' => ∃ a' cap' gs, e = .returned (.tuple #[.slice a' ts.length cap', .int .i64 p]) ∧ OwnT w.heap.size w' (.slice a' ts.length cap') ts gs ∧ RdT w.heap.size w'.heap.size w' a' ts.length cap' ts ∧ Below w.heap.size w w' := by
  have key : Calls Tryz.prog 79 #[.slice (some ⟨b, off, none⟩) n cap] w fun e w' => ∃ v gs, e = .returned (.tuple #[v, .int .i64 (toks zs).2]) ∧ OwnT w.heap.size w' v (toks zs).1 gs ∧ Below w.heap.size w w' := by
    by_cases hbig : 1500 < n
    · exact implTokens_big _ n cap zs w h hbig
    · exact implTokens_small b off n cap zs w h hb (by omega)
  refine key.mono fun e w' ⟨v, gs, he, hO, hb⟩ => ?_
  rw [ht] at he hO
  obtain ⟨a', cap', rfl, hr⟩ := hO.rd
  exact ⟨a', cap', gs, he, hO, hr, hb⟩

theorem HeadT.same {w w' : World} {b off n lo hi : Nat} {tx : Nat → Nat × Nat × Nat} (h : HeadT w b off tx n) (hs : Same lo hi w w') (h1 : n = 0 ∨ lo ≤ b) (h2 : n = 0 ∨ b < hi) : HeadT w' b off tx n := by
  intro i hi'
  obtain ⟨ta, tc, hc, r⟩ := h i hi'
  exact ⟨ta, tc, (hs.cell (p := ⟨b, _, none⟩) (by show lo ≤ b; omega) (by show b < hi; omega)).trans hc, r⟩

theorem leafB_ok {w : World} {g n : Nat} {zs : List Int} (h : Row w g n zs) (hl : zs.length = n) : LeafOk w (leafB g 0 n) := by
  intro x hx
  simp only [leafB, List.mem_map, List.mem_range] at hx
  obtain ⟨j, hj, rfl⟩ := hx
  simp only [Nat.zero_add]
  exact ⟨⟨_, h.cell (by omega)⟩, h.frozen _⟩

theorem leafB_block {g n : Nat} : ∀ x ∈ leafB g 0 n, x.1.block = g := by
  intro x hx
  simp only [leafB, List.mem_map] at hx
  obtain ⟨j, _, rfl⟩ := hx
  rfl

end Go.Proofs.YtckhjoancfbkfaaGreat
