/- The specification's list of words: a word put where it belongs, once. -/
import Derived.Test.YtpedjcabapldgaaDoorKbVoc
import Derived.Maps.AppendAt
namespace Go.Proofs.YtpedjcabapldgaaDoor
open Go.RowKit

theorem Tryd.infoBS : (Tryd.prog.info? 27).map (fun i => (i.zero, i.size, i.bytes)) = some (some (.slice none 0 0), 1, 24) := by kernel_rfl
theorem Tryd.undBSS : Tryd.prog.underlying 42 = some (.slice 27) := by kernel_rfl

/-- A row of the call's own, of words that lie elsewhere. -/
def RW (base lo hi : Nat) (w : World) (v : Value) (L : List (List Int)) : Prop := ∃ xs, w.ownsRow base 27 1 v L.length xs ∧ ∀ i, i < L.length → SlB lo hi w (xs.getD i undef) (L.getD i [])

theorem RW.nil (base lo hi : Nat) (w : World) : RW base lo hi w (.slice none 0 0) [] := ⟨[], ⟨rfl, .inl ⟨rfl, rfl⟩⟩, fun i hi => absurd hi (by simp)⟩

theorem RW.slice {base lo hi : Nat} {w : World} {v : Value} {L : List (List Int)} (h : RW base lo hi w v L) (h1 : lo ≤ base) (h2 : hi ≤ w.heap.size) : ∃ a cap, v = .slice a L.length cap ∧ RSS lo w.heap.size w a L.length cap L := by
  obtain ⟨xs, ⟨hl, hx⟩, hr⟩ := h
  rcases hx with ⟨rfl, h0⟩ | ⟨g, cap, cur, rfl, hg, hb, hn, hc, hs, ht⟩
  · refine ⟨none, 0, by rw [h0], ⟨rfl, ⟨by omega, by omega⟩, .inl h0⟩⟩
  · refine ⟨_, _, rfl, ⟨rfl, ⟨hn, by unfold maxLen at hc; omega⟩, .inr ⟨g, 0, rfl, by omega, (Array.getElem?_eq_some_iff.1 hb).1, fun i hi => ⟨xs.getD i undef, ?_, (hr i hi).mono (Nat.le_refl _) h2⟩⟩⟩⟩
    have hi' : i < cur.size := by omega
    have e : xs[i]? = some cur[i] := by
      rw [← ht, List.getElem?_take_of_lt (by omega)]
      simp [hi']
    rw [Nat.zero_add]
    simp [World.cell?, hb, List.getD, e]

theorem RW.word {base lo hi : Nat} {w w' : World} {v' : Value} {L : List (List Int)} {wd : List Int} {x : Value} {xs : List Value} (h : ∀ i, i < L.length → SlB lo hi w (xs.getD i undef) (L.getD i [])) (hl : xs.length = L.length) (hx : SlB lo hi w x wd) (hs : Same lo hi w w')
    (ho : w'.ownsRow base 27 1 v' (L.length + 1) (xs ++ [x])) : RW base lo hi w' v' (L ++ [wd]) := by
  refine ⟨xs ++ [x], by rw [List.length_append]; exact ho, fun i hi => ?_⟩
  by_cases e : i < L.length
  · have e1 : (xs ++ [x]).getD i undef = xs.getD i undef := by simp [List.getD, List.getElem?_append_left (show i < xs.length by omega)]
    have e2 : (L ++ [wd]).getD i [] = L.getD i [] := by simp [List.getD, List.getElem?_append_left e]
    rw [e1, e2]
    exact (h i e).same hs
  · have ei : i = L.length := by simp at hi; omega
    subst ei
    have e1 : (xs ++ [x]).getD L.length undef = x := by simp [List.getD, ← hl]
    have e2 : (L ++ [wd]).getD L.length [] = wd := by simp [List.getD]
    rw [e1, e2]
    exact hx.same hs

theorem insF_len (wd : List Int) : ∀ l, (insF l wd).1.length ≤ 2 * l.length := by
  refine snoc_ind (P := fun l => (insF l wd).1.length ≤ 2 * l.length) (by simp [insF]) (fun l x ih => ?_)
  rw [insF_snoc]
  unfold insS
  rw [List.length_append]
  simp only
  split <;> split <;> simp <;> omega

theorem insS_f0 {wd x : List Int} {o : List (List Int)} (h : cmpZ wd x = 0) : insS wd (o, false) x = (o ++ [wd], true) := by simp [insS, h]
theorem insS_fn {wd x : List Int} {o : List (List Int)} (h : cmpZ wd x < 0) : insS wd (o, false) x = (o ++ [wd] ++ [x], true) := by
  have h1 : cmpZ wd x ≤ 0 := by omega
  have h2 : ¬ cmpZ wd x = 0 := by omega
  simp [insS, h1, h2]
theorem insS_fp {wd x : List Int} {o : List (List Int)} (h : 0 < cmpZ wd x) : insS wd (o, false) x = (o ++ [x], false) := by
  have h1 : ¬ cmpZ wd x ≤ 0 := by omega
  have h2 : ¬ cmpZ wd x = 0 := by omega
  simp [insS, h1, h2]
theorem insS_t0 {wd x : List Int} {o : List (List Int)} (h : cmpZ wd x = 0) : insS wd (o, true) x = (o, true) := by simp [insS, h]
theorem insS_tn {wd x : List Int} {o : List (List Int)} (h : ¬ cmpZ wd x = 0) : insS wd (o, true) x = (o ++ [x], true) := by simp [insS, h]

theorem own_ge {w : World} {base e size n : Nat} {v : Value} {xs : List Value} (h : w.ownsRow base e size v n xs) : ∀ k, v.ownBlock = some k → base ≤ k := by
  intro k hk
  rcases h.2 with ⟨rfl, _⟩ | ⟨g, cap, cur, rfl, hg, _⟩
  · cases hk
  · cases hk; exact hg
theorem own_len {w : World} {base e n : Nat} {v : Value} {xs : List Value} (h : w.ownsRow base e 1 v n xs) : xs.length = n := by have := h.1; omega

end Go.Proofs.YtpedjcabapldgaaDoor
