/- Which orders may be, as mathematics. -/
import Derived.Test.YtpedjcabapldgaaDoorOrdMem
import Derived.Test.YtpedjcabapldgaaDoorWdFind0
import Derived.Test.YtpedjcabapldgaaDoorKbSet
import Derived.Test.YtpedjcabapldgaaDoorClImpl1
namespace Go.Proofs.YtpedjcabapldgaaDoor
open Go.RowKit

/-- Words that may be, no two alike. -/
def Fine (L : List (List Int)) : Prop := (∀ z ∈ L, upOk z = true) ∧ L.Nodup

instance (L : List (List Int)) : Decidable (Fine L) := by unfold Fine; infer_instance

theorem Fine.nil : Fine [] := ⟨by simp, by simp⟩
theorem fine_snoc {L : List (List Int)} {z : List Int} : Fine (L ++ [z]) ↔ Fine L ∧ upOk z = true ∧ z ∉ L := by
  unfold Fine
  constructor
  · rintro ⟨h1, h2⟩
    rw [List.nodup_append] at h2
    exact ⟨⟨fun y hy => h1 y (by simp [hy]), h2.1⟩, h1 z (by simp), fun hz => h2.2.2 z hz z (by simp) rfl⟩
  · rintro ⟨⟨h1, h2⟩, h3, h4⟩
    refine ⟨fun y hy => ?_, ?_⟩
    · rw [List.mem_append, List.mem_singleton] at hy
      rcases hy with hy | rfl
      · exact h1 y hy
      · exact h3
    · rw [List.nodup_append]
      refine ⟨h2, by simp, fun a ha b hb e => ?_⟩
      rw [List.mem_singleton] at hb
      subst hb; subst e
      exact h4 ha
theorem Fine.pre {L M : List (List Int)} (h : Fine (L ++ M)) : Fine L :=
  ⟨fun y hy => h.1 y (by simp [hy]), (List.nodup_append.1 h.2).1⟩

/-- Classes of words that may be, no two alike, none empty. -/
def clsB (xs : List (List (List Int))) : Bool := decide ((∀ k, k < xs.length → (xs.getD k []).length ≠ 0) ∧ Fine xs.flatten)

theorem getD_at {α : Type} {d : α} {xs : List α} {k : Nat} (h : k < xs.length) : xs.getD k d = xs[k] := by simp [List.getD, h]
theorem take_one {α : Type} {d : α} {xs : List α} {k : Nat} (h : k < xs.length) : xs.take (k + 1) = xs.take k ++ [xs.getD k d] := by
  rw [getD_at h, List.take_succ_eq_append_getElem h]
theorem take_flat {xs : List (List (List Int))} {k : Nat} (h : k < xs.length) : (xs.take (k + 1)).flatten = (xs.take k).flatten ++ xs.getD k [] := by
  rw [take_one (d := []) h, List.flatten_append]; simp
theorem flat_at {xs : List (List (List Int))} {k j : Nat} (h : k < xs.length) (hj : j < (xs.getD k []).length) : ∃ R, xs.flatten = (xs.take k).flatten ++ (xs.getD k []).take j ++ [(xs.getD k []).getD j []] ++ R := by
  refine ⟨(xs.getD k []).drop (j + 1) ++ (xs.drop (k + 1)).flatten, ?_⟩
  have e1 : xs.flatten = (xs.take (k + 1)).flatten ++ (xs.drop (k + 1)).flatten := by rw [← List.flatten_append, List.take_append_drop]
  have e2 : xs.getD k [] = (xs.getD k []).take j ++ [(xs.getD k []).getD j []] ++ (xs.getD k []).drop (j + 1) := by
    rw [← take_one hj, List.take_append_drop]
  rw [e1, take_flat h]
  generalize xs.getD k [] = c at *
  conv => lhs; rw [e2]
  simp only [List.append_assoc]

theorem cls_empty {xs : List (List (List Int))} {k : Nat} (h : k < xs.length) (h0 : (xs.getD k []).length = 0) : clsB xs = false := by
  unfold clsB; exact decide_eq_false (fun q => q.1 k h h0)
theorem cls_word {xs : List (List (List Int))} {k j : Nat} (h : k < xs.length) (hj : j < (xs.getD k []).length) (hf : ¬ Fine ((xs.take k).flatten ++ (xs.getD k []).take j ++ [(xs.getD k []).getD j []])) : clsB xs = false := by
  unfold clsB; refine decide_eq_false (fun q => ?_)
  obtain ⟨R, e⟩ := flat_at h hj
  rw [e] at q
  exact hf q.2.pre
theorem cls_good {xs : List (List (List Int))} {n : Nat} (hn : xs.length = n) (h0 : ∀ k, k < n → (xs.getD k []).length ≠ 0) (hf : Fine (xs.take n).flatten) : clsB xs = true := by
  subst hn
  rw [List.take_length] at hf
  unfold clsB; exact decide_eq_true ⟨h0, hf⟩

theorem flat_len {xs : List (List (List Int))} : ∀ k, k ≤ xs.length → (∀ j, j < k → (xs.getD j []).length ≤ 1048576) → (xs.take k).flatten.length ≤ k * 1048576
  | 0, _, _ => by simp
  | k + 1, hk, h => by
    rw [take_flat (by omega), List.length_append]
    have := flat_len k (by omega) (fun j hj => h j (by omega))
    have := h k (by omega)
    omega

/-- One edge, by its place: between two classes, behind the one ahead of it. -/
def edgeIn (cn : Int) (e : Int × Int) : Bool := numB e.1 cn true && (numB e.2 cn true && !(e.1 == e.2))
def edgeLt (d e : Int × Int) : Bool := decide (d.1 < e.1) || (d.1 == e.1 && decide (d.2 < e.2))
def edgeAt (cn : Int) (xs : List (Int × Int)) (k : Nat) : Bool := edgeIn cn (xs.getD k (0, 0)) && (decide (k = 0) || edgeLt (xs.getD (k - 1) (0, 0)) (xs.getD k (0, 0)))
def edgB (cn : Int) (xs : List (Int × Int)) : Bool := (List.range xs.length).all (edgeAt cn xs)

def orderB (x : OD) : Bool := decide (x.cls.length ≤ 7) && (decide (x.edg.length ≤ 50) && (decide (0 ≤ x.code) && (decide (x.code ≤ 3) && (clsB x.cls && edgB x.cls.length x.edg))))

/-- All words are bytes. -/
theorem RSS.byts {lo hi : Nat} {w : World} {a : Option Addr} {n cap : Nat} {xs : List (List Int)} (h : RSS lo hi w a n cap xs) {j : Nat} (hj : j < n) : Byt (xs.getD j []) := by
  rcases h.cells with h0 | ⟨b, off, _, _, _, hc⟩
  · omega
  · obtain ⟨v, _, ea, en, ec, _, hr⟩ := hc j hj
    exact hr.byte
theorem RSSS.class {lo hi : Nat} {w : World} {b off n cap : Nat} {xs : List (List (List Int))} (h : RSSS lo hi w (some ⟨b, off, none⟩) n cap xs) {k : Nat} (hk : k < n) : ∃ ea en ec, w.cell? ⟨b, off + k, none⟩ = some (.slice ea en ec) ∧ RSS lo hi w ea en ec (xs.getD k []) := by
  rcases h.cells with h0 | ⟨b', off', e, _, _, hc⟩
  · omega
  · simp only [Option.some.injEq, Addr.mk.injEq, and_true] at e
    obtain ⟨rfl, rfl⟩ := e
    obtain ⟨v, c0, ea, en, ec, rfl, hr⟩ := hc k hk
    exact ⟨ea, en, ec, c0, hr⟩
theorem RSS.word {lo hi : Nat} {w : World} {b off n cap : Nat} {xs : List (List Int)} (h : RSS lo hi w (some ⟨b, off, none⟩) n cap xs) {k : Nat} (hk : k < n) : ∃ ea en ec, w.cell? ⟨b, off + k, none⟩ = some (.slice ea en ec) ∧ Rd lo hi w ea en ec (xs.getD k []) := by
  rcases h.cells with h0 | ⟨b', off', e, _, _, hc⟩
  · omega
  · simp only [Option.some.injEq, Addr.mk.injEq, and_true] at e
    obtain ⟨rfl, rfl⟩ := e
    obtain ⟨v, c0, ea, en, ec, rfl, hr⟩ := hc k hk
    exact ⟨ea, en, ec, c0, hr⟩
theorem RSSS.block {lo hi : Nat} {w : World} {a : Option Addr} {n cap : Nat} {xs : List (List (List Int))} (h : RSSS lo hi w a n cap xs) (h0 : 0 < n) : ∃ b off, a = some ⟨b, off, none⟩ := by
  rcases h.cells with e | ⟨b, off, e, _⟩
  · omega
  · exact ⟨b, off, e⟩
theorem RSS.block {lo hi : Nat} {w : World} {a : Option Addr} {n cap : Nat} {xs : List (List Int)} (h : RSS lo hi w a n cap xs) (h0 : 0 < n) : ∃ b off, a = some ⟨b, off, none⟩ := by
  rcases h.cells with e | ⟨b, off, e, _⟩
  · omega
  · exact ⟨b, off, e⟩

/-- Whether a word is among words. -/
theorem hit_iff {l : List (List Int)} {wd : List Int} {i : Nat} (h1 : Byt (l.getD i [])) (h2 : Byt wd) : hit l wd i = decide (l.getD i [] = wd) := str_inj h1 h2
theorem idx_mem {l : List (List Int)} {wd : List Int} (hb : ∀ i, i < l.length → Byt (l.getD i [])) (hw : Byt wd) : decide (0 ≤ idxZ l wd) = decide (wd ∈ l) := by
  by_cases hm : wd ∈ l
  · obtain ⟨i, hi, e⟩ := List.mem_iff_getElem.1 hm
    have hh : hit l wd i = true := by rw [hit_iff (hb i hi) hw, getD_at hi, e]; simp
    have : idxO l wd ≠ none := by
      intro hn
      unfold idxO at hn
      rw [List.find?_range_eq_none] at hn
      have := hn i (by omega)
      rw [hh] at this
      exact absurd this (by simp)
    unfold idxZ
    cases e : idxO l wd with
    | none => exact absurd e this
    | some k => simp [hm]
  · have : idxO l wd = none := idx_none (fun i hi => by
      rw [hit_iff (hb i hi) hw, getD_at hi]
      exact decide_eq_false (fun e => hm (e ▸ List.getElem_mem hi)))
    unfold idxZ
    rw [this]
    simp [hm]

end Go.Proofs.YtpedjcabapldgaaDoor
