/- Lists of flags and of texts that a call has made: rows of its own; what stays. -/
import Derived.Test.YtnmljalcndfjmaaNG3
import Derived.Test.YtnmljalcndfjmaaNG7
import Derived.Test.YtnmljalcndfjmaaDrawCon
namespace Go.Proofs.Ytnmljalcndfjmaa
open Go.RowKit

theorem Code.wp_name {P : Program} {c : Code} {Q : Exit → Act → World → Prop} {a : Act} {w : World} (h : ∀ W, W = w → c.wp P Q a W) : c.wp P Q a w := h w rfl

theorem getD_app {α : Type} {l : List α} {x d : α} {i : Nat} (h : i < l.length) : (l ++ [x]).getD i d = l.getD i d := by rw [List.getD, List.getElem?_append_left h, List.getD]

theorem ownsR_same {w w' : World} {base e size n : Nat} {v : Value} {xs : List Value} (h : w.ownsRow base e size v n xs) (hs : Same base w.heap.size w w') : w'.ownsRow base e size v n xs := by
  obtain ⟨h1, h2⟩ := h
  refine ⟨h1, ?_⟩
  rcases h2 with h2 | ⟨g, cap, cur, hv, hg, hh, r⟩
  · exact .inl h2
  · exact .inr ⟨g, cap, cur, hv, hg, by rw [hs g hg (Array.getElem?_eq_some_iff.1 hh).1]; exact hh, r⟩
theorem ownsR_base {w : World} {base base' e size n : Nat} {v : Value} {xs : List Value} (h : w.ownsRow base e size v n xs) (hb : base' ≤ base) : w.ownsRow base' e size v n xs := by
  obtain ⟨h1, h2⟩ := h
  refine ⟨h1, ?_⟩
  rcases h2 with h2 | ⟨g, cap, cur, hv, hg, r⟩
  · exact .inl h2
  · exact .inr ⟨g, cap, cur, hv, Nat.le_trans hb hg, r⟩
/-- A row is not turned where another one, of another type, grows. -/
theorem ownsR_other {w w' : World} {base base' e e' size size' n n' : Nat} {v v' : Value} {xs xs' : List Value} (h : w.ownsRow base e size v n xs) (h' : w.ownsRow base' e' size' v' n' xs') (hne : e ≠ e') (g : w.grownBy w' v'.ownBlock) : w'.ownsRow base e size v n xs := by
  refine h.kept g ?_
  rcases h.2 with ⟨rfl, _⟩ | ⟨q, cap, cur, rfl, _, hh, _⟩
  · exact .inl rfl
  · right
    intro he
    rcases h'.2 with ⟨rfl, _⟩ | ⟨q', cap', cur', rfl, _, hh', _⟩
    · simp [Value.ownBlock] at he
    · simp only [Value.ownBlock, Option.some.injEq] at he
      subst he
      rw [hh] at hh'
      simp only [Option.some.injEq, Obj.cells.injEq] at hh'
      exact hne hh'.2.1

/-- Flags. -/
def OwnBs (base : Nat) (w : World) (v : Value) (l : List Bool) : Prop := w.ownsRow base 4 1 v l.length (l.map Value.bool)
theorem OwnBs.same {base : Nat} {w w' : World} {v : Value} {l : List Bool} (h : OwnBs base w v l) (hs : Same base w.heap.size w w') : OwnBs base w' v l := ownsR_same h hs
theorem OwnBs.rb {base : Nat} {w : World} {v : Value} {l : List Bool} (h : OwnBs base w v l) : ∃ a c, v = .slice a l.length c ∧ RB base w.heap.size w a l.length c l := by
  have hh := h
  rcases h.2 with ⟨hv, h0⟩ | ⟨g, cap, cur, hv, hg, hb, hc1, hc2, _⟩
  · exact ⟨none, 0, by rw [hv, h0], rfl, by omega, .inl h0⟩
  · refine ⟨some ⟨g, 0, none⟩, cap, hv, rfl, ⟨hc1, by unfold maxLen at hc2; omega⟩, .inr ⟨g, 0, rfl, hg, (Array.getElem?_eq_some_iff.1 hb).1, fun i hi => ?_⟩⟩
    unfold OwnBs at hh
    rw [hv] at hh
    rw [Nat.zero_add, hh.cellAt i (by omega)]
    exact ⟨.bool (l.getD i false), by simp [List.getD, hi], rfl⟩

/-- Lists of flags. -/
def OwnFF (base : Nat) (w : World) (v : Value) (L : List (List Bool)) : Prop :=
  ∃ vs : List Value, w.ownsRow base 50 1 v L.length vs ∧ ∀ i, i < L.length → OwnBs base w (vs.getD i undef) (L.getD i [])
theorem OwnFF.nil (base : Nat) (w : World) : OwnFF base w (.slice none 0 0) [] := ⟨[], World.ownsRow_nil _ _ _ _, fun i hi => by simp at hi⟩
theorem OwnFF.same {base : Nat} {w w' : World} {v : Value} {L : List (List Bool)} (h : OwnFF base w v L) (hs : Same base w.heap.size w w') : OwnFF base w' v L := by
  obtain ⟨vs, h1, h2⟩ := h
  exact ⟨vs, ownsR_same h1 hs, fun i hi => (h2 i hi).same hs⟩
theorem OwnFF.base {base base' : Nat} {w : World} {v : Value} {L : List (List Bool)} (h : OwnFF base w v L) (hb : base' ≤ base) : OwnFF base' w v L := by
  obtain ⟨vs, h1, h2⟩ := h
  exact ⟨vs, ownsR_base h1 hb, fun i hi => ownsR_base (h2 i hi) hb⟩
theorem OwnFF.push {base : Nat} {W w' : World} {v v' s : Value} {vs : List Value} {L : List (List Bool)} {fl : List Bool} (hrow : W.ownsRow base 50 1 v L.length vs) (hfl : ∀ i, i < L.length → OwnBs base W (vs.getD i undef) (L.getD i []))
    (hs : OwnBs base W s fl) (hn : w'.ownsRow base 50 1 v' (L.length + 1) (vs ++ [s])) (hg : W.grownBy w' v.ownBlock) : OwnFF base w' v' (L ++ [fl]) := by
  refine ⟨vs ++ [s], by simpa using hn, fun i hi => ?_⟩
  have hl : vs.length = L.length := by simpa using hrow.1
  by_cases h : i < L.length
  · rw [getD_app (by omega), getD_app h]
    exact ownsR_other (hfl i h) hrow (by decide) hg
  · have : i = L.length := by simp at hi; omega
    subst this
    have e1 : (vs ++ [s]).getD L.length undef = s := by rw [← hl]; simp [List.getD]
    have e2 : (L ++ [fl]).getD L.length [] = fl := by simp [List.getD]
    rw [e1, e2]
    exact ownsR_other hs hrow (by decide) hg
/-- Where another row, of another type, grows. -/
theorem OwnFF.other {base base' e' size' n' : Nat} {w w' : World} {v v' : Value} {L : List (List Bool)} {xs' : List Value} (h : OwnFF base w v L) (h' : w.ownsRow base' e' size' v' n' xs') (h1 : 50 ≠ e') (h2 : 4 ≠ e') (g : w.grownBy w' v'.ownBlock) : OwnFF base w' v L := by
  obtain ⟨vs, q1, q2⟩ := h
  exact ⟨vs, ownsR_other q1 h' h1 g, fun i hi => ownsR_other (q2 i hi) h' h2 g⟩
theorem OwnFF.rff {base : Nat} {w : World} {v : Value} {L : List (List Bool)} (h : OwnFF base w v L) : ∃ a c, v = .slice a L.length c ∧ RFF base w.heap.size w a L.length c L := by
  obtain ⟨vs, h1, h2⟩ := h
  have hh := h1
  rcases h1.2 with ⟨hv, h0⟩ | ⟨g, cap, cur, hv, hg, hb, hc1, hc2, _⟩
  · exact ⟨none, 0, by rw [hv, h0], rfl, by omega, .inl h0⟩
  · refine ⟨some ⟨g, 0, none⟩, cap, hv, rfl, ⟨hc1, by unfold maxLen at hc2; omega⟩, .inr ⟨g, 0, rfl, hg, (Array.getElem?_eq_some_iff.1 hb).1, fun i hi => ?_⟩⟩
    rw [hv] at hh
    have hl : vs.length = L.length := by simpa using hh.1
    obtain ⟨a, c, e, hr⟩ := (h2 i hi).rb
    refine ⟨vs.getD i undef, ?_, a, _, c, e, hr⟩
    rw [Nat.zero_add, hh.cellAt i (by omega)]
    simp [List.getD, hl, hi]

/-- A text in a block of its own. -/
def WordAt (base : Nat) (w : World) (v : Value) (z : List Int) : Prop :=
  ∃ g c cur f, v = .slice (some ⟨g, 0, none⟩) z.length c ∧ base ≤ g ∧ w.heap[g]? = some (.cells cur 5 f) ∧ (z.length ≤ c ∧ c ≤ 9223372036854775807) ∧ (∀ i, 0 ≤ z.getD i 0 ∧ z.getD i 0 ≤ 255) ∧ ∀ i, i < z.length → cur[i]? = some (.int .u8 (z.getD i 0))
theorem WordAt.same {base : Nat} {w w' : World} {v : Value} {z : List Int} (h : WordAt base w v z) (hs : Same base w.heap.size w w') : WordAt base w' v z := by
  obtain ⟨g, c, cur, f, e, h1, h2, h3⟩ := h
  exact ⟨g, c, cur, f, e, h1, (hs g h1 (Array.getElem?_eq_some_iff.1 h2).1).trans h2, h3⟩
theorem WordAt.base {base base' : Nat} {w : World} {v : Value} {z : List Int} (h : WordAt base w v z) (hb : base' ≤ base) : WordAt base' w v z := by
  obtain ⟨g, c, cur, f, e, h1, h2⟩ := h
  exact ⟨g, c, cur, f, e, Nat.le_trans hb h1, h2⟩
theorem WordAt.slb {base : Nat} {w : World} {v : Value} {z : List Int} (h : WordAt base w v z) : SlB base w.heap.size w v z := by
  obtain ⟨g, c, cur, f, e, h1, h2, h3, h4, h5⟩ := h
  refine ⟨_, _, c, e, rfl, h3, h4, .inr ⟨g, 0, rfl, h1, (Array.getElem?_eq_some_iff.1 h2).1, fun i hi => ?_⟩⟩
  rw [Nat.zero_add]
  simp [World.cell?, h2, h5 i hi]
theorem WordAt.other {base base' e' size' n' : Nat} {w w' : World} {v v' : Value} {z : List Int} {xs' : List Value} (h : WordAt base w v z) (h' : w.ownsRow base' e' size' v' n' xs') (hne : 5 ≠ e') (hg : w.grownBy w' v'.ownBlock) : WordAt base w' v z := by
  obtain ⟨g, c, cur, f, e, h1, h2, h3⟩ := h
  refine ⟨g, c, cur, f, e, h1, (hg.block g (Array.getElem?_eq_some_iff.1 h2).1 (fun he => ?_)).trans h2, h3⟩
  rcases h'.2 with ⟨rfl, _⟩ | ⟨q', cap', cur', rfl, _, hh', _⟩
  · simp [Value.ownBlock] at he
  · simp only [Value.ownBlock, Option.some.injEq] at he
    subst he
    rw [h2] at hh'
    simp only [Option.some.injEq, Obj.cells.injEq] at hh'
    exact hne hh'.2.1
theorem word_lit {base : Nat} {w : World} {g : Nat} {x : Int} {f : Nat × Nat} (hb : w.heap[g]? = some (.cells #[.int .u8 x] 5 f)) (hg : base ≤ g) (hx : 0 ≤ x ∧ x ≤ 255) : WordAt base w (.slice (some ⟨g, 0, none⟩) 1 1) [x] := by
  refine ⟨g, 1, _, f, rfl, hg, hb, ⟨Nat.le_refl _, by omega⟩, fun i => ?_, fun i hi => ?_⟩
  · match i with
    | 0 => exact hx
    | i + 1 => simp
  · have : i = 0 := by simp at hi; omega
    subst this; rfl

/-- Texts. -/
def OwnSS (base : Nat) (w : World) (v : Value) (L : List (List Int)) : Prop :=
  ∃ vs : List Value, w.ownsRow base 22 1 v L.length vs ∧ ∀ i, i < L.length → WordAt base w (vs.getD i undef) (L.getD i [])
theorem OwnSS.same {base : Nat} {w w' : World} {v : Value} {L : List (List Int)} (h : OwnSS base w v L) (hs : Same base w.heap.size w w') : OwnSS base w' v L := by
  obtain ⟨vs, h1, h2⟩ := h
  exact ⟨vs, ownsR_same h1 hs, fun i hi => (h2 i hi).same hs⟩
theorem OwnSS.base {base base' : Nat} {w : World} {v : Value} {L : List (List Int)} (h : OwnSS base w v L) (hb : base' ≤ base) : OwnSS base' w v L := by
  obtain ⟨vs, h1, h2⟩ := h
  exact ⟨vs, ownsR_base h1 hb, fun i hi => (h2 i hi).base hb⟩
theorem OwnSS.push {base : Nat} {W w' : World} {v v' s : Value} {vs : List Value} {L : List (List Int)} {z : List Int} (hrow : W.ownsRow base 22 1 v L.length vs) (hfl : ∀ i, i < L.length → WordAt base W (vs.getD i undef) (L.getD i []))
    (hs : WordAt base W s z) (hn : w'.ownsRow base 22 1 v' (L.length + 1) (vs ++ [s])) (hg : W.grownBy w' v.ownBlock) : OwnSS base w' v' (L ++ [z]) := by
  refine ⟨vs ++ [s], by simpa using hn, fun i hi => ?_⟩
  have hl : vs.length = L.length := by simpa using hrow.1
  by_cases h : i < L.length
  · rw [getD_app (by omega), getD_app h]
    exact (hfl i h).other hrow (by decide) hg
  · have : i = L.length := by simp at hi; omega
    subst this
    have e1 : (vs ++ [s]).getD L.length undef = s := by rw [← hl]; simp [List.getD]
    have e2 : (L ++ [z]).getD L.length [] = z := by simp [List.getD]
    rw [e1, e2]
    exact hs.other hrow (by decide) hg
theorem OwnSS.other {base base' e' size' n' : Nat} {w w' : World} {v v' : Value} {L : List (List Int)} {xs' : List Value} (h : OwnSS base w v L) (h' : w.ownsRow base' e' size' v' n' xs') (h1 : 22 ≠ e') (h2 : 5 ≠ e') (g : w.grownBy w' v'.ownBlock) : OwnSS base w' v L := by
  obtain ⟨vs, q1, q2⟩ := h
  exact ⟨vs, ownsR_other q1 h' h1 g, fun i hi => (q2 i hi).other h' h2 g⟩
theorem OwnSS.rss {base : Nat} {w : World} {v : Value} {L : List (List Int)} (h : OwnSS base w v L) : ∃ a c, v = .slice a L.length c ∧ RSS base w.heap.size w a L.length c L := by
  obtain ⟨vs, h1, h2⟩ := h
  have hh := h1
  rcases h1.2 with ⟨hv, h0⟩ | ⟨g, cap, cur, hv, hg, hb, hc1, hc2, _⟩
  · exact ⟨none, 0, by rw [hv, h0], rfl, by omega, .inl h0⟩
  · refine ⟨some ⟨g, 0, none⟩, cap, hv, rfl, ⟨hc1, by unfold maxLen at hc2; omega⟩, .inr ⟨g, 0, rfl, hg, (Array.getElem?_eq_some_iff.1 hb).1, fun i hi => ?_⟩⟩
    rw [hv] at hh
    have hl : vs.length = L.length := by simpa using hh.1
    refine ⟨vs.getD i undef, ?_, (h2 i hi).slb⟩
    rw [Nat.zero_add, hh.cellAt i (by omega)]
    simp [List.getD, hl, hi]
theorem ownI_rd {base : Nat} {w : World} {v : Value} {zs : List Int} (h : OwnI base w v zs) : ∃ a c, v = .slice a zs.length c ∧ RI base w.heap.size w a zs.length c zs := by
  obtain ⟨a, c, _, e, hr, _⟩ := h.form
  exact ⟨a, c, e, hr⟩
theorem ownI_same {base : Nat} {w w' : World} {v : Value} {zs : List Int} (h : OwnI base w v zs) (hs : Same base w.heap.size w w') : OwnI base w' v zs := ownsR_same h hs

theorem OwnI.mono0 {base base' : Nat} {w : World} {v : Value} {zs : List Int} (h : OwnI base w v zs) (hb : base' ≤ base) : OwnI base' w v zs := ownsR_base h hb

theorem RdN.tl {α : Type} {d : α} {R : Value → α → Prop} {lo hi : Nat} {w : World} {b off n cap : Nat} {xs : List α} (h : RdN d R lo hi w (some ⟨b, off, none⟩) n cap xs) (hn : 1 ≤ n) (b' : Option Addr) (hb : 1 < n → b' = some ⟨b, off + 1, none⟩) : RdN d R lo hi w b' (n - 1) (cap - 1) (xs.drop 1) := by
  obtain ⟨h1, h2, h3⟩ := h
  refine ⟨by simp [h1], by omega, ?_⟩
  by_cases h0 : n - 1 = 0
  · exact .inl h0
  · right
    rcases h3 with q | ⟨b1, o1, e, q1, q2, q3⟩
    · omega
    · simp only [Option.some.injEq, Addr.mk.injEq, and_true] at e
      obtain ⟨rfl, rfl⟩ := e
      refine ⟨_, _, hb (by omega), q1, q2, fun i hi => ?_⟩
      obtain ⟨v, c, r⟩ := q3 (i + 1) (by omega)
      refine ⟨v, by rw [Nat.add_assoc, Nat.add_comm 1 i]; exact c, ?_⟩
      have : (xs.drop 1).getD i d = xs.getD (i + 1) d := by simp [List.getD]
      rw [this]; exact r

end Go.Proofs.Ytnmljalcndfjmaa
