/- Several texts in one: ConMark, OwnT, OwnI. -/
import Derived.Test.YtnmljalcndfjmaaNG1
import Derived.Test.YtnmljalcndfjmaaNG6
import Derived.Test.YtnmljalcndfjmaaNG5
import Derived.Test.YtnmljalcndfjmaaNG3
import Derived.Test.YtnmljalcndfjmaaNG4
namespace Go.Proofs.Ytnmljalcndfjmaa

section
open Go.RowKit

/-- Only numbers were turned, and only in the blocks from lo on, below hi. -/
structure MarkRel (lo hi : Nat) (w w' : World) : Prop where
  os : w'.os = w.os
  tape : w'.tape = w.tape
  output : w'.output = w.output
  size : w.heap.size ≤ w'.heap.size
  out : ∀ b, b < w.heap.size → (b < lo ∨ hi ≤ b) → w'.heap[b]? = w.heap[b]?
  cell : ∀ (p : Addr) (v : Value), w.cell? p = some v → w'.cell? p = some v ∨ ∃ kd m m', v = .int kd m ∧ w'.cell? p = some (.int kd m')
  frz : ∀ p : Addr, p.block < w.heap.size → w'.frozen? p = w.frozen? p

theorem MarkRel.refl (lo hi : Nat) (w : World) : MarkRel lo hi w w := ⟨rfl, rfl, rfl, Nat.le_refl _, fun _ _ _ => rfl, fun _ _ h => .inl h, fun _ _ => rfl⟩

theorem MarkRel.trans {lo hi : Nat} {a b c : World} (h : MarkRel lo hi a b) (k : MarkRel lo hi b c) : MarkRel lo hi a c := by
  refine ⟨k.os.trans h.os, k.tape.trans h.tape, k.output.trans h.output, Nat.le_trans h.size k.size, fun x h1 h2 => (k.out x (Nat.lt_of_lt_of_le h1 h.size) h2).trans (h.out x h1 h2), fun p v hp => ?_, fun p hp => (k.frz p (Nat.lt_of_lt_of_le hp h.size)).trans (h.frz p hp)⟩
  rcases h.cell p v hp with h1 | ⟨kd, m, m', e, h1⟩
  · exact k.cell p v h1
  · rcases k.cell p _ h1 with h2 | ⟨kd2, m2, m2', e2, h2⟩
    · exact .inr ⟨kd, m, m', e, h2⟩
    · simp only [Value.int.injEq] at e2
      obtain ⟨rfl, _⟩ := e2
      exact .inr ⟨kd, m, m2', e, h2⟩

theorem MarkRel.of_below {lo hi : Nat} {w w' : World} (h : Below w.heap.size w w') : MarkRel lo hi w w' :=
  ⟨h.os, h.tape, h.output, h.size, fun b h1 _ => h.block b h1, fun p _ hp => .inl ((h.cell (p := p) (block_lt_of_cell hp)).trans hp), fun p hp => World.frozen?_of_block (w := w) (h.block p.block hp)⟩

theorem MarkRel.set {lo hi : Nat} {w : World} {a : Addr} {kd : IntKind} {m : Int} (h : w.cell? a = some (.int kd m)) (h1 : lo ≤ a.block) (h2 : a.block < hi) (m' : Int) : MarkRel lo hi w (w.setCell a (.int kd m')) := by
  have hb := (Below.refl a.block w).setCell (p := a) (Nat.le_refl _) (.int kd m')
  refine ⟨hb.os, hb.tape, hb.output, hb.size, fun b _ hb' => Below.heap_setCell w a _ b (by omega), fun p v hp => ?_, fun p _ => by simp⟩
  by_cases e : a = p
  · subst e
    rw [h] at hp
    cases hp
    exact .inr ⟨kd, m, m', rfl, World.cell?_setCell_same _ _ _ h⟩
  · exact .inl (by rw [World.cell?_setCell_other _ _ _ _ e]; exact hp)

theorem MarkRel.keep {lo hi : Nat} {w w' : World} (h : MarkRel lo hi w w') {p : Addr} {v : Value} (hp : w.cell? p = some v) (hv : ∀ kd m, v ≠ .int kd m) : w'.cell? p = some v := by
  rcases h.cell p v hp with h1 | ⟨kd, m, _, e, _⟩
  · exact h1
  · exact absurd e (hv kd m)

theorem MarkRel.int {lo hi : Nat} {w w' : World} (h : MarkRel lo hi w w') {p : Addr} {kd : IntKind} {m : Int} (hp : w.cell? p = some (.int kd m)) : ∃ m', w'.cell? p = some (.int kd m') := by
  rcases h.cell p _ hp with h1 | ⟨kd', m1, m', e, h1⟩
  · exact ⟨m, h1⟩
  · simp only [Value.int.injEq] at e
    obtain ⟨rfl, _⟩ := e
    exact ⟨m', h1⟩

/-- A slice of bytes, whatever they are. -/
structure ShB (lo hi : Nat) (w : World) (a : Option Addr) (n cap : Nat) : Prop where
  fits : n ≤ cap ∧ cap ≤ 9223372036854775807
  cells : n = 0 ∨ ∃ b off, a = some ⟨b, off, none⟩ ∧ lo ≤ b ∧ b < hi ∧ ∀ i, i < n → ∃ z, w.cell? ⟨b, off + i, none⟩ = some (.int .u8 z)

theorem Rd.sh {lo hi : Nat} {w : World} {a : Option Addr} {n cap : Nat} {zs : List Int} (h : Rd lo hi w a n cap zs) : ShB lo hi w a n cap := by
  obtain ⟨_, hm, _, hc⟩ := h
  refine ⟨hm, ?_⟩
  rcases hc with h0 | ⟨b, off, e, h1, h2, hc⟩
  · exact .inl h0
  · exact .inr ⟨b, off, e, h1, h2, fun i hi => ⟨_, hc i hi⟩⟩

/-- A concept, whatever its numbers are: c says how long its lists are. -/
def ShC (lo hi : Nat) (w : World) : Nat → Value → CN → Prop
  | 0, _, _ => False
  | d + 1, v, c => ∃ k na nn nc ra rn rc ka kn kc, v = .agg #[.int .i64 k, .slice na nn nc, .slice ra rn rc, .slice ka kn kc] ∧
      c.name.length = nn ∧ ShB lo hi w na nn nc ∧ c.role.length = rn ∧ ShB lo hi w ra rn rc ∧ RdL (ShC lo hi w d) lo hi w ka kn kc c.kids

theorem RdC.sh {lo hi : Nat} {w : World} : ∀ {d : Nat} {v : Value} {c : CN}, RdC lo hi w d v c → ShC lo hi w d v c := by
  intro d
  induction d with
  | zero => intro v c h; exact h
  | succ d ih =>
    intro v c h
    obtain ⟨na, nn, nc, ra, rn, rc, ka, kn, kc, hv, h1, h2, h3⟩ := h
    exact ⟨_, na, nn, nc, ra, rn, rc, ka, kn, kc, hv, h1.len, h1.sh, h2.len, h2.sh, h3.imp (fun v c h => ih h) (Same.refl _ _ _) (Nat.le_refl _) (Nat.le_refl _)⟩

theorem ShC.form {lo hi : Nat} {w : World} {d : Nat} {v0 v1 v2 v3 : Value} {c : CN} (h : ShC lo hi w d (.agg #[v0, v1, v2, v3]) c) : ∃ k na nn nc ra rn rc ka kn kc, v0 = .int .i64 k ∧ v1 = .slice na nn nc ∧ v2 = .slice ra rn rc ∧ v3 = .slice ka kn kc := by
  cases d with
  | zero => exact h.elim
  | succ d =>
    obtain ⟨k, na, nn, nc, ra, rn, rc, ka, kn, kc, hv, _⟩ := h
    simp only [Value.agg.injEq, Array.mk.injEq, List.cons.injEq, and_true] at hv
    exact ⟨k, na, nn, nc, ra, rn, rc, ka, kn, kc, hv.1, hv.2.1, hv.2.2.1, hv.2.2.2⟩
end

section
open Go.RowKit

/-- The value of a token's text, its row's block and capacity being g. -/
def txv (t : Tok) (g : Nat × Nat) : Value := if t.text = [] then .slice none 0 0 else .slice (some ⟨g.1, 0, none⟩) t.text.length g.2

def flatT : List Tok → List (Nat × Nat) → List Value
  | t :: ts, g :: gs => .int .i64 t.kind :: .int .i64 t.place :: txv t g :: flatT ts gs
  | _, _ => []

theorem flatT_snoc : ∀ (ts : List Tok) (gs : List (Nat × Nat)) (t : Tok) (g : Nat × Nat), gs.length = ts.length → flatT (ts ++ [t]) (gs ++ [g]) = flatT ts gs ++ [.int .i64 t.kind, .int .i64 t.place, txv t g]
  | [], [], t, g, _ => rfl
  | [], _ :: _, _, _, h => by simp at h
  | _ :: _, [], _, _, h => by simp at h
  | t0 :: ts, g0 :: gs, t, g, h => by
    simp only [List.cons_append, flatT]
    rw [flatT_snoc ts gs t g (by simpa using h)]

theorem flatT_get : ∀ (ts : List Tok) (gs : List (Nat × Nat)) (i : Nat), gs.length = ts.length → i < ts.length →
    (flatT ts gs)[i * 3]? = some (.int .i64 (ts.getD i Tok.zero).kind) ∧ (flatT ts gs)[i * 3 + 1]? = some (.int .i64 (ts.getD i Tok.zero).place) ∧ (flatT ts gs)[i * 3 + 2]? = some (txv (ts.getD i Tok.zero) (gs.getD i (0, 0)))
  | [], _, _, _, hi => by simp at hi
  | _ :: _, [], _, h, _ => by simp at h
  | t0 :: ts, g0 :: gs, 0, _, _ => by simp [flatT]
  | t0 :: ts, g0 :: gs, i + 1, h, hi => by
    obtain ⟨h0, h1, h2⟩ := flatT_get ts gs i (by simpa using h) (by simpa using hi)
    have e : (i + 1) * 3 = i * 3 + 1 + 1 + 1 := by omega
    have e1 : (i + 1) * 3 + 1 = i * 3 + 1 + 1 + 1 + 1 := by omega
    have e2 : (i + 1) * 3 + 2 = i * 3 + 2 + 1 + 1 + 1 := by omega
    refine ⟨?_, ?_, ?_⟩
    · rw [e]; simpa [flatT] using h0
    · rw [e1]; simpa [flatT] using h1
    · rw [e2]; simpa [flatT] using h2

structure OwnT (base : Nat) (w : World) (v : Value) (ts : List Tok) (gs : List (Nat × Nat)) : Prop where
  len : gs.length = ts.length
  row : w.ownsRow base 122 3 v ts.length (flatT ts gs)
  txt : ∀ i, i < ts.length → (ts.getD i Tok.zero).text ≠ [] → base ≤ (gs.getD i (0, 0)).1 ∧ Row w (gs.getD i (0, 0)).1 (gs.getD i (0, 0)).2 (ts.getD i Tok.zero).text ∧ (gs.getD i (0, 0)).2 ≤ 9223372036854775807
  byte : ∀ i, i < ts.length → ∀ j, 0 ≤ (ts.getD i Tok.zero).text.getD j 0 ∧ (ts.getD i Tok.zero).text.getD j 0 ≤ 255
  dist : ∀ i j, i < j → j < ts.length → (ts.getD i Tok.zero).text ≠ [] → (ts.getD j Tok.zero).text ≠ [] → (gs.getD i (0, 0)).1 ≠ (gs.getD j (0, 0)).1

theorem OwnT.nil (base : Nat) (w : World) : OwnT base w (.slice none 0 0) [] [] :=
  ⟨rfl, World.ownsRow_nil _ _ _ _, fun i hi => by simp at hi, fun i hi => by simp at hi, fun i j _ hj => by simp at hj⟩

theorem owns_of_blocks {w w' : World} {base e size n : Nat} {v : Value} {xs : List Value} (h : w.ownsRow base e size v n xs) (hs : ∀ g, g < w.heap.size → w'.heap[g]? = w.heap[g]?) : w'.ownsRow base e size v n xs := by
  obtain ⟨h1, h2⟩ := h
  refine ⟨h1, ?_⟩
  rcases h2 with h2 | ⟨g, cap, cur, hv, hg, hh, r⟩
  · exact .inl h2
  · exact .inr ⟨g, cap, cur, hv, hg, by rw [hs g (Array.getElem?_eq_some_iff.1 hh).1]; exact hh, r⟩

theorem OwnT.below {base : Nat} {w w' : World} {v : Value} {ts : List Tok} {gs : List (Nat × Nat)} (h : OwnT base w v ts gs) (hb : Below w.heap.size w w') : OwnT base w' v ts gs := by
  obtain ⟨h1, h2, h3, h4, h5⟩ := h
  exact ⟨h1, owns_of_blocks h2 (fun g hg => hb.block g hg), fun i hi ht => ⟨(h3 i hi ht).1, (h3 i hi ht).2.1.below hb (h3 i hi ht).2.1.lt, (h3 i hi ht).2.2⟩, h4, h5⟩

theorem getD_snoc_lt {α : Type} (l : List α) (x d : α) (i : Nat) (h : i < l.length) : (l ++ [x]).getD i d = l.getD i d := by rw [List.getD, List.getElem?_append_left h, List.getD]
theorem getD_snoc_eq {α : Type} (l : List α) (x d : α) : (l ++ [x]).getD l.length d = x := by simp [List.getD]

/-- One token more. -/
theorem OwnT.snoc {base : Nat} {w w1 : World} {v v' : Value} {ts : List Tok} {gs : List (Nat × Nat)} (h : OwnT base w v ts gs) (t : Tok) (g : Nat × Nat)
    (ht : t.text ≠ [] → base ≤ g.1 ∧ Row w g.1 g.2 t.text ∧ g.2 ≤ 9223372036854775807) (hby : ∀ j, 0 ≤ t.text.getD j 0 ∧ t.text.getD j 0 ≤ 255)
    (hd : t.text ≠ [] → ∀ i, i < ts.length → (ts.getD i Tok.zero).text ≠ [] → (gs.getD i (0, 0)).1 ≠ g.1)
    (hown : w1.ownsRow base 122 3 v' (ts.length + 1) (flatT ts gs ++ [.int .i64 t.kind, .int .i64 t.place, txv t g])) (hgrow : w.grownBy w1 v.ownBlock) : OwnT base w1 v' (ts ++ [t]) (gs ++ [g]) := by
  obtain ⟨h1, h2, h3, h4, h5⟩ := h
  have keep : ∀ x c zs, Row w x c zs → Row w1 x c zs := by
    intro x c zs hr
    refine hr.of_block (hgrow.block x hr.lt (fun e => ?_))
    obtain ⟨c', hc', _⟩ := hr
    rcases h2.2 with ⟨rfl, _⟩ | ⟨g', cap, cur, rfl, _, hh, _⟩
    · simp [Value.ownBlock] at e
    · simp [Value.ownBlock] at e
      rw [e, hh] at hc'
      simp at hc'
  refine ⟨by simp [h1], ?_, ?_, ?_, ?_⟩
  · rw [flatT_snoc ts gs t g h1]; simpa using hown
  · intro i hi hne
    simp only [List.length_append, List.length_cons, List.length_nil] at hi
    by_cases e : i < ts.length
    · rw [getD_snoc_lt _ _ _ _ e] at hne ⊢
      rw [getD_snoc_lt _ _ _ _ (by omega)]
      exact ⟨(h3 i e hne).1, keep _ _ _ (h3 i e hne).2.1, (h3 i e hne).2.2⟩
    · have e' : i = ts.length := by omega
      subst e'
      rw [getD_snoc_eq] at hne ⊢
      rw [← h1, getD_snoc_eq]
      exact ⟨(ht hne).1, keep _ _ _ (ht hne).2.1, (ht hne).2.2⟩
  · intro i hi
    simp only [List.length_append, List.length_cons, List.length_nil] at hi
    by_cases e : i < ts.length
    · rw [getD_snoc_lt _ _ _ _ e]; exact h4 i e
    · have e' : i = ts.length := by omega
      subst e'
      rw [getD_snoc_eq]; exact hby
  · intro i j hij hj hni hnj
    simp only [List.length_append, List.length_cons, List.length_nil] at hj
    rw [getD_snoc_lt _ _ _ _ (by omega)] at hni
    rw [getD_snoc_lt _ _ _ i (by omega)]
    by_cases e : j < ts.length
    · rw [getD_snoc_lt _ _ _ _ e] at hnj
      rw [getD_snoc_lt _ _ _ _ (by omega)]
      exact h5 i j hij e hni hnj
    · have e' : j = ts.length := by omega
      subst e'
      rw [getD_snoc_eq] at hnj
      rw [← h1, getD_snoc_eq]
      exact hd hnj i (by omega) hni

/-- Where the texts lie. -/
def txOf (ts : List Tok) (gs : List (Nat × Nat)) (i : Nat) : Nat × Nat × Nat := ((gs.getD i (0, 0)).1, 0, (ts.getD i Tok.zero).text.length)

theorem txv_nil {t : Tok} (g : Nat × Nat) (h : t.text = []) : txv t g = .slice none 0 0 := by unfold txv; rw [if_pos h]
theorem txv_cons {t : Tok} (g : Nat × Nat) (h : t.text ≠ []) : txv t g = .slice (some ⟨g.1, 0, none⟩) t.text.length g.2 := by unfold txv; rw [if_neg h]

theorem txv_form (t : Tok) (g : Nat × Nat) : ∃ a c, txv t g = .slice a t.text.length c := by
  unfold txv
  split
  · rename_i h; exact ⟨none, 0, by rw [h]; rfl⟩
  · exact ⟨_, _, rfl⟩

theorem OwnT.rd {base : Nat} {w : World} {v : Value} {ts : List Tok} {gs : List (Nat × Nat)} (h : OwnT base w v ts gs) :
    ∃ a cap, v = .slice a ts.length cap ∧ RdT base w.heap.size w a ts.length cap ts := by
  obtain ⟨h1, h2, h3, h4, h5⟩ := h
  rcases h2.2 with ⟨hv, h0⟩ | ⟨g, cap, cur, hv, hg, hh, hc1, hc2, hc3, hc4⟩
  · exact ⟨none, 0, by rw [hv, h0], ⟨rfl, ⟨by omega, by omega⟩, .inl h0⟩⟩
  · subst hv
    unfold maxLen at hc2
    refine ⟨_, _, rfl, ⟨rfl, ⟨hc1, hc2⟩, .inr ⟨g, 0, rfl, hg, (Array.getElem?_eq_some_iff.1 hh).1, fun i hi => ?_⟩⟩⟩
    obtain ⟨f0, f1, f2⟩ := flatT_get ts gs i h1 hi
    simp only [Nat.zero_add]
    rw [h2.cellAt (i * 3) (by omega), h2.cellAt (i * 3 + 1) (by omega), h2.cellAt (i * 3 + 2) (by omega), f0, f1, f2]
    by_cases ht : (ts.getD i Tok.zero).text = []
    · refine ⟨none, 0, 0, rfl, rfl, by rw [txv_nil _ ht], ?_⟩
      rw [ht]; exact Rd.none_of (by omega)
    · obtain ⟨t1, t2, t3⟩ := h3 i hi ht
      exact ⟨_, _, _, rfl, rfl, by rw [txv_cons _ ht], t2.rd rfl (h4 i hi) t3 t1 t2.lt⟩

theorem mem_leafT {b off : Nat} {tx : Nat → Nat × Nat × Nat} {n : Nat} {x : Addr × IntKind} (h : x ∈ leafT b off tx n) :
    ∃ i, i < n ∧ (x = (⟨b, off + i * 3, none⟩, .i64) ∨ x = (⟨b, off + i * 3 + 1, none⟩, .i64) ∨ ∃ j, j < (tx i).2.2 ∧ x = (⟨(tx i).1, (tx i).2.1 + j, none⟩, .u8)) := by
  simp only [leafT, List.mem_flatMap, List.mem_range, List.mem_cons, leafB, List.mem_map] at h
  obtain ⟨i, hi, h⟩ := h
  refine ⟨i, hi, ?_⟩
  rcases h with h | h | ⟨j, hj, h⟩
  · exact .inl h
  · exact .inr (.inl h)
  · exact .inr (.inr ⟨j, hj, h.symm⟩)

/-- Its cells can be marked, one by one: they are there, may be written, and are each another. -/
theorem OwnT.leaf {base : Nat} {w : World} {v : Value} {ts : List Tok} {gs : List (Nat × Nat)} (h : OwnT base w v ts gs) (hlen : ∀ i, (ts.getD i Tok.zero).text.length ≤ 1048576) :
    ∃ a cap b, v = .slice a ts.length cap ∧ (ts.length = 0 ∨ a = some ⟨b, 0, none⟩) ∧ HeadT w b 0 (txOf ts gs) ts.length ∧ LeafOk w (leafT b 0 (txOf ts gs) ts.length) ∧
      ((leafT b 0 (txOf ts gs) ts.length).map (·.1)).Nodup ∧ ∀ x ∈ leafT b 0 (txOf ts gs) ts.length, base ≤ x.1.block ∧ x.1.block < w.heap.size := by
  obtain ⟨h1, h2, h3, h4, h5⟩ := h
  rcases h2.2 with ⟨hv, h0⟩ | ⟨g, cap, cur, hv, hg, hh, hc1, hc2, hc3, hc4⟩
  · refine ⟨none, 0, 0, by rw [hv, h0], .inl h0, ?_, ?_, ?_, ?_⟩
    · intro i hi; omega
    · rw [h0]; intro x hx; simp [leafT] at hx
    · rw [h0]; simp [leafT]
    · rw [h0]; intro x hx; simp [leafT] at hx
  · subst hv
    have hgs := (Array.getElem?_eq_some_iff.1 hh).1
    have hcell : ∀ i, i < ts.length → w.cell? ⟨g, i * 3, none⟩ = some (.int .i64 (ts.getD i Tok.zero).kind) ∧ w.cell? ⟨g, i * 3 + 1, none⟩ = some (.int .i64 (ts.getD i Tok.zero).place) ∧ w.cell? ⟨g, i * 3 + 2, none⟩ = some (txv (ts.getD i Tok.zero) (gs.getD i (0, 0))) := by
      intro i hi
      obtain ⟨f0, f1, f2⟩ := flatT_get ts gs i h1 hi
      rw [h2.cellAt (i * 3) (by omega), h2.cellAt (i * 3 + 1) (by omega), h2.cellAt (i * 3 + 2) (by omega)]
      exact ⟨f0, f1, f2⟩
    have hne : ∀ i, i < ts.length → (ts.getD i Tok.zero).text ≠ [] → (gs.getD i (0, 0)).1 ≠ g := by
      intro i hi ht e
      obtain ⟨_, ⟨c, hc, _⟩, _⟩ := h3 i hi ht
      rw [e, hh] at hc
      simp at hc
    have hpos : ∀ i j, j < (txOf ts gs i).2.2 → (ts.getD i Tok.zero).text ≠ [] := by
      intro i j hj e
      simp only [txOf] at hj
      rw [e] at hj
      simp at hj
    refine ⟨_, _, g, rfl, .inr rfl, ?_, ?_, ?_, ?_⟩
    · intro i hi
      simp only [Nat.zero_add]
      by_cases ht : (ts.getD i Tok.zero).text = []
      · refine ⟨none, 0, ?_, .inl (by simp only [txOf]; rw [ht]; rfl), hlen i⟩
        rw [(hcell i hi).2.2, txv_nil _ ht]; simp only [txOf]; rw [ht]; rfl
      · exact ⟨_, _, by rw [(hcell i hi).2.2, txv_cons _ ht]; rfl, .inr rfl, hlen i⟩
    · intro x hx
      obtain ⟨i, hi, e | e | ⟨j, hj, e⟩⟩ := mem_leafT hx
      · subst e; simp only [Nat.zero_add]
        exact ⟨⟨_, (hcell i hi).1⟩, h2.frozenAt _⟩
      · subst e; simp only [Nat.zero_add]
        exact ⟨⟨_, (hcell i hi).2.1⟩, h2.frozenAt _⟩
      · subst e
        obtain ⟨_, hr, _⟩ := h3 i hi (hpos i j hj)
        simp only [txOf, Nat.zero_add] at hj ⊢
        exact ⟨⟨_, hr.cell hj⟩, hr.frozen _⟩
    · have key : ∀ n, n ≤ ts.length → ((leafT g 0 (txOf ts gs) n).map (·.1)).Nodup := by
        intro n
        induction n with
        | zero => intro _; simp [leafT]
        | succ n ih =>
          intro hn
          rw [leafT_succ, List.map_append, List.nodup_append]
          refine ⟨ih (by omega), ?_, ?_⟩
          · simp only [List.map_cons, List.nodup_cons, leafB, List.map_map, List.mem_cons, List.mem_map, List.mem_range, Function.comp]
            refine ⟨?_, ?_, ?_⟩
            · rintro (h | ⟨j, hj, h⟩)
              · simp at h
              · simp only [Addr.mk.injEq] at h
                exact hne n (by omega) (hpos n j hj) h.1
            · rintro ⟨j, hj, h⟩
              simp only [Addr.mk.injEq] at h
              exact hne n (by omega) (hpos n j hj) h.1
            · rw [List.nodup_iff_pairwise_ne, List.pairwise_iff_getElem]
              intro i j hi hj hij
              simp <;> omega
          · intro p hp q hq e
            subst e
            simp only [List.mem_map] at hp hq
            obtain ⟨x, hx, rfl⟩ := hp
            obtain ⟨y, hy, hxy⟩ := hq
            obtain ⟨i, hi, hx⟩ := mem_leafT hx
            simp only [List.mem_cons, leafB, List.mem_map, List.mem_range] at hy
            rcases hx with rfl | rfl | ⟨j, hj, rfl⟩ <;> rcases hy with rfl | rfl | ⟨j', hj', rfl⟩ <;> simp only [Addr.mk.injEq] at hxy
            · omega
            · omega
            · exact hne n (by omega) (hpos n j' hj') hxy.1
            · omega
            · omega
            · exact hne n (by omega) (hpos n j' hj') hxy.1
            · exact hne i (by omega) (hpos i j hj) hxy.1.symm
            · exact hne i (by omega) (hpos i j hj) hxy.1.symm
            · exact h5 i n hi (by omega) (hpos i j hj) (hpos n j' hj') hxy.1.symm
      exact key _ (Nat.le_refl _)
    · intro x hx
      obtain ⟨i, hi, e | e | ⟨j, hj, e⟩⟩ := mem_leafT hx
      · subst e; exact ⟨hg, hgs⟩
      · subst e; exact ⟨hg, hgs⟩
      · subst e
        obtain ⟨hb, hr, _⟩ := h3 i hi (hpos i j hj)
        exact ⟨hb, hr.lt⟩
end

section
open Go.RowKit

def OwnI (base : Nat) (w : World) (v : Value) (zs : List Int) : Prop := w.ownsRow base 3 1 v zs.length (zs.map (Value.int .i64))

theorem OwnI.nil (base : Nat) (w : World) : OwnI base w (.slice none 0 0) [] := World.ownsRow_nil _ _ _ _

theorem ownI_step {w0 W w2 : World} {v v' : Value} {xs ys : List Int} (hO : OwnI w0.heap.size W v xs) (hB : Below w0.heap.size w0 W)
    (hown : w2.ownsRow w0.heap.size 3 1 v' (xs.length + ys.length) (xs.map (Value.int .i64) ++ ys.map (Value.int .i64))) (hgrow : W.grownBy w2 v.ownBlock) :
    OwnI w0.heap.size w2 v' (xs ++ ys) ∧ Below w0.heap.size w0 w2 := by
  refine ⟨by unfold OwnI; simpa using hown, hB.grown hgrow hB.size (fun x hx => ?_)⟩
  rcases hO.2 with ⟨rfl, _⟩ | ⟨g1, cap1, cur, rfl, hg1, _⟩
  · simp [Value.ownBlock] at hx
  · simp [Value.ownBlock] at hx; omega

theorem OwnI.below {base B : Nat} {w w' : World} {v : Value} {zs : List Int} (h : OwnI base w v zs) (hb : Below B w w') (hB : w.heap.size ≤ B) : OwnI base w' v zs := by
  obtain ⟨h1, h2⟩ := h
  refine ⟨h1, ?_⟩
  rcases h2 with h2 | ⟨g, cap, cur, hv, hg, hh, r⟩
  · exact .inl h2
  · exact .inr ⟨g, cap, cur, hv, hg, by rw [hb.block g (Nat.lt_of_lt_of_le (Array.getElem?_eq_some_iff.1 hh).1 hB)]; exact hh, r⟩

/-- The leaves of a row of numbers. -/
def leafI (b off n : Nat) : List (Addr × IntKind) := (List.range n).map fun j => (⟨b, off + j, none⟩, .i64)

/-- What it is: nil, with nothing in it; or a row of its own. -/
theorem OwnI.form {base : Nat} {w : World} {v : Value} {zs : List Int} (h : OwnI base w v zs) :
    ∃ a c b, v = .slice a zs.length c ∧ RI base w.heap.size w a zs.length c zs ∧ (zs.length = 0 ∨ a = some ⟨b, 0, none⟩) ∧ LeafOk w (leafI b 0 zs.length) ∧ (zs.length = 0 ∨ (base ≤ b ∧ b < w.heap.size)) := by
  by_cases hz : zs.length = 0
  · rcases h.2 with ⟨hv, _⟩ | ⟨g, cap, cur, hv, _, _, _, hc2, _⟩
    · refine ⟨none, 0, 0, by rw [hv, hz], ⟨rfl, by omega, .inl hz⟩, .inl hz, ?_, .inl hz⟩
      rw [hz]; intro x hx; simp [leafI] at hx
    · unfold maxLen at hc2
      refine ⟨_, cap, 0, hv, ⟨rfl, by omega, .inl hz⟩, .inl hz, ?_, .inl hz⟩
      rw [hz]; intro x hx; simp [leafI] at hx
  · obtain ⟨h1, h2⟩ := h
    rcases h2 with ⟨_, h0⟩ | ⟨g, cap, cur, hv, hg, hh, hc1, hc2, hc3, hc4⟩
    · exact absurd h0 hz
    · simp only [Nat.mul_one] at hc3 hc4
      unfold maxLen at hc2
      have hlt : g < w.heap.size := (Array.getElem?_eq_some_iff.1 hh).1
      have hcell : ∀ i, i < zs.length → w.cell? ⟨g, i, none⟩ = some (.int .i64 (zs.getD i 0)) := by
        intro i hi
        have e : (cur.toList.take zs.length)[i]? = (zs.map (Value.int .i64))[i]? := by rw [hc4]
        rw [List.getElem?_take, if_pos hi] at e
        simp only [Array.getElem?_toList] at e
        rw [show (zs.map (Value.int .i64))[i]? = some (.int .i64 (zs.getD i 0)) by simp [List.getD, hi]] at e
        simp [World.cell?, hh, e]
      refine ⟨_, cap, g, hv, ⟨rfl, ⟨hc1, hc2⟩, .inr ⟨g, 0, rfl, hg, hlt, fun i hi => ⟨_, by rw [Nat.zero_add]; exact hcell i hi, rfl⟩⟩⟩, .inr rfl, ?_, .inr ⟨hg, hlt⟩⟩
      intro x hx
      simp only [leafI, List.mem_map, List.mem_range] at hx
      obtain ⟨j, hj, rfl⟩ := hx
      simp only [Nat.zero_add]
      exact ⟨⟨_, hcell j hj⟩, by simp [World.frozen?, hh]⟩

theorem newI1 (w : World) (g : Nat) (c : Int) (hg : g = w.heap.size) : ∀ j u, ([c].map (Value.int .i64))[j]? = some u → (w.alloc (.cells #[.int .i64 c] 3)).cell? ((⟨g, 0, none⟩ : Addr).add j) = some u := by
  intro j u hu
  subst hg
  rw [Addr.add_lit]
  match j, hu with
  | 0, hu => simp at hu; subst hu; simp

theorem oneCI (zs : List Int) : ∀ u ∈ zs.map (Value.int .i64), u.oneCell' = true := by
  intro u hu; simp only [List.mem_map] at hu; obtain ⟨x, _, rfl⟩ := hu; rfl

/-- The numbers below n that f holds of, in their order. -/
def pickI (f : Nat → Bool) (n : Nat) : List Int := ((List.range n).filter f).map Int.ofNat

theorem pickI_yes {f : Nat → Bool} {n : Nat} (h : f n = true) : pickI f (n + 1) = pickI f n ++ [(n : Int)] := by
  unfold pickI; rw [List.range_succ, List.filter_append, List.map_append]; simp [h]
theorem pickI_no {f : Nat → Bool} {n : Nat} (h : f n = false) : pickI f (n + 1) = pickI f n := by
  unfold pickI; rw [List.range_succ, List.filter_append, List.map_append]; simp [h]
theorem pickI_len (f : Nat → Bool) (n : Nat) : (pickI f n).length ≤ n := by
  unfold pickI; rw [List.length_map]; exact Nat.le_trans (List.length_filter_le _ _) (by simp)
end

end Go.Proofs.Ytnmljalcndfjmaa
