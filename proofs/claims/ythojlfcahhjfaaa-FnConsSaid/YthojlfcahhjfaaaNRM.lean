/- Several texts in one: ReadMem, ReadOwn. -/
import Derived.Test.YthojlfcahhjfaaaOwnT
import Derived.Test.YthojlfcahhjfaaaNCl
import Derived.Test.YthojlfcahhjfaaaReadM
namespace Go.Proofs.Ythojlfcahhjfaaa

section
open Go.RowKit

/-- Below B all blocks but pb are as they were. -/
structure Bt (pb B : Nat) (w w' : World) : Prop where
  os : w'.os = w.os
  tape : w'.tape = w.tape
  output : w'.output = w.output
  size : w.heap.size ≤ w'.heap.size
  block : ∀ k, k < B → k ≠ pb → w'.heap[k]? = w.heap[k]?

theorem Bt.refl (pb B : Nat) (w : World) : Bt pb B w w := ⟨rfl, rfl, rfl, Nat.le_refl _, fun _ _ _ => rfl⟩
theorem Bt.trans {pb B : Nat} {a b c : World} (h : Bt pb B a b) (k : Bt pb B b c) : Bt pb B a c :=
  ⟨k.os.trans h.os, k.tape.trans h.tape, k.output.trans h.output, Nat.le_trans h.size k.size, fun i hi hn => (k.block i hi hn).trans (h.block i hi hn)⟩
theorem Bt.mono {pb B B' : Nat} {w w' : World} (h : Bt pb B w w') (hB : B' ≤ B) : Bt pb B' w w' := ⟨h.os, h.tape, h.output, h.size, fun k hk hn => h.block k (Nat.lt_of_lt_of_le hk hB) hn⟩
theorem Bt.drew {pb B : Nat} {a w : World} (h : Bt pb B a w) : Bt pb B a w.drew := ⟨h.os, h.tape, h.output, h.size, h.block⟩
theorem Bt.of_below {pb B : Nat} {w w' : World} (h : Below B w w') : Bt pb B w w' := ⟨h.os, h.tape, h.output, h.size, fun k hk _ => h.block k hk⟩
theorem Bt.alloc {pb B : Nat} {a w : World} (h : Bt pb B a w) (hB : B ≤ w.heap.size) (o : Obj) : Bt pb B a (w.alloc o) := h.trans (Bt.of_below ((Below.refl _ _).alloc hB o))
theorem Bt.set {pb B : Nat} {a w : World} (h : Bt pb B a w) {p : Addr} (hp : B ≤ p.block ∨ p.block = pb) (u : Value) : Bt pb B a (w.setCell p u) :=
  h.trans ⟨rfl, rfl, rfl, by simp [World.setCell], fun k hk hn => Below.heap_setCell _ _ _ _ (by omega)⟩
theorem Bt.grown {pb B : Nat} {a w w' : World} {row : Option Nat} (h : Bt pb B a w) (hg : w.grownBy w' row) (hB : B ≤ w.heap.size) (hr : ∀ k, row = some k → B ≤ k) : Bt pb B a w' :=
  h.trans (Bt.of_below ((Below.refl _ _).grown hg hB hr))
theorem Bt.below {pb B B' : Nat} {w w' : World} (h : Bt pb B w w') (h1 : B' ≤ B) (h2 : B' ≤ pb) : Below B' w w' := ⟨h.os, h.tape, h.output, h.size, fun k hk => h.block k (by omega) (by omega)⟩

/-- Tokens in the block g; their texts in blocks of their own; all below pb. -/
structure TkM (base pb : Nat) (w : World) (g : Nat) (ts : List Tok) (gs : List (Nat × Nat)) : Prop where
  glt : ts.length = 0 ∨ (base ≤ g ∧ g < pb)
  cell : ∀ i, i < ts.length → w.cell? ⟨g, i * 3, none⟩ = some (.int .i64 (ts.getD i Tok.zero).kind) ∧ w.cell? ⟨g, i * 3 + 1, none⟩ = some (.int .i64 (ts.getD i Tok.zero).place) ∧ w.cell? ⟨g, i * 3 + 2, none⟩ = some (txv (ts.getD i Tok.zero) (gs.getD i (0, 0)))
  txt : ∀ i, i < ts.length → (ts.getD i Tok.zero).text ≠ [] → (base ≤ (gs.getD i (0, 0)).1 ∧ (gs.getD i (0, 0)).1 < pb) ∧ Row w (gs.getD i (0, 0)).1 (gs.getD i (0, 0)).2 (ts.getD i Tok.zero).text ∧ (gs.getD i (0, 0)).2 ≤ 9223372036854775807
  byte : ∀ i, i < ts.length → ∀ j, 0 ≤ (ts.getD i Tok.zero).text.getD j 0 ∧ (ts.getD i Tok.zero).text.getD j 0 ≤ 255
  dist : ∀ i j, i < j → j < ts.length → (ts.getD i Tok.zero).text ≠ [] → (ts.getD j Tok.zero).text ≠ [] → (gs.getD i (0, 0)).1 ≠ (gs.getD j (0, 0)).1

theorem TkM.keep {base pb : Nat} {w w' : World} {g : Nat} {ts : List Tok} {gs : List (Nat × Nat)} (h : TkM base pb w g ts gs) (hb : ∀ q, base ≤ q → q < pb → w'.heap[q]? = w.heap[q]?) : TkM base pb w' g ts gs := by
  obtain ⟨h1, h2, h3, h4, h5⟩ := h
  refine ⟨h1, fun i hi => ?_, fun i hi ht => ⟨(h3 i hi ht).1, (h3 i hi ht).2.1.of_block (hb _ (h3 i hi ht).1.1 (h3 i hi ht).1.2), (h3 i hi ht).2.2⟩, h4, h5⟩
  have hg := hb g (by omega) (by omega)
  obtain ⟨c0, c1, c2⟩ := h2 i hi
  exact ⟨(World.cell?_of_block (w := w) hg).trans c0, (World.cell?_of_block (w := w) hg).trans c1, (World.cell?_of_block (w := w) hg).trans c2⟩

theorem TkM.below {base pb : Nat} {w w' : World} {g : Nat} {ts : List Tok} {gs : List (Nat × Nat)} (h : TkM base pb w g ts gs) (hb : Below pb w w') : TkM base pb w' g ts gs := h.keep (fun q _ hq => hb.block q hq)

theorem TkM.bt {base pb B : Nat} {w w' : World} {g : Nat} {ts : List Tok} {gs : List (Nat × Nat)} (h : TkM base pb w g ts gs) (hb : Bt pb B w w') (hB : pb ≤ B) : TkM base pb w' g ts gs := h.below (hb.below hB (Nat.le_refl _))

theorem OwnT.tkm {base pb : Nat} {w : World} {v : Value} {ts : List Tok} {gs : List (Nat × Nat)} (h : OwnT base w v ts gs) (hpb : w.heap.size ≤ pb) :
    ∃ a cap g, v = .slice a ts.length cap ∧ (ts.length = 0 ∨ a = some ⟨g, 0, none⟩) ∧ ts.length ≤ cap ∧ cap ≤ 9223372036854775807 ∧ TkM base pb w g ts gs := by
  obtain ⟨h1, h2, h3, h4, h5⟩ := h
  have ht : ∀ i, i < ts.length → (ts.getD i Tok.zero).text ≠ [] → (base ≤ (gs.getD i (0, 0)).1 ∧ (gs.getD i (0, 0)).1 < pb) ∧ Row w (gs.getD i (0, 0)).1 (gs.getD i (0, 0)).2 (ts.getD i Tok.zero).text ∧ (gs.getD i (0, 0)).2 ≤ 9223372036854775807 := fun i hi hne =>
    ⟨⟨(h3 i hi hne).1, Nat.lt_of_lt_of_le (h3 i hi hne).2.1.lt hpb⟩, (h3 i hi hne).2⟩
  rcases h2.2 with ⟨hv, h0⟩ | ⟨g, cap, cur, hv, hg, hh, hc1, hc2, hc3, hc4⟩
  · exact ⟨none, 0, 0, by rw [hv, h0], .inl h0, by omega, by omega, .inl h0, fun i hi => by omega, ht, h4, h5⟩
  · subst hv
    unfold maxLen at hc2
    refine ⟨_, cap, g, rfl, .inr rfl, hc1, hc2, .inr ⟨hg, Nat.lt_of_lt_of_le (Array.getElem?_eq_some_iff.1 hh).1 hpb⟩, fun i hi => ?_, ht, h4, h5⟩
    obtain ⟨f0, f1, f2⟩ := flatT_get ts gs i h1 hi
    rw [h2.cellAt (i * 3) (by omega), h2.cellAt (i * 3 + 1) (by omega), h2.cellAt (i * 3 + 2) (by omega), f0, f1, f2]
    exact ⟨rfl, rfl, rfl⟩

/-- A token's word. -/
theorem TkM.word {base pb : Nat} {w : World} {g : Nat} {ts : List Tok} {gs : List (Nat × Nat)} (h : TkM base pb w g ts gs) {i : Nat} (hi : i < ts.length) :
    ∃ a c, txv (ts.getD i Tok.zero) (gs.getD i (0, 0)) = .slice a (wordI ts i).length c ∧ OwB w a (wordI ts i).length c (wordI ts i) (gs.getD i (0, 0)).1 0 ∧ Rd 0 pb w a (wordI ts i).length c (wordI ts i) ∧
      (wordI ts i ≠ [] → ∀ o, w.frozen? ⟨(gs.getD i (0, 0)).1, o, none⟩ = false) := by
  by_cases ht : (ts.getD i Tok.zero).text = []
  · have hw : wordI ts i = [] := ht
    refine ⟨none, 0, by rw [txv_nil _ ht, hw]; rfl, ?_, ?_, fun hn => absurd hw hn⟩
    · rw [hw]; exact ⟨rfl, ⟨by simp, by omega⟩, by simp, .inl rfl⟩
    · rw [hw]; exact Rd.none_of (by omega)
  · obtain ⟨t1, t2, t3⟩ := h.txt i hi ht
    have hle : (wordI ts i).length ≤ (gs.getD i (0, 0)).2 := by obtain ⟨c, _, _, h, _⟩ := t2; exact h
    refine ⟨_, _, txv_cons _ ht, ⟨rfl, ⟨hle, t3⟩, h.byte i hi, .inr ⟨rfl, fun j hj => ?_⟩⟩, t2.rd rfl (h.byte i hi) t3 (Nat.zero_le _) t1.2, fun _ o => t2.frozen o⟩
    rw [Nat.zero_add]; exact t2.cell hj

/-- The reader's box. -/
def BoxR (W : World) (b : Nat) (lv : Value) (en : Int) : Prop := W.heap[b]? = some (.cells #[lv, .int .i64 en] 124 (0, 0))

theorem BoxR.cells {W : World} {b : Nat} {lv : Value} {en : Int} (h : BoxR W b lv en) : W.cell? ⟨b, 0, none⟩ = some lv ∧ W.cell? ⟨b, 1, none⟩ = some (.int .i64 en) := by
  unfold BoxR at h
  constructor <;> simp [World.cell?, h]
theorem BoxR.frz {W : World} {b : Nat} {lv : Value} {en : Int} (h : BoxR W b lv en) (o : Nat) : W.frozen? ⟨b, o, none⟩ = false := by
  unfold BoxR at h
  simp [World.frozen?, h]
theorem BoxR.lt {W : World} {b : Nat} {lv : Value} {en : Int} (h : BoxR W b lv en) : b < W.heap.size := (Array.getElem?_eq_some_iff.1 h).1
theorem BoxR.set0 {W : World} {b : Nat} {lv : Value} {en : Int} (h : BoxR W b lv en) (v : Value) : BoxR (W.setCell ⟨b, 0, none⟩ v) b v en := by
  unfold BoxR
  rw [heap_setCell_same W b 0 _ _ v h]
  rfl
theorem BoxR.of {W W' : World} {b : Nat} {lv : Value} {en : Int} (h : BoxR W b lv en) (e : W'.heap[b]? = W.heap[b]?) : BoxR W' b lv en := e.trans h
theorem BoxR.new (W : World) (lv : Value) (en : Int) : BoxR (W.alloc (.cells #[lv, .int .i64 en] 124)) W.heap.size lv en := by
  show (W.heap.push _)[W.heap.size]? = _
  simp

/-- The reader stands at the token i. -/
def RdrAt (W : World) (pb g i : Nat) (ts : List Tok) (en : Int) : Prop := ∃ a c, BoxR W pb (.slice a (ts.length - i) c) en ∧ (ts.length = i ∨ a = some ⟨g, i * 3, none⟩) ∧ ts.length - i ≤ c ∧ c ≤ 9223372036854775807

theorem RdrAt.of {W W' : World} {pb g i : Nat} {ts : List Tok} {en : Int} (h : RdrAt W pb g i ts en) (e : W'.heap[pb]? = W.heap[pb]?) : RdrAt W' pb g i ts en := by
  obtain ⟨a, c, h1, h2⟩ := h
  exact ⟨a, c, h1.of e, h2⟩
theorem RdrAt.lt {W : World} {pb g i : Nat} {ts : List Tok} {en : Int} (h : RdrAt W pb g i ts en) : pb < W.heap.size := by
  obtain ⟨a, c, h1, h2⟩ := h
  exact h1.lt
theorem RdrAt.below {W W' : World} {pb g i : Nat} {ts : List Tok} {en : Int} (h : RdrAt W pb g i ts en) (hb : Below W.heap.size W W') : RdrAt W' pb g i ts en := h.of (hb.block _ h.lt)
end

section
open Go.RowKit

/-- Its blocks lie from s on, below s', or are those of the texts of the tokens from i on, ahead of j. -/
def Use (ts : List Tok) (gs : List (Nat × Nat)) (i j s s' : Nat) (L : List (Addr × IntKind)) : Prop :=
  ∀ x ∈ L, (s ≤ x.1.block ∧ x.1.block < s') ∨ ∃ t, i ≤ t ∧ t < j ∧ t < ts.length ∧ (ts.getD t Tok.zero).text ≠ [] ∧ x.1.block = (gs.getD t (0, 0)).1

theorem Use.nil (ts : List Tok) (gs : List (Nat × Nat)) (i j s s' : Nat) : Use ts gs i j s s' [] := fun x hx => by simp at hx
theorem Use.mono {ts : List Tok} {gs : List (Nat × Nat)} {i j s s' i' j' r r' : Nat} {L : List (Addr × IntKind)} (h : Use ts gs i j s s' L) (h1 : i' ≤ i) (h2 : j ≤ j') (h3 : r ≤ s) (h4 : s' ≤ r') : Use ts gs i' j' r r' L := by
  intro x hx
  rcases h x hx with ⟨a, b⟩ | ⟨t, a, b, c⟩
  · exact .inl ⟨by omega, by omega⟩
  · exact .inr ⟨t, by omega, by omega, c⟩
theorem Use.append {ts : List Tok} {gs : List (Nat × Nat)} {i j s s' : Nat} {L M : List (Addr × IntKind)} (h : Use ts gs i j s s' L) (k : Use ts gs i j s s' M) : Use ts gs i j s s' (L ++ M) := by
  intro x hx
  rcases List.mem_append.1 hx with hx | hx
  · exact h x hx
  · exact k x hx

theorem Use.lt {base pb : Nat} {w : World} {g : Nat} {ts : List Tok} {gs : List (Nat × Nat)} {i j s s' : Nat} {L : List (Addr × IntKind)} (h : Use ts gs i j s s' L) (hT : TkM base pb w g ts gs) (hs : pb ≤ s') : ∀ x ∈ L, x.1.block < s' := by
  intro x hx
  rcases h x hx with ⟨a, b⟩ | ⟨t, a, b, c, d, e⟩
  · exact b
  · have := (hT.txt t c d).1; omega
theorem Use.ge {base pb : Nat} {w : World} {g : Nat} {ts : List Tok} {gs : List (Nat × Nat)} {i j s s' : Nat} {L : List (Addr × IntKind)} (h : Use ts gs i j s s' L) (hT : TkM base pb w g ts gs) (hs : base ≤ s) : ∀ x ∈ L, base ≤ x.1.block := by
  intro x hx
  rcases h x hx with ⟨a, b⟩ | ⟨t, a, b, c, d, e⟩
  · omega
  · have := (hT.txt t c d).1; omega
theorem Use.ne {base pb : Nat} {w : World} {g : Nat} {ts : List Tok} {gs : List (Nat × Nat)} {i j s s' : Nat} {L : List (Addr × IntKind)} (h : Use ts gs i j s s' L) (hT : TkM base pb w g ts gs) {o : Nat} (h1 : pb ≤ o) (h2 : o < s) : ∀ x ∈ L, x.1.block ≠ o := by
  intro x hx
  rcases h x hx with ⟨a, b⟩ | ⟨t, a, b, c, d, e⟩
  · omega
  · have := (hT.txt t c d).1; omega
theorem Use.disj {base pb : Nat} {w : World} {g : Nat} {ts : List Tok} {gs : List (Nat × Nat)} {i j s s' i' j' r r' : Nat} {L M : List (Addr × IntKind)} (h : Use ts gs i j s s' L) (k : Use ts gs i' j' r r' M) (hT : TkM base pb w g ts gs) (h1 : j ≤ i') (h2 : s' ≤ r) (h3 : pb ≤ s) (h4 : s ≤ r) :
    ∀ x ∈ L, ∀ y ∈ M, x.1.block ≠ y.1.block := by
  intro x hx y hy
  rcases h x hx with ⟨a, b⟩ | ⟨t, a, b, c, d, e⟩ <;> rcases k y hy with ⟨a', b'⟩ | ⟨t', a', b', c', d', e'⟩
  · omega
  · have := (hT.txt t' c' d').1; omega
  · have := (hT.txt t c d).1; omega
  · rw [e, e']; exact hT.dist t t' (by omega) c' d d'

structure OwnR (ts : List Tok) (gs : List (Nat × Nat)) (i j s : Nat) (w : World) (d : Nat) (v : Value) (c : CN) (L : List (Addr × IntKind)) : Prop where
  ow : OwC w d v c L
  nd : (L.map (·.1)).Nodup
  fr : ∀ x ∈ L, w.frozen? x.1 = false
  us : Use ts gs i j s w.heap.size L

theorem OwnR.bt {base pb : Nat} {g : Nat} {ts : List Tok} {gs : List (Nat × Nat)} {i j s : Nat} {w w' w0 : World} {d : Nat} {v : Value} {c : CN} {L : List (Addr × IntKind)} (h : OwnR ts gs i j s w d v c L) (hT : TkM base pb w0 g ts gs) (hs : pb < s) (hb : Bt pb w.heap.size w w') (hp : pb ≤ w.heap.size) : OwnR ts gs i j s w' d v c L := by
  have h1 := h.us.lt hT hp
  have h2 := h.us.ne hT (Nat.le_refl pb) hs
  exact ⟨h.ow.keep (fun x hx => hb.block _ (h1 x hx) (h2 x hx)), h.nd, fun x hx => (World.frozen?_of_block (w := w) (hb.block _ (h1 x hx) (h2 x hx))).trans (h.fr x hx), h.us.mono (Nat.le_refl _) (Nat.le_refl _) (Nat.le_refl _) hb.size⟩

theorem RowK.keepG {base pb : Nat} {w w' : World} {d : Nat} {v : Value} {cs : List CN} {Ls : List (List (Addr × IntKind))} {xs : List Value} (h : RowK base w d v cs Ls xs) (hb : Bt pb w.heap.size w w') (h1 : ∀ x ∈ Ls.flatten, x.1.block ≠ pb) (h2 : pb < base) : RowK base w' d v cs Ls xs := by
  have hlt := h.row.lt
  obtain ⟨g1, g2, g3, g4, g5⟩ := h
  refine ⟨g1, ?_, fun j hj => ?_, fun x hx => Nat.lt_of_lt_of_le (g4 x hx) hb.size, g5⟩
  · obtain ⟨q1, q2⟩ := g2
    refine ⟨q1, ?_⟩
    rcases q2 with q | ⟨g, cap, cur, rfl, hg, hh, r⟩
    · exact .inl q
    · exact .inr ⟨g, cap, cur, rfl, hg, by rw [hb.block g (hlt g rfl).2 (by omega)]; exact hh, r⟩
  · obtain ⟨v0, v1, v2, v3, c0, c1, c2, c3, hr⟩ := g3 j hj
    exact ⟨v0, v1, v2, v3, c0, c1, c2, c3, hr.keep (fun x hx => hb.block _ (g4 x (getD_mem_flatten hx)) (h1 x (getD_mem_flatten hx)))⟩

/-- The role of what is under way. -/
def RolR (w : World) (rv : Value) (role : List Int) (br : Nat) : Prop := ∃ a c, rv = .slice a role.length c ∧ OwB w a role.length c role br 0 ∧ (role ≠ [] → ∀ o, o < role.length → w.frozen? ⟨br, o, none⟩ = false)

theorem OwB.keepN {w w' : World} {a : Option Addr} {n cap : Nat} {zs : List Int} {b off : Nat} (h : OwB w a n cap zs b off) (hk : zs ≠ [] → w'.heap[b]? = w.heap[b]?) : OwB w' a n cap zs b off := by
  refine h.keep (fun x hx => ?_)
  obtain ⟨j, hj, rfl⟩ := mem_leafB.1 hx
  exact hk (fun e => by have := h.len; rw [e] at this; simp at this; omega)

theorem RolR.keep {w w' : World} {rv : Value} {role : List Int} {br : Nat} (h : RolR w rv role br) (hk : role ≠ [] → w'.heap[br]? = w.heap[br]?) : RolR w' rv role br := by
  obtain ⟨a, c, h1, h2, h3⟩ := h
  exact ⟨a, c, h1, h2.keepN hk, fun hn o ho => (World.frozen?_of_block (w := w) (by exact hk hn)).trans (h3 hn o ho)⟩

theorem RolR.nil (w : World) (br : Nat) : RolR w (.slice none 0 0) [] br := ⟨none, 0, rfl, ⟨rfl, ⟨by simp, by omega⟩, by simp, .inl rfl⟩, fun h => absurd rfl h⟩
theorem RolR.isSlice {w : World} {rv : Value} {role : List Int} {br : Nat} (h : RolR w rv role br) : ∃ a n c, rv = .slice a n c := by
  obtain ⟨a, c, h, _⟩ := h
  exact ⟨_, _, _, h⟩

/-- What is under way: its box, its role, and the kids so far. -/
structure InvR (pb : Nat) (ts : List Tok) (gs : List (Nat × Nat)) (i0 : Nat) (w : World) (B ob d : Nat) (k : Int) (rv : Value) (role : List Int) (br : Nat) (wr : World) (kv : Value) (cs : List CN) (Ls : List (List (Addr × IntKind))) (xs : List Value) (j : Nat) : Prop where
  row : RowK B wr d kv cs Ls xs
  nd : (Ls.flatten.map (·.1)).Nodup
  fr : ∀ x ∈ Ls.flatten, wr.frozen? x.1 = false
  us : Use ts gs i0 j B wr.heap.size Ls.flatten
  box : BoxC wr ob (.int .i64 k) (.slice none 0 0) rv kv
  rol : RolR wr rv role br
  bt : Bt pb w.heap.size w wr
  sz : B ≤ wr.heap.size

structure StatR (pb : Nat) (w : World) (B ob br : Nat) (role : List Int) : Prop where
  o0 : w.heap.size ≤ ob
  o1 : ob < B
  p : pb < w.heap.size
  br : role ≠ [] → br < B ∧ br ≠ ob ∧ br ≠ pb

theorem InvR.keep {base pb g : Nat} {ts : List Tok} {gs : List (Nat × Nat)} {i0 : Nat} {w w0 : World} {B ob d : Nat} {k : Int} {rv : Value} {role : List Int} {br : Nat} {wr w' : World} {kv : Value} {cs : List CN} {Ls : List (List (Addr × IntKind))} {xs : List Value} {j : Nat}
    (h : InvR pb ts gs i0 w B ob d k rv role br wr kv cs Ls xs j) (hS : StatR pb w B ob br role) (hT : TkM base pb w0 g ts gs) (hb : Bt pb wr.heap.size wr w') : InvR pb ts gs i0 w B ob d k rv role br w' kv cs Ls xs j := by
  have o0 := hS.o0
  have o1 := hS.o1
  have p := hS.p
  have sz := h.sz
  have hlt := h.row.lt
  have hne := h.us.ne hT (Nat.le_refl pb) (by omega)
  refine ⟨h.row.keepG hb hne (by omega), h.nd, fun x hx => (World.frozen?_of_block (w := wr) (hb.block _ (hlt x hx) (hne x hx))).trans (h.fr x hx), h.us.mono (Nat.le_refl _) (Nat.le_refl _) (Nat.le_refl _) hb.size, (hb.block ob (by omega) (by omega)).trans h.box, h.rol.keep (fun hn => hb.block _ ?_ (hS.br hn).2.2), h.bt.trans (hb.mono h.bt.size), Nat.le_trans sz hb.size⟩
  have := (hS.br hn).1; omega

/-- One kid more, appended and stored. -/
theorem InvR.app {base pb g0 : Nat} {ts : List Tok} {gs : List (Nat × Nat)} {i0 : Nat} {w w0 : World} {B ob d : Nat} {k : Int} {rv : Value} {role : List Int} {br : Nat} {W w6 : World} {kv : Value} {cs : List CN} {Ls : List (List (Addr × IntKind))} {xs : List Value} {j j' : Nat}
    (hS : StatR pb w B ob br role) (hT : TkM base pb w0 g0 ts gs) (h : InvR pb ts gs i0 w B ob d k rv role br W kv cs Ls xs j) {Bk : Nat} (hu : Use ts gs i0 j B Bk Ls.flatten) (hkB : ∀ g, kv.ownBlock = some g → g < Bk) (hBk : B ≤ Bk)
    {c : CN} {L : List (Addr × IntKind)} {v0 v1 v2 v3 : Value} {g cap n : Nat} (hc : OwnR ts gs j j' Bk W d (.agg #[v0, v1, v2, v3]) c L) (hij : i0 ≤ j) (hjj : j ≤ j') (hn : n = cs.length + 1)
    (hown : w6.ownsRow B 35 4 (.slice (some ⟨g, 0, none⟩) n cap) n (xs ++ [v0, v1, v2, v3])) (hgrow : W.grownBy w6 kv.ownBlock) (hat : kv.ownBlock = some g ∨ g = W.heap.size) :
    BoxC w6 ob (.int .i64 k) (.slice none 0 0) rv kv ∧ InvR pb ts gs i0 w B ob d k rv role br (w6.setCell ⟨ob, 3, none⟩ (.slice (some ⟨g, 0, none⟩) n cap)) (.slice (some ⟨g, 0, none⟩) n cap) (cs ++ [c]) (Ls ++ [L]) (xs ++ [v0, v1, v2, v3]) j' := by
  subst hn
  have o0 := hS.o0
  have o1 := hS.o1
  have p := hS.p
  have sz := h.sz
  have hkl := h.row.row.lt
  have hkne : ∀ b, b < B → kv.ownBlock ≠ some b := fun b hb e => by have := hkl b e; omega
  have hcl := hc.us.lt hT (by omega)
  have hbox6 : BoxC w6 ob (.int .i64 k) (.slice none 0 0) rv kv := (hgrow.block ob h.box.lt (fun e => hkne ob o1 e.symm)).trans h.box
  have hoffL : ∀ x ∈ L, kv.ownBlock ≠ some x.1.block := by
    intro x hx e
    have h1 := hkB _ e
    have h2 := (hkl _ e).1
    rcases hc.us x hx with ⟨a, b⟩ | ⟨t, a, b, c, d, e⟩
    · omega
    · have := (hT.txt t c d).1; omega
  have hrow6 : RowK B w6 d (.slice (some ⟨g, 0, none⟩) (cs.length + 1) cap) (cs ++ [c]) (Ls ++ [L]) (xs ++ [v0, v1, v2, v3]) :=
    h.row.snoc hc.ow hcl hoffL hown hgrow (by
      rcases hat with e | e
      · exact .inl (by rw [e]; rfl)
      · exact .inr (by rw [← e]; rfl))
  have hfl : (Ls ++ [L]).flatten = Ls.flatten ++ L := by simp
  have hdis := hu.disj hc.us hT (Nat.le_refl j) (Nat.le_refl Bk) (by omega) hBk
  have hall : ∀ x ∈ Ls.flatten ++ L, w6.heap[x.1.block]? = W.heap[x.1.block]? := by
    intro x hx
    rcases List.mem_append.1 hx with hx | hx
    · exact hgrow.block _ (h.row.lt x hx) (fun e => h.row.off x hx e.symm)
    · exact hgrow.block _ (hcl x hx) (fun e => hoffL x hx e.symm)
  have hus : Use ts gs i0 j' B w6.heap.size (Ls.flatten ++ L) := (h.us.mono (Nat.le_refl _) hjj (Nat.le_refl _) hgrow.size).append (hc.us.mono hij (Nat.le_refl _) hBk hgrow.size)
  have hgl := hown.lt g rfl
  have hrol6 : RolR w6 rv role br := h.rol.keep (fun hn => hgrow.block br (by have := (hS.br hn).1; omega) (fun e => hkne br (hS.br hn).1 e.symm))
  have hneo : ∀ x ∈ Ls.flatten ++ L, x.1.block ≠ ob := hus.ne hT (by omega) o1
  refine ⟨hbox6, ⟨hrow6.set 3 _ (fun x hx => by rw [hfl] at hx; exact hneo x hx) (fun e => by simp only [Value.ownBlock, Option.some.injEq] at e; omega), ?_, ?_, ?_, hbox6.set3 _, hrol6.keep (fun hn => Below.heap_setCell _ _ _ _ (hS.br hn).2.1), (h.bt.grown hgrow h.bt.size (fun x hx => by have := hkl x hx; omega)).set (.inl o0) _, ?_⟩⟩
  · rw [hfl, List.map_append, List.nodup_append]
    refine ⟨h.nd, hc.nd, fun p hp q hq e => ?_⟩
    subst e
    simp only [List.mem_map] at hp hq
    obtain ⟨x, hx, rfl⟩ := hp
    obtain ⟨y, hy, e⟩ := hq
    exact hdis x hx y hy (by rw [e])
  · intro x hx
    rw [hfl] at hx
    have h1 : w6.frozen? x.1 = false := by
      rw [World.frozen?_of_block (w := W) (hall x hx)]
      rcases List.mem_append.1 hx with hx | hx
      · exact h.fr x hx
      · exact hc.fr x hx
    simpa using h1
  · rw [hfl]; exact hus.mono (Nat.le_refl _) (Nat.le_refl _) (Nat.le_refl _) (by simp)
  · have := hgrow.size
    simp; omega

/-- Whole: of its role and its kids. -/
theorem InvR.whole {base pb g0 : Nat} {ts : List Tok} {gs : List (Nat × Nat)} {i i0 s : Nat} {w w0 : World} {B ob d : Nat} {k : Int} {rv : Value} {role : List Int} {br : Nat} {wr : World} {kv : Value} {cs : List CN} {Ls : List (List (Addr × IntKind))} {xs : List Value} {j : Nat}
    (h : InvR pb ts gs i0 w B ob d k rv role br wr kv cs Ls xs j) (hT : TkM base pb w0 g0 ts gs) (hsp : pb ≤ s) (hsB : s ≤ B) (hij : i ≤ i0) (hjj : i0 ≤ j) (hru : Use ts gs i i0 s B (leafB br 0 role.length)) :
    ∃ L, OwnR ts gs i j s wr (d + 1) (.agg #[.int .i64 k, .slice none 0 0, rv, kv]) (.mk k [] role cs) L := by
  have sz := h.sz
  obtain ⟨ka, kc, bk, hkv, ok, fk⟩ := h.row.owL
  obtain ⟨ra, rc, hrv, or, hrf⟩ := h.rol
  subst hkv
  subst hrv
  have hlen := h.row.len
  have hsep : SepK 0 wr Ls := ⟨h.nd, h.fr, fun _ _ => Nat.zero_le _⟩
  have hoff : cs.length = 0 ∨ ∀ x ∈ Ls.flatten, bk ≠ x.1.block := by
    rcases fk with h0 | ⟨h0, _⟩
    · exact .inl h0
    · exact .inr (fun x hx e => h.row.off x hx (by rw [h0, e]))
  have mK : ∀ x ∈ leafK bk 0 (fun i => Ls.getD i []) cs.length, (x.1.block = bk ∧ B ≤ bk ∧ bk < wr.heap.size ∨ x ∈ Ls.flatten) ∧ wr.frozen? x.1 = false := by
    intro x hx
    obtain ⟨i, hi, hx⟩ := mem_leafK.1 hx
    rcases fk with h0 | ⟨h0, q1, q2, q3⟩
    · omega
    · rcases hx with rfl | hx
      · exact ⟨.inl ⟨rfl, q1, q2⟩, q3 _⟩
      · exact ⟨.inr (getD_mem_flatten hx), h.fr x (getD_mem_flatten hx)⟩
  have hdis := hru.disj h.us hT (Nat.le_refl i0) (Nat.le_refl B) hsp hsB
  have hrl : ∀ x ∈ leafB br 0 role.length, x.1.block < B := hru.lt hT (by omega)
  refine ⟨_, ⟨⟨none, 0, 0, ra, role.length, rc, ka, cs.length, kc, 0, 0, br, 0, bk, 0, _, rfl, ⟨rfl, ⟨by simp, by omega⟩, by intro i; simp [CN.name], .inl rfl⟩, or, ok, rfl⟩, ?_, ?_, ?_⟩⟩
  · rw [List.map_append, List.map_append]
    have e0 : leafB 0 0 0 = [] := rfl
    rw [e0, List.map_nil, List.nil_append, List.nodup_append]
    refine ⟨leafB_nodup _ _ _, ?_, ?_⟩
    · rcases hoff with h0 | h0
      · rw [h0]; simp [leafK]
      · exact leafK_nodup hsep h0 _ (by omega)
    · intro p hp q hq e
      subst e
      simp only [List.mem_map] at hp hq
      obtain ⟨x, hx, rfl⟩ := hp
      obtain ⟨y, hy, e⟩ := hq
      rcases (mK y hy).1 with ⟨e1, e2, _⟩ | hy
      · have := hrl x hx; rw [e] at e1; omega
      · exact hdis x hx y hy (by rw [e])
  · intro x hx
    have e0 : leafB 0 0 0 = [] := rfl
    rw [e0, List.nil_append, List.mem_append] at hx
    rcases hx with hx | hx
    · obtain ⟨j, hj, rfl⟩ := mem_leafB.1 hx
      exact hrf (fun e => by rw [e] at hj; simp at hj) _ (by omega)
    · exact (mK x hx).2
  · intro x hx
    have e0 : leafB 0 0 0 = [] := rfl
    rw [e0, List.nil_append, List.mem_append] at hx
    rcases hx with hx | hx
    · exact (hru.mono (Nat.le_refl _) hjj (Nat.le_refl _) sz) x hx
    · rcases (mK x hx).1 with ⟨e1, e2, e3⟩ | hx
      · exact .inl ⟨by omega, by omega⟩
      · exact (h.us.mono hij (Nat.le_refl _) hsB (Nat.le_refl _)) x hx
end

end Go.Proofs.Ythojlfcahhjfaaa
