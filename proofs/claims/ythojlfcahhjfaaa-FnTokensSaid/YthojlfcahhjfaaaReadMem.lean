/- Memory of a reader at work: every block but the reader's own is kept; tokens as they lie; the reader's box and where it stands. -/
import Derived.Test.YthojlfcahhjfaaaOwnT
import Derived.Test.YthojlfcahhjfaaaConClone2
import Derived.Test.YthojlfcahhjfaaaReadM
namespace Go.Proofs.Ythojlfcahhjfaaa
open Go.RowKit

/-- Below B all blocks but pb are as they were. -/
structure Bt (pb B : Nat) (w w' : World) : Prop where
  os : w'.os = w.os
  tape : w'.tape = w.tape
  output : w'.output = w.output
  size : w.heap.size ≤ w'.heap.size
  block : ∀ k, k < B → k ≠ pb → w'.heap[k]? = w.heap[k]?

theorem Bt.refl (pb B : Nat) (w : World) : Bt pb B w w := ⟨rfl, rfl, rfl, Nat.le_refl _, fun _ _ _ => rfl⟩
theorem Bt.trans {pb B : Nat} {a b c : World} (h : Bt pb B a b) (k : Bt pb B b c) : Bt pb B a c :=
  ⟨k.os.trans h.os, k.tape.trans h.tape, k.output.trans h.output, Nat.le_trans h.size k.size, fun i hi hn => (k.block i hi hn).trans (h.block i hi hn)⟩
theorem Bt.mono {pb B B' : Nat} {w w' : World} (h : Bt pb B w w') (hB : B' ≤ B) : Bt pb B' w w' := ⟨h.os, h.tape, h.output, h.size, fun k hk hn => h.block k (Nat.lt_of_lt_of_le hk hB) hn⟩
theorem Bt.drew {pb B : Nat} {a w : World} (h : Bt pb B a w) : Bt pb B a w.drew := ⟨h.os, h.tape, h.output, h.size, h.block⟩
theorem Bt.of_below {pb B : Nat} {w w' : World} (h : Below B w w') : Bt pb B w w' := ⟨h.os, h.tape, h.output, h.size, fun k hk _ => h.block k hk⟩
theorem Bt.alloc {pb B : Nat} {a w : World} (h : Bt pb B a w) (hB : B ≤ w.heap.size) (o : Obj) : Bt pb B a (w.alloc o) := h.trans (Bt.of_below ((Below.refl _ _).alloc hB o))
theorem Bt.set {pb B : Nat} {a w : World} (h : Bt pb B a w) {p : Addr} (hp : B ≤ p.block ∨ p.block = pb) (u : Value) : Bt pb B a (w.setCell p u) :=
  h.trans ⟨rfl, rfl, rfl, by simp [World.setCell], fun k hk hn => Below.heap_setCell _ _ _ _ (by omega)⟩
theorem Bt.grown {pb B : Nat} {a w w' : World} {row : Option Nat} (h : Bt pb B a w) (hg : w.grownBy w' row) (hB : B ≤ w.heap.size) (hr : ∀ k, row = some k → B ≤ k) : Bt pb B a w' :=
  h.trans (Bt.of_below ((Below.refl _ _).grown hg hB hr))
theorem Bt.below {pb B B' : Nat} {w w' : World} (h : Bt pb B w w') (h1 : B' ≤ B) (h2 : B' ≤ pb) : Below B' w w' := ⟨h.os, h.tape, h.output, h.size, fun k hk => h.block k (by omega) (by omega)⟩

/-- Tokens in the block g; their texts in blocks of their own; all below pb. -/
structure TkM (base pb : Nat) (w : World) (g : Nat) (ts : List Tok) (gs : List (Nat × Nat)) : Prop where
  glt : ts.length = 0 ∨ (base ≤ g ∧ g < pb)
  cell : ∀ i, i < ts.length → w.cell? ⟨g, i * 3, none⟩ = some (.int .i64 (ts.getD i Tok.zero).kind) ∧ w.cell? ⟨g, i * 3 + 1, none⟩ = some (.int .i64 (ts.getD i Tok.zero).place) ∧ w.cell? ⟨g, i * 3 + 2, none⟩ = some (txv (ts.getD i Tok.zero) (gs.getD i (0, 0)))
  txt : ∀ i, i < ts.length → (ts.getD i Tok.zero).text ≠ [] → (base ≤ (gs.getD i (0, 0)).1 ∧ (gs.getD i (0, 0)).1 < pb) ∧ Row w (gs.getD i (0, 0)).1 (gs.getD i (0, 0)).2 (ts.getD i Tok.zero).text ∧ (gs.getD i (0, 0)).2 ≤ 9223372036854775807
  byte : ∀ i, i < ts.length → ∀ j, 0 ≤ (ts.getD i Tok.zero).text.getD j 0 ∧ (ts.getD i Tok.zero).text.getD j 0 ≤ 255
  dist : ∀ i j, i < j → j < ts.length → (ts.getD i Tok.zero).text ≠ [] → (ts.getD j Tok.zero).text ≠ [] → (gs.getD i (0, 0)).1 ≠ (gs.getD j (0, 0)).1

theorem TkM.keep {base pb : Nat} {w w' : World} {g : Nat} {ts : List Tok} {gs : List (Nat × Nat)} (h : TkM base pb w g ts gs) (hb : ∀ q, base ≤ q → q < pb → w'.heap[q]? = w.heap[q]?) : TkM base pb w' g ts gs := by
  obtain ⟨h1, h2, h3, h4, h5⟩ := h
  refine ⟨h1, fun i hi => ?_, fun i hi ht => ⟨(h3 i hi ht).1, (h3 i hi ht).2.1.of_block (hb _ (h3 i hi ht).1.1 (h3 i hi ht).1.2), (h3 i hi ht).2.2⟩, h4, h5⟩
  have hg := hb g (by omega) (by omega)
  obtain ⟨c0, c1, c2⟩ := h2 i hi
  exact ⟨(World.cell?_of_block (w := w) hg).trans c0, (World.cell?_of_block (w := w) hg).trans c1, (World.cell?_of_block (w := w) hg).trans c2⟩

theorem TkM.below {base pb : Nat} {w w' : World} {g : Nat} {ts : List Tok} {gs : List (Nat × Nat)} (h : TkM base pb w g ts gs) (hb : Below pb w w') : TkM base pb w' g ts gs := h.keep (fun q _ hq => hb.block q hq)

theorem TkM.bt {base pb B : Nat} {w w' : World} {g : Nat} {ts : List Tok} {gs : List (Nat × Nat)} (h : TkM base pb w g ts gs) (hb : Bt pb B w w') (hB : pb ≤ B) : TkM base pb w' g ts gs := h.below (hb.below hB (Nat.le_refl _))

theorem OwnT.tkm {base pb : Nat} {w : World} {v : Value} {ts : List Tok} {gs : List (Nat × Nat)} (h : OwnT base w v ts gs) (hpb : w.heap.size ≤ pb) :
    ∃ a cap g, v = .slice a ts.length cap ∧ (ts.length = 0 ∨ a = some ⟨g, 0, none⟩) ∧ ts.length ≤ cap ∧ cap ≤ 9223372036854775807 ∧ TkM base pb w g ts gs := by
  obtain ⟨h1, h2, h3, h4, h5⟩ := h
  have ht : ∀ i, i < ts.length → (ts.getD i Tok.zero).text ≠ [] → (base ≤ (gs.getD i (0, 0)).1 ∧ (gs.getD i (0, 0)).1 < pb) ∧ Row w (gs.getD i (0, 0)).1 (gs.getD i (0, 0)).2 (ts.getD i Tok.zero).text ∧ (gs.getD i (0, 0)).2 ≤ 9223372036854775807 := fun i hi hne =>
    ⟨⟨(h3 i hi hne).1, Nat.lt_of_lt_of_le (h3 i hi hne).2.1.lt hpb⟩, (h3 i hi hne).2⟩
  rcases h2.2 with ⟨hv, h0⟩ | ⟨g, cap, cur, hv, hg, hh, hc1, hc2, hc3, hc4⟩
  · exact ⟨none, 0, 0, by rw [hv, h0], .inl h0, by omega, by omega, .inl h0, fun i hi => by omega, ht, h4, h5⟩
  · subst hv
    unfold maxLen at hc2
    refine ⟨_, cap, g, rfl, .inr rfl, hc1, hc2, .inr ⟨hg, Nat.lt_of_lt_of_le (Array.getElem?_eq_some_iff.1 hh).1 hpb⟩, fun i hi => ?_, ht, h4, h5⟩
    obtain ⟨f0, f1, f2⟩ := flatT_get ts gs i h1 hi
    rw [h2.cellAt (i * 3) (by omega), h2.cellAt (i * 3 + 1) (by omega), h2.cellAt (i * 3 + 2) (by omega), f0, f1, f2]
    exact ⟨rfl, rfl, rfl⟩

/-- A token's word. -/
theorem TkM.word {base pb : Nat} {w : World} {g : Nat} {ts : List Tok} {gs : List (Nat × Nat)} (h : TkM base pb w g ts gs) {i : Nat} (hi : i < ts.length) :
    ∃ a c, txv (ts.getD i Tok.zero) (gs.getD i (0, 0)) = .slice a (wordI ts i).length c ∧ OwB w a (wordI ts i).length c (wordI ts i) (gs.getD i (0, 0)).1 0 ∧ Rd 0 pb w a (wordI ts i).length c (wordI ts i) ∧
      (wordI ts i ≠ [] → ∀ o, w.frozen? ⟨(gs.getD i (0, 0)).1, o, none⟩ = false) := by
  by_cases ht : (ts.getD i Tok.zero).text = []
  · have hw : wordI ts i = [] := ht
    refine ⟨none, 0, by rw [txv_nil _ ht, hw]; rfl, ?_, ?_, fun hn => absurd hw hn⟩
    · rw [hw]; exact ⟨rfl, ⟨by simp, by omega⟩, by simp, .inl rfl⟩
    · rw [hw]; exact Rd.none_of (by omega)
  · obtain ⟨t1, t2, t3⟩ := h.txt i hi ht
    have hle : (wordI ts i).length ≤ (gs.getD i (0, 0)).2 := by obtain ⟨c, _, _, h, _⟩ := t2; exact h
    refine ⟨_, _, txv_cons _ ht, ⟨rfl, ⟨hle, t3⟩, h.byte i hi, .inr ⟨rfl, fun j hj => ?_⟩⟩, t2.rd rfl (h.byte i hi) t3 (Nat.zero_le _) t1.2, fun _ o => t2.frozen o⟩
    rw [Nat.zero_add]; exact t2.cell hj

/-- The reader's box. -/
def BoxR (W : World) (b : Nat) (lv : Value) (en : Int) : Prop := W.heap[b]? = some (.cells #[lv, .int .i64 en] 124 (0, 0))

theorem BoxR.cells {W : World} {b : Nat} {lv : Value} {en : Int} (h : BoxR W b lv en) : W.cell? ⟨b, 0, none⟩ = some lv ∧ W.cell? ⟨b, 1, none⟩ = some (.int .i64 en) := by
  unfold BoxR at h
  constructor <;> simp [World.cell?, h]
theorem BoxR.frz {W : World} {b : Nat} {lv : Value} {en : Int} (h : BoxR W b lv en) (o : Nat) : W.frozen? ⟨b, o, none⟩ = false := by
  unfold BoxR at h
  simp [World.frozen?, h]
theorem BoxR.lt {W : World} {b : Nat} {lv : Value} {en : Int} (h : BoxR W b lv en) : b < W.heap.size := (Array.getElem?_eq_some_iff.1 h).1
theorem BoxR.set0 {W : World} {b : Nat} {lv : Value} {en : Int} (h : BoxR W b lv en) (v : Value) : BoxR (W.setCell ⟨b, 0, none⟩ v) b v en := by
  unfold BoxR
  rw [heap_setCell_same W b 0 _ _ v h]
  rfl
theorem BoxR.of {W W' : World} {b : Nat} {lv : Value} {en : Int} (h : BoxR W b lv en) (e : W'.heap[b]? = W.heap[b]?) : BoxR W' b lv en := e.trans h
theorem BoxR.new (W : World) (lv : Value) (en : Int) : BoxR (W.alloc (.cells #[lv, .int .i64 en] 124)) W.heap.size lv en := by
  show (W.heap.push _)[W.heap.size]? = _
  simp

/-- The reader stands at the token i. -/
def RdrAt (W : World) (pb g i : Nat) (ts : List Tok) (en : Int) : Prop := ∃ a c, BoxR W pb (.slice a (ts.length - i) c) en ∧ (ts.length = i ∨ a = some ⟨g, i * 3, none⟩) ∧ ts.length - i ≤ c ∧ c ≤ 9223372036854775807

theorem RdrAt.of {W W' : World} {pb g i : Nat} {ts : List Tok} {en : Int} (h : RdrAt W pb g i ts en) (e : W'.heap[pb]? = W.heap[pb]?) : RdrAt W' pb g i ts en := by
  obtain ⟨a, c, h1, h2⟩ := h
  exact ⟨a, c, h1.of e, h2⟩
theorem RdrAt.lt {W : World} {pb g i : Nat} {ts : List Tok} {en : Int} (h : RdrAt W pb g i ts en) : pb < W.heap.size := by
  obtain ⟨a, c, h1, h2⟩ := h
  exact h1.lt
theorem RdrAt.below {W W' : World} {pb g i : Nat} {ts : List Tok} {en : Int} (h : RdrAt W pb g i ts en) (hb : Below W.heap.size W W') : RdrAt W' pb g i ts en := h.of (hb.block _ h.lt)

end Go.Proofs.Ythojlfcahhjfaaa
