/- Several texts in one: DrawTok, ReadMem, ConOwnS, ReadI1. -/
import Derived.Test.YtnmljalcndfjmaaNG2
import Derived.Test.YtnmljalcndfjmaaNG18
import Derived.Lib.AppendStr
import Derived.Lib.ConvBytes
import Derived.Test.YtnmljalcndfjmaaNG7
import Derived.Test.YtnmljalcndfjmaaNG6
import Derived.Deep.RegionHeldLaw
import Derived.Test.YtnmljalcndfjmaaNG10
namespace Go.Proofs.Ytnmljalcndfjmaa

section
open Go.RowKit

def numsOf (s : ByteArray) : List Int := s.data.toList.map (fun b => (b.toNat : Int))

theorem numsOf_len (s : ByteArray) : (numsOf s).length = s.size := by unfold numsOf; rw [List.length_map, Array.length_toList]; rfl
theorem numsOf_byte (s : ByteArray) : ∀ x ∈ numsOf s, 0 ≤ x ∧ x ≤ 255 := by
  intro x hx
  simp only [numsOf, List.mem_map] at hx
  obtain ⟨b, _, rfl⟩ := hx
  have := b.toNat_lt
  omega

theorem bytes_below (W : World) (e : TypeId) (s : ByteArray) : Below W.heap.size W (Lib.bytesWorld W e s) := ⟨rfl, rfl, rfl, by rw [Lib.bytesWorld_size]; omega, fun k hk => Lib.bytesWorld_at_old W e s k hk⟩

theorem getD_byte {zs : List Int} (h : ∀ x ∈ zs, 0 ≤ x ∧ x ≤ 255) : ∀ i, 0 ≤ zs.getD i 0 ∧ zs.getD i 0 ≤ 255 := by
  intro i
  by_cases hi : i < zs.length
  · have := h _ (List.getElem_mem hi)
    simpa [List.getD, hi] using this
  · simp [List.getD, List.getElem?_eq_none (Nat.le_of_not_lt hi)]

theorem Cur.of {w w' : World} {B : Nat} {a : Option Addr} {n cap : Nat} {zs : List Int} {hi : Nat} (c : Cur w B a n cap zs hi) (hb : Below (B + 1) w w') : Cur w' B a n cap zs hi := by
  obtain ⟨⟨i, h, hi', q⟩, c2, c3⟩ := c
  exact ⟨⟨i, h, hi', (hb.block B (Nat.lt_succ_self _)).trans q⟩, c2.below hb (by omega), c3⟩
theorem Cur.lt {w : World} {B : Nat} {a : Option Addr} {n cap : Nat} {zs : List Int} {hi : Nat} (c : Cur w B a n cap zs hi) : B < w.heap.size := by
  obtain ⟨⟨i, h, hi', q⟩, c2, c3⟩ := c
  exact q.lt

theorem Only.step {B : Nat} {w a b : World} (h : Only B w a) (hB : B < w.heap.size) (k : Below w.heap.size a b) : Only B w b :=
  ⟨h.below.trans (k.mono (Nat.le_of_lt hB)), fun x h1 h2 => (k.block x h1).trans (h.other x h1 h2)⟩
theorem OwnB.only {base B : Nat} {w w' : World} {v : Value} {xs : List Int} (h : OwnB base w v xs) (k : Only B w w') (hB : B < base) : OwnB base w' v xs :=
  h.keepB (fun g hg => k.other g (OwnB.lt h g hg).2 (by have := (OwnB.lt h g hg).1; omega))
end

section
open Go.RowKit

/-- Below B all blocks but pb are as they were. -/
structure Bt (pb B : Nat) (w w' : World) : Prop where
  os : w'.os = w.os
  tape : w'.tape = w.tape
  output : w'.output = w.output
  size : w.heap.size ≤ w'.heap.size
  block : ∀ k, k < B → k ≠ pb → w'.heap[k]? = w.heap[k]?

theorem Bt.refl (pb B : Nat) (w : World) : Bt pb B w w := ⟨rfl, rfl, rfl, Nat.le_refl _, fun _ _ _ => rfl⟩
theorem Bt.trans {pb B : Nat} {a b c : World} (h : Bt pb B a b) (k : Bt pb B b c) : Bt pb B a c :=
  ⟨k.os.trans h.os, k.tape.trans h.tape, k.output.trans h.output, Nat.le_trans h.size k.size, fun i hi hn => (k.block i hi hn).trans (h.block i hi hn)⟩
theorem Bt.mono {pb B B' : Nat} {w w' : World} (h : Bt pb B w w') (hB : B' ≤ B) : Bt pb B' w w' := ⟨h.os, h.tape, h.output, h.size, fun k hk hn => h.block k (Nat.lt_of_lt_of_le hk hB) hn⟩
theorem Bt.drew {pb B : Nat} {a w : World} (h : Bt pb B a w) : Bt pb B a w.drew := ⟨h.os, h.tape, h.output, h.size, h.block⟩
theorem Bt.of_below {pb B : Nat} {w w' : World} (h : Below B w w') : Bt pb B w w' := ⟨h.os, h.tape, h.output, h.size, fun k hk _ => h.block k hk⟩
theorem Bt.alloc {pb B : Nat} {a w : World} (h : Bt pb B a w) (hB : B ≤ w.heap.size) (o : Obj) : Bt pb B a (w.alloc o) := h.trans (Bt.of_below ((Below.refl _ _).alloc hB o))
theorem Bt.set {pb B : Nat} {a w : World} (h : Bt pb B a w) {p : Addr} (hp : B ≤ p.block ∨ p.block = pb) (u : Value) : Bt pb B a (w.setCell p u) :=
  h.trans ⟨rfl, rfl, rfl, by simp [World.setCell], fun k hk hn => Below.heap_setCell _ _ _ _ (by omega)⟩
theorem Bt.grown {pb B : Nat} {a w w' : World} {row : Option Nat} (h : Bt pb B a w) (hg : w.grownBy w' row) (hB : B ≤ w.heap.size) (hr : ∀ k, row = some k → B ≤ k) : Bt pb B a w' :=
  h.trans (Bt.of_below ((Below.refl _ _).grown hg hB hr))
theorem Bt.below {pb B B' : Nat} {w w' : World} (h : Bt pb B w w') (h1 : B' ≤ B) (h2 : B' ≤ pb) : Below B' w w' := ⟨h.os, h.tape, h.output, h.size, fun k hk => h.block k (by omega) (by omega)⟩

/-- Tokens in the block g; their texts in blocks of their own; all below pb. -/
structure TkM (base pb : Nat) (w : World) (g : Nat) (ts : List Tok) (gs : List (Nat × Nat)) : Prop where
  glt : ts.length = 0 ∨ (base ≤ g ∧ g < pb)
  cell : ∀ i, i < ts.length → w.cell? ⟨g, i * 3, none⟩ = some (.int .i64 (ts.getD i Tok.zero).kind) ∧ w.cell? ⟨g, i * 3 + 1, none⟩ = some (.int .i64 (ts.getD i Tok.zero).place) ∧ w.cell? ⟨g, i * 3 + 2, none⟩ = some (txv (ts.getD i Tok.zero) (gs.getD i (0, 0)))
  txt : ∀ i, i < ts.length → (ts.getD i Tok.zero).text ≠ [] → (base ≤ (gs.getD i (0, 0)).1 ∧ (gs.getD i (0, 0)).1 < pb) ∧ Row w (gs.getD i (0, 0)).1 (gs.getD i (0, 0)).2 (ts.getD i Tok.zero).text ∧ (gs.getD i (0, 0)).2 ≤ 9223372036854775807
  byte : ∀ i, i < ts.length → ∀ j, 0 ≤ (ts.getD i Tok.zero).text.getD j 0 ∧ (ts.getD i Tok.zero).text.getD j 0 ≤ 255
  dist : ∀ i j, i < j → j < ts.length → (ts.getD i Tok.zero).text ≠ [] → (ts.getD j Tok.zero).text ≠ [] → (gs.getD i (0, 0)).1 ≠ (gs.getD j (0, 0)).1

theorem TkM.keep {base pb : Nat} {w w' : World} {g : Nat} {ts : List Tok} {gs : List (Nat × Nat)} (h : TkM base pb w g ts gs) (hb : ∀ q, base ≤ q → q < pb → w'.heap[q]? = w.heap[q]?) : TkM base pb w' g ts gs := by
  obtain ⟨h1, h2, h3, h4, h5⟩ := h
  refine ⟨h1, fun i hi => ?_, fun i hi ht => ⟨(h3 i hi ht).1, (h3 i hi ht).2.1.of_block (hb _ (h3 i hi ht).1.1 (h3 i hi ht).1.2), (h3 i hi ht).2.2⟩, h4, h5⟩
  have hg := hb g (by omega) (by omega)
  obtain ⟨c0, c1, c2⟩ := h2 i hi
  exact ⟨(World.cell?_of_block (w := w) hg).trans c0, (World.cell?_of_block (w := w) hg).trans c1, (World.cell?_of_block (w := w) hg).trans c2⟩

theorem TkM.below {base pb : Nat} {w w' : World} {g : Nat} {ts : List Tok} {gs : List (Nat × Nat)} (h : TkM base pb w g ts gs) (hb : Below pb w w') : TkM base pb w' g ts gs := h.keep (fun q _ hq => hb.block q hq)

theorem TkM.bt {base pb B : Nat} {w w' : World} {g : Nat} {ts : List Tok} {gs : List (Nat × Nat)} (h : TkM base pb w g ts gs) (hb : Bt pb B w w') (hB : pb ≤ B) : TkM base pb w' g ts gs := h.below (hb.below hB (Nat.le_refl _))

theorem OwnT.tkm {base pb : Nat} {w : World} {v : Value} {ts : List Tok} {gs : List (Nat × Nat)} (h : OwnT base w v ts gs) (hpb : w.heap.size ≤ pb) :
    ∃ a cap g, v = .slice a ts.length cap ∧ (ts.length = 0 ∨ a = some ⟨g, 0, none⟩) ∧ ts.length ≤ cap ∧ cap ≤ 9223372036854775807 ∧ TkM base pb w g ts gs := by
  obtain ⟨h1, h2, h3, h4, h5⟩ := h
  have ht : ∀ i, i < ts.length → (ts.getD i Tok.zero).text ≠ [] → (base ≤ (gs.getD i (0, 0)).1 ∧ (gs.getD i (0, 0)).1 < pb) ∧ Row w (gs.getD i (0, 0)).1 (gs.getD i (0, 0)).2 (ts.getD i Tok.zero).text ∧ (gs.getD i (0, 0)).2 ≤ 9223372036854775807 := fun i hi hne =>
    ⟨⟨(h3 i hi hne).1, Nat.lt_of_lt_of_le (h3 i hi hne).2.1.lt hpb⟩, (h3 i hi hne).2⟩
  rcases h2.2 with ⟨hv, h0⟩ | ⟨g, cap, cur, hv, hg, hh, hc1, hc2, hc3, hc4⟩
  · exact ⟨none, 0, 0, by rw [hv, h0], .inl h0, by omega, by omega, .inl h0, fun i hi => by omega, ht, h4, h5⟩
  · subst hv
    unfold maxLen at hc2
    refine ⟨_, cap, g, rfl, .inr rfl, hc1, hc2, .inr ⟨hg, Nat.lt_of_lt_of_le (Array.getElem?_eq_some_iff.1 hh).1 hpb⟩, fun i hi => ?_, ht, h4, h5⟩
    obtain ⟨f0, f1, f2⟩ := flatT_get ts gs i h1 hi
    rw [h2.cellAt (i * 3) (by omega), h2.cellAt (i * 3 + 1) (by omega), h2.cellAt (i * 3 + 2) (by omega), f0, f1, f2]
    exact ⟨rfl, rfl, rfl⟩

/-- A token's word. -/
theorem TkM.word {base pb : Nat} {w : World} {g : Nat} {ts : List Tok} {gs : List (Nat × Nat)} (h : TkM base pb w g ts gs) {i : Nat} (hi : i < ts.length) :
    ∃ a c, txv (ts.getD i Tok.zero) (gs.getD i (0, 0)) = .slice a (wordI ts i).length c ∧ OwB w a (wordI ts i).length c (wordI ts i) (gs.getD i (0, 0)).1 0 ∧ Rd 0 pb w a (wordI ts i).length c (wordI ts i) ∧
      (wordI ts i ≠ [] → ∀ o, w.frozen? ⟨(gs.getD i (0, 0)).1, o, none⟩ = false) := by
  by_cases ht : (ts.getD i Tok.zero).text = []
  · have hw : wordI ts i = [] := ht
    refine ⟨none, 0, by rw [txv_nil _ ht, hw]; rfl, ?_, ?_, fun hn => absurd hw hn⟩
    · rw [hw]; exact ⟨rfl, ⟨by simp, by omega⟩, by simp, .inl rfl⟩
    · rw [hw]; exact Rd.none_of (by omega)
  · obtain ⟨t1, t2, t3⟩ := h.txt i hi ht
    have hle : (wordI ts i).length ≤ (gs.getD i (0, 0)).2 := by obtain ⟨c, _, _, h, _⟩ := t2; exact h
    refine ⟨_, _, txv_cons _ ht, ⟨rfl, ⟨hle, t3⟩, h.byte i hi, .inr ⟨rfl, fun j hj => ?_⟩⟩, t2.rd rfl (h.byte i hi) t3 (Nat.zero_le _) t1.2, fun _ o => t2.frozen o⟩
    rw [Nat.zero_add]; exact t2.cell hj
end

section
open Go.RowKit

/-- Bytes in new memory. -/
def Fr (base : Nat) (w : World) (v : Value) (zs : List Int) (b : Nat) : Prop := ∃ a c, v = .slice a zs.length c ∧ OwB w a zs.length c zs b 0 ∧ (zs.length = 0 ∨ (base ≤ b ∧ b < w.heap.size))

theorem Fr.isSlice {base : Nat} {w : World} {v : Value} {zs : List Int} {b : Nat} (h : Fr base w v zs b) : ∃ a n c, v = .slice a n c := by
  obtain ⟨a, c, h, _⟩ := h
  exact ⟨_, _, _, h⟩

theorem Fr.below {base : Nat} {w w' : World} {v : Value} {zs : List Int} {b : Nat} (h : Fr base w v zs b) (hb : Below w.heap.size w w') : Fr base w' v zs b := by
  obtain ⟨a, c, h1, h2, h3⟩ := h
  refine ⟨a, c, h1, h2.keep' ?_, ?_⟩
  · rcases h3 with e | e
    · exact .inl e
    · exact .inr (hb.block _ e.2)
  · rcases h3 with e | e
    · exact .inl e
    · exact .inr ⟨e.1, Nat.lt_of_lt_of_le e.2 hb.size⟩

theorem Fr.mono {base base' : Nat} {w : World} {v : Value} {zs : List Int} {b : Nat} (h : Fr base w v zs b) (hb : base' ≤ base) : Fr base' w v zs b := by
  obtain ⟨a, c, h1, h2, h3⟩ := h
  refine ⟨a, c, h1, h2, ?_⟩
  rcases h3 with e | e
  · exact .inl e
  · exact .inr ⟨by omega, e.2⟩

theorem Fr.notBox {base : Nat} {w : World} {v : Value} {zs : List Int} {b o : Nat} {k : Int} {v1 v2 v3 : Value} (h : Fr base w v zs b) (hb : BoxC w o (.int .i64 k) v1 v2 v3) : zs.length = 0 ∨ b ≠ o := by
  obtain ⟨a, c, h1, h2, h3⟩ := h
  by_cases hz : zs.length = 0
  · exact .inl hz
  · refine .inr (fun e => ?_)
    subst e
    rcases h2.cells with e | ⟨_, hc⟩
    · exact hz e
    · have := hc 0 (by omega)
      rw [Nat.add_zero, hb.cells.1] at this
      simp at this

/-- What is made ahead of the kids. -/
structure PreS (W0 W : World) (ov : Value) (k : Int) (name role : List Int) (ob bn br : Nat) (nv rv : Value) : Prop where
  ptr : ov = .pointer (some ⟨ob, 0, none⟩)
  box : BoxC W ob (.int .i64 k) nv rv (.slice none 0 0)
  ge : W0.heap.size ≤ ob
  bel : Below W0.heap.size W0 W
  nam : Fr W0.heap.size W nv name bn
  nne : name.length = 0 ∨ bn ≠ ob
  rol : Fr W0.heap.size W rv role br
  rne : role.length = 0 ∨ br ≠ ob

theorem PreS.last {W0 w1 w2 : World} {k : Int} {nv rv : Value} {name role : List Int} {bn br : Nat} (h1 : Fr W0.heap.size w1 nv name bn) (b1 : Below W0.heap.size W0 w1) (h2 : Fr w1.heap.size w2 rv role br) (b2 : Below w1.heap.size w1 w2) :
    PreS W0 (w2.alloc (.cells #[.int .i64 k, nv, rv, .slice none 0 0] 30)) (.pointer (some ⟨w2.heap.size, 0, none⟩)) k name role w2.heap.size bn br nv rv := by
  have hs1 := b1.size
  have hs2 := b2.size
  have b3 : Below w2.heap.size w2 (w2.alloc (.cells #[.int .i64 k, nv, rv, .slice none 0 0] 30)) := (Below.refl _ _).alloc (Nat.le_refl _) _
  have hn2 := (h1.below b2)
  refine ⟨rfl, BoxC.new w2 _ _ _ _, by omega, (b1.trans (b2.mono hs1)).trans (b3.mono (by omega)), hn2.below b3, ?_, (h2.mono hs1).below b3, ?_⟩
  · obtain ⟨_, _, _, _, e | e⟩ := hn2
    · exact .inl e
    · exact .inr (by omega)
  · obtain ⟨_, _, _, _, e | e⟩ := h2
    · exact .inl e
    · exact .inr (by omega)

theorem PreS.set {W0 w1 w2 : World} {k : Int} {nv rv : Value} {name role : List Int} {bn br ob : Nat} {z : Int} {z1 z2 z3 : Value} (h1 : Fr W0.heap.size w1 nv name bn) (b1 : Below W0.heap.size W0 w1) (h2 : Fr w1.heap.size w2 rv role br) (b2 : Below w1.heap.size w1 w2) (hb : BoxC w2 ob (.int .i64 z) z1 z2 z3) (ho : W0.heap.size ≤ ob) :
    PreS W0 ((((w2.setCell ⟨ob, 0, none⟩ (.int .i64 k)).setCell ⟨ob, 1, none⟩ nv).setCell ⟨ob, 2, none⟩ rv).setCell ⟨ob, 3, none⟩ (.slice none 0 0)) (.pointer (some ⟨ob, 0, none⟩)) k name role ob bn br nv rv := by
  have hs1 := b1.size
  have hn2 := (h1.below b2)
  have hr2 := h2.mono hs1
  have en := hn2.notBox hb
  have er := hr2.notBox hb
  have hsz : ((((w2.setCell ⟨ob, 0, none⟩ (.int .i64 k)).setCell ⟨ob, 1, none⟩ nv).setCell ⟨ob, 2, none⟩ rv).setCell ⟨ob, 3, none⟩ (.slice none 0 0)).heap.size = w2.heap.size := by simp
  have keep : ∀ {base b : Nat} {v : Value} {zs : List Int}, Fr base w2 v zs b → (zs.length = 0 ∨ b ≠ ob) → Fr base ((((w2.setCell ⟨ob, 0, none⟩ (.int .i64 k)).setCell ⟨ob, 1, none⟩ nv).setCell ⟨ob, 2, none⟩ rv).setCell ⟨ob, 3, none⟩ (.slice none 0 0)) v zs b := by
    intro base b v zs h e
    obtain ⟨a, c, q1, q2, q3⟩ := h
    refine ⟨a, c, q1, q2.keep' ?_, ?_⟩
    · rcases e with e | e
      · exact .inl e
      · exact .inr (heap_set4 _ _ _ _ _ e)
    · rw [hsz]; exact q3
  exact ⟨rfl, hb.set4 _ _ _ _, ho, ((((b1.trans (b2.mono hs1)).setCell ho _).setCell ho _).setCell ho _).setCell ho _, keep hn2 en, en, keep hr2 er, er⟩
end

section
open Go.RowKit

/-- A token's box. -/
def BoxK3 (W : World) (b : Nat) (v0 v1 v2 : Value) : Prop := W.heap[b]? = some (.cells #[v0, v1, v2] 122 (0, 0))

theorem BoxK3.cells {W : World} {b : Nat} {v0 v1 v2 : Value} (h : BoxK3 W b v0 v1 v2) : W.cell? ⟨b, 0, none⟩ = some v0 ∧ W.cell? ⟨b, 1, none⟩ = some v1 ∧ W.cell? ⟨b, 2, none⟩ = some v2 := by
  unfold BoxK3 at h
  refine ⟨?_, ?_, ?_⟩ <;> simp [World.cell?, h]
theorem BoxK3.frz {W : World} {b : Nat} {v0 v1 v2 : Value} (h : BoxK3 W b v0 v1 v2) (o : Nat) : W.frozen? ⟨b, o, none⟩ = false := by
  unfold BoxK3 at h
  simp [World.frozen?, h]
theorem BoxK3.new (W : World) (v0 v1 v2 : Value) : BoxK3 (W.alloc (.cells #[v0, v1, v2] 122)) W.heap.size v0 v1 v2 := by
  show (W.heap.push _)[W.heap.size]? = _
  simp
theorem BoxK3.of {W W' : World} {b : Nat} {v0 v1 v2 : Value} (h : BoxK3 W b v0 v1 v2) (e : W'.heap[b]? = W.heap[b]?) : BoxK3 W' b v0 v1 v2 := e.trans h
theorem BoxK3.set3 {W : World} {b : Nat} {v0 v1 v2 : Value} (h : BoxK3 W b v0 v1 v2) (x0 x1 x2 : Value) : BoxK3 (((W.setCell ⟨b, 0, none⟩ x0).setCell ⟨b, 1, none⟩ x1).setCell ⟨b, 2, none⟩ x2) b x0 x1 x2 := by
  unfold BoxK3 at h ⊢
  have e0 := heap_setCell_same W b 0 _ _ x0 h
  have e1 := heap_setCell_same _ b 1 _ _ x1 e0
  have e2 := heap_setCell_same _ b 2 _ _ x2 e1
  rw [e2]
  rfl
end

end Go.Proofs.Ytnmljalcndfjmaa
