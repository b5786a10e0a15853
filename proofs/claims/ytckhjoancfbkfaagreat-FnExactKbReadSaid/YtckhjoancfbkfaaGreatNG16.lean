/- Several texts in one: ReadMem, ImplTok3. -/
import Derived.Test.YtckhjoancfbkfaaGreatNG7
import Derived.Test.YtckhjoancfbkfaaGreatNG15
import Derived.Test.YtckhjoancfbkfaaGreatNG13
import Derived.Test.YtckhjoancfbkfaaGreatNG11
import Derived.WalkMore
namespace Go.Proofs.YtckhjoancfbkfaaGreat

section
open Go.RowKit

/-- Below B all blocks but pb are as they were. -/
structure Bt (pb B : Nat) (w w' : World) : Prop where
  os : w'.os = w.os
  tape : w'.tape = w.tape
  output : w'.output = w.output
  size : w.heap.size ≤ w'.heap.size
  block : ∀ k, k < B → k ≠ pb → w'.heap[k]? = w.heap[k]?

theorem Bt.refl (pb B : Nat) (w : World) : Bt pb B w w := ⟨rfl, rfl, rfl, Nat.le_refl _, fun _ _ _ => rfl⟩
theorem Bt.trans {pb B : Nat} {a b c : World} (h : Bt pb B a b) (k : Bt pb B b c) : Bt pb B a c :=
  ⟨k.os.trans h.os, k.tape.trans h.tape, k.output.trans h.output, Nat.le_trans h.size k.size, fun i hi hn => (k.block i hi hn).trans (h.block i hi hn)⟩
theorem Bt.mono {pb B B' : Nat} {w w' : World} (h : Bt pb B w w') (hB : B' ≤ B) : Bt pb B' w w' := ⟨h.os, h.tape, h.output, h.size, fun k hk hn => h.block k (Nat.lt_of_lt_of_le hk hB) hn⟩
theorem Bt.drew {pb B : Nat} {a w : World} (h : Bt pb B a w) : Bt pb B a w.drew := ⟨h.os, h.tape, h.output, h.size, h.block⟩
theorem Bt.of_below {pb B : Nat} {w w' : World} (h : Below B w w') : Bt pb B w w' := ⟨h.os, h.tape, h.output, h.size, fun k hk _ => h.block k hk⟩
theorem Bt.alloc {pb B : Nat} {a w : World} (h : Bt pb B a w) (hB : B ≤ w.heap.size) (o : Obj) : Bt pb B a (w.alloc o) := h.trans (Bt.of_below ((Below.refl _ _).alloc hB o))
theorem Bt.set {pb B : Nat} {a w : World} (h : Bt pb B a w) {p : Addr} (hp : B ≤ p.block ∨ p.block = pb) (u : Value) : Bt pb B a (w.setCell p u) :=
  h.trans ⟨rfl, rfl, rfl, by simp [World.setCell], fun k hk hn => Below.heap_setCell _ _ _ _ (by omega)⟩
theorem Bt.grown {pb B : Nat} {a w w' : World} {row : Option Nat} (h : Bt pb B a w) (hg : w.grownBy w' row) (hB : B ≤ w.heap.size) (hr : ∀ k, row = some k → B ≤ k) : Bt pb B a w' :=
  h.trans (Bt.of_below ((Below.refl _ _).grown hg hB hr))
theorem Bt.below {pb B B' : Nat} {w w' : World} (h : Bt pb B w w') (h1 : B' ≤ B) (h2 : B' ≤ pb) : Below B' w w' := ⟨h.os, h.tape, h.output, h.size, fun k hk => h.block k (by omega) (by omega)⟩

/-- Tokens in the block g; their texts in blocks of their own; all below pb. -/
structure TkM (base pb : Nat) (w : World) (g : Nat) (ts : List Tok) (gs : List (Nat × Nat)) : Prop where
  glt : ts.length = 0 ∨ (base ≤ g ∧ g < pb)
  cell : ∀ i, i < ts.length → w.cell? ⟨g, i * 3, none⟩ = some (.int .i64 (ts.getD i Tok.zero).kind) ∧ w.cell? ⟨g, i * 3 + 1, none⟩ = some (.int .i64 (ts.getD i Tok.zero).place) ∧ w.cell? ⟨g, i * 3 + 2, none⟩ = some (txv (ts.getD i Tok.zero) (gs.getD i (0, 0)))
  txt : ∀ i, i < ts.length → (ts.getD i Tok.zero).text ≠ [] → (base ≤ (gs.getD i (0, 0)).1 ∧ (gs.getD i (0, 0)).1 < pb) ∧ Row w (gs.getD i (0, 0)).1 (gs.getD i (0, 0)).2 (ts.getD i Tok.zero).text ∧ (gs.getD i (0, 0)).2 ≤ 9223372036854775807
  byte : ∀ i, i < ts.length → ∀ j, 0 ≤ (ts.getD i Tok.zero).text.getD j 0 ∧ (ts.getD i Tok.zero).text.getD j 0 ≤ 255
  dist : ∀ i j, i < j → j < ts.length → (ts.getD i Tok.zero).text ≠ [] → (ts.getD j Tok.zero).text ≠ [] → (gs.getD i (0, 0)).1 ≠ (gs.getD j (0, 0)).1

theorem TkM.keep {base pb : Nat} {w w' : World} {g : Nat} {ts : List Tok} {gs : List (Nat × Nat)} (h : TkM base pb w g ts gs) (hb : ∀ q, base ≤ q → q < pb → w'.heap[q]? = w.heap[q]?) : TkM base pb w' g ts gs := by
  obtain ⟨h1, h2, h3, h4, h5⟩ := h
  refine ⟨h1, fun i hi => ?_, fun i hi ht => ⟨(h3 i hi ht).1, (h3 i hi ht).2.1.of_block (hb _ (h3 i hi ht).1.1 (h3 i hi ht).1.2), (h3 i hi ht).2.2⟩, h4, h5⟩
  have hg := hb g (by omega) (by omega)
  obtain ⟨c0, c1, c2⟩ := h2 i hi
  exact ⟨(World.cell?_of_block (w := w) hg).trans c0, (World.cell?_of_block (w := w) hg).trans c1, (World.cell?_of_block (w := w) hg).trans c2⟩

theorem TkM.below {base pb : Nat} {w w' : World} {g : Nat} {ts : List Tok} {gs : List (Nat × Nat)} (h : TkM base pb w g ts gs) (hb : Below pb w w') : TkM base pb w' g ts gs := h.keep (fun q _ hq => hb.block q hq)

theorem TkM.bt {base pb B : Nat} {w w' : World} {g : Nat} {ts : List Tok} {gs : List (Nat × Nat)} (h : TkM base pb w g ts gs) (hb : Bt pb B w w') (hB : pb ≤ B) : TkM base pb w' g ts gs := h.below (hb.below hB (Nat.le_refl _))

theorem OwnT.tkm {base pb : Nat} {w : World} {v : Value} {ts : List Tok} {gs : List (Nat × Nat)} (h : OwnT base w v ts gs) (hpb : w.heap.size ≤ pb) :
    ∃ a cap g, v = .slice a ts.length cap ∧ (ts.length = 0 ∨ a = some ⟨g, 0, none⟩) ∧ ts.length ≤ cap ∧ cap ≤ 9223372036854775807 ∧ TkM base pb w g ts gs := by
  obtain ⟨h1, h2, h3, h4, h5⟩ := h
  have ht : ∀ i, i < ts.length → (ts.getD i Tok.zero).text ≠ [] → (base ≤ (gs.getD i (0, 0)).1 ∧ (gs.getD i (0, 0)).1 < pb) ∧ Row w (gs.getD i (0, 0)).1 (gs.getD i (0, 0)).2 (ts.getD i Tok.zero).text ∧ (gs.getD i (0, 0)).2 ≤ 9223372036854775807 := fun i hi hne =>
    ⟨⟨(h3 i hi hne).1, Nat.lt_of_lt_of_le (h3 i hi hne).2.1.lt hpb⟩, (h3 i hi hne).2⟩
  rcases h2.2 with ⟨hv, h0⟩ | ⟨g, cap, cur, hv, hg, hh, hc1, hc2, hc3, hc4⟩
  · exact ⟨none, 0, 0, by rw [hv, h0], .inl h0, by omega, by omega, .inl h0, fun i hi => by omega, ht, h4, h5⟩
  · subst hv
    unfold maxLen at hc2
    refine ⟨_, cap, g, rfl, .inr rfl, hc1, hc2, .inr ⟨hg, Nat.lt_of_lt_of_le (Array.getElem?_eq_some_iff.1 hh).1 hpb⟩, fun i hi => ?_, ht, h4, h5⟩
    obtain ⟨f0, f1, f2⟩ := flatT_get ts gs i h1 hi
    rw [h2.cellAt (i * 3) (by omega), h2.cellAt (i * 3 + 1) (by omega), h2.cellAt (i * 3 + 2) (by omega), f0, f1, f2]
    exact ⟨rfl, rfl, rfl⟩

/-- A token's word. -/
theorem TkM.word {base pb : Nat} {w : World} {g : Nat} {ts : List Tok} {gs : List (Nat × Nat)} (h : TkM base pb w g ts gs) {i : Nat} (hi : i < ts.length) :
    ∃ a c, txv (ts.getD i Tok.zero) (gs.getD i (0, 0)) = .slice a (wordI ts i).length c ∧ OwB w a (wordI ts i).length c (wordI ts i) (gs.getD i (0, 0)).1 0 ∧ Rd 0 pb w a (wordI ts i).length c (wordI ts i) ∧
      (wordI ts i ≠ [] → ∀ o, w.frozen? ⟨(gs.getD i (0, 0)).1, o, none⟩ = false) := by
  by_cases ht : (ts.getD i Tok.zero).text = []
  · have hw : wordI ts i = [] := ht
    refine ⟨none, 0, by rw [txv_nil _ ht, hw]; rfl, ?_, ?_, fun hn => absurd hw hn⟩
    · rw [hw]; exact ⟨rfl, ⟨by simp, by omega⟩, by simp, .inl rfl⟩
    · rw [hw]; exact Rd.none_of (by omega)
  · obtain ⟨t1, t2, t3⟩ := h.txt i hi ht
    have hle : (wordI ts i).length ≤ (gs.getD i (0, 0)).2 := by obtain ⟨c, _, _, h, _⟩ := t2; exact h
    refine ⟨_, _, txv_cons _ ht, ⟨rfl, ⟨hle, t3⟩, h.byte i hi, .inr ⟨rfl, fun j hj => ?_⟩⟩, t2.rd rfl (h.byte i hi) t3 (Nat.zero_le _) t1.2, fun _ o => t2.frozen o⟩
    rw [Nat.zero_add]; exact t2.cell hj

/-- The reader's box. -/
def BoxR (W : World) (b : Nat) (lv : Value) (en : Int) : Prop := W.heap[b]? = some (.cells #[lv, .int .i64 en] 114 (0, 0))

theorem BoxR.cells {W : World} {b : Nat} {lv : Value} {en : Int} (h : BoxR W b lv en) : W.cell? ⟨b, 0, none⟩ = some lv ∧ W.cell? ⟨b, 1, none⟩ = some (.int .i64 en) := by
  unfold BoxR at h
  constructor <;> simp [World.cell?, h]
theorem BoxR.frz {W : World} {b : Nat} {lv : Value} {en : Int} (h : BoxR W b lv en) (o : Nat) : W.frozen? ⟨b, o, none⟩ = false := by
  unfold BoxR at h
  simp [World.frozen?, h]
theorem BoxR.lt {W : World} {b : Nat} {lv : Value} {en : Int} (h : BoxR W b lv en) : b < W.heap.size := (Array.getElem?_eq_some_iff.1 h).1
theorem BoxR.set0 {W : World} {b : Nat} {lv : Value} {en : Int} (h : BoxR W b lv en) (v : Value) : BoxR (W.setCell ⟨b, 0, none⟩ v) b v en := by
  unfold BoxR
  rw [heap_setCell_same W b 0 _ _ v h]
  rfl
theorem BoxR.of {W W' : World} {b : Nat} {lv : Value} {en : Int} (h : BoxR W b lv en) (e : W'.heap[b]? = W.heap[b]?) : BoxR W' b lv en := e.trans h
theorem BoxR.new (W : World) (lv : Value) (en : Int) : BoxR (W.alloc (.cells #[lv, .int .i64 en] 114)) W.heap.size lv en := by
  show (W.heap.push _)[W.heap.size]? = _
  simp

/-- The reader stands at the token i. -/
def RdrAt (W : World) (pb g i : Nat) (ts : List Tok) (en : Int) : Prop := ∃ a c, BoxR W pb (.slice a (ts.length - i) c) en ∧ (ts.length = i ∨ a = some ⟨g, i * 3, none⟩) ∧ ts.length - i ≤ c ∧ c ≤ 9223372036854775807

theorem RdrAt.of {W W' : World} {pb g i : Nat} {ts : List Tok} {en : Int} (h : RdrAt W pb g i ts en) (e : W'.heap[pb]? = W.heap[pb]?) : RdrAt W' pb g i ts en := by
  obtain ⟨a, c, h1, h2⟩ := h
  exact ⟨a, c, h1.of e, h2⟩
theorem RdrAt.lt {W : World} {pb g i : Nat} {ts : List Tok} {en : Int} (h : RdrAt W pb g i ts en) : pb < W.heap.size := by
  obtain ⟨a, c, h1, h2⟩ := h
  exact h1.lt
theorem RdrAt.below {W W' : World} {pb g i : Nat} {ts : List Tok} {en : Int} (h : RdrAt W pb g i ts en) (hb : Below W.heap.size W W') : RdrAt W' pb g i ts en := h.of (hb.block _ h.lt)
end

section
open Go.RowKit Go.Shelf

attribute [local go_sem] Oper.semAt_some

/-- Token by token over the places at which pieces begin. -/
def goToks (zs : List Int) : List (PosOf zs) → List Tok → List Tok × Int
  | [], acc => (acc, -1)
  | x :: xs, acc => if kindOf (piece zs x.1) = 0 then ([], (x.1 : Int)) else goToks zs xs (acc ++ [tokAt zs x.1])

theorem goToks_pos (zs : List Int) : ∀ (f i : Nat) (acc : List Tok), goToks zs (posFrom zs f i) acc = toksFrom zs f i acc
  | 0, _, _ => rfl
  | f + 1, i, acc => by
    by_cases h : i < zs.length
    · cases hb : blankB (zs.getD i 0)
      · rw [posFrom_piece zs f i h hb]
        by_cases hk : kindOf (piece zs i) = 0
        · rw [toksFrom_bad zs f i acc h hb hk]; simp only [goToks]; rw [if_pos hk]
        · rw [toksFrom_tok zs f i acc h hb hk]; simp only [goToks]; rw [if_neg hk]; exact goToks_pos zs f _ _
      · rw [posFrom_blank zs f i h hb, toksFrom_blank zs f i acc h hb]; exact goToks_pos zs f _ _
    · rw [posFrom_stop zs _ i (by omega), toksFrom_stop zs _ i acc (by omega)]; rfl

def Good (zs : List Int) (xs : List (PosOf zs)) : Prop := ∀ x ∈ xs, kindOf (piece zs x.1) ≠ 0

theorem goToks_good (zs : List Int) : ∀ (xs : List (PosOf zs)) (acc : List Tok), Good zs xs → goToks zs xs acc = (acc ++ xs.map (fun x => tokAt zs x.1), -1)
  | [], acc, _ => by simp [goToks]
  | x :: xs, acc, h => by
    rw [goToks, if_neg (h x (by simp)), goToks_good zs xs _ (fun y hy => h y (by simp [hy]))]
    simp

theorem goToks_bad (zs : List Int) : ∀ (xs : List (PosOf zs)) (x : PosOf zs) (rest : List (PosOf zs)) (acc : List Tok), Good zs xs → kindOf (piece zs x.1) = 0 → goToks zs (xs ++ x :: rest) acc = ([], (x.1 : Int))
  | [], x, rest, acc, _, hk => by simp only [List.nil_append, goToks]; rw [if_pos hk]
  | y :: xs, x, rest, acc, h, hk => by
    rw [List.cons_append, goToks, if_neg (h y (by simp))]
    exact goToks_bad zs xs x rest _ (fun z hz => h z (by simp [hz])) hk

theorem wpIn_scope_wide {n : Nat} {P : Program} {c : Code} {Q : Exit → Act → World → Prop} {a : Act} {w : World} (h : c.wpIn Fence.wide n P (Exit.noGoto Q) a w) : (Code.scope c).wpIn Fence.wide n P Q a w := wpIn_wide.2 (wp_scope_straight (wpIn_wide.1 h))

set_option maxHeartbeats 400000 in
theorem implTokens_big (a : Option Addr) (n cap : Nat) (zs : List Int) (w : World) {lo hi : Nat} (h : Rd lo hi w a n cap zs) (hbig : 1500 < n) :
    Calls Tryz.prog 79 #[.slice a n cap] w fun e w' => ∃ v gs, e = .returned (.tuple #[v, .int .i64 (toks zs).2]) ∧ OwnT w.heap.size w' v (toks zs).1 gs ∧ Below w.heap.size w w' := by
  have HT : Hid (toks zs = ([], 0)) := by unfold Hid toks; rw [if_pos (by rw [h.len]; exact hbig)]
  clear h
  go_enter Tryz.func79, Tryz.ntmps79
  go_wp2
  go_step3
  go_wp2
  rw [Exit.noGoto_ret]
  go_ret2
  exact ⟨_, [], by rw [HT.out]; rfl, by rw [HT.out]; exact OwnT.nil _ _, Below.refl _ _⟩

theorem OwnT.of_cells {base : Nat} {W W' : World} {v : Value} {ts : List Tok} {gs : List (Nat × Nat)} (h : OwnT base W v ts gs)
    (hk : ∀ (g : Nat) (c : Array Value) (t : Nat), (t = 134 ∨ t = 5) → W.heap[g]? = some (Obj.cells c t (0, 0)) → W'.heap[g]? = some (Obj.cells c t (0, 0))) : OwnT base W' v ts gs := by
  obtain ⟨h1, h2, h3, h4, h5⟩ := h
  refine ⟨h1, ⟨h2.1, ?_⟩, fun i hi ht => ?_, h4, h5⟩
  · rcases h2.2 with h2 | ⟨g, cap, cur, hv, hg, hh, r⟩
    · exact .inl h2
    · exact .inr ⟨g, cap, cur, hv, hg, hk g _ _ (.inl rfl) hh, r⟩
  · obtain ⟨a, ⟨c, hc, r⟩, b⟩ := h3 i hi ht
    exact ⟨a, ⟨c, hk _ _ _ (.inr rfl) hc, r⟩, b⟩

theorem OwnT.noncells {base : Nat} {W W' : World} {v : Value} {ts : List Tok} {gs : List (Nat × Nat)} {row : Option Nat} (h : OwnT base W v ts gs) (hg : W.grownBy W' row)
    (hr : ∀ r, row = some r → ∃ o : Obj, W.heap[r]? = some o ∧ o.isCells = false) : OwnT base W' v ts gs :=
  h.of_cells fun g c t _ hh => (hg.block g (Array.getElem?_eq_some_iff.1 hh).1 (fun e => by
    obtain ⟨o, ho, hc⟩ := hr g e.symm
    rw [hh] at ho; cases ho; cases hc)).trans hh

theorem OwnT.setBox {base : Nat} {W : World} {v : Value} {ts : List Tok} {gs : List (Nat × Nat)} {B t : Nat} {u : Value} (h : OwnT base W v ts gs) (hb : Boxed W B t u) (h1 : t ≠ 134) (h2 : t ≠ 5) (x : Value) : OwnT base (W.setCell ⟨B, 0, none⟩ x) v ts gs :=
  h.of_cells fun g c t' ht hh => by
    have hne : g ≠ B := fun e => by
      rw [e, show W.heap[B]? = _ from hb] at hh
      simp at hh
      rcases ht with rfl | rfl
      · exact h1 hh.2
      · exact h2 hh.2
    rw [Below.heap_setCell W ⟨B, 0, none⟩ x g hne]; exact hh

/-- What is so between two rounds: the box of the list, the box of the bad place, the box of the text, the tokens so far. -/
structure InvT (s : Nat) (w W : World) (zs : List Int) (sv v : Value) (xs : List (PosOf zs)) (gs : List (Nat × Nat)) : Prop where
  list : Boxed W s 91 v
  bad : Boxed W (s + 1) 3 (.int .i64 (-1))
  text : Boxed W (s + 1 + 1) 22 sv
  own : OwnT s W v (xs.map (fun x => tokAt zs x.1)) gs
  good : Good zs xs
  bel : Below s w W

theorem InvT.noncells {s : Nat} {w W W' : World} {zs : List Int} {sv v : Value} {xs : List (PosOf zs)} {gs : List (Nat × Nat)} {row : Option Nat} (h : InvT s w W zs sv v xs gs) (hs : s ≤ W.heap.size) (hg : W.grownBy W' row)
    (hr : ∀ r, row = some r → s ≤ r ∧ ∃ o : Obj, W.heap[r]? = some o ∧ o.isCells = false) : InvT s w W' zs sv v xs gs :=
  ⟨boxed_noncells h.list hg fun r e => (hr r e).2, boxed_noncells h.bad hg fun r e => (hr r e).2, boxed_noncells h.text hg fun r e => (hr r e).2, h.own.noncells hg fun r e => (hr r e).2, h.good, h.bel.grown hg hs fun k e => (hr k e).1⟩

/-- A round that has found a token. -/
theorem round_tok {s : Nat} {w W Wb w2 : World} {zs : List Int} {sv v v' : Value} {xs : List (PosOf zs)} {ts : List Tok} {gs : List (Nat × Nat)} {x : PosOf zs} {kd : Int} {tv : Value} {g : Nat × Nat}
    (hs : s = w.heap.size) (hts : ts = xs.map (fun x => tokAt zs x.1)) (hI : InvT s w W zs sv v xs gs) (hWb : Below W.heap.size W Wb) (hkind : kindOf (piece zs x.1) ≠ 0) (hG : kd = (tokAt zs x.1).kind ∧ tv = txv (tokAt zs x.1) g)
    (hM : (tokAt zs x.1).text ≠ [] → W.heap.size ≤ g.1 ∧ Row Wb g.1 g.2 (tokAt zs x.1).text ∧ g.2 ≤ 9223372036854775807) (hby : ∀ i, 0 ≤ zs.getD i 0 ∧ zs.getD i 0 ≤ 255)
    (hown : w2.ownsRow s 134 3 v' (ts.length + 1) (flatT ts gs ++ [.int .i64 kd, .int .i64 (x.1 : Nat), tv])) (hgrow : Wb.grownBy w2 v.ownBlock) :
    ∃ g' cap', v' = .slice (some ⟨g', 0, none⟩) (ts.length + 1) cap' ∧ Boxed w2 s 91 v ∧ KeepsOthers W (w2.setCell ⟨s, 0, none⟩ v') ∧ KpT s (s + 1 + 1) W (w2.setCell ⟨s, 0, none⟩ v') ∧ InvT s w (w2.setCell ⟨s, 0, none⟩ v') zs sv v' (xs ++ [x]) (gs ++ [g]) := by
  subst hs
  obtain ⟨bL, bB, bS, hO, hgd, hBel⟩ := hI
  have hO1 := hO.below hWb
  have hB1 : Below w.heap.size w Wb := hBel.trans (hWb.mono hBel.size)
  have hnotrow : ∀ {B t u}, Boxed Wb B t u → t ≠ 134 → some B ≠ v.ownBlock := fun hb ht => Boxed.not_row hb ht hO1.row
  have bL1 := boxed_below bL hWb (Boxed.lt bL)
  have bB1 := boxed_below bB hWb (Boxed.lt bB)
  have bS1 := boxed_below bS hWb (Boxed.lt bS)
  have bL2 := Boxed.kept bL1 hgrow (hnotrow bL1 (by decide))
  have bB2 := Boxed.kept bB1 hgrow (hnotrow bB1 (by decide))
  have bS2 := Boxed.kept bS1 hgrow (hnotrow bS1 (by decide))
  rw [← hts] at hO hO1
  have hM' : (tokAt zs x.1).text ≠ [] → w.heap.size ≤ g.1 ∧ W.heap.size ≤ g.1 ∧ Row Wb g.1 g.2 (tokAt zs x.1).text ∧ g.2 ≤ 9223372036854775807 := fun ht => ⟨Nat.le_trans hBel.size (hM ht).1, (hM ht).1, (hM ht).2.1, (hM ht).2.2⟩
  have hS' : ∀ i, i < ts.length → (ts.getD i Tok.zero).text ≠ [] → (gs.getD i (0, 0)).1 < W.heap.size := fun i hi ht => (hO.txt i hi ht).2.1.lt
  have hstep := step_tok (w0 := w) (wr := W) (W := Wb) (w2 := w2) (u := v) (v' := v') (ts := ts) (gs := gs) (zs := zs) (k := x.1) (kd := kd) (tv := tv) (g := g) hO1 hB1 hG hM' hS' hby hown hgrow
  obtain ⟨g', cap', hv', hO2, hB2⟩ := hstep
  have hKO : KeepsOthers W (w2.setCell ⟨w.heap.size, 0, none⟩ v') := by
    refine ((keepsOthers_below hWb).trans (KeepsOthers.of_grownBy hgrow fun j o ej hj => ?_)).trans (KeepsOthers.setCell _ _ _)
    rcases hO1.row.2 with ⟨e, _⟩ | ⟨g1, cap1, cur, e, _, hgb, _⟩
    · rw [e] at ej; simp [Value.ownBlock] at ej
    · rw [e] at ej
      obtain rfl : g1 = j := by simpa [Value.ownBlock] using ej
      rw [hgb] at hj; cases hj; rfl
  have bS3 := boxed_setOther bS2 (B' := w.heap.size) (by omega) v'
  have hBW : Below w.heap.size W (w2.setCell ⟨w.heap.size, 0, none⟩ v') := by
    refine ((hWb.mono hBel.size).grown hgrow hB1.size fun j ej => ?_).setCell (p := ⟨w.heap.size, 0, none⟩) (Nat.le_refl _) v'
    rcases hO1.row.2 with ⟨e, _⟩ | ⟨g1, cap1, cur, e, hg1, _⟩
    · rw [e] at ej; simp [Value.ownBlock] at ej
    · rw [e] at ej
      obtain rfl : g1 = j := by simpa [Value.ownBlock] using ej
      exact hg1
  refine ⟨g', cap', hv', bL2, hKO, ⟨hBW, (show _ = _ from bS3).trans (show _ = _ from bS).symm⟩, Boxed.set v' bL2, boxed_setOther bB2 (by omega) v', bS3, ?_, ?_, hBel.trans hBW⟩
  · rw [List.map_append, List.map_cons, List.map_nil, ← hts]; exact hO2.setBox bL2 (by decide) (by decide) v'
  · intro y hy
    rcases List.mem_append.1 hy with h | h
    · exact hgd y h
    · simp at h; subst h; exact hkind
end

end Go.Proofs.YtckhjoancfbkfaaGreat
