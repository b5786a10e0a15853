/- The program's reader of a text's tokens: for every list of bytes it answers what 'toks' says, in memory of its own. -/
import Derived.Test.YthojlfcahhjfaaaImplTok2
import Derived.WalkMore
namespace Go.Proofs.Ythojlfcahhjfaaa
open Go.RowKit Go.Shelf

attribute [local go_sem] Oper.semAt_some

/-- Token by token over the places at which pieces begin. -/
def goToks (zs : List Int) : List (PosOf zs) → List Tok → List Tok × Int
  | [], acc => (acc, -1)
  | x :: xs, acc => if kindOf (piece zs x.1) = 0 then ([], (x.1 : Int)) else goToks zs xs (acc ++ [tokAt zs x.1])

theorem goToks_pos (zs : List Int) : ∀ (f i : Nat) (acc : List Tok), goToks zs (posFrom zs f i) acc = toksFrom zs f i acc
  | 0, _, _ => rfl
  | f + 1, i, acc => by
    by_cases h : i < zs.length
    · cases hb : blankB (zs.getD i 0)
      · rw [posFrom_piece zs f i h hb]
        by_cases hk : kindOf (piece zs i) = 0
        · rw [toksFrom_bad zs f i acc h hb hk]; simp only [goToks]; rw [if_pos hk]
        · rw [toksFrom_tok zs f i acc h hb hk]; simp only [goToks]; rw [if_neg hk]; exact goToks_pos zs f _ _
      · rw [posFrom_blank zs f i h hb, toksFrom_blank zs f i acc h hb]; exact goToks_pos zs f _ _
    · rw [posFrom_stop zs _ i (by omega), toksFrom_stop zs _ i acc (by omega)]; rfl

def Good (zs : List Int) (xs : List (PosOf zs)) : Prop := ∀ x ∈ xs, kindOf (piece zs x.1) ≠ 0

theorem goToks_good (zs : List Int) : ∀ (xs : List (PosOf zs)) (acc : List Tok), Good zs xs → goToks zs xs acc = (acc ++ xs.map (fun x => tokAt zs x.1), -1)
  | [], acc, _ => by simp [goToks]
  | x :: xs, acc, h => by
    rw [goToks, if_neg (h x (by simp)), goToks_good zs xs _ (fun y hy => h y (by simp [hy]))]
    simp

theorem goToks_bad (zs : List Int) : ∀ (xs : List (PosOf zs)) (x : PosOf zs) (rest : List (PosOf zs)) (acc : List Tok), Good zs xs → kindOf (piece zs x.1) = 0 → goToks zs (xs ++ x :: rest) acc = ([], (x.1 : Int))
  | [], x, rest, acc, _, hk => by simp only [List.nil_append, goToks]; rw [if_pos hk]
  | y :: xs, x, rest, acc, h, hk => by
    rw [List.cons_append, goToks, if_neg (h y (by simp))]
    exact goToks_bad zs xs x rest _ (fun z hz => h z (by simp [hz])) hk

theorem wpIn_scope_wide {n : Nat} {P : Program} {c : Code} {Q : Exit → Act → World → Prop} {a : Act} {w : World} (h : c.wpIn Fence.wide n P (Exit.noGoto Q) a w) : (Code.scope c).wpIn Fence.wide n P Q a w := wpIn_wide.2 (wp_scope_straight (wpIn_wide.1 h))

set_option maxHeartbeats 400000 in
theorem implTokens_big (a : Option Addr) (n cap : Nat) (zs : List Int) (w : World) {lo hi : Nat} (h : Rd lo hi w a n cap zs) (hbig : 1500 < n) :
    Calls Try.prog 11 #[.slice a n cap] w fun e w' => ∃ v gs, e = .returned (.tuple #[v, .int .i64 (toks zs).2]) ∧ OwnT w.heap.size w' v (toks zs).1 gs ∧ Below w.heap.size w w' := by
  have HT : Hid (toks zs = ([], 0)) := by unfold Hid toks; rw [if_pos (by rw [h.len]; exact hbig)]
  clear h
  go_enter Try.func11, Try.ntmps11
  go_wp2
  go_step3
  go_wp2
  rw [Exit.noGoto_ret]
  go_ret2
  exact ⟨_, [], by rw [HT.out]; rfl, by rw [HT.out]; exact OwnT.nil _ _, Below.refl _ _⟩

theorem OwnT.of_cells {base : Nat} {W W' : World} {v : Value} {ts : List Tok} {gs : List (Nat × Nat)} (h : OwnT base W v ts gs)
    (hk : ∀ (g : Nat) (c : Array Value) (t : Nat), (t = 30 ∨ t = 5) → W.heap[g]? = some (Obj.cells c t (0, 0)) → W'.heap[g]? = some (Obj.cells c t (0, 0))) : OwnT base W' v ts gs := by
  obtain ⟨h1, h2, h3, h4, h5⟩ := h
  refine ⟨h1, ⟨h2.1, ?_⟩, fun i hi ht => ?_, h4, h5⟩
  · rcases h2.2 with h2 | ⟨g, cap, cur, hv, hg, hh, r⟩
    · exact .inl h2
    · exact .inr ⟨g, cap, cur, hv, hg, hk g _ _ (.inl rfl) hh, r⟩
  · obtain ⟨a, ⟨c, hc, r⟩, b⟩ := h3 i hi ht
    exact ⟨a, ⟨c, hk _ _ _ (.inr rfl) hc, r⟩, b⟩

theorem OwnT.noncells {base : Nat} {W W' : World} {v : Value} {ts : List Tok} {gs : List (Nat × Nat)} {row : Option Nat} (h : OwnT base W v ts gs) (hg : W.grownBy W' row)
    (hr : ∀ r, row = some r → ∃ o : Obj, W.heap[r]? = some o ∧ o.isCells = false) : OwnT base W' v ts gs :=
  h.of_cells fun g c t _ hh => (hg.block g (Array.getElem?_eq_some_iff.1 hh).1 (fun e => by
    obtain ⟨o, ho, hc⟩ := hr g e.symm
    rw [hh] at ho; cases ho; cases hc)).trans hh

theorem boxed_noncells {W W' : World} {B t : Nat} {v : Value} {row : Option Nat} (h : Boxed W B t v) (hg : W.grownBy W' row)
    (hr : ∀ r, row = some r → ∃ o : Obj, W.heap[r]? = some o ∧ o.isCells = false) : Boxed W' B t v :=
  h.kept hg (fun e => by
    obtain ⟨o, ho, hc⟩ := hr B e.symm
    rw [show W.heap[B]? = _ from h] at ho; cases ho; cases hc)

theorem OwnT.setBox {base : Nat} {W : World} {v : Value} {ts : List Tok} {gs : List (Nat × Nat)} {B t : Nat} {u : Value} (h : OwnT base W v ts gs) (hb : Boxed W B t u) (h1 : t ≠ 30) (h2 : t ≠ 5) (x : Value) : OwnT base (W.setCell ⟨B, 0, none⟩ x) v ts gs :=
  h.of_cells fun g c t' ht hh => by
    have hne : g ≠ B := fun e => by
      rw [e, show W.heap[B]? = _ from hb] at hh
      simp at hh
      rcases ht with rfl | rfl
      · exact h1 hh.2
      · exact h2 hh.2
    rw [Below.heap_setCell W ⟨B, 0, none⟩ x g hne]; exact hh

theorem boxed_setOther {W : World} {B t : Nat} {v : Value} (h : Boxed W B t v) {B' : Nat} (hne : B ≠ B') (x : Value) : Boxed (W.setCell ⟨B', 0, none⟩ x) B t v :=
  (Below.heap_setCell W ⟨B', 0, none⟩ x B hne).trans h

theorem boxed_below {W W' : World} {B t : Nat} {v : Value} (h : Boxed W B t v) {n : Nat} (hb : Below n W W') (hn : B < n) : Boxed W' B t v := (hb.block B hn).trans h

theorem keepsOthers_below {W W' : World} (h : Below W.heap.size W W') : KeepsOthers W W' := ⟨h.size, fun k _ hk _ => (h.block k (Array.getElem?_eq_some_iff.1 hk).1).trans hk⟩

/-- What is so between two rounds: the box of the list, the box of the bad place, the box of the text, the tokens so far. -/
structure InvT (s : Nat) (w W : World) (zs : List Int) (sv v : Value) (xs : List (PosOf zs)) (gs : List (Nat × Nat)) : Prop where
  list : Boxed W s 24 v
  bad : Boxed W (s + 1) 3 (.int .i64 (-1))
  text : Boxed W (s + 1 + 1) 22 sv
  own : OwnT s W v (xs.map (fun x => tokAt zs x.1)) gs
  good : Good zs xs
  bel : Below s w W

theorem InvT.noncells {s : Nat} {w W W' : World} {zs : List Int} {sv v : Value} {xs : List (PosOf zs)} {gs : List (Nat × Nat)} {row : Option Nat} (h : InvT s w W zs sv v xs gs) (hs : s ≤ W.heap.size) (hg : W.grownBy W' row)
    (hr : ∀ r, row = some r → s ≤ r ∧ ∃ o : Obj, W.heap[r]? = some o ∧ o.isCells = false) : InvT s w W' zs sv v xs gs :=
  ⟨boxed_noncells h.list hg fun r e => (hr r e).2, boxed_noncells h.bad hg fun r e => (hr r e).2, boxed_noncells h.text hg fun r e => (hr r e).2, h.own.noncells hg fun r e => (hr r e).2, h.good, h.bel.grown hg hs fun k e => (hr k e).1⟩

/-- A round that has found a token. -/
theorem round_tok {s : Nat} {w W Wb w2 : World} {zs : List Int} {sv v v' : Value} {xs : List (PosOf zs)} {ts : List Tok} {gs : List (Nat × Nat)} {x : PosOf zs} {kd : Int} {tv : Value} {g : Nat × Nat}
    (hs : s = w.heap.size) (hts : ts = xs.map (fun x => tokAt zs x.1)) (hI : InvT s w W zs sv v xs gs) (hWb : Below W.heap.size W Wb) (hkind : kindOf (piece zs x.1) ≠ 0) (hG : kd = (tokAt zs x.1).kind ∧ tv = txv (tokAt zs x.1) g)
    (hM : (tokAt zs x.1).text ≠ [] → W.heap.size ≤ g.1 ∧ Row Wb g.1 g.2 (tokAt zs x.1).text ∧ g.2 ≤ 9223372036854775807) (hby : ∀ i, 0 ≤ zs.getD i 0 ∧ zs.getD i 0 ≤ 255)
    (hown : w2.ownsRow s 30 3 v' (ts.length + 1) (flatT ts gs ++ [.int .i64 kd, .int .i64 (x.1 : Nat), tv])) (hgrow : Wb.grownBy w2 v.ownBlock) :
    ∃ g' cap', v' = .slice (some ⟨g', 0, none⟩) (ts.length + 1) cap' ∧ Boxed w2 s 24 v ∧ KeepsOthers W (w2.setCell ⟨s, 0, none⟩ v') ∧ KpT s (s + 1 + 1) W (w2.setCell ⟨s, 0, none⟩ v') ∧ InvT s w (w2.setCell ⟨s, 0, none⟩ v') zs sv v' (xs ++ [x]) (gs ++ [g]) := by
  subst hs
  obtain ⟨bL, bB, bS, hO, hgd, hBel⟩ := hI
  have hO1 := hO.below hWb
  have hB1 : Below w.heap.size w Wb := hBel.trans (hWb.mono hBel.size)
  have hnotrow : ∀ {B t u}, Boxed Wb B t u → t ≠ 30 → some B ≠ v.ownBlock := fun hb ht => Boxed.not_row hb ht hO1.row
  have bL1 := boxed_below bL hWb (Boxed.lt bL)
  have bB1 := boxed_below bB hWb (Boxed.lt bB)
  have bS1 := boxed_below bS hWb (Boxed.lt bS)
  have bL2 := Boxed.kept bL1 hgrow (hnotrow bL1 (by decide))
  have bB2 := Boxed.kept bB1 hgrow (hnotrow bB1 (by decide))
  have bS2 := Boxed.kept bS1 hgrow (hnotrow bS1 (by decide))
  rw [← hts] at hO hO1
  have hM' : (tokAt zs x.1).text ≠ [] → w.heap.size ≤ g.1 ∧ W.heap.size ≤ g.1 ∧ Row Wb g.1 g.2 (tokAt zs x.1).text ∧ g.2 ≤ 9223372036854775807 := fun ht => ⟨Nat.le_trans hBel.size (hM ht).1, (hM ht).1, (hM ht).2.1, (hM ht).2.2⟩
  have hS' : ∀ i, i < ts.length → (ts.getD i Tok.zero).text ≠ [] → (gs.getD i (0, 0)).1 < W.heap.size := fun i hi ht => (hO.txt i hi ht).2.1.lt
  have hstep := step_tok (w0 := w) (wr := W) (W := Wb) (w2 := w2) (u := v) (v' := v') (ts := ts) (gs := gs) (zs := zs) (k := x.1) (kd := kd) (tv := tv) (g := g) hO1 hB1 hG hM' hS' hby hown hgrow
  obtain ⟨g', cap', hv', hO2, hB2⟩ := hstep
  have hKO : KeepsOthers W (w2.setCell ⟨w.heap.size, 0, none⟩ v') := by
    refine ((keepsOthers_below hWb).trans (KeepsOthers.of_grownBy hgrow fun j o ej hj => ?_)).trans (KeepsOthers.setCell _ _ _)
    rcases hO1.row.2 with ⟨e, _⟩ | ⟨g1, cap1, cur, e, _, hgb, _⟩
    · rw [e] at ej; simp [Value.ownBlock] at ej
    · rw [e] at ej
      obtain rfl : g1 = j := by simpa [Value.ownBlock] using ej
      rw [hgb] at hj; cases hj; rfl
  have bS3 := boxed_setOther bS2 (B' := w.heap.size) (by omega) v'
  have hBW : Below w.heap.size W (w2.setCell ⟨w.heap.size, 0, none⟩ v') := by
    refine ((hWb.mono hBel.size).grown hgrow hB1.size fun j ej => ?_).setCell (p := ⟨w.heap.size, 0, none⟩) (Nat.le_refl _) v'
    rcases hO1.row.2 with ⟨e, _⟩ | ⟨g1, cap1, cur, e, hg1, _⟩
    · rw [e] at ej; simp [Value.ownBlock] at ej
    · rw [e] at ej
      obtain rfl : g1 = j := by simpa [Value.ownBlock] using ej
      exact hg1
  refine ⟨g', cap', hv', bL2, hKO, ⟨hBW, (show _ = _ from bS3).trans (show _ = _ from bS).symm⟩, Boxed.set v' bL2, boxed_setOther bB2 (by omega) v', bS3, ?_, ?_, hBel.trans hBW⟩
  · rw [List.map_append, List.map_cons, List.map_nil, ← hts]; exact hO2.setBox bL2 (by decide) (by decide) v'
  · intro y hy
    rcases List.mem_append.1 hy with h | h
    · exact hgd y h
    · simp at h; subst h; exact hkind

end Go.Proofs.Ythojlfcahhjfaaa
