/- Several texts in one: ConSpO, ConNnfS, ConOwnS, ImplTok3. -/
import Derived.Test.YtnmljalcndfjmaaGreatNG11
import Derived.Test.YtnmljalcndfjmaaGreatNG9
import Derived.Deep.RegionLawGrows
import Derived.Deep.RegionHeldLaw
import Derived.Test.YtnmljalcndfjmaaGreatNG10
import Derived.WalkMore
namespace Go.Proofs.YtnmljalcndfjmaaGreat

section
open Go.RowKit

/-- What is under way: its box, its name and role, and the kids so far; each kid's memory lies below h0 or from BW on. -/
structure InvS (W0 : World) (h0 BW ob d : Nat) (k : Int) (nv rv : Value) (name role : List Int) (bn on br orr : Nat) (wr : World) (kv : Value) (cs : List CN) (Ls : List (List (Addr × IntKind))) (xs : List Value) : Prop where
  row : RowK BW wr d kv cs Ls xs
  lay : ∀ x ∈ Ls.flatten, x.1.block < h0 ∨ BW ≤ x.1.block
  box : BoxC wr ob (.int .i64 k) nv rv kv
  nam : ∃ a c, nv = .slice a name.length c ∧ OwB wr a name.length c name bn on
  rol : ∃ a c, rv = .slice a role.length c ∧ OwB wr a role.length c role br orr
  bel : Below W0.heap.size W0 wr
  sz : BW ≤ wr.heap.size

structure StatS (W0 : World) (h0 BW ob : Nat) (name role : List Int) (bn br : Nat) : Prop where
  o1 : ob < BW
  o0 : W0.heap.size ≤ ob
  h0 : h0 ≤ W0.heap.size
  n1 : name.length = 0 ∨ (bn < BW ∧ bn ≠ ob)
  r1 : role.length = 0 ∨ (br < BW ∧ br ≠ ob)

theorem OwB.keep' {w w' : World} {a : Option Addr} {n cap : Nat} {zs : List Int} {b off : Nat} (h : OwB w a n cap zs b off) (hk : n = 0 ∨ w'.heap[b]? = w.heap[b]?) : OwB w' a n cap zs b off :=
  h.keep (fun x hx => by
    obtain ⟨j, hj, rfl⟩ := mem_leafB.1 hx
    rcases hk with e | e
    · omega
    · exact e)

theorem OwB.blt {w : World} {a : Option Addr} {n cap : Nat} {zs : List Int} {b off : Nat} (h : OwB w a n cap zs b off) : n = 0 ∨ b < w.heap.size := by
  rcases h.cells with e | ⟨_, hc⟩
  · exact .inl e
  · by_cases hn : n = 0
    · exact .inl hn
    · exact .inr (block_lt_of_cell (hc 0 (by omega)))

theorem InvS.below {W0 wr w' : World} {h0 BW ob d : Nat} {k : Int} {nv rv kv : Value} {name role : List Int} {bn on br orr : Nat} {cs : List CN} {Ls : List (List (Addr × IntKind))} {xs : List Value} (h : InvS W0 h0 BW ob d k nv rv name role bn on br orr wr kv cs Ls xs) (hb : Below wr.heap.size wr w') :
    InvS W0 h0 BW ob d k nv rv name role bn on br orr w' kv cs Ls xs := by
  have hs := hb.size
  obtain ⟨na, nc, hn1, hn2⟩ := h.nam
  obtain ⟨ra, rc, hr1, hr2⟩ := h.rol
  refine ⟨h.row.below hb, h.lay, h.box.below hb h.box.lt, ⟨na, nc, hn1, hn2.keep' ?_⟩, ⟨ra, rc, hr1, hr2.keep' ?_⟩, h.bel.trans (hb.mono h.bel.size), Nat.le_trans h.sz hs⟩
  · rcases hn2.blt with e | e
    · exact .inl e
    · exact .inr (hb.block _ e)
  · rcases hr2.blt with e | e
    · exact .inl e
    · exact .inr (hb.block _ e)

theorem InvS.app {W0 W w6 : World} {h0 BW ob d : Nat} {k : Int} {nv rv kv : Value} {name role : List Int} {bn on br orr : Nat} {cs : List CN} {Ls : List (List (Addr × IntKind))} {xs : List Value} (hS : StatS W0 h0 BW ob name role bn br) (h : InvS W0 h0 BW ob d k nv rv name role bn on br orr W kv cs Ls xs)
    {c : CN} {L : List (Addr × IntKind)} {v0 v1 v2 v3 : Value} {B g cap n : Nat} (hc : OwC W d (.agg #[v0, v1, v2, v3]) c L) (hl : ∀ x ∈ L, (x.1.block < h0 ∨ B ≤ x.1.block) ∧ x.1.block < W.heap.size) (hB : BW ≤ B) (hkB : ∀ g, kv.ownBlock = some g → g < B) (hn : n = cs.length + 1)
    (hown : w6.ownsRow BW 30 4 (.slice (some ⟨g, 0, none⟩) n cap) n (xs ++ [v0, v1, v2, v3])) (hgrow : W.grownBy w6 kv.ownBlock) (hat : kv.ownBlock = some g ∨ g = W.heap.size) :
    BoxC w6 ob (.int .i64 k) nv rv kv ∧ InvS W0 h0 BW ob d k nv rv name role bn on br orr (w6.setCell ⟨ob, 3, none⟩ (.slice (some ⟨g, 0, none⟩) n cap)) (.slice (some ⟨g, 0, none⟩) n cap) (cs ++ [c]) (Ls ++ [L]) (xs ++ [v0, v1, v2, v3]) := by
  subst hn
  have hkl := h.row.row.lt
  have ho1 := hS.o1
  have ho0 := hS.o0
  have hh0 := hS.h0
  have hkne : ∀ b, b < BW → kv.ownBlock ≠ some b := fun b hb e => by have := hkl b e; omega
  have hbox6 : BoxC w6 ob (.int .i64 k) nv rv kv := (hgrow.block ob h.box.lt (fun e => hkne ob hS.o1 e.symm)).trans h.box
  have hoffL : ∀ x ∈ L, kv.ownBlock ≠ some x.1.block := fun x hx e => by
    have h1 := hkB _ e
    have h2 := hkl _ e
    have h3 := (hl x hx).1
    omega
  have hrow6 : RowK BW w6 d (.slice (some ⟨g, 0, none⟩) (cs.length + 1) cap) (cs ++ [c]) (Ls ++ [L]) (xs ++ [v0, v1, v2, v3]) :=
    h.row.snoc hc (fun x hx => (hl x hx).2) hoffL hown hgrow (by
      rcases hat with e | e
      · exact .inl (by rw [e]; rfl)
      · exact .inr (by rw [← e]; rfl))
  have hlay6 : ∀ x ∈ (Ls ++ [L]).flatten, x.1.block < h0 ∨ BW ≤ x.1.block := by
    intro x hx
    simp only [List.flatten_append, List.mem_append, List.flatten_cons, List.flatten_nil, List.append_nil] at hx
    rcases hx with hx | hx
    · exact h.lay x hx
    · have := (hl x hx).1; omega
  have hgl := hown.lt g rfl
  obtain ⟨na, nc, hn1, hn2⟩ := h.nam
  obtain ⟨ra, rc, hr1, hr2⟩ := h.rol
  have hbel6 : Below W0.heap.size W0 w6 := h.bel.grown hgrow h.bel.size (fun x hx => by have := hkl x hx; omega)
  refine ⟨hbox6, ⟨hrow6.set 3 _ (fun x hx => by have := hlay6 x hx; omega) (fun e => by simp only [Value.ownBlock, Option.some.injEq] at e; omega), hlay6, hbox6.set3 _, ⟨na, nc, hn1, hn2.keep' ?_⟩, ⟨ra, rc, hr1, hr2.keep' ?_⟩, hbel6.setCell ho0 _, ?_⟩⟩
  · rcases hS.n1 with e | ⟨e1, e2⟩
    · exact .inl e
    · rcases hn2.blt with e | e
      · exact .inl e
      · exact .inr ((Below.heap_setCell w6 ⟨ob, 3, none⟩ _ bn e2).trans (hgrow.block bn e (fun e' => hkne bn e1 e'.symm)))
  · rcases hS.r1 with e | ⟨e1, e2⟩
    · exact .inl e
    · rcases hr2.blt with e | e
      · exact .inl e
      · exact .inr ((Below.heap_setCell w6 ⟨ob, 3, none⟩ _ br e2).trans (hgrow.block br e (fun e' => hkne br e1 e'.symm)))
  · have := h.sz
    have := hgrow.size
    simp; omega

/-- The whole. -/
theorem InvS.done {W0 wr : World} {h0 BW ob d : Nat} {k : Int} {nv rv kv : Value} {name role : List Int} {bn on br orr : Nat} {cs : List CN} {Ls : List (List (Addr × IntKind))} {xs : List Value} (h : InvS W0 h0 BW ob d k nv rv name role bn on br orr wr kv cs Ls xs) (P : Nat → Prop)
    (hn : name.length = 0 ∨ P bn) (hr : role.length = 0 ∨ P br) (hk : ∀ b, b < wr.heap.size → b < h0 ∨ BW ≤ b → P b) :
    ∃ L, OwC wr (d + 1) (.agg #[.int .i64 k, nv, rv, kv]) (.mk k name role cs) L ∧ ∀ x ∈ L, P x.1.block ∧ x.1.block < wr.heap.size := by
  obtain ⟨na, nc, rfl, hn2⟩ := h.nam
  obtain ⟨ra, rc, rfl, hr2⟩ := h.rol
  obtain ⟨ka, kc, bk, rfl, ok, fk⟩ := h.row.owL
  refine ⟨_, ⟨_, _, _, _, _, _, _, _, _, bn, on, br, orr, bk, 0, _, rfl, hn2, hr2, ok, rfl⟩, fun x hx => ?_⟩
  simp only [List.mem_append] at hx
  rcases hx with hx | hx | hx
  · obtain ⟨j, hj, rfl⟩ := mem_leafB.1 hx
    have h1 := hn2.blt
    rcases hn with e | e
    · omega
    · exact ⟨e, by show bn < _; omega⟩
  · obtain ⟨j, hj, rfl⟩ := mem_leafB.1 hx
    have h1 := hr2.blt
    rcases hr with e | e
    · omega
    · exact ⟨e, by show br < _; omega⟩
  · rcases mem_leafK.1 hx with ⟨i, hi, rfl | hx⟩
    · rcases fk with e | ⟨_, q1, q2, _⟩
      · omega
      · exact ⟨hk bk q2 (.inr q1), q2⟩
    · have hx := getD_mem_flatten hx
      exact ⟨hk _ (h.row.lt x hx) (h.lay x hx), h.row.lt x hx⟩
end

section
open Go.RowKit
end

section
open Go.RowKit

/-- Bytes in new memory. -/
def Fr (base : Nat) (w : World) (v : Value) (zs : List Int) (b : Nat) : Prop := ∃ a c, v = .slice a zs.length c ∧ OwB w a zs.length c zs b 0 ∧ (zs.length = 0 ∨ (base ≤ b ∧ b < w.heap.size))

theorem Fr.isSlice {base : Nat} {w : World} {v : Value} {zs : List Int} {b : Nat} (h : Fr base w v zs b) : ∃ a n c, v = .slice a n c := by
  obtain ⟨a, c, h, _⟩ := h
  exact ⟨_, _, _, h⟩

theorem Fr.below {base : Nat} {w w' : World} {v : Value} {zs : List Int} {b : Nat} (h : Fr base w v zs b) (hb : Below w.heap.size w w') : Fr base w' v zs b := by
  obtain ⟨a, c, h1, h2, h3⟩ := h
  refine ⟨a, c, h1, h2.keep' ?_, ?_⟩
  · rcases h3 with e | e
    · exact .inl e
    · exact .inr (hb.block _ e.2)
  · rcases h3 with e | e
    · exact .inl e
    · exact .inr ⟨e.1, Nat.lt_of_lt_of_le e.2 hb.size⟩

theorem Fr.mono {base base' : Nat} {w : World} {v : Value} {zs : List Int} {b : Nat} (h : Fr base w v zs b) (hb : base' ≤ base) : Fr base' w v zs b := by
  obtain ⟨a, c, h1, h2, h3⟩ := h
  refine ⟨a, c, h1, h2, ?_⟩
  rcases h3 with e | e
  · exact .inl e
  · exact .inr ⟨by omega, e.2⟩

theorem Fr.notBox {base : Nat} {w : World} {v : Value} {zs : List Int} {b o : Nat} {k : Int} {v1 v2 v3 : Value} (h : Fr base w v zs b) (hb : BoxC w o (.int .i64 k) v1 v2 v3) : zs.length = 0 ∨ b ≠ o := by
  obtain ⟨a, c, h1, h2, h3⟩ := h
  by_cases hz : zs.length = 0
  · exact .inl hz
  · refine .inr (fun e => ?_)
    subst e
    rcases h2.cells with e | ⟨_, hc⟩
    · exact hz e
    · have := hc 0 (by omega)
      rw [Nat.add_zero, hb.cells.1] at this
      simp at this

/-- What is made ahead of the kids. -/
structure PreS (W0 W : World) (ov : Value) (k : Int) (name role : List Int) (ob bn br : Nat) (nv rv : Value) : Prop where
  ptr : ov = .pointer (some ⟨ob, 0, none⟩)
  box : BoxC W ob (.int .i64 k) nv rv (.slice none 0 0)
  ge : W0.heap.size ≤ ob
  bel : Below W0.heap.size W0 W
  nam : Fr W0.heap.size W nv name bn
  nne : name.length = 0 ∨ bn ≠ ob
  rol : Fr W0.heap.size W rv role br
  rne : role.length = 0 ∨ br ≠ ob

theorem PreS.last {W0 w1 w2 : World} {k : Int} {nv rv : Value} {name role : List Int} {bn br : Nat} (h1 : Fr W0.heap.size w1 nv name bn) (b1 : Below W0.heap.size W0 w1) (h2 : Fr w1.heap.size w2 rv role br) (b2 : Below w1.heap.size w1 w2) :
    PreS W0 (w2.alloc (.cells #[.int .i64 k, nv, rv, .slice none 0 0] 30)) (.pointer (some ⟨w2.heap.size, 0, none⟩)) k name role w2.heap.size bn br nv rv := by
  have hs1 := b1.size
  have hs2 := b2.size
  have b3 : Below w2.heap.size w2 (w2.alloc (.cells #[.int .i64 k, nv, rv, .slice none 0 0] 30)) := (Below.refl _ _).alloc (Nat.le_refl _) _
  have hn2 := (h1.below b2)
  refine ⟨rfl, BoxC.new w2 _ _ _ _, by omega, (b1.trans (b2.mono hs1)).trans (b3.mono (by omega)), hn2.below b3, ?_, (h2.mono hs1).below b3, ?_⟩
  · obtain ⟨_, _, _, _, e | e⟩ := hn2
    · exact .inl e
    · exact .inr (by omega)
  · obtain ⟨_, _, _, _, e | e⟩ := h2
    · exact .inl e
    · exact .inr (by omega)

theorem PreS.set {W0 w1 w2 : World} {k : Int} {nv rv : Value} {name role : List Int} {bn br ob : Nat} {z : Int} {z1 z2 z3 : Value} (h1 : Fr W0.heap.size w1 nv name bn) (b1 : Below W0.heap.size W0 w1) (h2 : Fr w1.heap.size w2 rv role br) (b2 : Below w1.heap.size w1 w2) (hb : BoxC w2 ob (.int .i64 z) z1 z2 z3) (ho : W0.heap.size ≤ ob) :
    PreS W0 ((((w2.setCell ⟨ob, 0, none⟩ (.int .i64 k)).setCell ⟨ob, 1, none⟩ nv).setCell ⟨ob, 2, none⟩ rv).setCell ⟨ob, 3, none⟩ (.slice none 0 0)) (.pointer (some ⟨ob, 0, none⟩)) k name role ob bn br nv rv := by
  have hs1 := b1.size
  have hn2 := (h1.below b2)
  have hr2 := h2.mono hs1
  have en := hn2.notBox hb
  have er := hr2.notBox hb
  have hsz : ((((w2.setCell ⟨ob, 0, none⟩ (.int .i64 k)).setCell ⟨ob, 1, none⟩ nv).setCell ⟨ob, 2, none⟩ rv).setCell ⟨ob, 3, none⟩ (.slice none 0 0)).heap.size = w2.heap.size := by simp
  have keep : ∀ {base b : Nat} {v : Value} {zs : List Int}, Fr base w2 v zs b → (zs.length = 0 ∨ b ≠ ob) → Fr base ((((w2.setCell ⟨ob, 0, none⟩ (.int .i64 k)).setCell ⟨ob, 1, none⟩ nv).setCell ⟨ob, 2, none⟩ rv).setCell ⟨ob, 3, none⟩ (.slice none 0 0)) v zs b := by
    intro base b v zs h e
    obtain ⟨a, c, q1, q2, q3⟩ := h
    refine ⟨a, c, q1, q2.keep' ?_, ?_⟩
    · rcases e with e | e
      · exact .inl e
      · exact .inr (heap_set4 _ _ _ _ _ e)
    · rw [hsz]; exact q3
  exact ⟨rfl, hb.set4 _ _ _ _, ho, ((((b1.trans (b2.mono hs1)).setCell ho _).setCell ho _).setCell ho _).setCell ho _, keep hn2 en, en, keep hr2 er, er⟩
end

section
open Go.RowKit Go.Shelf

attribute [local go_sem] Oper.semAt_some

/-- Token by token over the places at which pieces begin. -/
def goToks (zs : List Int) : List (PosOf zs) → List Tok → List Tok × Int
  | [], acc => (acc, -1)
  | x :: xs, acc => if kindOf (piece zs x.1) = 0 then ([], (x.1 : Int)) else goToks zs xs (acc ++ [tokAt zs x.1])

theorem goToks_pos (zs : List Int) : ∀ (f i : Nat) (acc : List Tok), goToks zs (posFrom zs f i) acc = toksFrom zs f i acc
  | 0, _, _ => rfl
  | f + 1, i, acc => by
    by_cases h : i < zs.length
    · cases hb : blankB (zs.getD i 0)
      · rw [posFrom_piece zs f i h hb]
        by_cases hk : kindOf (piece zs i) = 0
        · rw [toksFrom_bad zs f i acc h hb hk]; simp only [goToks]; rw [if_pos hk]
        · rw [toksFrom_tok zs f i acc h hb hk]; simp only [goToks]; rw [if_neg hk]; exact goToks_pos zs f _ _
      · rw [posFrom_blank zs f i h hb, toksFrom_blank zs f i acc h hb]; exact goToks_pos zs f _ _
    · rw [posFrom_stop zs _ i (by omega), toksFrom_stop zs _ i acc (by omega)]; rfl

def Good (zs : List Int) (xs : List (PosOf zs)) : Prop := ∀ x ∈ xs, kindOf (piece zs x.1) ≠ 0

theorem goToks_good (zs : List Int) : ∀ (xs : List (PosOf zs)) (acc : List Tok), Good zs xs → goToks zs xs acc = (acc ++ xs.map (fun x => tokAt zs x.1), -1)
  | [], acc, _ => by simp [goToks]
  | x :: xs, acc, h => by
    rw [goToks, if_neg (h x (by simp)), goToks_good zs xs _ (fun y hy => h y (by simp [hy]))]
    simp

theorem goToks_bad (zs : List Int) : ∀ (xs : List (PosOf zs)) (x : PosOf zs) (rest : List (PosOf zs)) (acc : List Tok), Good zs xs → kindOf (piece zs x.1) = 0 → goToks zs (xs ++ x :: rest) acc = ([], (x.1 : Int))
  | [], x, rest, acc, _, hk => by simp only [List.nil_append, goToks]; rw [if_pos hk]
  | y :: xs, x, rest, acc, h, hk => by
    rw [List.cons_append, goToks, if_neg (h y (by simp))]
    exact goToks_bad zs xs x rest _ (fun z hz => h z (by simp [hz])) hk

theorem wpIn_scope_wide {n : Nat} {P : Program} {c : Code} {Q : Exit → Act → World → Prop} {a : Act} {w : World} (h : c.wpIn Fence.wide n P (Exit.noGoto Q) a w) : (Code.scope c).wpIn Fence.wide n P Q a w := wpIn_wide.2 (wp_scope_straight (wpIn_wide.1 h))

set_option maxHeartbeats 400000 in
theorem implTokens_big (a : Option Addr) (n cap : Nat) (zs : List Int) (w : World) {lo hi : Nat} (h : Rd lo hi w a n cap zs) (hbig : 1500 < n) :
    Calls Tryz.prog 137 #[.slice a n cap] w fun e w' => ∃ v gs, e = .returned (.tuple #[v, .int .i64 (toks zs).2]) ∧ OwnT w.heap.size w' v (toks zs).1 gs ∧ Below w.heap.size w w' := by
  have HT : Hid (toks zs = ([], 0)) := by unfold Hid toks; rw [if_pos (by rw [h.len]; exact hbig)]
  clear h
  go_enter Tryz.func137, Tryz.ntmps137
  go_wp2
  go_step3
  go_wp2
  rw [Exit.noGoto_ret]
  go_ret2
  exact ⟨_, [], by rw [HT.out]; rfl, by rw [HT.out]; exact OwnT.nil _ _, Below.refl _ _⟩

theorem OwnT.of_cells {base : Nat} {W W' : World} {v : Value} {ts : List Tok} {gs : List (Nat × Nat)} (h : OwnT base W v ts gs)
    (hk : ∀ (g : Nat) (c : Array Value) (t : Nat), (t = 176 ∨ t = 5) → W.heap[g]? = some (Obj.cells c t (0, 0)) → W'.heap[g]? = some (Obj.cells c t (0, 0))) : OwnT base W' v ts gs := by
  obtain ⟨h1, h2, h3, h4, h5⟩ := h
  refine ⟨h1, ⟨h2.1, ?_⟩, fun i hi ht => ?_, h4, h5⟩
  · rcases h2.2 with h2 | ⟨g, cap, cur, hv, hg, hh, r⟩
    · exact .inl h2
    · exact .inr ⟨g, cap, cur, hv, hg, hk g _ _ (.inl rfl) hh, r⟩
  · obtain ⟨a, ⟨c, hc, r⟩, b⟩ := h3 i hi ht
    exact ⟨a, ⟨c, hk _ _ _ (.inr rfl) hc, r⟩, b⟩

theorem OwnT.noncells {base : Nat} {W W' : World} {v : Value} {ts : List Tok} {gs : List (Nat × Nat)} {row : Option Nat} (h : OwnT base W v ts gs) (hg : W.grownBy W' row)
    (hr : ∀ r, row = some r → ∃ o : Obj, W.heap[r]? = some o ∧ o.isCells = false) : OwnT base W' v ts gs :=
  h.of_cells fun g c t _ hh => (hg.block g (Array.getElem?_eq_some_iff.1 hh).1 (fun e => by
    obtain ⟨o, ho, hc⟩ := hr g e.symm
    rw [hh] at ho; cases ho; cases hc)).trans hh

theorem OwnT.setBox {base : Nat} {W : World} {v : Value} {ts : List Tok} {gs : List (Nat × Nat)} {B t : Nat} {u : Value} (h : OwnT base W v ts gs) (hb : Boxed W B t u) (h1 : t ≠ 176) (h2 : t ≠ 5) (x : Value) : OwnT base (W.setCell ⟨B, 0, none⟩ x) v ts gs :=
  h.of_cells fun g c t' ht hh => by
    have hne : g ≠ B := fun e => by
      rw [e, show W.heap[B]? = _ from hb] at hh
      simp at hh
      rcases ht with rfl | rfl
      · exact h1 hh.2
      · exact h2 hh.2
    rw [Below.heap_setCell W ⟨B, 0, none⟩ x g hne]; exact hh

/-- What is so between two rounds: the box of the list, the box of the bad place, the box of the text, the tokens so far. -/
structure InvT (s : Nat) (w W : World) (zs : List Int) (sv v : Value) (xs : List (PosOf zs)) (gs : List (Nat × Nat)) : Prop where
  list : Boxed W s 161 v
  bad : Boxed W (s + 1) 3 (.int .i64 (-1))
  text : Boxed W (s + 1 + 1) 22 sv
  own : OwnT s W v (xs.map (fun x => tokAt zs x.1)) gs
  good : Good zs xs
  bel : Below s w W

theorem InvT.noncells {s : Nat} {w W W' : World} {zs : List Int} {sv v : Value} {xs : List (PosOf zs)} {gs : List (Nat × Nat)} {row : Option Nat} (h : InvT s w W zs sv v xs gs) (hs : s ≤ W.heap.size) (hg : W.grownBy W' row)
    (hr : ∀ r, row = some r → s ≤ r ∧ ∃ o : Obj, W.heap[r]? = some o ∧ o.isCells = false) : InvT s w W' zs sv v xs gs :=
  ⟨boxed_noncells h.list hg fun r e => (hr r e).2, boxed_noncells h.bad hg fun r e => (hr r e).2, boxed_noncells h.text hg fun r e => (hr r e).2, h.own.noncells hg fun r e => (hr r e).2, h.good, h.bel.grown hg hs fun k e => (hr k e).1⟩

/-- A round that has found a token. -/
theorem round_tok {s : Nat} {w W Wb w2 : World} {zs : List Int} {sv v v' : Value} {xs : List (PosOf zs)} {ts : List Tok} {gs : List (Nat × Nat)} {x : PosOf zs} {kd : Int} {tv : Value} {g : Nat × Nat}
    (hs : s = w.heap.size) (hts : ts = xs.map (fun x => tokAt zs x.1)) (hI : InvT s w W zs sv v xs gs) (hWb : Below W.heap.size W Wb) (hkind : kindOf (piece zs x.1) ≠ 0) (hG : kd = (tokAt zs x.1).kind ∧ tv = txv (tokAt zs x.1) g)
    (hM : (tokAt zs x.1).text ≠ [] → W.heap.size ≤ g.1 ∧ Row Wb g.1 g.2 (tokAt zs x.1).text ∧ g.2 ≤ 9223372036854775807) (hby : ∀ i, 0 ≤ zs.getD i 0 ∧ zs.getD i 0 ≤ 255)
    (hown : w2.ownsRow s 176 3 v' (ts.length + 1) (flatT ts gs ++ [.int .i64 kd, .int .i64 (x.1 : Nat), tv])) (hgrow : Wb.grownBy w2 v.ownBlock) :
    ∃ g' cap', v' = .slice (some ⟨g', 0, none⟩) (ts.length + 1) cap' ∧ Boxed w2 s 161 v ∧ KeepsOthers W (w2.setCell ⟨s, 0, none⟩ v') ∧ KpT s (s + 1 + 1) W (w2.setCell ⟨s, 0, none⟩ v') ∧ InvT s w (w2.setCell ⟨s, 0, none⟩ v') zs sv v' (xs ++ [x]) (gs ++ [g]) := by
  subst hs
  obtain ⟨bL, bB, bS, hO, hgd, hBel⟩ := hI
  have hO1 := hO.below hWb
  have hB1 : Below w.heap.size w Wb := hBel.trans (hWb.mono hBel.size)
  have hnotrow : ∀ {B t u}, Boxed Wb B t u → t ≠ 176 → some B ≠ v.ownBlock := fun hb ht => Boxed.not_row hb ht hO1.row
  have bL1 := boxed_below bL hWb (Boxed.lt bL)
  have bB1 := boxed_below bB hWb (Boxed.lt bB)
  have bS1 := boxed_below bS hWb (Boxed.lt bS)
  have bL2 := Boxed.kept bL1 hgrow (hnotrow bL1 (by decide))
  have bB2 := Boxed.kept bB1 hgrow (hnotrow bB1 (by decide))
  have bS2 := Boxed.kept bS1 hgrow (hnotrow bS1 (by decide))
  rw [← hts] at hO hO1
  have hM' : (tokAt zs x.1).text ≠ [] → w.heap.size ≤ g.1 ∧ W.heap.size ≤ g.1 ∧ Row Wb g.1 g.2 (tokAt zs x.1).text ∧ g.2 ≤ 9223372036854775807 := fun ht => ⟨Nat.le_trans hBel.size (hM ht).1, (hM ht).1, (hM ht).2.1, (hM ht).2.2⟩
  have hS' : ∀ i, i < ts.length → (ts.getD i Tok.zero).text ≠ [] → (gs.getD i (0, 0)).1 < W.heap.size := fun i hi ht => (hO.txt i hi ht).2.1.lt
  have hstep := step_tok (w0 := w) (wr := W) (W := Wb) (w2 := w2) (u := v) (v' := v') (ts := ts) (gs := gs) (zs := zs) (k := x.1) (kd := kd) (tv := tv) (g := g) hO1 hB1 hG hM' hS' hby hown hgrow
  obtain ⟨g', cap', hv', hO2, hB2⟩ := hstep
  have hKO : KeepsOthers W (w2.setCell ⟨w.heap.size, 0, none⟩ v') := by
    refine ((keepsOthers_below hWb).trans (KeepsOthers.of_grownBy hgrow fun j o ej hj => ?_)).trans (KeepsOthers.setCell _ _ _)
    rcases hO1.row.2 with ⟨e, _⟩ | ⟨g1, cap1, cur, e, _, hgb, _⟩
    · rw [e] at ej; simp [Value.ownBlock] at ej
    · rw [e] at ej
      obtain rfl : g1 = j := by simpa [Value.ownBlock] using ej
      rw [hgb] at hj; cases hj; rfl
  have bS3 := boxed_setOther bS2 (B' := w.heap.size) (by omega) v'
  have hBW : Below w.heap.size W (w2.setCell ⟨w.heap.size, 0, none⟩ v') := by
    refine ((hWb.mono hBel.size).grown hgrow hB1.size fun j ej => ?_).setCell (p := ⟨w.heap.size, 0, none⟩) (Nat.le_refl _) v'
    rcases hO1.row.2 with ⟨e, _⟩ | ⟨g1, cap1, cur, e, hg1, _⟩
    · rw [e] at ej; simp [Value.ownBlock] at ej
    · rw [e] at ej
      obtain rfl : g1 = j := by simpa [Value.ownBlock] using ej
      exact hg1
  refine ⟨g', cap', hv', bL2, hKO, ⟨hBW, (show _ = _ from bS3).trans (show _ = _ from bS).symm⟩, Boxed.set v' bL2, boxed_setOther bB2 (by omega) v', bS3, ?_, ?_, hBel.trans hBW⟩
  · rw [List.map_append, List.map_cons, List.map_nil, ← hts]; exact hO2.setBox bL2 (by decide) (by decide) v'
  · intro y hy
    rcases List.mem_append.1 hy with h | h
    · exact hgd y h
    · simp at h; subst h; exact hkind
end

end Go.Proofs.YtnmljalcndfjmaaGreat
