/- Several texts in one: NnfMath, ConSpO, ConNnfS, ConOwnS, ReadS2, ReadS3, ReadS4, ReadS5. -/
import Derived.Test.YthojlfcahhjfaaaNCT
import Derived.Test.YthojlfcahhjfaaaNCl
import Derived.Deep.RegionLawGrows
import Derived.Deep.RegionHeldLaw
import Derived.Test.YthojlfcahhjfaaaConSpec2
import Derived.Deep.RegionHeld
import Derived.Deep.RegionLaw
import Derived.Deep.AppendLies
namespace Go.Proofs.Ythojlfcahhjfaaa

section
open Go.RowKit
end

section
open Go.RowKit

/-- What is under way: its box, its name and role, and the kids so far; each kid's memory lies below h0 or from BW on. -/
structure InvS (W0 : World) (h0 BW ob d : Nat) (k : Int) (nv rv : Value) (name role : List Int) (bn on br orr : Nat) (wr : World) (kv : Value) (cs : List CN) (Ls : List (List (Addr × IntKind))) (xs : List Value) : Prop where
  row : RowK BW wr d kv cs Ls xs
  lay : ∀ x ∈ Ls.flatten, x.1.block < h0 ∨ BW ≤ x.1.block
  box : BoxC wr ob (.int .i64 k) nv rv kv
  nam : ∃ a c, nv = .slice a name.length c ∧ OwB wr a name.length c name bn on
  rol : ∃ a c, rv = .slice a role.length c ∧ OwB wr a role.length c role br orr
  bel : Below W0.heap.size W0 wr
  sz : BW ≤ wr.heap.size

structure StatS (W0 : World) (h0 BW ob : Nat) (name role : List Int) (bn br : Nat) : Prop where
  o1 : ob < BW
  o0 : W0.heap.size ≤ ob
  h0 : h0 ≤ W0.heap.size
  n1 : name.length = 0 ∨ (bn < BW ∧ bn ≠ ob)
  r1 : role.length = 0 ∨ (br < BW ∧ br ≠ ob)

theorem OwB.keep' {w w' : World} {a : Option Addr} {n cap : Nat} {zs : List Int} {b off : Nat} (h : OwB w a n cap zs b off) (hk : n = 0 ∨ w'.heap[b]? = w.heap[b]?) : OwB w' a n cap zs b off :=
  h.keep (fun x hx => by
    obtain ⟨j, hj, rfl⟩ := mem_leafB.1 hx
    rcases hk with e | e
    · omega
    · exact e)

theorem OwB.blt {w : World} {a : Option Addr} {n cap : Nat} {zs : List Int} {b off : Nat} (h : OwB w a n cap zs b off) : n = 0 ∨ b < w.heap.size := by
  rcases h.cells with e | ⟨_, hc⟩
  · exact .inl e
  · by_cases hn : n = 0
    · exact .inl hn
    · exact .inr (block_lt_of_cell (hc 0 (by omega)))

theorem InvS.below {W0 wr w' : World} {h0 BW ob d : Nat} {k : Int} {nv rv kv : Value} {name role : List Int} {bn on br orr : Nat} {cs : List CN} {Ls : List (List (Addr × IntKind))} {xs : List Value} (h : InvS W0 h0 BW ob d k nv rv name role bn on br orr wr kv cs Ls xs) (hb : Below wr.heap.size wr w') :
    InvS W0 h0 BW ob d k nv rv name role bn on br orr w' kv cs Ls xs := by
  have hs := hb.size
  obtain ⟨na, nc, hn1, hn2⟩ := h.nam
  obtain ⟨ra, rc, hr1, hr2⟩ := h.rol
  refine ⟨h.row.below hb, h.lay, h.box.below hb h.box.lt, ⟨na, nc, hn1, hn2.keep' ?_⟩, ⟨ra, rc, hr1, hr2.keep' ?_⟩, h.bel.trans (hb.mono h.bel.size), Nat.le_trans h.sz hs⟩
  · rcases hn2.blt with e | e
    · exact .inl e
    · exact .inr (hb.block _ e)
  · rcases hr2.blt with e | e
    · exact .inl e
    · exact .inr (hb.block _ e)

theorem InvS.app {W0 W w6 : World} {h0 BW ob d : Nat} {k : Int} {nv rv kv : Value} {name role : List Int} {bn on br orr : Nat} {cs : List CN} {Ls : List (List (Addr × IntKind))} {xs : List Value} (hS : StatS W0 h0 BW ob name role bn br) (h : InvS W0 h0 BW ob d k nv rv name role bn on br orr W kv cs Ls xs)
    {c : CN} {L : List (Addr × IntKind)} {v0 v1 v2 v3 : Value} {B g cap n : Nat} (hc : OwC W d (.agg #[v0, v1, v2, v3]) c L) (hl : ∀ x ∈ L, (x.1.block < h0 ∨ B ≤ x.1.block) ∧ x.1.block < W.heap.size) (hB : BW ≤ B) (hkB : ∀ g, kv.ownBlock = some g → g < B) (hn : n = cs.length + 1)
    (hown : w6.ownsRow BW 35 4 (.slice (some ⟨g, 0, none⟩) n cap) n (xs ++ [v0, v1, v2, v3])) (hgrow : W.grownBy w6 kv.ownBlock) (hat : kv.ownBlock = some g ∨ g = W.heap.size) :
    BoxC w6 ob (.int .i64 k) nv rv kv ∧ InvS W0 h0 BW ob d k nv rv name role bn on br orr (w6.setCell ⟨ob, 3, none⟩ (.slice (some ⟨g, 0, none⟩) n cap)) (.slice (some ⟨g, 0, none⟩) n cap) (cs ++ [c]) (Ls ++ [L]) (xs ++ [v0, v1, v2, v3]) := by
  subst hn
  have hkl := h.row.row.lt
  have ho1 := hS.o1
  have ho0 := hS.o0
  have hh0 := hS.h0
  have hkne : ∀ b, b < BW → kv.ownBlock ≠ some b := fun b hb e => by have := hkl b e; omega
  have hbox6 : BoxC w6 ob (.int .i64 k) nv rv kv := (hgrow.block ob h.box.lt (fun e => hkne ob hS.o1 e.symm)).trans h.box
  have hoffL : ∀ x ∈ L, kv.ownBlock ≠ some x.1.block := fun x hx e => by
    have h1 := hkB _ e
    have h2 := hkl _ e
    have h3 := (hl x hx).1
    omega
  have hrow6 : RowK BW w6 d (.slice (some ⟨g, 0, none⟩) (cs.length + 1) cap) (cs ++ [c]) (Ls ++ [L]) (xs ++ [v0, v1, v2, v3]) :=
    h.row.snoc hc (fun x hx => (hl x hx).2) hoffL hown hgrow (by
      rcases hat with e | e
      · exact .inl (by rw [e]; rfl)
      · exact .inr (by rw [← e]; rfl))
  have hlay6 : ∀ x ∈ (Ls ++ [L]).flatten, x.1.block < h0 ∨ BW ≤ x.1.block := by
    intro x hx
    simp only [List.flatten_append, List.mem_append, List.flatten_cons, List.flatten_nil, List.append_nil] at hx
    rcases hx with hx | hx
    · exact h.lay x hx
    · have := (hl x hx).1; omega
  have hgl := hown.lt g rfl
  obtain ⟨na, nc, hn1, hn2⟩ := h.nam
  obtain ⟨ra, rc, hr1, hr2⟩ := h.rol
  have hbel6 : Below W0.heap.size W0 w6 := h.bel.grown hgrow h.bel.size (fun x hx => by have := hkl x hx; omega)
  refine ⟨hbox6, ⟨hrow6.set 3 _ (fun x hx => by have := hlay6 x hx; omega) (fun e => by simp only [Value.ownBlock, Option.some.injEq] at e; omega), hlay6, hbox6.set3 _, ⟨na, nc, hn1, hn2.keep' ?_⟩, ⟨ra, rc, hr1, hr2.keep' ?_⟩, hbel6.setCell ho0 _, ?_⟩⟩
  · rcases hS.n1 with e | ⟨e1, e2⟩
    · exact .inl e
    · rcases hn2.blt with e | e
      · exact .inl e
      · exact .inr ((Below.heap_setCell w6 ⟨ob, 3, none⟩ _ bn e2).trans (hgrow.block bn e (fun e' => hkne bn e1 e'.symm)))
  · rcases hS.r1 with e | ⟨e1, e2⟩
    · exact .inl e
    · rcases hr2.blt with e | e
      · exact .inl e
      · exact .inr ((Below.heap_setCell w6 ⟨ob, 3, none⟩ _ br e2).trans (hgrow.block br e (fun e' => hkne br e1 e'.symm)))
  · have := h.sz
    have := hgrow.size
    simp; omega

/-- The whole. -/
theorem InvS.done {W0 wr : World} {h0 BW ob d : Nat} {k : Int} {nv rv kv : Value} {name role : List Int} {bn on br orr : Nat} {cs : List CN} {Ls : List (List (Addr × IntKind))} {xs : List Value} (h : InvS W0 h0 BW ob d k nv rv name role bn on br orr wr kv cs Ls xs) (P : Nat → Prop)
    (hn : name.length = 0 ∨ P bn) (hr : role.length = 0 ∨ P br) (hk : ∀ b, b < wr.heap.size → b < h0 ∨ BW ≤ b → P b) :
    ∃ L, OwC wr (d + 1) (.agg #[.int .i64 k, nv, rv, kv]) (.mk k name role cs) L ∧ ∀ x ∈ L, P x.1.block ∧ x.1.block < wr.heap.size := by
  obtain ⟨na, nc, rfl, hn2⟩ := h.nam
  obtain ⟨ra, rc, rfl, hr2⟩ := h.rol
  obtain ⟨ka, kc, bk, rfl, ok, fk⟩ := h.row.owL
  refine ⟨_, ⟨_, _, _, _, _, _, _, _, _, bn, on, br, orr, bk, 0, _, rfl, hn2, hr2, ok, rfl⟩, fun x hx => ?_⟩
  simp only [List.mem_append] at hx
  rcases hx with hx | hx | hx
  · obtain ⟨j, hj, rfl⟩ := mem_leafB.1 hx
    have h1 := hn2.blt
    rcases hn with e | e
    · omega
    · exact ⟨e, by show bn < _; omega⟩
  · obtain ⟨j, hj, rfl⟩ := mem_leafB.1 hx
    have h1 := hr2.blt
    rcases hr with e | e
    · omega
    · exact ⟨e, by show br < _; omega⟩
  · rcases mem_leafK.1 hx with ⟨i, hi, rfl | hx⟩
    · rcases fk with e | ⟨_, q1, q2, _⟩
      · omega
      · exact ⟨hk bk q2 (.inr q1), q2⟩
    · have hx := getD_mem_flatten hx
      exact ⟨hk _ (h.row.lt x hx) (h.lay x hx), h.row.lt x hx⟩
end

section
open Go.RowKit
end

section
open Go.RowKit

/-- Bytes in new memory. -/
def Fr (base : Nat) (w : World) (v : Value) (zs : List Int) (b : Nat) : Prop := ∃ a c, v = .slice a zs.length c ∧ OwB w a zs.length c zs b 0 ∧ (zs.length = 0 ∨ (base ≤ b ∧ b < w.heap.size))

theorem Fr.isSlice {base : Nat} {w : World} {v : Value} {zs : List Int} {b : Nat} (h : Fr base w v zs b) : ∃ a n c, v = .slice a n c := by
  obtain ⟨a, c, h, _⟩ := h
  exact ⟨_, _, _, h⟩

theorem Fr.below {base : Nat} {w w' : World} {v : Value} {zs : List Int} {b : Nat} (h : Fr base w v zs b) (hb : Below w.heap.size w w') : Fr base w' v zs b := by
  obtain ⟨a, c, h1, h2, h3⟩ := h
  refine ⟨a, c, h1, h2.keep' ?_, ?_⟩
  · rcases h3 with e | e
    · exact .inl e
    · exact .inr (hb.block _ e.2)
  · rcases h3 with e | e
    · exact .inl e
    · exact .inr ⟨e.1, Nat.lt_of_lt_of_le e.2 hb.size⟩

theorem Fr.mono {base base' : Nat} {w : World} {v : Value} {zs : List Int} {b : Nat} (h : Fr base w v zs b) (hb : base' ≤ base) : Fr base' w v zs b := by
  obtain ⟨a, c, h1, h2, h3⟩ := h
  refine ⟨a, c, h1, h2, ?_⟩
  rcases h3 with e | e
  · exact .inl e
  · exact .inr ⟨by omega, e.2⟩

theorem Fr.notBox {base : Nat} {w : World} {v : Value} {zs : List Int} {b o : Nat} {k : Int} {v1 v2 v3 : Value} (h : Fr base w v zs b) (hb : BoxC w o (.int .i64 k) v1 v2 v3) : zs.length = 0 ∨ b ≠ o := by
  obtain ⟨a, c, h1, h2, h3⟩ := h
  by_cases hz : zs.length = 0
  · exact .inl hz
  · refine .inr (fun e => ?_)
    subst e
    rcases h2.cells with e | ⟨_, hc⟩
    · exact hz e
    · have := hc 0 (by omega)
      rw [Nat.add_zero, hb.cells.1] at this
      simp at this

/-- What is made ahead of the kids. -/
structure PreS (W0 W : World) (ov : Value) (k : Int) (name role : List Int) (ob bn br : Nat) (nv rv : Value) : Prop where
  ptr : ov = .pointer (some ⟨ob, 0, none⟩)
  box : BoxC W ob (.int .i64 k) nv rv (.slice none 0 0)
  ge : W0.heap.size ≤ ob
  bel : Below W0.heap.size W0 W
  nam : Fr W0.heap.size W nv name bn
  nne : name.length = 0 ∨ bn ≠ ob
  rol : Fr W0.heap.size W rv role br
  rne : role.length = 0 ∨ br ≠ ob

theorem PreS.last {W0 w1 w2 : World} {k : Int} {nv rv : Value} {name role : List Int} {bn br : Nat} (h1 : Fr W0.heap.size w1 nv name bn) (b1 : Below W0.heap.size W0 w1) (h2 : Fr w1.heap.size w2 rv role br) (b2 : Below w1.heap.size w1 w2) :
    PreS W0 (w2.alloc (.cells #[.int .i64 k, nv, rv, .slice none 0 0] 35)) (.pointer (some ⟨w2.heap.size, 0, none⟩)) k name role w2.heap.size bn br nv rv := by
  have hs1 := b1.size
  have hs2 := b2.size
  have b3 : Below w2.heap.size w2 (w2.alloc (.cells #[.int .i64 k, nv, rv, .slice none 0 0] 35)) := (Below.refl _ _).alloc (Nat.le_refl _) _
  have hn2 := (h1.below b2)
  refine ⟨rfl, BoxC.new w2 _ _ _ _, by omega, (b1.trans (b2.mono hs1)).trans (b3.mono (by omega)), hn2.below b3, ?_, (h2.mono hs1).below b3, ?_⟩
  · obtain ⟨_, _, _, _, e | e⟩ := hn2
    · exact .inl e
    · exact .inr (by omega)
  · obtain ⟨_, _, _, _, e | e⟩ := h2
    · exact .inl e
    · exact .inr (by omega)

theorem PreS.set {W0 w1 w2 : World} {k : Int} {nv rv : Value} {name role : List Int} {bn br ob : Nat} {z : Int} {z1 z2 z3 : Value} (h1 : Fr W0.heap.size w1 nv name bn) (b1 : Below W0.heap.size W0 w1) (h2 : Fr w1.heap.size w2 rv role br) (b2 : Below w1.heap.size w1 w2) (hb : BoxC w2 ob (.int .i64 z) z1 z2 z3) (ho : W0.heap.size ≤ ob) :
    PreS W0 ((((w2.setCell ⟨ob, 0, none⟩ (.int .i64 k)).setCell ⟨ob, 1, none⟩ nv).setCell ⟨ob, 2, none⟩ rv).setCell ⟨ob, 3, none⟩ (.slice none 0 0)) (.pointer (some ⟨ob, 0, none⟩)) k name role ob bn br nv rv := by
  have hs1 := b1.size
  have hn2 := (h1.below b2)
  have hr2 := h2.mono hs1
  have en := hn2.notBox hb
  have er := hr2.notBox hb
  have hsz : ((((w2.setCell ⟨ob, 0, none⟩ (.int .i64 k)).setCell ⟨ob, 1, none⟩ nv).setCell ⟨ob, 2, none⟩ rv).setCell ⟨ob, 3, none⟩ (.slice none 0 0)).heap.size = w2.heap.size := by simp
  have keep : ∀ {base b : Nat} {v : Value} {zs : List Int}, Fr base w2 v zs b → (zs.length = 0 ∨ b ≠ ob) → Fr base ((((w2.setCell ⟨ob, 0, none⟩ (.int .i64 k)).setCell ⟨ob, 1, none⟩ nv).setCell ⟨ob, 2, none⟩ rv).setCell ⟨ob, 3, none⟩ (.slice none 0 0)) v zs b := by
    intro base b v zs h e
    obtain ⟨a, c, q1, q2, q3⟩ := h
    refine ⟨a, c, q1, q2.keep' ?_, ?_⟩
    · rcases e with e | e
      · exact .inl e
      · exact .inr (heap_set4 _ _ _ _ _ e)
    · rw [hsz]; exact q3
  exact ⟨rfl, hb.set4 _ _ _ _, ho, ((((b1.trans (b2.mono hs1)).setCell ho _).setCell ho _).setCell ho _).setCell ho _, keep hn2 en, en, keep hr2 er, er⟩
end

section
open Go.RowKit

/-- What the parser leaves. -/
def SP (ts : List Tok) (gs : List (Nat × Nat)) (en : Int) (g pb i : Nat) (w : World) (d : Nat) (r : Res) (e : Ending) (w' : World) : Prop :=
  Bt pb w.heap.size w w' ∧ match r with
    | .bad p => PsBad w' pb p ∧ ∃ k a1 n1 c1 a2 n2 c2 a3 n3 c3, e = .returned (.agg #[.int .i64 k, .slice a1 n1 c1, .slice a2 n2 c2, .slice a3 n3 c3])
    | .ok c j => ∃ v L, e = .returned v ∧ OwnR ts gs i j w.heap.size w' d v c L ∧ PsAt w' pb g j ts en (-1)

theorem SP.fell {ts : List Tok} {gs : List (Nat × Nat)} {en : Int} {g pb i : Nat} {w : World} {d : Nat} {r : Res} {p : Int} {w' : World} {k : Int} {a1 : Option Addr} {n1 c1 : Nat} {a2 : Option Addr} {n2 c2 : Nat} {a3 : Option Addr} {n3 c3 : Nat} (hb : Bt pb w.heap.size w w') (hr : r = .bad p) (hp : PsBad w' pb p) :
    SP ts gs en g pb i w d r (.returned (.agg #[.int .i64 k, .slice a1 n1 c1, .slice a2 n2 c2, .slice a3 n3 c3])) w' := by
  subst hr; exact ⟨hb, hp, _, _, _, _, _, _, _, _, _, _, rfl⟩
theorem SP.good {ts : List Tok} {gs : List (Nat × Nat)} {en : Int} {g pb i : Nat} {w : World} {d : Nat} {r : Res} {c : CN} {j : Nat} {v : Value} {L : List (Addr × IntKind)} {w' : World} (hb : Bt pb w.heap.size w w') (hr : r = .ok c j) (hO : OwnR ts gs i j w.heap.size w' d v c L) (hP : PsAt w' pb g j ts en (-1)) : SP ts gs en g pb i w d r (.returned v) w' := by
  subst hr; exact ⟨hb, v, L, rfl, hO, hP⟩

theorem set4_mem {W : World} {vb : Nat} {v0 v1 v2 v3 : Value} (hv : BoxC W vb v0 v1 v2 v3) (x0 x1 x2 x3 : Value) {pb B : Nat} {w : World} (hb : Bt pb B w W) (hB : B ≤ vb) :
    BoxC ((((W.setCell ⟨vb, 0, none⟩ x0).setCell ⟨vb, 1, none⟩ x1).setCell ⟨vb, 2, none⟩ x2).setCell ⟨vb, 3, none⟩ x3) vb x0 x1 x2 x3 ∧ Bt pb B w ((((W.setCell ⟨vb, 0, none⟩ x0).setCell ⟨vb, 1, none⟩ x1).setCell ⟨vb, 2, none⟩ x2).setCell ⟨vb, 3, none⟩ x3) :=
  ⟨hv.set4 x0 x1 x2 x3, (((hb.set (.inl hB) _).set (.inl hB) _).set (.inl hB) _).set (.inl hB) _⟩

theorem OwnR.toS {ts : List Tok} {gs : List (Nat × Nat)} {i j s : Nat} {w w' : World} {d : Nat} {v : Value} {c : CN} {L : List (Addr × IntKind)} (h : OwnR ts gs i j s w d v c L) (hk : ∀ x ∈ L, w'.heap[x.1.block]? = w.heap[x.1.block]?) (hs : w.heap.size ≤ w'.heap.size) : OwnR ts gs i j s w' d v c L :=
  ⟨h.ow.keep hk, h.nd, fun x hx => (World.frozen?_of_block (w := w) (hk x hx)).trans (h.fr x hx), h.us.mono (Nat.le_refl _) (Nat.le_refl _) (Nat.le_refl _) hs⟩
end

section
open Go.RowKit

/-- What is under way behind a fault: nothing is known of its kids but that their row is the call's own. -/
structure JunkR (pb : Nat) (w : World) (B ob : Nat) (k : Int) (rv : Value) (wr : World) (kv : Value) (m : Nat) : Prop where
  row : ∃ xs, wr.ownsRow B 35 4 kv m xs
  box : BoxC wr ob (.int .i64 k) (.slice none 0 0) rv kv
  bt : Bt pb w.heap.size w wr
  sz : B ≤ wr.heap.size

theorem ownsRow_bt {w w' : World} {pb base e size n : Nat} {v : Value} {xs : List Value} (h : w.ownsRow base e size v n xs) (hb : Bt pb w.heap.size w w') (hp : pb < base) : w'.ownsRow base e size v n xs := by
  have hl := h.lt
  obtain ⟨h1, h2⟩ := h
  refine ⟨h1, ?_⟩
  rcases h2 with h2 | ⟨g, cap, cur, rfl, hg, hh, r⟩
  · exact .inl h2
  · exact .inr ⟨g, cap, cur, rfl, hg, by rw [hb.block g (hl g rfl).2 (by omega)]; exact hh, r⟩

theorem ownsRow_set {w : World} {base e size n o i : Nat} {v x : Value} {xs : List Value} (h : w.ownsRow base e size v n xs) (ho : o < base) : (w.setCell ⟨o, i, none⟩ x).ownsRow base e size v n xs := ownsRow_setCell_below h (a := ⟨o, i, none⟩) ho x

theorem JunkR.keep {pb : Nat} {w : World} {B ob : Nat} {k : Int} {rv : Value} {wr w' : World} {kv : Value} {m : Nat} (h : JunkR pb w B ob k rv wr kv m) (hb : Bt pb wr.heap.size wr w') (h1 : pb < ob) (h2 : ob < B) : JunkR pb w B ob k rv w' kv m := by
  have sz := h.sz
  obtain ⟨xs, hx⟩ := h.row
  exact ⟨⟨xs, ownsRow_bt hx hb (by omega)⟩, (hb.block ob (by omega) (by omega)).trans h.box, h.bt.trans (hb.mono h.bt.size), Nat.le_trans sz hb.size⟩

theorem JunkR.app {pb : Nat} {w : World} {B ob : Nat} {k : Int} {rv : Value} {W w6 : World} {kv : Value} {m g cap : Nat} {xs ys : List Value} (h : JunkR pb w B ob k rv W kv m) (h2 : ob < B) (h3 : w.heap.size ≤ ob) (hrow : W.ownsRow B 35 4 kv m xs)
    (hown : w6.ownsRow B 35 4 (.slice (some ⟨g, 0, none⟩) (m + 1) cap) (m + 1) ys) (hgrow : W.grownBy w6 kv.ownBlock) :
    BoxC w6 ob (.int .i64 k) (.slice none 0 0) rv kv ∧ JunkR pb w B ob k rv (w6.setCell ⟨ob, 3, none⟩ (.slice (some ⟨g, 0, none⟩) (m + 1) cap)) (.slice (some ⟨g, 0, none⟩) (m + 1) cap) (m + 1) := by
  have hl := hrow.lt
  have sz := h.sz
  have hbox6 : BoxC w6 ob (.int .i64 k) (.slice none 0 0) rv kv := (hgrow.block ob h.box.lt (fun e => by have := (hl ob e.symm).1; omega)).trans h.box
  refine ⟨hbox6, ⟨⟨ys, ownsRow_set hown h2⟩, hbox6.set3 _, (h.bt.grown hgrow h.bt.size (fun x hx => by have := hl x hx; omega)).set (.inl h3) _, ?_⟩⟩
  have := hgrow.size
  simp; omega
end

section
open Go.RowKit
end

section
open Go.RowKit

theorem BoxC.set2S {W : World} {b : Nat} {v0 v1 v2 v3 : Value} (h : BoxC W b v0 v1 v2 v3) (v : Value) : BoxC (W.setCell ⟨b, 2, none⟩ v) b v0 v1 v v3 := by
  unfold BoxC
  rw [heap_setCell_same W b 2 _ _ v h]
  rfl
end

end Go.Proofs.Ythojlfcahhjfaaa
