/- Several texts in one: DrawTok, ConSpO, ConNnfS, ConOwnS, ConSubs2, ConSubs3, ConSubs4, ListFin, SubsMath. -/
import Derived.Test.YtedihcjhfkdkjaaNG2
import Derived.Test.YtedihcjhfkdkjaaConClone2
import Derived.Lib.AppendStr
import Derived.Lib.ConvBytes
import Derived.Test.YtedihcjhfkdkjaaNG10
import Derived.Deep.RegionLawGrows
import Derived.Deep.RegionHeldLaw
import Derived.Test.YtedihcjhfkdkjaaNG7
import Derived.Test.YtedihcjhfkdkjaaNG13
import Derived.Test.YtedihcjhfkdkjaaNG1
import Derived.Test.YtedihcjhfkdkjaaNG12
namespace Go.Proofs.Ytedihcjhfkdkjaa

section
open Go.RowKit

def numsOf (s : ByteArray) : List Int := s.data.toList.map (fun b => (b.toNat : Int))

theorem numsOf_len (s : ByteArray) : (numsOf s).length = s.size := by unfold numsOf; rw [List.length_map, Array.length_toList]; rfl
theorem numsOf_byte (s : ByteArray) : ∀ x ∈ numsOf s, 0 ≤ x ∧ x ≤ 255 := by
  intro x hx
  simp only [numsOf, List.mem_map] at hx
  obtain ⟨b, _, rfl⟩ := hx
  have := b.toNat_lt
  omega

theorem bytes_below (W : World) (e : TypeId) (s : ByteArray) : Below W.heap.size W (Lib.bytesWorld W e s) := ⟨rfl, rfl, rfl, by rw [Lib.bytesWorld_size]; omega, fun k hk => Lib.bytesWorld_at_old W e s k hk⟩

theorem getD_byte {zs : List Int} (h : ∀ x ∈ zs, 0 ≤ x ∧ x ≤ 255) : ∀ i, 0 ≤ zs.getD i 0 ∧ zs.getD i 0 ≤ 255 := by
  intro i
  by_cases hi : i < zs.length
  · have := h _ (List.getElem_mem hi)
    simpa [List.getD, hi] using this
  · simp [List.getD, List.getElem?_eq_none (Nat.le_of_not_lt hi)]

theorem Cur.of {w w' : World} {B : Nat} {a : Option Addr} {n cap : Nat} {zs : List Int} {hi : Nat} (c : Cur w B a n cap zs hi) (hb : Below (B + 1) w w') : Cur w' B a n cap zs hi := by
  obtain ⟨⟨i, h, hi', q⟩, c2, c3⟩ := c
  exact ⟨⟨i, h, hi', (hb.block B (Nat.lt_succ_self _)).trans q⟩, c2.below hb (by omega), c3⟩
theorem Cur.lt {w : World} {B : Nat} {a : Option Addr} {n cap : Nat} {zs : List Int} {hi : Nat} (c : Cur w B a n cap zs hi) : B < w.heap.size := by
  obtain ⟨⟨i, h, hi', q⟩, c2, c3⟩ := c
  exact q.lt

theorem Only.step {B : Nat} {w a b : World} (h : Only B w a) (hB : B < w.heap.size) (k : Below w.heap.size a b) : Only B w b :=
  ⟨h.below.trans (k.mono (Nat.le_of_lt hB)), fun x h1 h2 => (k.block x h1).trans (h.other x h1 h2)⟩
theorem OwnB.only {base B : Nat} {w w' : World} {v : Value} {xs : List Int} (h : OwnB base w v xs) (k : Only B w w') (hB : B < base) : OwnB base w' v xs :=
  h.keepB (fun g hg => k.other g (OwnB.lt h g hg).2 (by have := (OwnB.lt h g hg).1; omega))
end

section
open Go.RowKit

/-- What is under way: its box, its name and role, and the kids so far; each kid's memory lies below h0 or from BW on. -/
structure InvS (W0 : World) (h0 BW ob d : Nat) (k : Int) (nv rv : Value) (name role : List Int) (bn on br orr : Nat) (wr : World) (kv : Value) (cs : List CN) (Ls : List (List (Addr × IntKind))) (xs : List Value) : Prop where
  row : RowK BW wr d kv cs Ls xs
  lay : ∀ x ∈ Ls.flatten, x.1.block < h0 ∨ BW ≤ x.1.block
  box : BoxC wr ob (.int .i64 k) nv rv kv
  nam : ∃ a c, nv = .slice a name.length c ∧ OwB wr a name.length c name bn on
  rol : ∃ a c, rv = .slice a role.length c ∧ OwB wr a role.length c role br orr
  bel : Below W0.heap.size W0 wr
  sz : BW ≤ wr.heap.size

structure StatS (W0 : World) (h0 BW ob : Nat) (name role : List Int) (bn br : Nat) : Prop where
  o1 : ob < BW
  o0 : W0.heap.size ≤ ob
  h0 : h0 ≤ W0.heap.size
  n1 : name.length = 0 ∨ (bn < BW ∧ bn ≠ ob)
  r1 : role.length = 0 ∨ (br < BW ∧ br ≠ ob)

theorem OwB.keep' {w w' : World} {a : Option Addr} {n cap : Nat} {zs : List Int} {b off : Nat} (h : OwB w a n cap zs b off) (hk : n = 0 ∨ w'.heap[b]? = w.heap[b]?) : OwB w' a n cap zs b off :=
  h.keep (fun x hx => by
    obtain ⟨j, hj, rfl⟩ := mem_leafB.1 hx
    rcases hk with e | e
    · omega
    · exact e)

theorem OwB.blt {w : World} {a : Option Addr} {n cap : Nat} {zs : List Int} {b off : Nat} (h : OwB w a n cap zs b off) : n = 0 ∨ b < w.heap.size := by
  rcases h.cells with e | ⟨_, hc⟩
  · exact .inl e
  · by_cases hn : n = 0
    · exact .inl hn
    · exact .inr (block_lt_of_cell (hc 0 (by omega)))

theorem InvS.below {W0 wr w' : World} {h0 BW ob d : Nat} {k : Int} {nv rv kv : Value} {name role : List Int} {bn on br orr : Nat} {cs : List CN} {Ls : List (List (Addr × IntKind))} {xs : List Value} (h : InvS W0 h0 BW ob d k nv rv name role bn on br orr wr kv cs Ls xs) (hb : Below wr.heap.size wr w') :
    InvS W0 h0 BW ob d k nv rv name role bn on br orr w' kv cs Ls xs := by
  have hs := hb.size
  obtain ⟨na, nc, hn1, hn2⟩ := h.nam
  obtain ⟨ra, rc, hr1, hr2⟩ := h.rol
  refine ⟨h.row.below hb, h.lay, h.box.below hb h.box.lt, ⟨na, nc, hn1, hn2.keep' ?_⟩, ⟨ra, rc, hr1, hr2.keep' ?_⟩, h.bel.trans (hb.mono h.bel.size), Nat.le_trans h.sz hs⟩
  · rcases hn2.blt with e | e
    · exact .inl e
    · exact .inr (hb.block _ e)
  · rcases hr2.blt with e | e
    · exact .inl e
    · exact .inr (hb.block _ e)

theorem InvS.app {W0 W w6 : World} {h0 BW ob d : Nat} {k : Int} {nv rv kv : Value} {name role : List Int} {bn on br orr : Nat} {cs : List CN} {Ls : List (List (Addr × IntKind))} {xs : List Value} (hS : StatS W0 h0 BW ob name role bn br) (h : InvS W0 h0 BW ob d k nv rv name role bn on br orr W kv cs Ls xs)
    {c : CN} {L : List (Addr × IntKind)} {v0 v1 v2 v3 : Value} {B g cap n : Nat} (hc : OwC W d (.agg #[v0, v1, v2, v3]) c L) (hl : ∀ x ∈ L, (x.1.block < h0 ∨ B ≤ x.1.block) ∧ x.1.block < W.heap.size) (hB : BW ≤ B) (hkB : ∀ g, kv.ownBlock = some g → g < B) (hn : n = cs.length + 1)
    (hown : w6.ownsRow BW 25 4 (.slice (some ⟨g, 0, none⟩) n cap) n (xs ++ [v0, v1, v2, v3])) (hgrow : W.grownBy w6 kv.ownBlock) (hat : kv.ownBlock = some g ∨ g = W.heap.size) :
    BoxC w6 ob (.int .i64 k) nv rv kv ∧ InvS W0 h0 BW ob d k nv rv name role bn on br orr (w6.setCell ⟨ob, 3, none⟩ (.slice (some ⟨g, 0, none⟩) n cap)) (.slice (some ⟨g, 0, none⟩) n cap) (cs ++ [c]) (Ls ++ [L]) (xs ++ [v0, v1, v2, v3]) := by
  subst hn
  have hkl := h.row.row.lt
  have ho1 := hS.o1
  have ho0 := hS.o0
  have hh0 := hS.h0
  have hkne : ∀ b, b < BW → kv.ownBlock ≠ some b := fun b hb e => by have := hkl b e; omega
  have hbox6 : BoxC w6 ob (.int .i64 k) nv rv kv := (hgrow.block ob h.box.lt (fun e => hkne ob hS.o1 e.symm)).trans h.box
  have hoffL : ∀ x ∈ L, kv.ownBlock ≠ some x.1.block := fun x hx e => by
    have h1 := hkB _ e
    have h2 := hkl _ e
    have h3 := (hl x hx).1
    omega
  have hrow6 : RowK BW w6 d (.slice (some ⟨g, 0, none⟩) (cs.length + 1) cap) (cs ++ [c]) (Ls ++ [L]) (xs ++ [v0, v1, v2, v3]) :=
    h.row.snoc hc (fun x hx => (hl x hx).2) hoffL hown hgrow (by
      rcases hat with e | e
      · exact .inl (by rw [e]; rfl)
      · exact .inr (by rw [← e]; rfl))
  have hlay6 : ∀ x ∈ (Ls ++ [L]).flatten, x.1.block < h0 ∨ BW ≤ x.1.block := by
    intro x hx
    simp only [List.flatten_append, List.mem_append, List.flatten_cons, List.flatten_nil, List.append_nil] at hx
    rcases hx with hx | hx
    · exact h.lay x hx
    · have := (hl x hx).1; omega
  have hgl := hown.lt g rfl
  obtain ⟨na, nc, hn1, hn2⟩ := h.nam
  obtain ⟨ra, rc, hr1, hr2⟩ := h.rol
  have hbel6 : Below W0.heap.size W0 w6 := h.bel.grown hgrow h.bel.size (fun x hx => by have := hkl x hx; omega)
  refine ⟨hbox6, ⟨hrow6.set 3 _ (fun x hx => by have := hlay6 x hx; omega) (fun e => by simp only [Value.ownBlock, Option.some.injEq] at e; omega), hlay6, hbox6.set3 _, ⟨na, nc, hn1, hn2.keep' ?_⟩, ⟨ra, rc, hr1, hr2.keep' ?_⟩, hbel6.setCell ho0 _, ?_⟩⟩
  · rcases hS.n1 with e | ⟨e1, e2⟩
    · exact .inl e
    · rcases hn2.blt with e | e
      · exact .inl e
      · exact .inr ((Below.heap_setCell w6 ⟨ob, 3, none⟩ _ bn e2).trans (hgrow.block bn e (fun e' => hkne bn e1 e'.symm)))
  · rcases hS.r1 with e | ⟨e1, e2⟩
    · exact .inl e
    · rcases hr2.blt with e | e
      · exact .inl e
      · exact .inr ((Below.heap_setCell w6 ⟨ob, 3, none⟩ _ br e2).trans (hgrow.block br e (fun e' => hkne br e1 e'.symm)))
  · have := h.sz
    have := hgrow.size
    simp; omega

/-- The whole. -/
theorem InvS.done {W0 wr : World} {h0 BW ob d : Nat} {k : Int} {nv rv kv : Value} {name role : List Int} {bn on br orr : Nat} {cs : List CN} {Ls : List (List (Addr × IntKind))} {xs : List Value} (h : InvS W0 h0 BW ob d k nv rv name role bn on br orr wr kv cs Ls xs) (P : Nat → Prop)
    (hn : name.length = 0 ∨ P bn) (hr : role.length = 0 ∨ P br) (hk : ∀ b, b < wr.heap.size → b < h0 ∨ BW ≤ b → P b) :
    ∃ L, OwC wr (d + 1) (.agg #[.int .i64 k, nv, rv, kv]) (.mk k name role cs) L ∧ ∀ x ∈ L, P x.1.block ∧ x.1.block < wr.heap.size := by
  obtain ⟨na, nc, rfl, hn2⟩ := h.nam
  obtain ⟨ra, rc, rfl, hr2⟩ := h.rol
  obtain ⟨ka, kc, bk, rfl, ok, fk⟩ := h.row.owL
  refine ⟨_, ⟨_, _, _, _, _, _, _, _, _, bn, on, br, orr, bk, 0, _, rfl, hn2, hr2, ok, rfl⟩, fun x hx => ?_⟩
  simp only [List.mem_append] at hx
  rcases hx with hx | hx | hx
  · obtain ⟨j, hj, rfl⟩ := mem_leafB.1 hx
    have h1 := hn2.blt
    rcases hn with e | e
    · omega
    · exact ⟨e, by show bn < _; omega⟩
  · obtain ⟨j, hj, rfl⟩ := mem_leafB.1 hx
    have h1 := hr2.blt
    rcases hr with e | e
    · omega
    · exact ⟨e, by show br < _; omega⟩
  · rcases mem_leafK.1 hx with ⟨i, hi, rfl | hx⟩
    · rcases fk with e | ⟨_, q1, q2, _⟩
      · omega
      · exact ⟨hk bk q2 (.inr q1), q2⟩
    · have hx := getD_mem_flatten hx
      exact ⟨hk _ (h.row.lt x hx) (h.lay x hx), h.row.lt x hx⟩
end

section
open Go.RowKit
end

section
open Go.RowKit

/-- Bytes in new memory. -/
def Fr (base : Nat) (w : World) (v : Value) (zs : List Int) (b : Nat) : Prop := ∃ a c, v = .slice a zs.length c ∧ OwB w a zs.length c zs b 0 ∧ (zs.length = 0 ∨ (base ≤ b ∧ b < w.heap.size))

theorem Fr.isSlice {base : Nat} {w : World} {v : Value} {zs : List Int} {b : Nat} (h : Fr base w v zs b) : ∃ a n c, v = .slice a n c := by
  obtain ⟨a, c, h, _⟩ := h
  exact ⟨_, _, _, h⟩

theorem Fr.below {base : Nat} {w w' : World} {v : Value} {zs : List Int} {b : Nat} (h : Fr base w v zs b) (hb : Below w.heap.size w w') : Fr base w' v zs b := by
  obtain ⟨a, c, h1, h2, h3⟩ := h
  refine ⟨a, c, h1, h2.keep' ?_, ?_⟩
  · rcases h3 with e | e
    · exact .inl e
    · exact .inr (hb.block _ e.2)
  · rcases h3 with e | e
    · exact .inl e
    · exact .inr ⟨e.1, Nat.lt_of_lt_of_le e.2 hb.size⟩

theorem Fr.mono {base base' : Nat} {w : World} {v : Value} {zs : List Int} {b : Nat} (h : Fr base w v zs b) (hb : base' ≤ base) : Fr base' w v zs b := by
  obtain ⟨a, c, h1, h2, h3⟩ := h
  refine ⟨a, c, h1, h2, ?_⟩
  rcases h3 with e | e
  · exact .inl e
  · exact .inr ⟨by omega, e.2⟩

theorem Fr.notBox {base : Nat} {w : World} {v : Value} {zs : List Int} {b o : Nat} {k : Int} {v1 v2 v3 : Value} (h : Fr base w v zs b) (hb : BoxC w o (.int .i64 k) v1 v2 v3) : zs.length = 0 ∨ b ≠ o := by
  obtain ⟨a, c, h1, h2, h3⟩ := h
  by_cases hz : zs.length = 0
  · exact .inl hz
  · refine .inr (fun e => ?_)
    subst e
    rcases h2.cells with e | ⟨_, hc⟩
    · exact hz e
    · have := hc 0 (by omega)
      rw [Nat.add_zero, hb.cells.1] at this
      simp at this

/-- What is made ahead of the kids. -/
structure PreS (W0 W : World) (ov : Value) (k : Int) (name role : List Int) (ob bn br : Nat) (nv rv : Value) : Prop where
  ptr : ov = .pointer (some ⟨ob, 0, none⟩)
  box : BoxC W ob (.int .i64 k) nv rv (.slice none 0 0)
  ge : W0.heap.size ≤ ob
  bel : Below W0.heap.size W0 W
  nam : Fr W0.heap.size W nv name bn
  nne : name.length = 0 ∨ bn ≠ ob
  rol : Fr W0.heap.size W rv role br
  rne : role.length = 0 ∨ br ≠ ob

theorem PreS.last {W0 w1 w2 : World} {k : Int} {nv rv : Value} {name role : List Int} {bn br : Nat} (h1 : Fr W0.heap.size w1 nv name bn) (b1 : Below W0.heap.size W0 w1) (h2 : Fr w1.heap.size w2 rv role br) (b2 : Below w1.heap.size w1 w2) :
    PreS W0 (w2.alloc (.cells #[.int .i64 k, nv, rv, .slice none 0 0] 25)) (.pointer (some ⟨w2.heap.size, 0, none⟩)) k name role w2.heap.size bn br nv rv := by
  have hs1 := b1.size
  have hs2 := b2.size
  have b3 : Below w2.heap.size w2 (w2.alloc (.cells #[.int .i64 k, nv, rv, .slice none 0 0] 25)) := (Below.refl _ _).alloc (Nat.le_refl _) _
  have hn2 := (h1.below b2)
  refine ⟨rfl, BoxC.new w2 _ _ _ _, by omega, (b1.trans (b2.mono hs1)).trans (b3.mono (by omega)), hn2.below b3, ?_, (h2.mono hs1).below b3, ?_⟩
  · obtain ⟨_, _, _, _, e | e⟩ := hn2
    · exact .inl e
    · exact .inr (by omega)
  · obtain ⟨_, _, _, _, e | e⟩ := h2
    · exact .inl e
    · exact .inr (by omega)

theorem PreS.set {W0 w1 w2 : World} {k : Int} {nv rv : Value} {name role : List Int} {bn br ob : Nat} {z : Int} {z1 z2 z3 : Value} (h1 : Fr W0.heap.size w1 nv name bn) (b1 : Below W0.heap.size W0 w1) (h2 : Fr w1.heap.size w2 rv role br) (b2 : Below w1.heap.size w1 w2) (hb : BoxC w2 ob (.int .i64 z) z1 z2 z3) (ho : W0.heap.size ≤ ob) :
    PreS W0 ((((w2.setCell ⟨ob, 0, none⟩ (.int .i64 k)).setCell ⟨ob, 1, none⟩ nv).setCell ⟨ob, 2, none⟩ rv).setCell ⟨ob, 3, none⟩ (.slice none 0 0)) (.pointer (some ⟨ob, 0, none⟩)) k name role ob bn br nv rv := by
  have hs1 := b1.size
  have hn2 := (h1.below b2)
  have hr2 := h2.mono hs1
  have en := hn2.notBox hb
  have er := hr2.notBox hb
  have hsz : ((((w2.setCell ⟨ob, 0, none⟩ (.int .i64 k)).setCell ⟨ob, 1, none⟩ nv).setCell ⟨ob, 2, none⟩ rv).setCell ⟨ob, 3, none⟩ (.slice none 0 0)).heap.size = w2.heap.size := by simp
  have keep : ∀ {base b : Nat} {v : Value} {zs : List Int}, Fr base w2 v zs b → (zs.length = 0 ∨ b ≠ ob) → Fr base ((((w2.setCell ⟨ob, 0, none⟩ (.int .i64 k)).setCell ⟨ob, 1, none⟩ nv).setCell ⟨ob, 2, none⟩ rv).setCell ⟨ob, 3, none⟩ (.slice none 0 0)) v zs b := by
    intro base b v zs h e
    obtain ⟨a, c, q1, q2, q3⟩ := h
    refine ⟨a, c, q1, q2.keep' ?_, ?_⟩
    · rcases e with e | e
      · exact .inl e
      · exact .inr (heap_set4 _ _ _ _ _ e)
    · rw [hsz]; exact q3
  exact ⟨rfl, hb.set4 _ _ _ _, ho, ((((b1.trans (b2.mono hs1)).setCell ho _).setCell ho _).setCell ho _).setCell ho _, keep hn2 en, en, keep hr2 er, er⟩
end

section
open Go.RowKit

def amongC (l : List CN) (c : CN) : Bool := l.any (fun x => sameC x c)
def putN (l : List CN) (c : CN) : List CN := if amongC l c = true then l else l ++ [c]

theorem among_take_succ (l : List CN) (c : CN) (j : Nat) (h : j < l.length) : amongC (l.take (j + 1)) c = (amongC (l.take j) c || sameC (l.getD j CN.zero) c) := by
  unfold amongC
  rw [take_succ_getD l CN.zero j h, List.any_append]
  simp

theorem among_of {l : List CN} {c : CN} {j : Nat} (h : j < l.length) (e : sameC (l.getD j CN.zero) c = true) : amongC l c = true := by
  unfold amongC
  rw [List.any_eq_true]
  refine ⟨l.getD j CN.zero, ?_, e⟩
  simp only [List.getD, List.getElem?_eq_getElem h, Option.getD_some]
  exact List.getElem_mem h

/-- Only the list's own block was turned; the list lies where it lay, or in a new block. -/
structure GR (w w' : World) (u u' : Value) : Prop where
  grown : w.grownBy w' u.ownBlock
  at' : u'.ownBlock = u.ownBlock ∨ ∃ g, u'.ownBlock = some g ∧ w.heap.size ≤ g

theorem GR.of_below {w w' : World} (u : Value) (h : Below w.heap.size w w') : GR w w' u u := ⟨⟨h.os, h.tape, h.output, h.size, fun k hk _ => h.block k hk⟩, .inl rfl⟩

theorem GR.trans {w w1 w2 : World} {u u1 u2 : Value} (h : GR w w1 u u1) (k : GR w1 w2 u1 u2) : GR w w2 u u2 := by
  have hs := h.grown.size
  refine ⟨⟨k.grown.os.trans h.grown.os, k.grown.tape.trans h.grown.tape, k.grown.output.trans h.grown.output, Nat.le_trans hs k.grown.size, fun b hb hne => ?_⟩, ?_⟩
  · refine (k.grown.block b (by omega) (fun e => ?_)).trans (h.grown.block b hb hne)
    rcases h.at' with e1 | ⟨g, e1, hg⟩
    · exact hne (by rw [e, e1])
    · rw [e1] at e
      simp only [Option.some.injEq] at e
      omega
  · rcases k.at' with e1 | ⟨g, e1, hg⟩
    · rcases h.at' with e2 | ⟨g, e2, hg⟩
      · exact .inl (by rw [e1, e2])
      · exact .inr ⟨g, by rw [e1, e2], hg⟩
    · exact .inr ⟨g, e1, by omega⟩

/-- A list of the model's own whose members lie below hi. -/
structure RowS (BW hi : Nat) (w : World) (d : Nat) (u : Value) (cs : List CN) (Ls : List (List (Addr × IntKind))) (xs : List Value) : Prop where
  row : RowK BW w d u cs Ls xs
  lay : ∀ x ∈ Ls.flatten, x.1.block < hi

theorem RowS.nil (BW hi : Nat) (w : World) (d : Nat) : RowS BW hi w d (.slice none 0 0) [] [] [] := ⟨RowK.nil _ _ _, fun x hx => by simp at hx⟩
theorem RowS.below {BW hi : Nat} {w w' : World} {d : Nat} {u : Value} {cs : List CN} {Ls : List (List (Addr × IntKind))} {xs : List Value} (h : RowS BW hi w d u cs Ls xs) (hb : Below w.heap.size w w') : RowS BW hi w' d u cs Ls xs := ⟨h.row.below hb, h.lay⟩

/-- Its value, and what each member reads as. -/
theorem RowS.form {BW hi : Nat} {w : World} {d : Nat} {u : Value} {cs : List CN} {Ls : List (List (Addr × IntKind))} {xs : List Value} (h : RowS BW hi w d u cs Ls xs) :
    ∃ a cap b, u = .slice a cs.length cap ∧ (cs.length ≤ cap ∧ cap ≤ 9223372036854775807) ∧ (cs.length = 0 ∨ (a = some ⟨b, 0, none⟩ ∧ b < w.heap.size ∧ ∀ i, i < cs.length → ∃ v0 v1 v2 v3, w.cell? ⟨b, 0 + i * 4, none⟩ = some v0 ∧ w.cell? ⟨b, 0 + i * 4 + 1, none⟩ = some v1 ∧ w.cell? ⟨b, 0 + i * 4 + 2, none⟩ = some v2 ∧ w.cell? ⟨b, 0 + i * 4 + 3, none⟩ = some v3 ∧ RdC 0 hi w d (.agg #[v0, v1, v2, v3]) (cs.getD i CN.zero))) := by
  obtain ⟨a, cap, b, hv, ⟨_, hf, hc⟩, hb⟩ := h.row.owL
  refine ⟨a, cap, b, hv, hf, ?_⟩
  rcases hc with e | ⟨e, hc⟩
  · exact .inl e
  · rcases hb with e' | ⟨_, _, hlt, _⟩
    · exact .inl e'
    · refine .inr ⟨e, hlt, fun i hi' => ?_⟩
      obtain ⟨v0, v1, v2, v3, c0, c1, c2, c3, hr⟩ := hc i hi'
      exact ⟨v0, v1, v2, v3, c0, c1, c2, c3, hr.rd (fun x hx => ⟨Nat.zero_le _, h.lay x (getD_mem_flatten hx)⟩)⟩
end

section
open Go.RowKit

def putsN (l : List CN) (ps : List (Nat × CN)) : List CN := ps.foldl (fun a p => putN a p.2) l

theorem putsN_append (l : List CN) (a b : List (Nat × CN)) : putsN l (a ++ b) = putsN (putsN l a) b := List.foldl_append ..
theorem putsN_cons (l : List CN) (p : Nat × CN) (b : List (Nat × CN)) : putsN l (p :: b) = putsN (putN l p.2) b := rfl

theorem putN_len (l : List CN) (c : CN) : (putN l c).length ≤ l.length + 1 := by
  unfold putN
  split
  · omega
  · simp

theorem putsN_len (l : List CN) (ps : List (Nat × CN)) : (putsN l ps).length ≤ l.length + ps.length := by
  induction ps generalizing l with
  | nil => simp [putsN]
  | cons p ps ih =>
    rw [putsN_cons]
    have h1 := ih (putN l p.2)
    have h2 := putN_len l p.2
    simp only [List.length_cons]
    omega

theorem RdC.lift {lo hi d D : Nat} {w : World} {v : Value} {c : CN} (h : RdC lo hi w d v c) (hd : d ≤ D) : RdC lo hi w D v c := by
  obtain ⟨L, hL, hb⟩ := h.ow
  exact (hL.lift hd).rd hb
end

section
open Go.RowKit

/-- All parts, each once; none: it may not be. -/
def subsN (c : CN) : List CN := if conOk c = true then putsN [] (parts c 1) else []
end

section
open Go.RowKit

/-- A list of concepts in memory of its own, from the block base on. -/
structure AnsL (base : Nat) (w : World) (d : Nat) (v : Value) (cs : List CN) (Ls : List (List (Addr × IntKind))) (xs : List Value) : Prop where
  row : RowK base w d v cs Ls xs
  sep : SepK base w Ls

theorem AnsL.below {base : Nat} {w w' : World} {d : Nat} {v : Value} {cs : List CN} {Ls : List (List (Addr × IntKind))} {xs : List Value} (h : AnsL base w d v cs Ls xs) (hb : Below w.heap.size w w') : AnsL base w' d v cs Ls xs :=
  ⟨h.row.below hb, h.sep.below hb h.row.lt⟩

theorem AnsL.same {base : Nat} {w w' : World} {d : Nat} {v : Value} {cs : List CN} {Ls : List (List (Addr × IntKind))} {xs : List Value} (h : AnsL base w d v cs Ls xs) (hk : ∀ b, base ≤ b → b < w.heap.size → w'.heap[b]? = w.heap[b]?) (hs : w.heap.size ≤ w'.heap.size) : AnsL base w' d v cs Ls xs := by
  obtain ⟨⟨h1, h2, h3, h4, h5⟩, h6⟩ := h
  have hlt := h2.lt
  refine ⟨⟨h1, ?_, fun i hi => ?_, fun x hx => Nat.lt_of_lt_of_le (h4 x hx) hs, h5⟩, ⟨h6.nd, fun x hx => (World.frozen?_of_block (w := w) (hk _ (h6.ge x hx) (h4 x hx))).trans (h6.fr x hx), h6.ge⟩⟩
  · obtain ⟨r1, r2⟩ := h2
    refine ⟨r1, ?_⟩
    rcases r2 with r2 | ⟨g, cap, cur, hv, hg, hh, r⟩
    · exact .inl r2
    · exact .inr ⟨g, cap, cur, hv, hg, by rw [hk g hg (Array.getElem?_eq_some_iff.1 hh).1]; exact hh, r⟩
  · obtain ⟨v0, v1, v2, v3, c0, c1, c2, c3, hr⟩ := h3 i hi
    exact ⟨v0, v1, v2, v3, c0, c1, c2, c3, hr.keep (fun x hx => hk _ (h6.ge x (getD_mem_flatten hx)) (h4 x (getD_mem_flatten hx)))⟩

theorem OwL.bulk {w : World} {d : Nat} {a : Option Addr} {cap b off : Nat} {cs : List CN} {Ls : Nat → List (Addr × IntKind)} (h : OwL (OwC w d) w a cs.length cap cs b off Ls) : (leafK b off Ls cs.length).length = bulks cs := by
  have key : ∀ j, j ≤ cs.length → (leafK b off Ls j).length = bulks (cs.take j) := by
    intro j
    induction j with
    | zero => intro _; simp [leafK, bulks]
    | succ j ihj =>
      intro hj
      rw [leafK_succ, List.length_append, ihj (by omega), bulks_take_succ _ _ (by omega)]
      rcases h.cells with g3 | ⟨_, g3⟩
      · omega
      · obtain ⟨v0, v1, v2, v3, c0, c1, c2, c3, hr⟩ := g3 j (by omega)
        rw [List.length_cons, hr.bulk]
        omega
  have := key cs.length (Nat.le_refl _)
  rwa [List.take_of_length_le (Nat.le_refl _)] at this

theorem OwL.lv {w : World} {d : Nat} {a : Option Addr} {n cap b off : Nat} {cs : List CN} {Ls : Nat → List (Addr × IntKind)} (h : OwL (OwC w d) w a n cap cs b off Ls) : LvL (LvC w d) w a n b off Ls := by
  rcases h.cells with g3 | ⟨e, g3⟩
  · exact .inl g3
  · refine .inr ⟨e, fun i hi => ?_⟩
    obtain ⟨v0, v1, v2, v3, c0, c1, c2, c3, hr⟩ := g3 i hi
    exact ⟨v1, v2, v3, c1, c2, c3, hr.lv⟩

/-- What is needed of it to be compared, marked and looked at. -/
structure FinL (base top : Nat) (w : World) (d : Nat) (a : Option Addr) (n cap : Nat) (cs : List CN) (b : Nat) (Lf : Nat → List (Addr × IntKind)) : Prop where
  rd : RdL (RdC base top w d) base top w a n cap cs
  lv : LvL (LvC w d) w a n b 0 Lf
  ok : LeafOk w (leafK b 0 Lf n)
  nd : ((leafK b 0 Lf n).map (·.1)).Nodup
  bl : ∀ x ∈ leafK b 0 Lf n, base ≤ x.1.block ∧ x.1.block < top
  ln : (leafK b 0 Lf n).length = bulks cs

theorem rowK_rd {base : Nat} {w : World} {d : Nat} {v : Value} {cs : List CN} {Ls : List (List (Addr × IntKind))} {xs : List Value} (h : RowK base w d v cs Ls xs) (hge : ∀ x ∈ Ls.flatten, base ≤ x.1.block) :
    ∃ a cap, v = .slice a cs.length cap ∧ RdL (RdC base w.heap.size w d) base w.heap.size w a cs.length cap cs := by
  obtain ⟨a, cap, b, hv, ho, hb⟩ := h.owL
  refine ⟨a, cap, hv, ho.len, ho.fits, ?_⟩
  rcases ho.cells with e | ⟨e, hc⟩
  · exact .inl e
  · rcases hb with hb | ⟨_, hb1, hb2, _⟩
    · exact .inl hb
    · refine .inr ⟨b, 0, e, hb1, hb2, fun i hi => ?_⟩
      obtain ⟨v0, v1, v2, v3, c0, c1, c2, c3, hr⟩ := hc i hi
      exact ⟨v0, v1, v2, v3, c0, c1, c2, c3, hr.rd (fun x hx => ⟨hge x (getD_mem_flatten hx), h.lt x (getD_mem_flatten hx)⟩)⟩

theorem FinL.of {base : Nat} {w : World} {d : Nat} {v : Value} {cs : List CN} {Ls : List (List (Addr × IntKind))} {xs : List Value} (h : AnsL base w d v cs Ls xs) :
    ∃ a cap b, v = .slice a cs.length cap ∧ FinL base w.heap.size w d a cs.length cap cs b (fun i => Ls.getD i []) := by
  obtain ⟨a, cap, b, hv, ho, hb⟩ := h.row.owL
  obtain ⟨a', cap', hv', hrd⟩ := rowK_rd h.row h.sep.ge
  rw [hv] at hv'
  simp only [Value.slice.injEq] at hv'
  obtain ⟨rfl, _, rfl⟩ := hv'
  have hlen := h.row.len
  have hbl : ∀ x ∈ leafK b 0 (fun i => Ls.getD i []) cs.length, base ≤ x.1.block ∧ x.1.block < w.heap.size := by
    intro x hx
    rcases leafK_flatten b Ls cs.length (by omega) x hx with e | e
    · rcases hb with hb | ⟨_, hb1, hb2, _⟩
      · rw [hb] at hx; simp [leafK] at hx
      · rw [e]; exact ⟨hb1, hb2⟩
    · exact ⟨h.sep.ge x e, h.row.lt x e⟩
  refine ⟨a, cap, b, hv, hrd, ho.lv, ?_, ?_, hbl, ho.bulk⟩
  · intro x hx
    obtain ⟨i, hi, hx'⟩ := mem_leafK.1 hx
    rcases ho.cells with e | ⟨_, hc⟩
    · omega
    · obtain ⟨v0, v1, v2, v3, c0, c1, c2, c3, hr⟩ := hc i hi
      rcases hx' with rfl | hx'
      · have := hr.form.1
        subst this
        refine ⟨⟨_, c0⟩, ?_⟩
        rcases hb with hb | ⟨_, _, _, hfz⟩
        · omega
        · exact hfz _
      · exact ⟨hr.leaf x hx', h.sep.fr x (getD_mem_flatten hx')⟩
  · by_cases h0 : cs.length = 0
    · rw [h0]; simp [leafK]
    · rcases hb with hb | ⟨hob, _, _, _⟩
      · omega
      · exact leafK_nodup h.sep (fun x hx e => h.row.off x hx (by rw [hob, e])) cs.length (by omega)
end

section
open Go.RowKit

theorem among_iff (l : List CN) (c : CN) : amongC l c = true ↔ c ∈ l := by
  unfold amongC
  rw [List.any_eq_true]
  constructor
  · rintro ⟨x, hx, h⟩
    rw [(sameC_iff x c).1 h] at hx
    exact hx
  · intro h
    exact ⟨c, h, (sameC_iff c c).2 rfl⟩

theorem putN_mem (l : List CN) (c x : CN) : x ∈ putN l c ↔ x ∈ l ∨ x = c := by
  unfold putN
  by_cases h : amongC l c = true
  · rw [if_pos h]
    constructor
    · exact .inl
    · rintro (q | q)
      · exact q
      · rw [q]; exact (among_iff l c).1 h
  · rw [if_neg h]; simp

theorem putsN_mem : ∀ (ps : List (Nat × CN)) (l : List CN) (x : CN), x ∈ putsN l ps ↔ x ∈ l ∨ ∃ p ∈ ps, p.2 = x
  | [], l, x => by simp [putsN]
  | p :: ps, l, x => by
    rw [putsN_cons, putsN_mem ps, putN_mem]
    constructor
    · rintro ((h | h) | ⟨q, hq, e⟩)
      · exact .inl h
      · exact .inr ⟨p, List.mem_cons_self, h.symm⟩
      · exact .inr ⟨q, List.mem_cons_of_mem _ hq, e⟩
    · rintro (h | ⟨q, hq, e⟩)
      · exact .inl (.inl h)
      · rcases List.mem_cons.1 hq with h | h
        · exact .inl (.inr (by rw [← e, h]))
        · exact .inr ⟨q, h, e⟩

theorem putN_nodup {l : List CN} (h : l.Nodup) (c : CN) : (putN l c).Nodup := by
  unfold putN
  by_cases k : amongC l c = true
  · rw [if_pos k]; exact h
  · rw [if_neg k, List.nodup_append]
    exact ⟨h, by simp, fun a ha b hb e => k ((among_iff l c).2 (by simp only [List.mem_singleton] at hb; rw [← hb, ← e]; exact ha))⟩

theorem putsN_nodup : ∀ (ps : List (Nat × CN)) {l : List CN}, l.Nodup → (putsN l ps).Nodup
  | [], _, h => h
  | p :: ps, _, h => putsN_nodup ps (putN_nodup h p.2)

theorem putN_first {l : List CN} (h : 1 ≤ l.length) (c : CN) : (putN l c).getD 0 CN.zero = l.getD 0 CN.zero ∧ 1 ≤ (putN l c).length := by
  unfold putN
  split
  · exact ⟨rfl, h⟩
  · refine ⟨?_, by simp⟩
    simp only [List.getD]
    rw [List.getElem?_append_left (by omega)]

theorem putsN_first : ∀ (ps : List (Nat × CN)) {l : List CN}, 1 ≤ l.length → (putsN l ps).getD 0 CN.zero = l.getD 0 CN.zero ∧ 1 ≤ (putsN l ps).length
  | [], _, h => ⟨rfl, h⟩
  | p :: ps, l, h => by
    obtain ⟨h1, h2⟩ := putN_first h p.2
    obtain ⟨h3, h4⟩ := putsN_first ps h2
    exact ⟨h3.trans h1, h4⟩

mutual
theorem parts_shift : ∀ (c : CN) (d e : Nat), parts c (d + e) = (parts c d).map (fun p => (p.1 + e, p.2))
  | .mk k n r ks, d, e => by
    rw [parts, parts, List.map_cons, show d + e + 1 = d + 1 + e by omega, partsL_shift ks (d + 1) e]
theorem partsL_shift : ∀ (cs : List CN) (d e : Nat), partsL cs (d + e) = (partsL cs d).map (fun p => (p.1 + e, p.2))
  | [], _, _ => rfl
  | c :: cs, d, e => by
    rw [partsL, partsL, List.map_append, parts_shift c d e, partsL_shift cs d e]
end

mutual
theorem part_parts : ∀ (c : CN) (d : Nat) (p : Nat × CN), p ∈ parts c d → d ≤ p.1 ∧ (∀ q ∈ parts p.2 p.1, q ∈ parts c d) ∧ (parts p.2 p.1).length ≤ (parts c d).length
  | .mk k n r ks, d, p, h => by
    rw [parts] at h
    rcases List.mem_cons.1 h with e | e
    · subst e
      exact ⟨Nat.le_refl _, fun q hq => hq, Nat.le_refl _⟩
    · obtain ⟨h1, h2, h3⟩ := partL_parts ks (d + 1) p e
      rw [parts]
      exact ⟨by omega, fun q hq => List.mem_cons_of_mem _ (h2 q hq), by simp only [List.length_cons]; omega⟩
theorem partL_parts : ∀ (cs : List CN) (d : Nat) (p : Nat × CN), p ∈ partsL cs d → d ≤ p.1 ∧ (∀ q ∈ parts p.2 p.1, q ∈ partsL cs d) ∧ (parts p.2 p.1).length ≤ (partsL cs d).length
  | [], _, _, h => by simp [partsL] at h
  | c :: cs, d, p, h => by
    rw [partsL] at h ⊢
    rcases List.mem_append.1 h with e | e
    · obtain ⟨h1, h2, h3⟩ := part_parts c d p e
      exact ⟨h1, fun q hq => List.mem_append.2 (.inl (h2 q hq)), by rw [List.length_append]; omega⟩
    · obtain ⟨h1, h2, h3⟩ := partL_parts cs d p e
      exact ⟨h1, fun q hq => List.mem_append.2 (.inr (h2 q hq)), by rw [List.length_append]; omega⟩
end

/-- A part of one that may be is one that may be, and its parts are among them. -/
theorem conOk_part {c : CN} (h : conOk c = true) {p : Nat × CN} (hp : p ∈ parts c 1) : conOk p.2 = true ∧ ∀ q ∈ parts p.2 1, ∃ r ∈ parts c 1, r.2 = q.2 := by
  obtain ⟨h1, h2, h3⟩ := part_parts c 1 p hp
  unfold conOk at h ⊢
  rw [Bool.and_eq_true, decide_eq_true_eq] at h
  have hs := parts_shift p.2 1 (p.1 - 1)
  rw [show 1 + (p.1 - 1) = p.1 by omega] at hs
  have hl : (parts p.2 p.1).length = (parts p.2 1).length := by rw [hs, List.length_map]
  have hup : ∀ q ∈ parts p.2 1, (q.1 + (p.1 - 1), q.2) ∈ parts c 1 := fun q hq => h2 _ (by rw [hs]; exact List.mem_map.2 ⟨q, hq, rfl⟩)
  refine ⟨?_, fun q hq => ⟨_, hup q hq, rfl⟩⟩
  rw [Bool.and_eq_true, decide_eq_true_eq]
  refine ⟨by omega, List.all_eq_true.2 (fun q hq => ?_)⟩
  have := List.all_eq_true.1 h.2 _ (hup q hq)
  unfold okOne at this ⊢
  rw [Bool.and_eq_true, decide_eq_true_eq] at this ⊢
  exact ⟨by have := this.1; omega, this.2⟩

theorem subsN_ok {c : CN} (h : conOk c = true) : subsN c = putsN [] (parts c 1) := if_pos h
theorem subsN_no {c : CN} (h : ¬ conOk c = true) : subsN c = [] := if_neg h

theorem subs_head {c : CN} (h : conOk c = true) : (subsN c).getD 0 CN.zero = c ∧ 1 ≤ (subsN c).length := by
  rw [subsN_ok h, parts_eq, putsN_cons]
  have e : putN [] c = [c] := by simp [putN, amongC]
  rw [e]
  exact putsN_first _ (by simp)
theorem subs_len {c : CN} (h : conOk c = true) : (subsN c).length ≤ (parts c 1).length := by
  rw [subsN_ok h]
  have := putsN_len [] (parts c 1)
  simpa using this
theorem subs_nodup (c : CN) : (subsN c).Nodup := by
  unfold subsN
  split
  · exact putsN_nodup _ (by simp)
  · simp
theorem subs_mem {c : CN} (h : conOk c = true) (x : CN) : x ∈ subsN c ↔ ∃ p ∈ parts c 1, p.2 = x := by
  rw [subsN_ok h, putsN_mem]; simp
theorem subs_part {c x : CN} (h : conOk c = true) (hx : x ∈ subsN c) : conOk x = true ∧ ∀ y ∈ subsN x, y ∈ subsN c := by
  obtain ⟨p, hp, rfl⟩ := (subs_mem h x).1 hx
  obtain ⟨h1, h2⟩ := conOk_part h hp
  refine ⟨h1, fun y hy => ?_⟩
  obtain ⟨q, hq, rfl⟩ := (subs_mem h1 y).1 hy
  exact (subs_mem h _).2 (h2 q hq)
end

end Go.Proofs.Ytedihcjhfkdkjaa
