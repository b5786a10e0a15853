/- The model's own way of making concepts: what is under way, one kid more, the whole; bytes appended to an empty slice. -/
import Derived.Test.YthojlfcahhjfaaaConClone2
import Derived.Test.YthojlfcahhjfaaaNnfMath
import Derived.Deep.RegionLawGrows
namespace Go.Proofs.Ythojlfcahhjfaaa
open Go.RowKit

/-- What is under way: its box, its name and role, and the kids so far; each kid's memory lies below h0 or from BW on. -/
structure InvS (W0 : World) (h0 BW ob d : Nat) (k : Int) (nv rv : Value) (name role : List Int) (bn on br orr : Nat) (wr : World) (kv : Value) (cs : List CN) (Ls : List (List (Addr × IntKind))) (xs : List Value) : Prop where
  row : RowK BW wr d kv cs Ls xs
  lay : ∀ x ∈ Ls.flatten, x.1.block < h0 ∨ BW ≤ x.1.block
  box : BoxC wr ob (.int .i64 k) nv rv kv
  nam : ∃ a c, nv = .slice a name.length c ∧ OwB wr a name.length c name bn on
  rol : ∃ a c, rv = .slice a role.length c ∧ OwB wr a role.length c role br orr
  bel : Below W0.heap.size W0 wr
  sz : BW ≤ wr.heap.size

structure StatS (W0 : World) (h0 BW ob : Nat) (name role : List Int) (bn br : Nat) : Prop where
  o1 : ob < BW
  o0 : W0.heap.size ≤ ob
  h0 : h0 ≤ W0.heap.size
  n1 : name.length = 0 ∨ (bn < BW ∧ bn ≠ ob)
  r1 : role.length = 0 ∨ (br < BW ∧ br ≠ ob)

theorem OwB.keep' {w w' : World} {a : Option Addr} {n cap : Nat} {zs : List Int} {b off : Nat} (h : OwB w a n cap zs b off) (hk : n = 0 ∨ w'.heap[b]? = w.heap[b]?) : OwB w' a n cap zs b off :=
  h.keep (fun x hx => by
    obtain ⟨j, hj, rfl⟩ := mem_leafB.1 hx
    rcases hk with e | e
    · omega
    · exact e)

theorem OwB.blt {w : World} {a : Option Addr} {n cap : Nat} {zs : List Int} {b off : Nat} (h : OwB w a n cap zs b off) : n = 0 ∨ b < w.heap.size := by
  rcases h.cells with e | ⟨_, hc⟩
  · exact .inl e
  · by_cases hn : n = 0
    · exact .inl hn
    · exact .inr (block_lt_of_cell (hc 0 (by omega)))

theorem InvS.below {W0 wr w' : World} {h0 BW ob d : Nat} {k : Int} {nv rv kv : Value} {name role : List Int} {bn on br orr : Nat} {cs : List CN} {Ls : List (List (Addr × IntKind))} {xs : List Value} (h : InvS W0 h0 BW ob d k nv rv name role bn on br orr wr kv cs Ls xs) (hb : Below wr.heap.size wr w') :
    InvS W0 h0 BW ob d k nv rv name role bn on br orr w' kv cs Ls xs := by
  have hs := hb.size
  obtain ⟨na, nc, hn1, hn2⟩ := h.nam
  obtain ⟨ra, rc, hr1, hr2⟩ := h.rol
  refine ⟨h.row.below hb, h.lay, h.box.below hb h.box.lt, ⟨na, nc, hn1, hn2.keep' ?_⟩, ⟨ra, rc, hr1, hr2.keep' ?_⟩, h.bel.trans (hb.mono h.bel.size), Nat.le_trans h.sz hs⟩
  · rcases hn2.blt with e | e
    · exact .inl e
    · exact .inr (hb.block _ e)
  · rcases hr2.blt with e | e
    · exact .inl e
    · exact .inr (hb.block _ e)

theorem InvS.app {W0 W w6 : World} {h0 BW ob d : Nat} {k : Int} {nv rv kv : Value} {name role : List Int} {bn on br orr : Nat} {cs : List CN} {Ls : List (List (Addr × IntKind))} {xs : List Value} (hS : StatS W0 h0 BW ob name role bn br) (h : InvS W0 h0 BW ob d k nv rv name role bn on br orr W kv cs Ls xs)
    {c : CN} {L : List (Addr × IntKind)} {v0 v1 v2 v3 : Value} {B g cap n : Nat} (hc : OwC W d (.agg #[v0, v1, v2, v3]) c L) (hl : ∀ x ∈ L, (x.1.block < h0 ∨ B ≤ x.1.block) ∧ x.1.block < W.heap.size) (hB : BW ≤ B) (hkB : ∀ g, kv.ownBlock = some g → g < B) (hn : n = cs.length + 1)
    (hown : w6.ownsRow BW 35 4 (.slice (some ⟨g, 0, none⟩) n cap) n (xs ++ [v0, v1, v2, v3])) (hgrow : W.grownBy w6 kv.ownBlock) (hat : kv.ownBlock = some g ∨ g = W.heap.size) :
    BoxC w6 ob (.int .i64 k) nv rv kv ∧ InvS W0 h0 BW ob d k nv rv name role bn on br orr (w6.setCell ⟨ob, 3, none⟩ (.slice (some ⟨g, 0, none⟩) n cap)) (.slice (some ⟨g, 0, none⟩) n cap) (cs ++ [c]) (Ls ++ [L]) (xs ++ [v0, v1, v2, v3]) := by
  subst hn
  have hkl := h.row.row.lt
  have ho1 := hS.o1
  have ho0 := hS.o0
  have hh0 := hS.h0
  have hkne : ∀ b, b < BW → kv.ownBlock ≠ some b := fun b hb e => by have := hkl b e; omega
  have hbox6 : BoxC w6 ob (.int .i64 k) nv rv kv := (hgrow.block ob h.box.lt (fun e => hkne ob hS.o1 e.symm)).trans h.box
  have hoffL : ∀ x ∈ L, kv.ownBlock ≠ some x.1.block := fun x hx e => by
    have h1 := hkB _ e
    have h2 := hkl _ e
    have h3 := (hl x hx).1
    omega
  have hrow6 : RowK BW w6 d (.slice (some ⟨g, 0, none⟩) (cs.length + 1) cap) (cs ++ [c]) (Ls ++ [L]) (xs ++ [v0, v1, v2, v3]) :=
    h.row.snoc hc (fun x hx => (hl x hx).2) hoffL hown hgrow (by
      rcases hat with e | e
      · exact .inl (by rw [e]; rfl)
      · exact .inr (by rw [← e]; rfl))
  have hlay6 : ∀ x ∈ (Ls ++ [L]).flatten, x.1.block < h0 ∨ BW ≤ x.1.block := by
    intro x hx
    simp only [List.flatten_append, List.mem_append, List.flatten_cons, List.flatten_nil, List.append_nil] at hx
    rcases hx with hx | hx
    · exact h.lay x hx
    · have := (hl x hx).1; omega
  have hgl := hown.lt g rfl
  obtain ⟨na, nc, hn1, hn2⟩ := h.nam
  obtain ⟨ra, rc, hr1, hr2⟩ := h.rol
  have hbel6 : Below W0.heap.size W0 w6 := h.bel.grown hgrow h.bel.size (fun x hx => by have := hkl x hx; omega)
  refine ⟨hbox6, ⟨hrow6.set 3 _ (fun x hx => by have := hlay6 x hx; omega) (fun e => by simp only [Value.ownBlock, Option.some.injEq] at e; omega), hlay6, hbox6.set3 _, ⟨na, nc, hn1, hn2.keep' ?_⟩, ⟨ra, rc, hr1, hr2.keep' ?_⟩, hbel6.setCell ho0 _, ?_⟩⟩
  · rcases hS.n1 with e | ⟨e1, e2⟩
    · exact .inl e
    · rcases hn2.blt with e | e
      · exact .inl e
      · exact .inr ((Below.heap_setCell w6 ⟨ob, 3, none⟩ _ bn e2).trans (hgrow.block bn e (fun e' => hkne bn e1 e'.symm)))
  · rcases hS.r1 with e | ⟨e1, e2⟩
    · exact .inl e
    · rcases hr2.blt with e | e
      · exact .inl e
      · exact .inr ((Below.heap_setCell w6 ⟨ob, 3, none⟩ _ br e2).trans (hgrow.block br e (fun e' => hkne br e1 e'.symm)))
  · have := h.sz
    have := hgrow.size
    simp; omega

/-- The whole. -/
theorem InvS.done {W0 wr : World} {h0 BW ob d : Nat} {k : Int} {nv rv kv : Value} {name role : List Int} {bn on br orr : Nat} {cs : List CN} {Ls : List (List (Addr × IntKind))} {xs : List Value} (h : InvS W0 h0 BW ob d k nv rv name role bn on br orr wr kv cs Ls xs) (P : Nat → Prop)
    (hn : name.length = 0 ∨ P bn) (hr : role.length = 0 ∨ P br) (hk : ∀ b, b < wr.heap.size → b < h0 ∨ BW ≤ b → P b) :
    ∃ L, OwC wr (d + 1) (.agg #[.int .i64 k, nv, rv, kv]) (.mk k name role cs) L ∧ ∀ x ∈ L, P x.1.block ∧ x.1.block < wr.heap.size := by
  obtain ⟨na, nc, rfl, hn2⟩ := h.nam
  obtain ⟨ra, rc, rfl, hr2⟩ := h.rol
  obtain ⟨ka, kc, bk, rfl, ok, fk⟩ := h.row.owL
  refine ⟨_, ⟨_, _, _, _, _, _, _, _, _, bn, on, br, orr, bk, 0, _, rfl, hn2, hr2, ok, rfl⟩, fun x hx => ?_⟩
  simp only [List.mem_append] at hx
  rcases hx with hx | hx | hx
  · obtain ⟨j, hj, rfl⟩ := mem_leafB.1 hx
    have h1 := hn2.blt
    rcases hn with e | e
    · omega
    · exact ⟨e, by show bn < _; omega⟩
  · obtain ⟨j, hj, rfl⟩ := mem_leafB.1 hx
    have h1 := hr2.blt
    rcases hr with e | e
    · omega
    · exact ⟨e, by show br < _; omega⟩
  · rcases mem_leafK.1 hx with ⟨i, hi, rfl | hx⟩
    · rcases fk with e | ⟨_, q1, q2, _⟩
      · omega
      · exact ⟨hk bk q2 (.inr q1), q2⟩
    · have hx := getD_mem_flatten hx
      exact ⟨hk _ (h.row.lt x hx) (h.lay x hx), h.row.lt x hx⟩

theorem OwC.sameF {w w' : World} {d : Nat} {v : Value} {c : CN} {L : List (Addr × IntKind)} (h : OwC w d v c L) {o : Nat} (hne : ∀ x ∈ L, x.1.block ≠ o) {x0 x1 x2 x3 : Value} (e : w' = (((w.setCell ⟨o, 0, none⟩ x0).setCell ⟨o, 1, none⟩ x1).setCell ⟨o, 2, none⟩ x2).setCell ⟨o, 3, none⟩ x3) : OwC w' d v c L := by
  subst e
  exact h.keep (fun x hx => heap_set4 _ _ _ _ _ (hne x hx))

end Go.Proofs.Ythojlfcahhjfaaa
