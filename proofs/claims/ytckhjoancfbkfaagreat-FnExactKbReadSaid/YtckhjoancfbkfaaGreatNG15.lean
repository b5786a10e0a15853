/- Several texts in one: ConClone2, ConSpO, ConNnfS, ConOwnS. -/
import Derived.Test.YtckhjoancfbkfaaGreatNG10
import Derived.Deep.RegionHeld
import Derived.Deep.RegionLaw
import Derived.Deep.AppendLies
import Derived.Deep.DeepCutAuto
import Derived.Deep.RegionLawGrows
import Derived.Deep.RegionHeldLaw
namespace Go.Proofs.YtckhjoancfbkfaaGreat

section
open Go.RowKit

theorem Tryz.infoCon4 : (Tryz.prog.info? 37).map (fun i => (i.zero, i.size, i.bytes)) = some (some (.agg #[.int .i64 0, .slice none 0 0, .slice none 0 0, .slice none 0 0]), 4, 80) := by kernel_rfl

theorem OwnB.isSlice {base : Nat} {w : World} {v : Value} {zs : List Int} (h : OwnB base w v zs) : ∃ a n c, v = .slice a n c := by
  rcases h.2 with ⟨rfl, _⟩ | ⟨g, cap, cur, rfl, _⟩
  · exact ⟨_, _, _, rfl⟩
  · exact ⟨_, _, _, rfl⟩

theorem OwnB.mono {base base' : Nat} {w : World} {v : Value} {zs : List Int} (h : OwnB base w v zs) (hb : base' ≤ base) : OwnB base' w v zs := by
  obtain ⟨h1, h2⟩ := h
  refine ⟨h1, ?_⟩
  rcases h2 with h2 | ⟨g, cap, cur, hv, hg, r⟩
  · exact .inl h2
  · exact .inr ⟨g, cap, cur, hv, by omega, r⟩

theorem BoxC.frz {W : World} {b : Nat} {v0 v1 v2 v3 : Value} (h : BoxC W b v0 v1 v2 v3) (o : Nat) : W.frozen? ⟨b, o, none⟩ = false := by
  unfold BoxC at h
  simp [World.frozen?, h]

/-- Three cells of a box. -/
theorem S3.of {W W' : World} {b : Nat} {v0 v1 v2 : Value} (hk : W'.heap[b]? = W.heap[b]?) (h : W.cell? ⟨b, 0, none⟩ = some v0 ∧ W.cell? ⟨b, 1, none⟩ = some v1 ∧ W.cell? ⟨b, 2, none⟩ = some v2) : W'.cell? ⟨b, 0, none⟩ = some v0 ∧ W'.cell? ⟨b, 1, none⟩ = some v1 ∧ W'.cell? ⟨b, 2, none⟩ = some v2 := by
  simp only [World.cell?, hk] at h ⊢
  exact h

theorem S3.alloc {W : World} {b : Nat} {v0 v1 v2 : Value} {o : Obj} (h : W.cell? ⟨b, 0, none⟩ = some v0 ∧ W.cell? ⟨b, 1, none⟩ = some v1 ∧ W.cell? ⟨b, 2, none⟩ = some v2) (hb : b < W.heap.size) : (W.alloc o).cell? ⟨b, 0, none⟩ = some v0 ∧ (W.alloc o).cell? ⟨b, 1, none⟩ = some v1 ∧ (W.alloc o).cell? ⟨b, 2, none⟩ = some v2 :=
  S3.of (Below.heap_alloc _ _ _ hb) h

theorem S3.drew {W : World} {b : Nat} {v0 v1 v2 : Value} (h : W.cell? ⟨b, 0, none⟩ = some v0 ∧ W.cell? ⟨b, 1, none⟩ = some v1 ∧ W.cell? ⟨b, 2, none⟩ = some v2) : W.drew.cell? ⟨b, 0, none⟩ = some v0 ∧ W.drew.cell? ⟨b, 1, none⟩ = some v1 ∧ W.drew.cell? ⟨b, 2, none⟩ = some v2 := S3.of rfl h

theorem S4.of {W W' : World} {b : Nat} {v0 v1 v2 v3 : Value} (hk : W'.heap[b]? = W.heap[b]?) (h : W.cell? ⟨b, 0, none⟩ = some v0 ∧ W.cell? ⟨b, 1, none⟩ = some v1 ∧ W.cell? ⟨b, 2, none⟩ = some v2 ∧ W.cell? ⟨b, 3, none⟩ = some v3) : W'.cell? ⟨b, 0, none⟩ = some v0 ∧ W'.cell? ⟨b, 1, none⟩ = some v1 ∧ W'.cell? ⟨b, 2, none⟩ = some v2 ∧ W'.cell? ⟨b, 3, none⟩ = some v3 := by
  simp only [World.cell?, hk] at h ⊢
  exact h

theorem S4.drew {W : World} {b : Nat} {v0 v1 v2 v3 : Value} (h : W.cell? ⟨b, 0, none⟩ = some v0 ∧ W.cell? ⟨b, 1, none⟩ = some v1 ∧ W.cell? ⟨b, 2, none⟩ = some v2 ∧ W.cell? ⟨b, 3, none⟩ = some v3) : W.drew.cell? ⟨b, 0, none⟩ = some v0 ∧ W.drew.cell? ⟨b, 1, none⟩ = some v1 ∧ W.drew.cell? ⟨b, 2, none⟩ = some v2 ∧ W.drew.cell? ⟨b, 3, none⟩ = some v3 := S4.of rfl h

theorem new4 (w : World) (g : Nat) (x y z u : Value) (t : Nat) (hg : g = w.heap.size) : ∀ j v, [x, y, z, u][j]? = some v → (w.alloc (.cells #[x, y, z, u] t)).cell? ((⟨g, 0, none⟩ : Addr).add j) = some v := by
  intro j v hu
  subst hg
  rw [Addr.add_lit]
  match j, hu with
  | 0, hu => simp at hu; subst hu; simp
  | 1, hu => simp at hu; subst hu; simp
  | 2, hu => simp at hu; subst hu; simp
  | 3, hu => simp at hu; subst hu; simp

theorem one4 (k : Int) (a1 : Option Addr) (n1 c1 : Nat) (a2 : Option Addr) (n2 c2 : Nat) (a3 : Option Addr) (n3 c3 : Nat) : ∀ u ∈ [Value.int .i64 k, .slice a1 n1 c1, .slice a2 n2 c2, .slice a3 n3 c3], u.oneCell' = true := by
  intro u hu
  simp at hu
  rcases hu with rfl | rfl | rfl | rfl <;> rfl

theorem heap_set4 (W : World) {b o : Nat} (x0 x1 x2 x3 : Value) (hb : b ≠ o) : ((((W.setCell ⟨o, 0, none⟩ x0).setCell ⟨o, 1, none⟩ x1).setCell ⟨o, 2, none⟩ x2).setCell ⟨o, 3, none⟩ x3).heap[b]? = W.heap[b]? := by
  rw [Below.heap_setCell _ ⟨o, 3, none⟩ _ b hb, Below.heap_setCell _ ⟨o, 2, none⟩ _ b hb, Below.heap_setCell _ ⟨o, 1, none⟩ _ b hb, Below.heap_setCell _ ⟨o, 0, none⟩ _ b hb]

theorem S3.set4 {W : World} {b o : Nat} {v0 v1 v2 x0 x1 x2 x3 : Value} (h : W.cell? ⟨b, 0, none⟩ = some v0 ∧ W.cell? ⟨b, 1, none⟩ = some v1 ∧ W.cell? ⟨b, 2, none⟩ = some v2) (hb : b < o) :
    ((((W.setCell ⟨o, 0, none⟩ x0).setCell ⟨o, 1, none⟩ x1).setCell ⟨o, 2, none⟩ x2).setCell ⟨o, 3, none⟩ x3).cell? ⟨b, 0, none⟩ = some v0 ∧ ((((W.setCell ⟨o, 0, none⟩ x0).setCell ⟨o, 1, none⟩ x1).setCell ⟨o, 2, none⟩ x2).setCell ⟨o, 3, none⟩ x3).cell? ⟨b, 1, none⟩ = some v1 ∧
      ((((W.setCell ⟨o, 0, none⟩ x0).setCell ⟨o, 1, none⟩ x1).setCell ⟨o, 2, none⟩ x2).setCell ⟨o, 3, none⟩ x3).cell? ⟨b, 2, none⟩ = some v2 :=
  S3.of (heap_set4 W x0 x1 x2 x3 (Nat.ne_of_lt hb)) h

/-- What is made ahead of the kids: the box of what is to be, its name and role. -/
structure Pre (B : Nat) (w0 W : World) (ov : Value) (k : Int) (name role : List Int) (ob B1 : Nat) (nv rv : Value) : Prop where
  ptr : ov = .pointer (some ⟨ob, 0, none⟩)
  box : BoxC W ob (.int .i64 k) nv rv (.slice none 0 0)
  ge : B ≤ ob
  bel : Below B w0 W
  nam : OwnB B W nv name
  naml : ∀ g, nv.ownBlock = some g → g < B1
  rol : OwnB B1 W rv role
  roll : ∀ g, rv.ownBlock = some g → g < W.heap.size
  b1 : B ≤ B1 ∧ B1 ≤ W.heap.size

theorem OwnB.keepB {base : Nat} {w w' : World} {v : Value} {zs : List Int} (h : OwnB base w v zs) (hk : ∀ g, v.ownBlock = some g → w'.heap[g]? = w.heap[g]?) : OwnB base w' v zs := by
  obtain ⟨h1, h2⟩ := h
  refine ⟨h1, ?_⟩
  rcases h2 with h2 | ⟨g, cap, cur, rfl, hg, hh, r⟩
  · exact .inl h2
  · exact .inr ⟨g, cap, cur, rfl, hg, by rw [hk g rfl]; exact hh, r⟩

/-- Its block is no concept's box. -/
theorem OwnB.notBox {base : Nat} {w : World} {v : Value} {zs : List Int} {o : Nat} {v0 v1 v2 v3 : Value} (h : OwnB base w v zs) (hb : BoxC w o v0 v1 v2 v3) : ∀ g, v.ownBlock = some g → g ≠ o := by
  intro g hg e
  rcases h.2 with ⟨rfl, _⟩ | ⟨g', cap, cur, rfl, _, hh, _⟩
  · simp [Value.ownBlock] at hg
  · simp only [Value.ownBlock, Option.some.injEq] at hg
    subst hg
    subst e
    unfold BoxC at hb
    rw [hb] at hh
    simp at hh

theorem OwnB.lt {base : Nat} {w : World} {v : Value} {zs : List Int} (h : OwnB base w v zs) : ∀ g, v.ownBlock = some g → base ≤ g ∧ g < w.heap.size := World.ownsRow.lt h

theorem Pre.last {W0 w1 w2 : World} {k : Int} {nv rv : Value} {name role : List Int} (h1 : OwnB W0.heap.size w1 nv name) (b1 : Below W0.heap.size W0 w1) (h2 : OwnB w1.heap.size w2 rv role) (b2 : Below w1.heap.size w1 w2) :
    Pre W0.heap.size W0 (w2.alloc (.cells #[.int .i64 k, nv, rv, .slice none 0 0] 37)) (.pointer (some ⟨w2.heap.size, 0, none⟩)) k name role w2.heap.size w1.heap.size nv rv := by
  have hs1 := b1.size
  have hs2 := b2.size
  have b3 : Below w2.heap.size w2 (w2.alloc (.cells #[.int .i64 k, nv, rv, .slice none 0 0] 37)) := (Below.refl _ _).alloc (Nat.le_refl _) _
  refine ⟨rfl, BoxC.new w2 _ _ _ _, by omega, (b1.trans (b2.mono hs1)).trans (b3.mono (by omega)), (h1.below b2 (Nat.le_refl _)).below b3 (Nat.le_refl _), fun g hg => (h1.lt g hg).2, h2.below b3 (Nat.le_refl _), fun g hg => ?_, hs1, ?_⟩
  · have := (h2.lt g hg).2
    rw [World.size_alloc]; omega
  · rw [World.size_alloc]; omega

theorem BoxC.set4 {W : World} {b : Nat} {v0 v1 v2 v3 : Value} (h : BoxC W b v0 v1 v2 v3) (x0 x1 x2 x3 : Value) : BoxC ((((W.setCell ⟨b, 0, none⟩ x0).setCell ⟨b, 1, none⟩ x1).setCell ⟨b, 2, none⟩ x2).setCell ⟨b, 3, none⟩ x3) b x0 x1 x2 x3 := by
  unfold BoxC at h ⊢
  have e0 := heap_setCell_same W b 0 _ _ x0 h
  have e1 := heap_setCell_same _ b 1 _ _ x1 e0
  have e2 := heap_setCell_same _ b 2 _ _ x2 e1
  have e3 := heap_setCell_same _ b 3 _ _ x3 e2
  rw [e3]
  rfl

theorem Pre.set {W0 w1 w2 : World} {k : Int} {nv rv : Value} {name role : List Int} {ob : Nat} {z0 z1 z2 z3 : Value} (h1 : OwnB W0.heap.size w1 nv name) (b1 : Below W0.heap.size W0 w1) (h2 : OwnB w1.heap.size w2 rv role) (b2 : Below w1.heap.size w1 w2) (hb : BoxC w2 ob z0 z1 z2 z3) (ho : W0.heap.size ≤ ob) :
    Pre W0.heap.size W0 ((((w2.setCell ⟨ob, 0, none⟩ (.int .i64 k)).setCell ⟨ob, 1, none⟩ nv).setCell ⟨ob, 2, none⟩ rv).setCell ⟨ob, 3, none⟩ (.slice none 0 0)) (.pointer (some ⟨ob, 0, none⟩)) k name role ob w1.heap.size nv rv := by
  have hs1 := b1.size
  have hs2 := b2.size
  have hn2 := h1.below b2 (Nat.le_refl _)
  have hsz : ((((w2.setCell ⟨ob, 0, none⟩ (.int .i64 k)).setCell ⟨ob, 1, none⟩ nv).setCell ⟨ob, 2, none⟩ rv).setCell ⟨ob, 3, none⟩ (.slice none 0 0)).heap.size = w2.heap.size := by simp
  refine ⟨rfl, hb.set4 _ _ _ _, ho, ((((b1.trans (b2.mono hs1)).setCell ho _).setCell ho _).setCell ho _).setCell ho _, hn2.keepB (fun g hg => heap_set4 _ _ _ _ _ (hn2.notBox hb g hg)), fun g hg => (h1.lt g hg).2, h2.keepB (fun g hg => heap_set4 _ _ _ _ _ (h2.notBox hb g hg)), fun g hg => ?_, hs1, ?_⟩
  · rw [hsz]; exact (h2.lt g hg).2
  · rw [hsz]; exact hs2

/-- What is under way: its box, its name and role, and the kids so far. -/
structure Inv (W0 : World) (BW B1 ob d : Nat) (k : Int) (nv rv : Value) (name role : List Int) (wr : World) (kv : Value) (cs : List CN) (Ls : List (List (Addr × IntKind))) (xs : List Value) : Prop where
  row : RowK BW wr d kv cs Ls xs
  sep : SepK BW wr Ls
  box : BoxC wr ob (.int .i64 k) nv rv kv
  nam : OwnB W0.heap.size wr nv name
  rol : OwnB B1 wr rv role
  bel : Below W0.heap.size W0 wr
  sz : BW ≤ wr.heap.size

/-- How its parts lie to each other. -/
structure Stat (W0 : World) (BW B1 ob : Nat) (nv rv : Value) : Prop where
  o1 : ob < BW
  o0 : W0.heap.size ≤ ob
  nl : ∀ g, nv.ownBlock = some g → g < B1
  rl : ∀ g, rv.ownBlock = some g → g < BW
  b1 : B1 ≤ BW
  b0 : W0.heap.size ≤ B1

theorem Inv.below {W0 wr w' : World} {BW B1 ob d : Nat} {k : Int} {nv rv kv : Value} {name role : List Int} {cs : List CN} {Ls : List (List (Addr × IntKind))} {xs : List Value} (h : Inv W0 BW B1 ob d k nv rv name role wr kv cs Ls xs) (hb : Below wr.heap.size wr w') :
    Inv W0 BW B1 ob d k nv rv name role w' kv cs Ls xs := by
  have hs := hb.size
  exact ⟨h.row.below hb, h.sep.below hb h.row.lt, h.box.below hb h.box.lt, h.nam.below hb (Nat.le_refl _), h.rol.below hb (Nat.le_refl _), h.bel.trans (hb.mono h.bel.size), Nat.le_trans h.sz hs⟩

/-- One kid more, appended and stored. -/
theorem Inv.app {W0 W w6 : World} {BW B1 ob d : Nat} {k : Int} {nv rv kv : Value} {name role : List Int} {cs : List CN} {Ls : List (List (Addr × IntKind))} {xs : List Value} (hS : Stat W0 BW B1 ob nv rv) (h : Inv W0 BW B1 ob d k nv rv name role W kv cs Ls xs)
    {c : CN} {L : List (Addr × IntKind)} {v0 v1 v2 v3 : Value} {B g cap n : Nat} (hc : OwnC B W d (.agg #[v0, v1, v2, v3]) c L) (hB : BW ≤ B) (hLB : ∀ x ∈ Ls.flatten, x.1.block < B) (hkB : ∀ g, kv.ownBlock = some g → g < B) (hn : n = cs.length + 1)
    (hown : w6.ownsRow BW 37 4 (.slice (some ⟨g, 0, none⟩) n cap) n (xs ++ [v0, v1, v2, v3])) (hgrow : W.grownBy w6 kv.ownBlock) (hat : kv.ownBlock = some g ∨ g = W.heap.size) :
    BoxC w6 ob (.int .i64 k) nv rv kv ∧ Inv W0 BW B1 ob d k nv rv name role (w6.setCell ⟨ob, 3, none⟩ (.slice (some ⟨g, 0, none⟩) n cap)) (.slice (some ⟨g, 0, none⟩) n cap) (cs ++ [c]) (Ls ++ [L]) (xs ++ [v0, v1, v2, v3]) := by
  subst hn
  have hkl := h.row.row.lt
  have hkne : ∀ b, b < BW → kv.ownBlock ≠ some b := fun b hb e => by have := hkl b e; omega
  have hbox6 : BoxC w6 ob (.int .i64 k) nv rv kv := (hgrow.block ob h.box.lt (fun e => hkne ob hS.o1 e.symm)).trans h.box
  have hoffL : ∀ x ∈ L, kv.ownBlock ≠ some x.1.block := fun x hx e => by have := hkB _ e; have := (hc.bl x hx).1; omega
  have hrow6 : RowK BW w6 d (.slice (some ⟨g, 0, none⟩) (cs.length + 1) cap) (cs ++ [c]) (Ls ++ [L]) (xs ++ [v0, v1, v2, v3]) :=
    h.row.snoc hc.ow (fun x hx => (hc.bl x hx).2) hoffL hown hgrow (by
      rcases hat with e | e
      · exact .inl (by rw [e]; rfl)
      · exact .inr (by rw [← e]; rfl))
  have hsep6 : SepK BW w6 (Ls ++ [L]) := h.sep.snoc hc hB hLB h.row.lt hgrow (by
      intro x hx
      simp only [List.flatten_append, List.mem_append, List.flatten_cons, List.flatten_nil, List.append_nil] at hx
      rcases hx with hx | hx
      · exact h.row.off x hx
      · exact hoffL x hx)
  have hgl := hown.lt g rfl
  have hnam6 : OwnB W0.heap.size w6 nv name := h.nam.keepB (fun g' hg' => hgrow.block g' (h.nam.lt g' hg').2 (fun e => hkne g' (Nat.lt_of_lt_of_le (hS.nl g' hg') hS.b1) e.symm))
  have hrol6 : OwnB B1 w6 rv role := h.rol.keepB (fun g' hg' => hgrow.block g' (h.rol.lt g' hg').2 (fun e => hkne g' (hS.rl g' hg') e.symm))
  have ho1 := hS.o1
  have ho0 := hS.o0
  have hbel6 : Below W0.heap.size W0 w6 := h.bel.grown hgrow h.bel.size (fun x hx => by have := hkl x hx; have := hS.b0; have := hS.b1; omega)
  refine ⟨hbox6, ⟨hrow6.set 3 _ (fun x hx => by have := hsep6.ge x hx; omega) (fun e => by simp only [Value.ownBlock, Option.some.injEq] at e; omega), hsep6.set _ _, hbox6.set3 _, hnam6.setCon hbox6 _, hrol6.setCon hbox6 _, hbel6.setCell ho0 _, ?_⟩⟩
  have := h.sz
  have := hgrow.size
  simp; omega

theorem RowK.isSlice {base : Nat} {w : World} {d : Nat} {v : Value} {cs : List CN} {Ls : List (List (Addr × IntKind))} {xs : List Value} (h : RowK base w d v cs Ls xs) : ∃ a n c, v = .slice a n c := by
  rcases h.row.2 with ⟨rfl, _⟩ | ⟨g, cap, cur, rfl, _⟩
  · exact ⟨_, _, _, rfl⟩
  · exact ⟨_, _, _, rfl⟩

theorem OwnC.same {base : Nat} {w w' : World} {d : Nat} {v : Value} {c : CN} {L : List (Addr × IntKind)} (h : OwnC base w d v c L) (hk : ∀ b, base ≤ b → b < w.heap.size → w'.heap[b]? = w.heap[b]?) (hs : w.heap.size ≤ w'.heap.size) : OwnC base w' d v c L :=
  ⟨h.ow.keep (fun x hx => hk _ (h.bl x hx).1 (h.bl x hx).2), h.nd, fun x hx => (World.frozen?_of_block (w := w) (hk _ (h.bl x hx).1 (h.bl x hx).2)).trans (h.fr x hx), fun x hx => ⟨(h.bl x hx).1, Nat.lt_of_lt_of_le (h.bl x hx).2 hs⟩⟩
end

section
open Go.RowKit

/-- What is under way: its box, its name and role, and the kids so far; each kid's memory lies below h0 or from BW on. -/
structure InvS (W0 : World) (h0 BW ob d : Nat) (k : Int) (nv rv : Value) (name role : List Int) (bn on br orr : Nat) (wr : World) (kv : Value) (cs : List CN) (Ls : List (List (Addr × IntKind))) (xs : List Value) : Prop where
  row : RowK BW wr d kv cs Ls xs
  lay : ∀ x ∈ Ls.flatten, x.1.block < h0 ∨ BW ≤ x.1.block
  box : BoxC wr ob (.int .i64 k) nv rv kv
  nam : ∃ a c, nv = .slice a name.length c ∧ OwB wr a name.length c name bn on
  rol : ∃ a c, rv = .slice a role.length c ∧ OwB wr a role.length c role br orr
  bel : Below W0.heap.size W0 wr
  sz : BW ≤ wr.heap.size

structure StatS (W0 : World) (h0 BW ob : Nat) (name role : List Int) (bn br : Nat) : Prop where
  o1 : ob < BW
  o0 : W0.heap.size ≤ ob
  h0 : h0 ≤ W0.heap.size
  n1 : name.length = 0 ∨ (bn < BW ∧ bn ≠ ob)
  r1 : role.length = 0 ∨ (br < BW ∧ br ≠ ob)

theorem OwB.keep' {w w' : World} {a : Option Addr} {n cap : Nat} {zs : List Int} {b off : Nat} (h : OwB w a n cap zs b off) (hk : n = 0 ∨ w'.heap[b]? = w.heap[b]?) : OwB w' a n cap zs b off :=
  h.keep (fun x hx => by
    obtain ⟨j, hj, rfl⟩ := mem_leafB.1 hx
    rcases hk with e | e
    · omega
    · exact e)

theorem OwB.blt {w : World} {a : Option Addr} {n cap : Nat} {zs : List Int} {b off : Nat} (h : OwB w a n cap zs b off) : n = 0 ∨ b < w.heap.size := by
  rcases h.cells with e | ⟨_, hc⟩
  · exact .inl e
  · by_cases hn : n = 0
    · exact .inl hn
    · exact .inr (block_lt_of_cell (hc 0 (by omega)))

theorem InvS.below {W0 wr w' : World} {h0 BW ob d : Nat} {k : Int} {nv rv kv : Value} {name role : List Int} {bn on br orr : Nat} {cs : List CN} {Ls : List (List (Addr × IntKind))} {xs : List Value} (h : InvS W0 h0 BW ob d k nv rv name role bn on br orr wr kv cs Ls xs) (hb : Below wr.heap.size wr w') :
    InvS W0 h0 BW ob d k nv rv name role bn on br orr w' kv cs Ls xs := by
  have hs := hb.size
  obtain ⟨na, nc, hn1, hn2⟩ := h.nam
  obtain ⟨ra, rc, hr1, hr2⟩ := h.rol
  refine ⟨h.row.below hb, h.lay, h.box.below hb h.box.lt, ⟨na, nc, hn1, hn2.keep' ?_⟩, ⟨ra, rc, hr1, hr2.keep' ?_⟩, h.bel.trans (hb.mono h.bel.size), Nat.le_trans h.sz hs⟩
  · rcases hn2.blt with e | e
    · exact .inl e
    · exact .inr (hb.block _ e)
  · rcases hr2.blt with e | e
    · exact .inl e
    · exact .inr (hb.block _ e)

theorem InvS.app {W0 W w6 : World} {h0 BW ob d : Nat} {k : Int} {nv rv kv : Value} {name role : List Int} {bn on br orr : Nat} {cs : List CN} {Ls : List (List (Addr × IntKind))} {xs : List Value} (hS : StatS W0 h0 BW ob name role bn br) (h : InvS W0 h0 BW ob d k nv rv name role bn on br orr W kv cs Ls xs)
    {c : CN} {L : List (Addr × IntKind)} {v0 v1 v2 v3 : Value} {B g cap n : Nat} (hc : OwC W d (.agg #[v0, v1, v2, v3]) c L) (hl : ∀ x ∈ L, (x.1.block < h0 ∨ B ≤ x.1.block) ∧ x.1.block < W.heap.size) (hB : BW ≤ B) (hkB : ∀ g, kv.ownBlock = some g → g < B) (hn : n = cs.length + 1)
    (hown : w6.ownsRow BW 37 4 (.slice (some ⟨g, 0, none⟩) n cap) n (xs ++ [v0, v1, v2, v3])) (hgrow : W.grownBy w6 kv.ownBlock) (hat : kv.ownBlock = some g ∨ g = W.heap.size) :
    BoxC w6 ob (.int .i64 k) nv rv kv ∧ InvS W0 h0 BW ob d k nv rv name role bn on br orr (w6.setCell ⟨ob, 3, none⟩ (.slice (some ⟨g, 0, none⟩) n cap)) (.slice (some ⟨g, 0, none⟩) n cap) (cs ++ [c]) (Ls ++ [L]) (xs ++ [v0, v1, v2, v3]) := by
  subst hn
  have hkl := h.row.row.lt
  have ho1 := hS.o1
  have ho0 := hS.o0
  have hh0 := hS.h0
  have hkne : ∀ b, b < BW → kv.ownBlock ≠ some b := fun b hb e => by have := hkl b e; omega
  have hbox6 : BoxC w6 ob (.int .i64 k) nv rv kv := (hgrow.block ob h.box.lt (fun e => hkne ob hS.o1 e.symm)).trans h.box
  have hoffL : ∀ x ∈ L, kv.ownBlock ≠ some x.1.block := fun x hx e => by
    have h1 := hkB _ e
    have h2 := hkl _ e
    have h3 := (hl x hx).1
    omega
  have hrow6 : RowK BW w6 d (.slice (some ⟨g, 0, none⟩) (cs.length + 1) cap) (cs ++ [c]) (Ls ++ [L]) (xs ++ [v0, v1, v2, v3]) :=
    h.row.snoc hc (fun x hx => (hl x hx).2) hoffL hown hgrow (by
      rcases hat with e | e
      · exact .inl (by rw [e]; rfl)
      · exact .inr (by rw [← e]; rfl))
  have hlay6 : ∀ x ∈ (Ls ++ [L]).flatten, x.1.block < h0 ∨ BW ≤ x.1.block := by
    intro x hx
    simp only [List.flatten_append, List.mem_append, List.flatten_cons, List.flatten_nil, List.append_nil] at hx
    rcases hx with hx | hx
    · exact h.lay x hx
    · have := (hl x hx).1; omega
  have hgl := hown.lt g rfl
  obtain ⟨na, nc, hn1, hn2⟩ := h.nam
  obtain ⟨ra, rc, hr1, hr2⟩ := h.rol
  have hbel6 : Below W0.heap.size W0 w6 := h.bel.grown hgrow h.bel.size (fun x hx => by have := hkl x hx; omega)
  refine ⟨hbox6, ⟨hrow6.set 3 _ (fun x hx => by have := hlay6 x hx; omega) (fun e => by simp only [Value.ownBlock, Option.some.injEq] at e; omega), hlay6, hbox6.set3 _, ⟨na, nc, hn1, hn2.keep' ?_⟩, ⟨ra, rc, hr1, hr2.keep' ?_⟩, hbel6.setCell ho0 _, ?_⟩⟩
  · rcases hS.n1 with e | ⟨e1, e2⟩
    · exact .inl e
    · rcases hn2.blt with e | e
      · exact .inl e
      · exact .inr ((Below.heap_setCell w6 ⟨ob, 3, none⟩ _ bn e2).trans (hgrow.block bn e (fun e' => hkne bn e1 e'.symm)))
  · rcases hS.r1 with e | ⟨e1, e2⟩
    · exact .inl e
    · rcases hr2.blt with e | e
      · exact .inl e
      · exact .inr ((Below.heap_setCell w6 ⟨ob, 3, none⟩ _ br e2).trans (hgrow.block br e (fun e' => hkne br e1 e'.symm)))
  · have := h.sz
    have := hgrow.size
    simp; omega

/-- The whole. -/
theorem InvS.done {W0 wr : World} {h0 BW ob d : Nat} {k : Int} {nv rv kv : Value} {name role : List Int} {bn on br orr : Nat} {cs : List CN} {Ls : List (List (Addr × IntKind))} {xs : List Value} (h : InvS W0 h0 BW ob d k nv rv name role bn on br orr wr kv cs Ls xs) (P : Nat → Prop)
    (hn : name.length = 0 ∨ P bn) (hr : role.length = 0 ∨ P br) (hk : ∀ b, b < wr.heap.size → b < h0 ∨ BW ≤ b → P b) :
    ∃ L, OwC wr (d + 1) (.agg #[.int .i64 k, nv, rv, kv]) (.mk k name role cs) L ∧ ∀ x ∈ L, P x.1.block ∧ x.1.block < wr.heap.size := by
  obtain ⟨na, nc, rfl, hn2⟩ := h.nam
  obtain ⟨ra, rc, rfl, hr2⟩ := h.rol
  obtain ⟨ka, kc, bk, rfl, ok, fk⟩ := h.row.owL
  refine ⟨_, ⟨_, _, _, _, _, _, _, _, _, bn, on, br, orr, bk, 0, _, rfl, hn2, hr2, ok, rfl⟩, fun x hx => ?_⟩
  simp only [List.mem_append] at hx
  rcases hx with hx | hx | hx
  · obtain ⟨j, hj, rfl⟩ := mem_leafB.1 hx
    have h1 := hn2.blt
    rcases hn with e | e
    · omega
    · exact ⟨e, by show bn < _; omega⟩
  · obtain ⟨j, hj, rfl⟩ := mem_leafB.1 hx
    have h1 := hr2.blt
    rcases hr with e | e
    · omega
    · exact ⟨e, by show br < _; omega⟩
  · rcases mem_leafK.1 hx with ⟨i, hi, rfl | hx⟩
    · rcases fk with e | ⟨_, q1, q2, _⟩
      · omega
      · exact ⟨hk bk q2 (.inr q1), q2⟩
    · have hx := getD_mem_flatten hx
      exact ⟨hk _ (h.row.lt x hx) (h.lay x hx), h.row.lt x hx⟩
end

section
open Go.RowKit
end

section
open Go.RowKit

/-- Bytes in new memory. -/
def Fr (base : Nat) (w : World) (v : Value) (zs : List Int) (b : Nat) : Prop := ∃ a c, v = .slice a zs.length c ∧ OwB w a zs.length c zs b 0 ∧ (zs.length = 0 ∨ (base ≤ b ∧ b < w.heap.size))

theorem Fr.isSlice {base : Nat} {w : World} {v : Value} {zs : List Int} {b : Nat} (h : Fr base w v zs b) : ∃ a n c, v = .slice a n c := by
  obtain ⟨a, c, h, _⟩ := h
  exact ⟨_, _, _, h⟩

theorem Fr.below {base : Nat} {w w' : World} {v : Value} {zs : List Int} {b : Nat} (h : Fr base w v zs b) (hb : Below w.heap.size w w') : Fr base w' v zs b := by
  obtain ⟨a, c, h1, h2, h3⟩ := h
  refine ⟨a, c, h1, h2.keep' ?_, ?_⟩
  · rcases h3 with e | e
    · exact .inl e
    · exact .inr (hb.block _ e.2)
  · rcases h3 with e | e
    · exact .inl e
    · exact .inr ⟨e.1, Nat.lt_of_lt_of_le e.2 hb.size⟩

theorem Fr.mono {base base' : Nat} {w : World} {v : Value} {zs : List Int} {b : Nat} (h : Fr base w v zs b) (hb : base' ≤ base) : Fr base' w v zs b := by
  obtain ⟨a, c, h1, h2, h3⟩ := h
  refine ⟨a, c, h1, h2, ?_⟩
  rcases h3 with e | e
  · exact .inl e
  · exact .inr ⟨by omega, e.2⟩

theorem Fr.notBox {base : Nat} {w : World} {v : Value} {zs : List Int} {b o : Nat} {k : Int} {v1 v2 v3 : Value} (h : Fr base w v zs b) (hb : BoxC w o (.int .i64 k) v1 v2 v3) : zs.length = 0 ∨ b ≠ o := by
  obtain ⟨a, c, h1, h2, h3⟩ := h
  by_cases hz : zs.length = 0
  · exact .inl hz
  · refine .inr (fun e => ?_)
    subst e
    rcases h2.cells with e | ⟨_, hc⟩
    · exact hz e
    · have := hc 0 (by omega)
      rw [Nat.add_zero, hb.cells.1] at this
      simp at this

/-- What is made ahead of the kids. -/
structure PreS (W0 W : World) (ov : Value) (k : Int) (name role : List Int) (ob bn br : Nat) (nv rv : Value) : Prop where
  ptr : ov = .pointer (some ⟨ob, 0, none⟩)
  box : BoxC W ob (.int .i64 k) nv rv (.slice none 0 0)
  ge : W0.heap.size ≤ ob
  bel : Below W0.heap.size W0 W
  nam : Fr W0.heap.size W nv name bn
  nne : name.length = 0 ∨ bn ≠ ob
  rol : Fr W0.heap.size W rv role br
  rne : role.length = 0 ∨ br ≠ ob

theorem PreS.last {W0 w1 w2 : World} {k : Int} {nv rv : Value} {name role : List Int} {bn br : Nat} (h1 : Fr W0.heap.size w1 nv name bn) (b1 : Below W0.heap.size W0 w1) (h2 : Fr w1.heap.size w2 rv role br) (b2 : Below w1.heap.size w1 w2) :
    PreS W0 (w2.alloc (.cells #[.int .i64 k, nv, rv, .slice none 0 0] 37)) (.pointer (some ⟨w2.heap.size, 0, none⟩)) k name role w2.heap.size bn br nv rv := by
  have hs1 := b1.size
  have hs2 := b2.size
  have b3 : Below w2.heap.size w2 (w2.alloc (.cells #[.int .i64 k, nv, rv, .slice none 0 0] 37)) := (Below.refl _ _).alloc (Nat.le_refl _) _
  have hn2 := (h1.below b2)
  refine ⟨rfl, BoxC.new w2 _ _ _ _, by omega, (b1.trans (b2.mono hs1)).trans (b3.mono (by omega)), hn2.below b3, ?_, (h2.mono hs1).below b3, ?_⟩
  · obtain ⟨_, _, _, _, e | e⟩ := hn2
    · exact .inl e
    · exact .inr (by omega)
  · obtain ⟨_, _, _, _, e | e⟩ := h2
    · exact .inl e
    · exact .inr (by omega)

theorem PreS.set {W0 w1 w2 : World} {k : Int} {nv rv : Value} {name role : List Int} {bn br ob : Nat} {z : Int} {z1 z2 z3 : Value} (h1 : Fr W0.heap.size w1 nv name bn) (b1 : Below W0.heap.size W0 w1) (h2 : Fr w1.heap.size w2 rv role br) (b2 : Below w1.heap.size w1 w2) (hb : BoxC w2 ob (.int .i64 z) z1 z2 z3) (ho : W0.heap.size ≤ ob) :
    PreS W0 ((((w2.setCell ⟨ob, 0, none⟩ (.int .i64 k)).setCell ⟨ob, 1, none⟩ nv).setCell ⟨ob, 2, none⟩ rv).setCell ⟨ob, 3, none⟩ (.slice none 0 0)) (.pointer (some ⟨ob, 0, none⟩)) k name role ob bn br nv rv := by
  have hs1 := b1.size
  have hn2 := (h1.below b2)
  have hr2 := h2.mono hs1
  have en := hn2.notBox hb
  have er := hr2.notBox hb
  have hsz : ((((w2.setCell ⟨ob, 0, none⟩ (.int .i64 k)).setCell ⟨ob, 1, none⟩ nv).setCell ⟨ob, 2, none⟩ rv).setCell ⟨ob, 3, none⟩ (.slice none 0 0)).heap.size = w2.heap.size := by simp
  have keep : ∀ {base b : Nat} {v : Value} {zs : List Int}, Fr base w2 v zs b → (zs.length = 0 ∨ b ≠ ob) → Fr base ((((w2.setCell ⟨ob, 0, none⟩ (.int .i64 k)).setCell ⟨ob, 1, none⟩ nv).setCell ⟨ob, 2, none⟩ rv).setCell ⟨ob, 3, none⟩ (.slice none 0 0)) v zs b := by
    intro base b v zs h e
    obtain ⟨a, c, q1, q2, q3⟩ := h
    refine ⟨a, c, q1, q2.keep' ?_, ?_⟩
    · rcases e with e | e
      · exact .inl e
      · exact .inr (heap_set4 _ _ _ _ _ e)
    · rw [hsz]; exact q3
  exact ⟨rfl, hb.set4 _ _ _ _, ho, ((((b1.trans (b2.mono hs1)).setCell ho _).setCell ho _).setCell ho _).setCell ho _, keep hn2 en, en, keep hr2 er, er⟩
end

end Go.Proofs.YtckhjoancfbkfaaGreat
