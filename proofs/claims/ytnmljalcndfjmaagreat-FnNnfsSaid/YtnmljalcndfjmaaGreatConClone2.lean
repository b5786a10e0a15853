/- impl.cloneCon: for every concept that can be read it answers the same one, in memory of its own. -/
import Derived.Test.YtnmljalcndfjmaaGreatNG10
import Derived.Deep.RegionHeld
import Derived.Deep.RegionLaw
import Derived.Deep.AppendLies
import Derived.Deep.DeepCutAuto
namespace Go.Proofs.YtnmljalcndfjmaaGreat
open Go.RowKit

theorem Tryz.infoCon4 : (Tryz.prog.info? 30).map (fun i => (i.zero, i.size, i.bytes)) = some (some (.agg #[.int .i64 0, .slice none 0 0, .slice none 0 0, .slice none 0 0]), 4, 80) := by kernel_rfl

theorem OwnB.isSlice {base : Nat} {w : World} {v : Value} {zs : List Int} (h : OwnB base w v zs) : ∃ a n c, v = .slice a n c := by
  rcases h.2 with ⟨rfl, _⟩ | ⟨g, cap, cur, rfl, _⟩
  · exact ⟨_, _, _, rfl⟩
  · exact ⟨_, _, _, rfl⟩

theorem OwnB.mono {base base' : Nat} {w : World} {v : Value} {zs : List Int} (h : OwnB base w v zs) (hb : base' ≤ base) : OwnB base' w v zs := by
  obtain ⟨h1, h2⟩ := h
  refine ⟨h1, ?_⟩
  rcases h2 with h2 | ⟨g, cap, cur, hv, hg, r⟩
  · exact .inl h2
  · exact .inr ⟨g, cap, cur, hv, by omega, r⟩

theorem BoxC.frz {W : World} {b : Nat} {v0 v1 v2 v3 : Value} (h : BoxC W b v0 v1 v2 v3) (o : Nat) : W.frozen? ⟨b, o, none⟩ = false := by
  unfold BoxC at h
  simp [World.frozen?, h]

/-- Three cells of a box. -/
theorem S3.of {W W' : World} {b : Nat} {v0 v1 v2 : Value} (hk : W'.heap[b]? = W.heap[b]?) (h : W.cell? ⟨b, 0, none⟩ = some v0 ∧ W.cell? ⟨b, 1, none⟩ = some v1 ∧ W.cell? ⟨b, 2, none⟩ = some v2) : W'.cell? ⟨b, 0, none⟩ = some v0 ∧ W'.cell? ⟨b, 1, none⟩ = some v1 ∧ W'.cell? ⟨b, 2, none⟩ = some v2 := by
  simp only [World.cell?, hk] at h ⊢
  exact h

theorem S3.alloc {W : World} {b : Nat} {v0 v1 v2 : Value} {o : Obj} (h : W.cell? ⟨b, 0, none⟩ = some v0 ∧ W.cell? ⟨b, 1, none⟩ = some v1 ∧ W.cell? ⟨b, 2, none⟩ = some v2) (hb : b < W.heap.size) : (W.alloc o).cell? ⟨b, 0, none⟩ = some v0 ∧ (W.alloc o).cell? ⟨b, 1, none⟩ = some v1 ∧ (W.alloc o).cell? ⟨b, 2, none⟩ = some v2 :=
  S3.of (Below.heap_alloc _ _ _ hb) h

theorem S3.drew {W : World} {b : Nat} {v0 v1 v2 : Value} (h : W.cell? ⟨b, 0, none⟩ = some v0 ∧ W.cell? ⟨b, 1, none⟩ = some v1 ∧ W.cell? ⟨b, 2, none⟩ = some v2) : W.drew.cell? ⟨b, 0, none⟩ = some v0 ∧ W.drew.cell? ⟨b, 1, none⟩ = some v1 ∧ W.drew.cell? ⟨b, 2, none⟩ = some v2 := S3.of rfl h

theorem S4.of {W W' : World} {b : Nat} {v0 v1 v2 v3 : Value} (hk : W'.heap[b]? = W.heap[b]?) (h : W.cell? ⟨b, 0, none⟩ = some v0 ∧ W.cell? ⟨b, 1, none⟩ = some v1 ∧ W.cell? ⟨b, 2, none⟩ = some v2 ∧ W.cell? ⟨b, 3, none⟩ = some v3) : W'.cell? ⟨b, 0, none⟩ = some v0 ∧ W'.cell? ⟨b, 1, none⟩ = some v1 ∧ W'.cell? ⟨b, 2, none⟩ = some v2 ∧ W'.cell? ⟨b, 3, none⟩ = some v3 := by
  simp only [World.cell?, hk] at h ⊢
  exact h

theorem S4.drew {W : World} {b : Nat} {v0 v1 v2 v3 : Value} (h : W.cell? ⟨b, 0, none⟩ = some v0 ∧ W.cell? ⟨b, 1, none⟩ = some v1 ∧ W.cell? ⟨b, 2, none⟩ = some v2 ∧ W.cell? ⟨b, 3, none⟩ = some v3) : W.drew.cell? ⟨b, 0, none⟩ = some v0 ∧ W.drew.cell? ⟨b, 1, none⟩ = some v1 ∧ W.drew.cell? ⟨b, 2, none⟩ = some v2 ∧ W.drew.cell? ⟨b, 3, none⟩ = some v3 := S4.of rfl h

theorem new4 (w : World) (g : Nat) (x y z u : Value) (t : Nat) (hg : g = w.heap.size) : ∀ j v, [x, y, z, u][j]? = some v → (w.alloc (.cells #[x, y, z, u] t)).cell? ((⟨g, 0, none⟩ : Addr).add j) = some v := by
  intro j v hu
  subst hg
  rw [Addr.add_lit]
  match j, hu with
  | 0, hu => simp at hu; subst hu; simp
  | 1, hu => simp at hu; subst hu; simp
  | 2, hu => simp at hu; subst hu; simp
  | 3, hu => simp at hu; subst hu; simp

theorem one4 (k : Int) (a1 : Option Addr) (n1 c1 : Nat) (a2 : Option Addr) (n2 c2 : Nat) (a3 : Option Addr) (n3 c3 : Nat) : ∀ u ∈ [Value.int .i64 k, .slice a1 n1 c1, .slice a2 n2 c2, .slice a3 n3 c3], u.oneCell' = true := by
  intro u hu
  simp at hu
  rcases hu with rfl | rfl | rfl | rfl <;> rfl

theorem heap_set4 (W : World) {b o : Nat} (x0 x1 x2 x3 : Value) (hb : b ≠ o) : ((((W.setCell ⟨o, 0, none⟩ x0).setCell ⟨o, 1, none⟩ x1).setCell ⟨o, 2, none⟩ x2).setCell ⟨o, 3, none⟩ x3).heap[b]? = W.heap[b]? := by
  rw [Below.heap_setCell _ ⟨o, 3, none⟩ _ b hb, Below.heap_setCell _ ⟨o, 2, none⟩ _ b hb, Below.heap_setCell _ ⟨o, 1, none⟩ _ b hb, Below.heap_setCell _ ⟨o, 0, none⟩ _ b hb]

theorem S3.set4 {W : World} {b o : Nat} {v0 v1 v2 x0 x1 x2 x3 : Value} (h : W.cell? ⟨b, 0, none⟩ = some v0 ∧ W.cell? ⟨b, 1, none⟩ = some v1 ∧ W.cell? ⟨b, 2, none⟩ = some v2) (hb : b < o) :
    ((((W.setCell ⟨o, 0, none⟩ x0).setCell ⟨o, 1, none⟩ x1).setCell ⟨o, 2, none⟩ x2).setCell ⟨o, 3, none⟩ x3).cell? ⟨b, 0, none⟩ = some v0 ∧ ((((W.setCell ⟨o, 0, none⟩ x0).setCell ⟨o, 1, none⟩ x1).setCell ⟨o, 2, none⟩ x2).setCell ⟨o, 3, none⟩ x3).cell? ⟨b, 1, none⟩ = some v1 ∧
      ((((W.setCell ⟨o, 0, none⟩ x0).setCell ⟨o, 1, none⟩ x1).setCell ⟨o, 2, none⟩ x2).setCell ⟨o, 3, none⟩ x3).cell? ⟨b, 2, none⟩ = some v2 :=
  S3.of (heap_set4 W x0 x1 x2 x3 (Nat.ne_of_lt hb)) h

def ClP (d : Nat) : Prop := ∀ (v : Value) (c : CN) (w : World) (lo hi : Nat), RdC lo hi w d v c → hi ≤ w.heap.size → c.bulk ≤ 1048576 →
  Calls Tryz.prog 80 #[v] w fun e w' => ∃ v' L, e = .returned v' ∧ OwnC w.heap.size w' d v' c L ∧ Below w.heap.size w w'

/-- What is made ahead of the kids: the box of what is to be, its name and role. -/
structure Pre (B : Nat) (w0 W : World) (ov : Value) (k : Int) (name role : List Int) (ob B1 : Nat) (nv rv : Value) : Prop where
  ptr : ov = .pointer (some ⟨ob, 0, none⟩)
  box : BoxC W ob (.int .i64 k) nv rv (.slice none 0 0)
  ge : B ≤ ob
  bel : Below B w0 W
  nam : OwnB B W nv name
  naml : ∀ g, nv.ownBlock = some g → g < B1
  rol : OwnB B1 W rv role
  roll : ∀ g, rv.ownBlock = some g → g < W.heap.size
  b1 : B ≤ B1 ∧ B1 ≤ W.heap.size

theorem OwnB.keepB {base : Nat} {w w' : World} {v : Value} {zs : List Int} (h : OwnB base w v zs) (hk : ∀ g, v.ownBlock = some g → w'.heap[g]? = w.heap[g]?) : OwnB base w' v zs := by
  obtain ⟨h1, h2⟩ := h
  refine ⟨h1, ?_⟩
  rcases h2 with h2 | ⟨g, cap, cur, rfl, hg, hh, r⟩
  · exact .inl h2
  · exact .inr ⟨g, cap, cur, rfl, hg, by rw [hk g rfl]; exact hh, r⟩

/-- Its block is no concept's box. -/
theorem OwnB.notBox {base : Nat} {w : World} {v : Value} {zs : List Int} {o : Nat} {v0 v1 v2 v3 : Value} (h : OwnB base w v zs) (hb : BoxC w o v0 v1 v2 v3) : ∀ g, v.ownBlock = some g → g ≠ o := by
  intro g hg e
  rcases h.2 with ⟨rfl, _⟩ | ⟨g', cap, cur, rfl, _, hh, _⟩
  · simp [Value.ownBlock] at hg
  · simp only [Value.ownBlock, Option.some.injEq] at hg
    subst hg
    subst e
    unfold BoxC at hb
    rw [hb] at hh
    simp at hh

theorem OwnB.lt {base : Nat} {w : World} {v : Value} {zs : List Int} (h : OwnB base w v zs) : ∀ g, v.ownBlock = some g → base ≤ g ∧ g < w.heap.size := World.ownsRow.lt h

theorem Pre.last {W0 w1 w2 : World} {k : Int} {nv rv : Value} {name role : List Int} (h1 : OwnB W0.heap.size w1 nv name) (b1 : Below W0.heap.size W0 w1) (h2 : OwnB w1.heap.size w2 rv role) (b2 : Below w1.heap.size w1 w2) :
    Pre W0.heap.size W0 (w2.alloc (.cells #[.int .i64 k, nv, rv, .slice none 0 0] 30)) (.pointer (some ⟨w2.heap.size, 0, none⟩)) k name role w2.heap.size w1.heap.size nv rv := by
  have hs1 := b1.size
  have hs2 := b2.size
  have b3 : Below w2.heap.size w2 (w2.alloc (.cells #[.int .i64 k, nv, rv, .slice none 0 0] 30)) := (Below.refl _ _).alloc (Nat.le_refl _) _
  refine ⟨rfl, BoxC.new w2 _ _ _ _, by omega, (b1.trans (b2.mono hs1)).trans (b3.mono (by omega)), (h1.below b2 (Nat.le_refl _)).below b3 (Nat.le_refl _), fun g hg => (h1.lt g hg).2, h2.below b3 (Nat.le_refl _), fun g hg => ?_, hs1, ?_⟩
  · have := (h2.lt g hg).2
    rw [World.size_alloc]; omega
  · rw [World.size_alloc]; omega

theorem BoxC.set4 {W : World} {b : Nat} {v0 v1 v2 v3 : Value} (h : BoxC W b v0 v1 v2 v3) (x0 x1 x2 x3 : Value) : BoxC ((((W.setCell ⟨b, 0, none⟩ x0).setCell ⟨b, 1, none⟩ x1).setCell ⟨b, 2, none⟩ x2).setCell ⟨b, 3, none⟩ x3) b x0 x1 x2 x3 := by
  unfold BoxC at h ⊢
  have e0 := heap_setCell_same W b 0 _ _ x0 h
  have e1 := heap_setCell_same _ b 1 _ _ x1 e0
  have e2 := heap_setCell_same _ b 2 _ _ x2 e1
  have e3 := heap_setCell_same _ b 3 _ _ x3 e2
  rw [e3]
  rfl

theorem Pre.set {W0 w1 w2 : World} {k : Int} {nv rv : Value} {name role : List Int} {ob : Nat} {z0 z1 z2 z3 : Value} (h1 : OwnB W0.heap.size w1 nv name) (b1 : Below W0.heap.size W0 w1) (h2 : OwnB w1.heap.size w2 rv role) (b2 : Below w1.heap.size w1 w2) (hb : BoxC w2 ob z0 z1 z2 z3) (ho : W0.heap.size ≤ ob) :
    Pre W0.heap.size W0 ((((w2.setCell ⟨ob, 0, none⟩ (.int .i64 k)).setCell ⟨ob, 1, none⟩ nv).setCell ⟨ob, 2, none⟩ rv).setCell ⟨ob, 3, none⟩ (.slice none 0 0)) (.pointer (some ⟨ob, 0, none⟩)) k name role ob w1.heap.size nv rv := by
  have hs1 := b1.size
  have hs2 := b2.size
  have hn2 := h1.below b2 (Nat.le_refl _)
  have hsz : ((((w2.setCell ⟨ob, 0, none⟩ (.int .i64 k)).setCell ⟨ob, 1, none⟩ nv).setCell ⟨ob, 2, none⟩ rv).setCell ⟨ob, 3, none⟩ (.slice none 0 0)).heap.size = w2.heap.size := by simp
  refine ⟨rfl, hb.set4 _ _ _ _, ho, ((((b1.trans (b2.mono hs1)).setCell ho _).setCell ho _).setCell ho _).setCell ho _, hn2.keepB (fun g hg => heap_set4 _ _ _ _ _ (hn2.notBox hb g hg)), fun g hg => (h1.lt g hg).2, h2.keepB (fun g hg => heap_set4 _ _ _ _ _ (h2.notBox hb g hg)), fun g hg => ?_, hs1, ?_⟩
  · rw [hsz]; exact (h2.lt g hg).2
  · rw [hsz]; exact hs2

/-- What is under way: its box, its name and role, and the kids so far. -/
structure Inv (W0 : World) (BW B1 ob d : Nat) (k : Int) (nv rv : Value) (name role : List Int) (wr : World) (kv : Value) (cs : List CN) (Ls : List (List (Addr × IntKind))) (xs : List Value) : Prop where
  row : RowK BW wr d kv cs Ls xs
  sep : SepK BW wr Ls
  box : BoxC wr ob (.int .i64 k) nv rv kv
  nam : OwnB W0.heap.size wr nv name
  rol : OwnB B1 wr rv role
  bel : Below W0.heap.size W0 wr
  sz : BW ≤ wr.heap.size

/-- How its parts lie to each other. -/
structure Stat (W0 : World) (BW B1 ob : Nat) (nv rv : Value) : Prop where
  o1 : ob < BW
  o0 : W0.heap.size ≤ ob
  nl : ∀ g, nv.ownBlock = some g → g < B1
  rl : ∀ g, rv.ownBlock = some g → g < BW
  b1 : B1 ≤ BW
  b0 : W0.heap.size ≤ B1

theorem Inv.below {W0 wr w' : World} {BW B1 ob d : Nat} {k : Int} {nv rv kv : Value} {name role : List Int} {cs : List CN} {Ls : List (List (Addr × IntKind))} {xs : List Value} (h : Inv W0 BW B1 ob d k nv rv name role wr kv cs Ls xs) (hb : Below wr.heap.size wr w') :
    Inv W0 BW B1 ob d k nv rv name role w' kv cs Ls xs := by
  have hs := hb.size
  exact ⟨h.row.below hb, h.sep.below hb h.row.lt, h.box.below hb h.box.lt, h.nam.below hb (Nat.le_refl _), h.rol.below hb (Nat.le_refl _), h.bel.trans (hb.mono h.bel.size), Nat.le_trans h.sz hs⟩

/-- One kid more, appended and stored. -/
theorem Inv.app {W0 W w6 : World} {BW B1 ob d : Nat} {k : Int} {nv rv kv : Value} {name role : List Int} {cs : List CN} {Ls : List (List (Addr × IntKind))} {xs : List Value} (hS : Stat W0 BW B1 ob nv rv) (h : Inv W0 BW B1 ob d k nv rv name role W kv cs Ls xs)
    {c : CN} {L : List (Addr × IntKind)} {v0 v1 v2 v3 : Value} {B g cap n : Nat} (hc : OwnC B W d (.agg #[v0, v1, v2, v3]) c L) (hB : BW ≤ B) (hLB : ∀ x ∈ Ls.flatten, x.1.block < B) (hkB : ∀ g, kv.ownBlock = some g → g < B) (hn : n = cs.length + 1)
    (hown : w6.ownsRow BW 30 4 (.slice (some ⟨g, 0, none⟩) n cap) n (xs ++ [v0, v1, v2, v3])) (hgrow : W.grownBy w6 kv.ownBlock) (hat : kv.ownBlock = some g ∨ g = W.heap.size) :
    BoxC w6 ob (.int .i64 k) nv rv kv ∧ Inv W0 BW B1 ob d k nv rv name role (w6.setCell ⟨ob, 3, none⟩ (.slice (some ⟨g, 0, none⟩) n cap)) (.slice (some ⟨g, 0, none⟩) n cap) (cs ++ [c]) (Ls ++ [L]) (xs ++ [v0, v1, v2, v3]) := by
  subst hn
  have hkl := h.row.row.lt
  have hkne : ∀ b, b < BW → kv.ownBlock ≠ some b := fun b hb e => by have := hkl b e; omega
  have hbox6 : BoxC w6 ob (.int .i64 k) nv rv kv := (hgrow.block ob h.box.lt (fun e => hkne ob hS.o1 e.symm)).trans h.box
  have hoffL : ∀ x ∈ L, kv.ownBlock ≠ some x.1.block := fun x hx e => by have := hkB _ e; have := (hc.bl x hx).1; omega
  have hrow6 : RowK BW w6 d (.slice (some ⟨g, 0, none⟩) (cs.length + 1) cap) (cs ++ [c]) (Ls ++ [L]) (xs ++ [v0, v1, v2, v3]) :=
    h.row.snoc hc.ow (fun x hx => (hc.bl x hx).2) hoffL hown hgrow (by
      rcases hat with e | e
      · exact .inl (by rw [e]; rfl)
      · exact .inr (by rw [← e]; rfl))
  have hsep6 : SepK BW w6 (Ls ++ [L]) := h.sep.snoc hc hB hLB h.row.lt hgrow (by
      intro x hx
      simp only [List.flatten_append, List.mem_append, List.flatten_cons, List.flatten_nil, List.append_nil] at hx
      rcases hx with hx | hx
      · exact h.row.off x hx
      · exact hoffL x hx)
  have hgl := hown.lt g rfl
  have hnam6 : OwnB W0.heap.size w6 nv name := h.nam.keepB (fun g' hg' => hgrow.block g' (h.nam.lt g' hg').2 (fun e => hkne g' (Nat.lt_of_lt_of_le (hS.nl g' hg') hS.b1) e.symm))
  have hrol6 : OwnB B1 w6 rv role := h.rol.keepB (fun g' hg' => hgrow.block g' (h.rol.lt g' hg').2 (fun e => hkne g' (hS.rl g' hg') e.symm))
  have ho1 := hS.o1
  have ho0 := hS.o0
  have hbel6 : Below W0.heap.size W0 w6 := h.bel.grown hgrow h.bel.size (fun x hx => by have := hkl x hx; have := hS.b0; have := hS.b1; omega)
  refine ⟨hbox6, ⟨hrow6.set 3 _ (fun x hx => by have := hsep6.ge x hx; omega) (fun e => by simp only [Value.ownBlock, Option.some.injEq] at e; omega), hsep6.set _ _, hbox6.set3 _, hnam6.setCon hbox6 _, hrol6.setCon hbox6 _, hbel6.setCell ho0 _, ?_⟩⟩
  have := h.sz
  have := hgrow.size
  simp; omega

theorem RowK.isSlice {base : Nat} {w : World} {d : Nat} {v : Value} {cs : List CN} {Ls : List (List (Addr × IntKind))} {xs : List Value} (h : RowK base w d v cs Ls xs) : ∃ a n c, v = .slice a n c := by
  rcases h.row.2 with ⟨rfl, _⟩ | ⟨g, cap, cur, rfl, _⟩
  · exact ⟨_, _, _, rfl⟩
  · exact ⟨_, _, _, rfl⟩

theorem OwnC.same {base : Nat} {w w' : World} {d : Nat} {v : Value} {c : CN} {L : List (Addr × IntKind)} (h : OwnC base w d v c L) (hk : ∀ b, base ≤ b → b < w.heap.size → w'.heap[b]? = w.heap[b]?) (hs : w.heap.size ≤ w'.heap.size) : OwnC base w' d v c L :=
  ⟨h.ow.keep (fun x hx => hk _ (h.bl x hx).1 (h.bl x hx).2), h.nd, fun x hx => (World.frozen?_of_block (w := w) (hk _ (h.bl x hx).1 (h.bl x hx).2)).trans (h.fr x hx), fun x hx => ⟨(h.bl x hx).1, Nat.lt_of_lt_of_le (h.bl x hx).2 hs⟩⟩

set_option maxRecDepth 100000 in
set_option maxHeartbeats 2000000 in
theorem clP_of {d : Nat} (H : ∀ d', d = d' + 1 → ClP d') : ClP d := by
  intro v c w lo hi h hhi hbk
  cases d with
  | zero => exact h.elim
  | succ d =>
    have HH : Hid (ClP d) := H d rfl
    obtain ⟨na, nn, nc, ra, rn, rc, ka, kn, kc, rfl, hn, hr, hks⟩ := h
    have hbe := c.bulk_eq
    have hnl := hn.len
    have hrl := hr.len
    have hnn : nn ≤ 1048576 := by omega
    have hrn : rn ≤ 1048576 := by omega
    obtain ⟨k, hk⟩ : ∃ k, k = c.kind := ⟨_, rfl⟩
    rw [← hk]
    have HK : Hid (k = c.kind) := hk
    have HN : Hid (Rd lo hi w na nn nc c.name) := hn
    have HR : Hid (Rd lo hi w ra rn rc c.role) := hr
    have HKs : Hid (RdL (RdC lo hi w d) lo hi w ka kn kc c.kids) := hks
    have HBk : Hid (bulks c.kids ≤ 1048576) := by unfold Hid; omega
    obtain ⟨W0, hW0⟩ : ∃ W0, W0 = (w.alloc (.cells #[.int .i64 k, .slice na nn nc, .slice ra rn rc, .slice ka kn kc] 30)).alloc (.cells #[.int .i64 0, .slice none 0 0, .slice none 0 0, .slice none 0 0] 30) := ⟨_, rfl⟩
    have HW0 : Hid (W0 = (w.alloc (.cells #[.int .i64 k, .slice na nn nc, .slice ra rn rc, .slice ka kn kc] 30)).alloc (.cells #[.int .i64 0, .slice none 0 0, .slice none 0 0, .slice none 0 0] 30)) := hW0
    have hs0 : W0.heap.size = w.heap.size + 2 := by rw [hW0]; simp
    have HS0 : Hid (W0.heap.size = w.heap.size + 2) := hs0
    have hl0 : w.heap.size < W0.heap.size := by omega
    have hb0 : Below w.heap.size w W0 := by rw [hW0]; exact ((Below.refl _ _).alloc (Nat.le_refl _) _).alloc (by simp) _
    have hbx : BoxC W0 w.heap.size (.int .i64 k) (.slice na nn nc) (.slice ra rn rc) (.slice ka kn kc) := by rw [hW0]; exact (BoxC.new w _ _ _ _).below ((Below.refl _ _).alloc (Nat.le_refl _) _) (by simp)
    have hbr : BoxC W0 (w.heap.size + 1) (.int .i64 0) (.slice none 0 0) (.slice none 0 0) (.slice none 0 0) := by
      rw [hW0]
      have := BoxC.new (w.alloc (.cells #[.int .i64 k, .slice na nn nc, .slice ra rn rc, .slice ka kn kc] 30)) (.int .i64 0) (.slice none 0 0) (.slice none 0 0) (.slice none 0 0)
      rwa [World.size_alloc] at this
    have HB0 : Hid (Below w.heap.size w W0) := hb0
    have HBx : Hid (BoxC W0 w.heap.size (.int .i64 k) (.slice na nn nc) (.slice ra rn rc) (.slice ka kn kc)) := hbx
    have HBr : Hid (BoxC W0 (w.heap.size + 1) (.int .i64 0) (.slice none 0 0) (.slice none 0 0) (.slice none 0 0)) := hbr
    obtain ⟨b0, b1, b2, b3⟩ := hbx.cells
    clear hn hr hks H hbe hnl hrl hb0 hk hW0 hbx hbr hs0
    go_enter Tryz.func80, Tryz.ntmps80
    go_upto_region 1 with fail
    rw [← HW0.out]
    go_cut [3] (fun ov W => ∃ ob B1 nv rv, Pre W0.heap.size W0 W ov k c.name c.role ob B1 nv rv)
    case first =>
      first | go_region_held (fun W => W.cell? ⟨w.heap.size, 0, none⟩ = some (.int .i64 k) ∧ W.cell? ⟨w.heap.size, 1, none⟩ = some (.slice na nn nc) ∧ W.cell? ⟨w.heap.size, 2, none⟩ = some (.slice ra rn rc)) (first | with_reducible exact HS2.out | with_reducible exact HS1.out | with_reducible exact ⟨b0, b1, b2⟩ | with_reducible exact S3.alloc HS2.out hl2 | with_reducible exact S3.alloc HS1.out hl1 | with_reducible exact S3.alloc (W := W0.drew) ⟨b0, b1, b2⟩ hl0 | with_reducible exact S3.set4 HS2.out hl0 | with_reducible exact S3.set4 HS2.out hl1 | with_reducible exact S3.drew ⟨b0, b1, b2⟩ | with_reducible exact S3.drew (S3.alloc ⟨b0, b1, b2⟩ hl0)) (first
        | (go_at_call_of 81 na; refine (cloneC_any na nn nc c.name _ (lo := lo) (hi := hi) ?_ hnn).mono ?_; (first | exact HN.out.below HB0.out.drew hhi | exact HN.out.below (HB0.out.drew.alloc HB0.out.size _) hhi); rintro e w1 ⟨nv, rfl, hO1, hb1⟩; obtain ⟨xna, xnn, xnc, rfl⟩ := hO1.isSlice; have HO1 : Hid (OwnB W0.heap.size w1 (.slice xna xnn xnc) c.name) := (by first | exact hO1 | exact OwnB.mono hO1 (by simp)); have H1 : Hid (Below W0.heap.size W0 w1) := (by first | exact (Below.refl _ _).drew.trans hb1 | exact ((Below.refl _ _).drew.alloc (Nat.le_refl _) _).trans (hb1.mono (by simp))); (first | (have HOb : Hid (BoxC w1 W0.heap.size (.int .i64 0) (.slice none 0 0) (.slice none 0 0) (.slice none 0 0)) := ((BoxC.new W0.drew (.int .i64 0) (.slice none 0 0) (.slice none 0 0) (.slice none 0 0)).below hb1 (by simp))) | skip); have HS1 : Hid (w1.cell? ⟨w.heap.size, 0, none⟩ = some (.int .i64 k) ∧ w1.cell? ⟨w.heap.size, 1, none⟩ = some (.slice na nn nc) ∧ w1.cell? ⟨w.heap.size, 2, none⟩ = some (.slice ra rn rc)) := ⟨(HBx.out.below H1.out hl0).cells.1, (HBx.out.below H1.out hl0).cells.2.1, (HBx.out.below H1.out hl0).cells.2.2.1⟩; have hl1 : w.heap.size < w1.heap.size := Nat.lt_of_lt_of_le hl0 H1.out.size; clear hO1 hb1)
        | (go_at_call_of 81 ra; refine (cloneC_any ra rn rc c.role _ (lo := lo) (hi := hi) ?_ hrn).mono ?_; (first | exact HR.out.below (HB0.out.trans (H1.out.mono (Nat.le_of_lt hl0))) hhi | exact HR.out.below ((HB0.out.trans (H1.out.mono (Nat.le_of_lt hl0))).alloc (Nat.le_of_lt hl1) _) hhi); rintro e w2 ⟨rv, rfl, hO2, hb2⟩; obtain ⟨xra, xrn, xrc, rfl⟩ := hO2.isSlice; have HO2 : Hid (OwnB w1.heap.size w2 (.slice xra xrn xrc) c.role) := (by first | exact hO2 | exact OwnB.mono hO2 (by simp)); have H2 : Hid (Below w1.heap.size w1 w2) := (by first | exact hb2 | exact ((Below.refl _ _).alloc (Nat.le_refl _) _).trans (hb2.mono (by simp))); (first | (have HOb2 : Hid (BoxC w2 W0.heap.size (.int .i64 0) (.slice none 0 0) (.slice none 0 0) (.slice none 0 0)) := HOb.out.below H2.out HOb.out.lt; obtain ⟨o0, o1, o2, o3⟩ := HOb2.out.cells; have of0 := HOb2.out.frz 0; have of1 := HOb2.out.frz 1; have of2 := HOb2.out.frz 2; have of3 := HOb2.out.frz 3) | (have HOb3 : Hid (BoxC w2 w1.heap.size (.int .i64 0) (.slice none 0 0) (.slice none 0 0) (.slice none 0 0)) := ((BoxC.new w1 (.int .i64 0) (.slice none 0 0) (.slice none 0 0) (.slice none 0 0)).below hb2 (by simp)); obtain ⟨o0, o1, o2, o3⟩ := HOb3.out.cells; have of0 := HOb3.out.frz 0; have of1 := HOb3.out.frz 1; have of2 := HOb3.out.frz 2; have of3 := HOb3.out.frz 3) | skip); have HS2 : Hid (w2.cell? ⟨w.heap.size, 0, none⟩ = some (.int .i64 k) ∧ w2.cell? ⟨w.heap.size, 1, none⟩ = some (.slice na nn nc) ∧ w2.cell? ⟨w.heap.size, 2, none⟩ = some (.slice ra rn rc)) := ⟨(HBx.out.below (H1.out.trans (H2.out.mono H1.out.size)) hl0).cells.1, (HBx.out.below (H1.out.trans (H2.out.mono H1.out.size)) hl0).cells.2.1, (HBx.out.below (H1.out.trans (H2.out.mono H1.out.size)) hl0).cells.2.2.1⟩; have hl2 : w.heap.size < w2.heap.size := Nat.lt_of_lt_of_le hl1 H2.out.size; clear hO2 hb2)) | fail
      · go_wp2_with fail
        go_meet
        case rel => exact ⟨_, _, _, _, Pre.last HO1.out H1.out HO2.out H2.out⟩
      · go_wp2_with fail
        go_meet
        case rel => exact ⟨_, _, _, _, Pre.set HO1.out H1.out HO2.out H2.out HOb3.out H1.out.size⟩
      · go_wp2_with fail
        go_meet
        case rel => exact ⟨_, _, _, _, Pre.set HO1.out H1.out HO2.out H2.out HOb2.out (Nat.le_refl _)⟩
    case rest =>
      obtain ⟨ob, B1, nv, rv, hP⟩ := hcut
      obtain ⟨xna, xnn, xnc, rfl⟩ := hP.nam.isSlice
      obtain ⟨xra, xrn, xrc, rfl⟩ := hP.rol.isSlice
      obtain ⟨Wc, hWc⟩ : ∃ W, W = wc := ⟨_, rfl⟩
      subst hWc
      have HSt : Hid (Stat W0 Wc.heap.size B1 ob (.slice xna xnn xnc) (.slice xra xrn xrc)) := ⟨hP.box.lt, hP.ge, hP.naml, hP.roll, hP.b1.2, hP.b1.1⟩
      have HI0 : Hid (Inv W0 Wc.heap.size B1 ob d k (.slice xna xnn xnc) (.slice xra xrn xrc) c.name c.role Wc (.slice none 0 0) [] [] []) := ⟨RowK.nil _ _ _, SepK.nil _ _, hP.box, hP.nam, hP.rol, hP.bel, Nat.le_refl _⟩
      obtain ⟨rfl, _, hge, hbel, _, _, _, _, _, _⟩ := hP
      have hbc : BoxC Wc w.heap.size (.int .i64 k) (.slice na nn nc) (.slice ra rn rc) (.slice ka kn kc) := HBx.out.below hbel hl0
      clear b0 b1 b2 b3
      obtain ⟨b0, b1, b2, b3⟩ := hbc.cells
      have HKL : Hid (c.kids.length = kn) := HKs.out.len
      have hknb : kn ≤ 1048576 := by have := HBk.out; have := length_le_bulks c.kids; have := HKL.out; omega
      have hobl := HSt.out.o1
      obtain ⟨i0, hi0, hz0, hz1, hz2⟩ := info_parts Tryz.infoCon4
      clear hbel hbc
      go_wp2_with fail
      go_loopw [18] (fun i wr => ∃ (j : Nat) (kv : Value) (Ls : List (List (Addr × IntKind))) (xs : List Value), j ≤ kn ∧ i = .int .i64 j ∧ Inv W0 Wc.heap.size B1 ob d k (.slice xna xnn xnc) (.slice xra xrn xrc) c.name c.role wr kv (c.kids.take j) Ls xs) (fun i _ => kn - (intOf i).toNat)
      case atStart => exact ⟨0, .slice none 0 0, [], [], Nat.zero_le _, rfl, HI0.out⟩
      case round =>
        obtain ⟨j, kv, Ls, xs, hj, rfl, hinv⟩ := hrel
        have HI : Hid (Inv W0 Wc.heap.size B1 ob d k (.slice xna xnn xnc) (.slice xra xrn xrc) c.name c.role wr kv (c.kids.take j) Ls xs) := hinv
        have hszr : Wc.heap.size ≤ wr.heap.size := hinv.sz
        by_cases hlt : j < kn
        · have hjl : j < c.kids.length := by rw [HKL.out]; exact hlt
          have hji : (j : Int) < (kn : Int) := by omega
          have HTs : Hid (c.kids.take (j + 1) = c.kids.take j ++ [c.kids.getD j CN.zero]) := take_succ_getD _ _ _ hjl
          have HTl : Hid ((c.kids.take j).length = j) := by unfold Hid; rw [List.length_take]; omega
          have HKb : Hid ((c.kids.getD j CN.zero).bulk ≤ 1048576) := by unfold Hid; have := getD_bulk_le c.kids j hjl; have := HBk.out; omega
          have hBwr : Below w.heap.size w wr := HB0.out.trans (hinv.bel.mono (Nat.le_of_lt hl0))
          have hR := HKs.out.below hBwr hhi
          rcases hR.cells with hz | ⟨b, off, e1, _, hbhi, hc⟩
          · omega
          · subst e1
            obtain ⟨v0, v1, v2, v3, q0, q1, q2, q3, hrd⟩ := hc j hlt
            obtain ⟨yk, yna, ynn, ync, yra, yrn, yrc, yka, ykn, ykc, rfl, rfl, rfl, rfl⟩ := hrd.sh.form
            have hblt : b < wr.heap.size := Nat.lt_of_lt_of_le hbhi (Nat.le_trans hhi hBwr.size)
            obtain ⟨W4, hW4⟩ : ∃ W4, W4 = wr.alloc (.cells #[.int .i64 yk, .slice yna ynn ync, .slice yra yrn yrc, .slice yka ykn ykc] 30) := ⟨_, rfl⟩
            have HW4 : Hid (W4 = wr.alloc (.cells #[.int .i64 yk, .slice yna ynn ync, .slice yra yrn yrc, .slice yka ykn ykc] 30)) := hW4
            have hb4 : Below wr.heap.size wr W4 := by rw [hW4]; exact (Below.refl _ _).alloc (Nat.le_refl _) _
            have hbk4 : BoxC W4 wr.heap.size (.int .i64 yk) (.slice yna ynn ync) (.slice yra yrn yrc) (.slice yka ykn ykc) := by rw [hW4]; exact BoxC.new wr _ _ _ _
            have HKid : Hid (RdC lo hi W4.drew d (.agg #[.int .i64 yk, .slice yna ynn ync, .slice yra yrn yrc, .slice yka ykn ykc]) (c.kids.getD j CN.zero)) := (hrd.below hb4 (Nat.le_trans hhi hBwr.size)).below (Below.refl W4.heap.size W4).drew (Nat.le_trans (Nat.le_trans hhi hBwr.size) hb4.size)
            have HI4 : Hid (Inv W0 Wc.heap.size B1 ob d k (.slice xna xnn xnc) (.slice xra xrn xrc) c.name c.role W4 kv (c.kids.take j) Ls xs) := hinv.below hb4
            have hh4 : hi ≤ W4.drew.heap.size := Nat.le_trans (Nat.le_trans hhi hBwr.size) hb4.size
            obtain ⟨p0, p1, p2, p3⟩ := hbk4.cells
            obtain ⟨o0, o1, o2, o3⟩ := HI4.out.box.cells
            have HBk4 : Hid (BoxC W4 wr.heap.size (.int .i64 yk) (.slice yna ynn ync) (.slice yra yrn yrc) (.slice yka ykn ykc)) := hbk4
            have hl4 : wr.heap.size < W4.heap.size := hbk4.lt
            have hne : wr.heap.size ≠ ob := by omega
            clear hR hc hrd hinv hb4 hW4 hbk4 hBwr
            go_upto_region 5 with fail
            rw [← HW4.out]
            have HS4 : Hid (W4.drew.cell? ⟨wr.heap.size, 0, none⟩ = some (.int .i64 yk) ∧ W4.drew.cell? ⟨wr.heap.size, 1, none⟩ = some (.slice yna ynn ync) ∧ W4.drew.cell? ⟨wr.heap.size, 2, none⟩ = some (.slice yra yrn yrc) ∧ W4.drew.cell? ⟨wr.heap.size, 3, none⟩ = some (.slice yka ykn ykc)) := S4.drew ⟨p0, p1, p2, p3⟩
            first | go_region_law
              (first
              | (refine step_append_lies _ rfl (.tmp 23) (.tmp 26) 28 rfl Wc.heap.size 30 i0 (.agg #[.int .i64 0, .slice none 0 0, .slice none 0 0, .slice none 0 0]) 4 80 Tryz.underlying28 hi0 hz0 hz1 hz2 rfl (by decide) kv j xs (by simp [Act.eval]) HRow5.out ⟨w5.heap.size, 0, none⟩ 1 1 [.int .i64 zk, .slice zna znn znc, .slice zra zrn zrc, .slice zka zkn zkc] (by simp [Act.eval]) rfl (new4 _ _ _ _ _ _ _ rfl) (one4 _ _ _ _ _ _ _ _ _ _) (by decide) (by unfold maxLen; omega) (by omega) hsz5 _ rfl ?_; intro g cap w6 hown hgrow hat hlt6; have HA : Hid (BoxC w6 ob (.int .i64 k) (.slice xna xnn xnc) (.slice xra xrn xrc) kv ∧ Inv W0 Wc.heap.size B1 ob d k (.slice xna xnn xnc) (.slice xra xrn xrc) c.name c.role (w6.setCell ⟨ob, 3, none⟩ (.slice (some ⟨g, 0, none⟩) (j + 1) cap)) (.slice (some ⟨g, 0, none⟩) (j + 1) cap) (c.kids.take j ++ [c.kids.getD j CN.zero]) (Ls ++ [L5]) (xs ++ [.int .i64 zk, .slice zna znn znc, .slice zra zrn zrc, .slice zka zkn zkc])) := Inv.app HSt.out HI5.out HO5.out hB5 HLB.out HkB.out (by rw [HTl.out]) hown hgrow hat; have HS6 : Hid (w6.cell? ⟨wr.heap.size, 0, none⟩ = some (.int .i64 yk) ∧ w6.cell? ⟨wr.heap.size, 1, none⟩ = some (.slice yna ynn ync) ∧ w6.cell? ⟨wr.heap.size, 2, none⟩ = some (.slice yra yrn yrc) ∧ w6.cell? ⟨wr.heap.size, 3, none⟩ = some (.slice yka ykn ykc)) := S4.of (hgrow.block _ hl5a (fun e => HkN.out e.symm)) HS5a.out; have HS7 : Hid ((w6.setCell ⟨ob, 3, none⟩ (.slice (some ⟨g, 0, none⟩) (j + 1) cap)).cell? ⟨wr.heap.size, 0, none⟩ = some (.int .i64 yk) ∧ (w6.setCell ⟨ob, 3, none⟩ (.slice (some ⟨g, 0, none⟩) (j + 1) cap)).cell? ⟨wr.heap.size, 1, none⟩ = some (.slice yna ynn ync) ∧ (w6.setCell ⟨ob, 3, none⟩ (.slice (some ⟨g, 0, none⟩) (j + 1) cap)).cell? ⟨wr.heap.size, 2, none⟩ = some (.slice yra yrn yrc) ∧ (w6.setCell ⟨ob, 3, none⟩ (.slice (some ⟨g, 0, none⟩) (j + 1) cap)).cell? ⟨wr.heap.size, 3, none⟩ = some (.slice yka ykn ykc)) := S4.of (Below.heap_setCell _ _ _ _ hne) HS6.out; obtain ⟨_, _, _, o36⟩ := HA.out.1.cells; have f36 := HA.out.1.frz 3; clear hown hgrow hat)
              | (go_simp; refine (HH.out _ (c.kids.getD j CN.zero) _ lo hi HKid.out hh4 HKb.out).mono ?_; rintro e w5 ⟨v5, L5, rfl, hO5, hb5⟩; obtain ⟨zna, znn, znc, zra, zrn, zrc, zka, zkn, zkc, rfl⟩ := hO5.ow.agg; obtain ⟨zk, hzk⟩ : ∃ zk, zk = (c.kids.getD j CN.zero).kind := ⟨_, rfl⟩; rw [← hzk] at hO5; rw [← hzk]; have HB5 : Hid (Below W4.heap.size W4 w5) := (Below.refl _ _).drew.trans hb5; have HI5a : Hid (Inv W0 Wc.heap.size B1 ob d k (.slice xna xnn xnc) (.slice xra xrn xrc) c.name c.role w5 kv (c.kids.take j) Ls xs) := HI4.out.below HB5.out; have HB5b : Hid (Below w5.heap.size w5 (w5.alloc (.cells #[.int .i64 zk, .slice zna znn znc, .slice zra zrn zrc, .slice zka zkn zkc] 30))) := (Below.refl _ _).alloc (Nat.le_refl _) _; have HI5 : Hid (Inv W0 Wc.heap.size B1 ob d k (.slice xna xnn xnc) (.slice xra xrn xrc) c.name c.role (w5.alloc (.cells #[.int .i64 zk, .slice zna znn znc, .slice zra zrn zrc, .slice zka zkn zkc] 30)) kv (c.kids.take j) Ls xs) := HI5a.out.below HB5b.out; have HO5 : Hid (OwnC W4.heap.size (w5.alloc (.cells #[.int .i64 zk, .slice zna znn znc, .slice zra zrn zrc, .slice zka zkn zkc] 30)) d (.agg #[.int .i64 zk, .slice zna znn znc, .slice zra zrn zrc, .slice zka zkn zkc]) (c.kids.getD j CN.zero) L5) := OwnC.below hO5 HB5b.out; have HRow5 : Hid ((w5.alloc (.cells #[.int .i64 zk, .slice zna znn znc, .slice zra zrn zrc, .slice zka zkn zkc] 30)).ownsRow Wc.heap.size 30 4 kv j xs) := (by have := HI5.out.row.row; rw [HTl.out] at this; exact this); have HS5 : Hid (w5.cell? ⟨wr.heap.size, 0, none⟩ = some (.int .i64 yk) ∧ w5.cell? ⟨wr.heap.size, 1, none⟩ = some (.slice yna ynn ync) ∧ w5.cell? ⟨wr.heap.size, 2, none⟩ = some (.slice yra yrn yrc) ∧ w5.cell? ⟨wr.heap.size, 3, none⟩ = some (.slice yka ykn ykc)) := S4.of (HB5.out.block _ hl4) ⟨p0, p1, p2, p3⟩; have HS5a : Hid ((w5.alloc (.cells #[.int .i64 zk, .slice zna znn znc, .slice zra zrn zrc, .slice zka zkn zkc] 30)).cell? ⟨wr.heap.size, 0, none⟩ = some (.int .i64 yk) ∧ (w5.alloc (.cells #[.int .i64 zk, .slice zna znn znc, .slice zra zrn zrc, .slice zka zkn zkc] 30)).cell? ⟨wr.heap.size, 1, none⟩ = some (.slice yna ynn ync) ∧ (w5.alloc (.cells #[.int .i64 zk, .slice zna znn znc, .slice zra zrn zrc, .slice zka zkn zkc] 30)).cell? ⟨wr.heap.size, 2, none⟩ = some (.slice yra yrn yrc) ∧ (w5.alloc (.cells #[.int .i64 zk, .slice zna znn znc, .slice zra zrn zrc, .slice zka zkn zkc] 30)).cell? ⟨wr.heap.size, 3, none⟩ = some (.slice yka ykn ykc)) := S4.of (HB5b.out.block _ (Nat.lt_of_lt_of_le hl4 HB5.out.size)) HS5.out; have hB5 : Wc.heap.size ≤ W4.heap.size := HI4.out.sz; have HLB : Hid (∀ x ∈ Ls.flatten, x.1.block < W4.heap.size) := HI4.out.row.lt; have HkB : Hid (∀ g, kv.ownBlock = some g → g < W4.heap.size) := (fun g hg => (HI4.out.row.row.lt g hg).2); have HkN : Hid (kv.ownBlock ≠ some wr.heap.size) := (fun e => absurd (HI.out.row.row.lt _ e).2 (Nat.lt_irrefl _)); have hsz5 : Wc.heap.size ≤ (w5.alloc (.cells #[.int .i64 zk, .slice zna znn znc, .slice zra zrn zrc, .slice zka zkn zkc] 30)).heap.size := HI5.out.sz; have hl5a : wr.heap.size < (w5.alloc (.cells #[.int .i64 zk, .slice zna znn znc, .slice zra zrn zrc, .slice zka zkn zkc] 30)).heap.size := Nat.lt_of_lt_of_le (Nat.lt_of_lt_of_le hl4 HB5.out.size) HB5b.out.size; obtain ⟨_, _, _, o35⟩ := HI5a.out.box.cells; have hlo5 : ob < w5.heap.size := HI5a.out.box.lt; clear hO5 hb5 hzk)) | fail
            all_goals
              go_wp2_with fail
              go_roundw
              case rel => exact ⟨j + 1, _, _, _, by omega, by go_num, by rw [HTs.out]; exact HA.out.2⟩
              case measure => simp [intOf]; omega
        · have HTk : Hid (c.kids.take j = c.kids) := List.take_of_length_le (by rw [HKL.out]; omega)
          have hbr : BoxC wr (w.heap.size + 1) (.int .i64 0) (.slice none 0 0) (.slice none 0 0) (.slice none 0 0) := HBr.out.below hinv.bel (by have := HS0.out; omega)
          obtain ⟨r0, r1, r2, r3⟩ := hbr.cells
          have f0 := hbr.frz 0
          have f1 := hbr.frz 1
          have f2 := hbr.frz 2
          have f3 := hbr.frz 3
          obtain ⟨o0, o1, o2, o3⟩ := hinv.box.cells
          obtain ⟨kka, kkn, kkc, rfl⟩ := hinv.row.isSlice
          obtain ⟨L, hL⟩ := OwnC.make (kind := k) hinv.nam HSt.out.nl HN.out.byte hinv.rol HSt.out.rl HR.out.byte hinv.row hinv.sep HSt.out.b0 HSt.out.b1
          have HL : Hid (OwnC W0.heap.size wr (d + 1) (.agg #[.int .i64 k, .slice xna xnn xnc, .slice xra xrn xrc, .slice kka kkn kkc]) c L) := by
            have e : CN.mk k c.name c.role (c.kids.take j) = c := by rw [HTk.out, HK.out]; cases c; rfl
            rw [e] at hL
            exact hL
          have HBe : Hid (Below W0.heap.size W0 wr) := hinv.bel
          obtain ⟨s0, s1, s2, s3⟩ := (hbr.set4 (.int .i64 k) (.slice xna xnn xnc) (.slice xra xrn xrc) (.slice kka kkn kkc)).cells
          clear hL hinv hbr
          go_wp2_with fail
          refine bodyPost_ret (v := .agg #[.int .i64 k, .slice xna xnn xnc, .slice xra xrn xrc, .slice kka kkn kkc]) (by simp [results, Tryz.results80, go_sem, s0, s1, s2, s3]) rfl ?_
          refine ⟨_, L, rfl, (HL.out.same (fun b hb1 hb2 => heap_set4 _ _ _ _ _ (by have := HS0.out; omega)) (by simp)).mono (by have := HS0.out; omega), ?_⟩
          exact (((((HB0.out.trans (HBe.out.mono (Nat.le_of_lt hl0))).setCell (by show w.heap.size ≤ w.heap.size + 1; omega) _).setCell (by show w.heap.size ≤ w.heap.size + 1; omega) _).setCell (by show w.heap.size ≤ w.heap.size + 1; omega) _).setCell (by show w.heap.size ≤ w.heap.size + 1; omega) _)

theorem clP_any : ∀ d, ClP d
  | 0 => clP_of (fun d' h => by omega)
  | d + 1 => clP_of (fun d' h => by obtain rfl : d = d' := (by omega); exact clP_any d)

end Go.Proofs.YtnmljalcndfjmaaGreat
