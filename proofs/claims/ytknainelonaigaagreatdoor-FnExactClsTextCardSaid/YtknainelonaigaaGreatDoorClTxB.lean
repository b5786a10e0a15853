/- Bytes out of a word; boxes of clauses that are kept: for the text of a clause. -/
import Derived.Test.YtknainelonaigaaGreatDoorClTxS1
import Derived.Test.YtknainelonaigaaGreatDoorNTx
import Derived.Test.YtknainelonaigaaGreatDoorNCon
import Derived.Deep.RegionHeld3
namespace Go.Proofs.YtknainelonaigaaGreatDoor
open Go.RowKit

theorem BoxK.keep5 {W W' : World} {base q : Nat} {k f r u xp xn yp yn : Int} {s : Value} {a b : Int} (h : BoxK 53 W q k f r u xp xn yp yn s a b) (hk : Keep5 base W W') : BoxK 53 W' q k f r u xp xn yp yn s a b := hk.2 q _ _ _ (by decide) h
theorem conv_below (W : World) (e : TypeId) (s : ByteArray) : Below W.heap.size W (Lib.bytesWorld W e s) := ⟨rfl, rfl, rfl, by rw [Lib.bytesWorld_size]; omega, fun k hk => Lib.bytesWorld_at_old W e s k hk⟩

/-- Bytes of the call's own, all other boxes as they were. -/
abbrev Tk (base : Nat) (W2 V : World) (v : Value) (xs : List Int) : Prop := OwnB base V v xs ∧ Keep5 base W2 V
theorem Tk.app {base : Nat} {W2 V w2 : World} {v v' : Value} {xs ys : List Int} {n : Nat} (h : Tk base W2 V v xs) (hb : base ≤ V.heap.size) (hn : n = xs.length + ys.length) (hown : ownsZ w2 base 5 1 v' n (xs.map (Value.int .u8) ++ ys.map (Value.int .u8))) (hg : V.grownBy w2 v.ownBlock) : Tk base W2 w2 v' (xs ++ ys) := by
  subst hn
  exact ⟨(ownB_app h.1 hb hown hg).1, h.2.trans (ownB_app h.1 hb hown hg).2⟩
theorem Tk.alloc {base : Nat} {W2 V : World} {v : Value} {xs : List Int} (h : Tk base W2 V v xs) (hb : base ≤ V.heap.size) (o : Obj) : Tk base W2 (V.alloc o) v xs := ⟨own_allocT h.1 _, h.2.trans (Keep5.of_below ((Below.refl V.heap.size V).alloc (Nat.le_refl _) _) hb)⟩
theorem Tk.below {base : Nat} {W2 V V' : World} {v : Value} {xs : List Int} (h : Tk base W2 V v xs) (hb : base ≤ V.heap.size) (hl : Below V.heap.size V V') : Tk base W2 V' v xs := ⟨OwnB.below h.1 hl (Nat.le_refl _), h.2.trans (Keep5.of_below hl hb)⟩
theorem Tk.drew {base : Nat} {W2 V : World} {v : Value} {xs : List Int} (h : Tk base W2 V v xs) : Tk base W2 V.drew v xs := ⟨h.1, h.2.drew⟩
theorem Tk.size {base : Nat} {W2 V : World} {v : Value} {xs : List Int} (h : Tk base W2 V v xs) (hb : base ≤ W2.heap.size) : base ≤ V.heap.size := Nat.le_trans hb h.2.1.size
theorem Tk.k5 {base : Nat} {W2 V : World} {v : Value} {xs : List Int} (h : Tk base W2 V v xs) : Keep5 base W2 V := h.2
theorem calls_at {P : Program} {f : Nat} {args : Array Value} {w V : World} {Q : Ending → World → Prop} (hV : w = V) (h : Calls P f args V Q) : Calls P f args w Q := by rw [hV]; exact h
theorem stepZ_at {P : Program} {w : World} {ops : Array Oper} {o : Oper} {a : Act} {K : Act → World → Prop} {Q : Exit → Act → World → Prop} {E : Prop} (V : World) (hV : w = V) (hgd : o.guard = none) (s x : Operand) (t : TypeId) (ho : o.op = .call { callee := .builtin .append, args := #[s, x], argTypes := #[t, t] })
    (base : Nat) (e : TypeId) (i : TypeInfo) (z : Value) (size bytes : Nat) (ht : P.underlying t = some (.slice e)) (hi : P.info? e = some i) (hz : i.zero = some z)
    (hsize : i.size = size) (hby : i.bytes = bytes) (hzs : z.cells.size = size) (hsz : size = 1) (v : Value) (n : Nat) (xs : List Value) (hs : a.eval s = v) (hown : ownsZ V base e size v n xs)
    (ad : Addr) (m c : Nat) (news : List Value) (hx : a.eval x = .slice (some ad) m c) (hl : news.length = m * size) (hnews : ∀ j u, news[j]? = some u → V.cell? (ad.add j) = some u) (h1 : ∀ u ∈ news, u.oneCell' = true)
    (hm : 0 < m) (h63 : n + m ≤ maxLen) (hbytes : (n + m) * bytes ≤ 140737488355328) (hbase : base ≤ V.heap.size) (H : Nat) (hH : V.heap.size = H)
    (h : ∀ g cap w', ownsZ w' base e size (.slice (some ⟨g, 0, none⟩) (n + m) cap) (n + m) (xs ++ news) → V.grownBy w' v.ownBlock → (v.ownBlock = some g ∨ g = H) → g < w'.heap.size → K (a.put o.dst (.slice (some ⟨g, 0, none⟩) (n + m) cap)) w') :
    if Region.wanted o (yielded ops a.tmps) = true then Oper.wp P o a w K Q else E := by
  subst hV
  exact stepZ_lies w hgd s x t ho base e i z size bytes ht hi hz hsize hby hzs hsz v n xs hs hown ad m c news hx hl hnews h1 hm h63 hbytes hbase H hH h
/-- A blank in a block of its own. -/
def Sp (V : World) (v : Value) (g : Nat) : Prop := V.heap[g]? = some (.cells #[.int .u8 32] 5 (0, 0)) ∧ v.ownBlock ≠ some g
theorem Sp.new {base : Nat} {V : World} {v : Value} {xs : List Int} (h : OwnB base V v xs) : Sp (V.alloc (.cells #[.int .u8 32] 5)) v V.heap.size := ⟨World.alloc_heap_new V _, fun e => by have := (ownsZ.lt h _ e).2; omega⟩
theorem Sp.alloc {V : World} {v : Value} {g : Nat} (h : Sp V v g) (o : Obj) : Sp (V.alloc o) v g := ⟨(Below.heap_alloc _ _ _ (Array.getElem?_eq_some_iff.1 h.1).1).trans h.1, h.2⟩
theorem Sp.app {V w' : World} {v v' : Value} {g : Nat} (h : Sp V v g) (hg : V.grownBy w' v.ownBlock) (ha : v.ownBlock = v'.ownBlock ∨ v'.ownBlock = some V.heap.size) : Sp w' v' g := by
  have hlt : g < V.heap.size := (Array.getElem?_eq_some_iff.1 h.1).1
  refine ⟨(hg.block g hlt (fun e => h.2 e.symm)).trans h.1, fun e => ?_⟩
  rcases ha with q | q
  · rw [← q] at e; exact h.2 e
  · rw [q] at e; simp at e; omega
theorem Sp.below {V w' : World} {v : Value} {g : Nat} (h : Sp V v g) (hb : Below V.heap.size V w') : Sp w' v g := ⟨(hb.block g (Array.getElem?_eq_some_iff.1 h.1).1).trans h.1, h.2⟩
theorem Sp.news {V : World} {v : Value} {g : Nat} (h : Sp V v g) : ∀ j u, [Value.int .u8 32][j]? = some u → V.cell? ((⟨g, 0, none⟩ : Addr).add j) = some u := World.news_of_block h.1

end Go.Proofs.YtknainelonaigaaGreatDoor
