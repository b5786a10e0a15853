/- What a clause's text under way is, and what is kept, as the program writes it. -/
import Derived.Test.YtknainelonaigaaGreatDoorClTxI1
import Derived.Test.YtknainelonaigaaGreatDoorClTxB
import Derived.Test.YtknainelonaigaaGreatDoorLitTell5
import Derived.Test.YtknainelonaigaaGreatDoorClImpl3
namespace Go.Proofs.YtknainelonaigaaGreatDoor
open Go.RowKit Go.Shelf

attribute [local go_sem] Oper.semAt_some
attribute [local go_sem ↓] about_wide

theorem literals_inC (n : Nat) {k f r u xp xn yp yn : Int} {ia : Option Addr} {im ic : Nat} {a b : Int} (w : World) :
    CallsIn Fence.wide n Tryz.prog 57 #[.agg #[.int .i64 k, .int .i64 f, .int .i64 r, .int .i64 u, .int .i64 xp, .int .i64 xn, .int .i64 yp, .int .i64 yn, .slice ia im ic, .int .i64 a, .int .i64 b]] w fun e w' => e = .returned (.func (.func 83) #[] #[.pointer (some ⟨w.heap.size, 0, none⟩)]) ∧ w' = w.alloc (.cells #[.int .i64 k, .int .i64 f, .int .i64 r, .int .i64 u, .int .i64 xp, .int .i64 xn, .int .i64 yp, .int .i64 yn, .slice ia im ic, .int .i64 a, .int .i64 b] 53) := by
  refine callsIn_of_wp Tryz.func57 rfl trivial ?_ rfl
  simp only [Tryz.ntmps57, List.size_toArray, List.length_cons, List.length_nil, Nat.reduceAdd, Nat.reduceSub, Array.replicate_succ, Array.replicate_zero, List.push_toArray, List.append_toArray, List.nil_append, List.cons_append]
  gi_wp2
  go_ret
  exact ⟨rfl, rfl⟩

theorem own_cells {base : Nat} {W : World} {v : Value} {xs : List Int} (h : OwnB base W v xs) {b : Nat} (hb : v.ownBlock = some b) : ∃ c f, W.heap[b]? = some (.cells c 5 f) := by
  rcases h.2 with ⟨rfl, _⟩ | ⟨g, cap, cur, fz, rfl, _, hg, _⟩
  · simp [Value.ownBlock] at hb
  · simp only [Value.ownBlock, Option.some.injEq] at hb
    subst hb
    exact ⟨_, _, hg⟩
theorem OwnB.slice {base : Nat} {W : World} {v : Value} {xs : List Int} (h : OwnB base W v xs) : ∃ a n c, v = .slice a n c := by
  rcases h.2 with ⟨rfl, _⟩ | ⟨g, cap, cur, fz, rfl, _⟩
  · exact ⟨_, _, _, rfl⟩
  · exact ⟨_, _, _, rfl⟩
/-- Ownership hangs on the row's block alone. -/
theorem OwnB.blk {base : Nat} {W W' : World} {v : Value} {xs : List Int} (h : OwnB base W v xs) (hk : ∀ b, v.ownBlock = some b → W'.heap[b]? = W.heap[b]?) : OwnB base W' v xs := by
  obtain ⟨h1, h2⟩ := h
  refine ⟨h1, ?_⟩
  rcases h2 with h2 | ⟨g, cap, cur, fz, hv, hg, hh, r⟩
  · exact .inl h2
  · exact .inr ⟨g, cap, cur, fz, hv, hg, by rw [hk g (by rw [hv]; rfl)]; exact hh, r⟩

/-- Where the text under way lies: its bytes; the clause's box; the shape's box; the text's own box. -/
structure CtI (base kb sb ob : Nat) (KC SC : Array Value) (w V : World) (v : Value) (xs : List Int) : Prop where
  kbx : V.heap[kb]? = some (.cells KC 53 (0, 0))
  sbx : V.heap[sb]? = some (.cells SC 91 (0, 0))
  obx : Boxed V ob 28 v
  own : OwnB base V v xs
  bel : Below base w V
  bas : base ≤ ob

theorem own_ne {base ob : Nat} {V : World} {v u : Value} {xs : List Int} (h : OwnB base V v xs) (ho : Boxed V ob 28 u) : v.ownBlock ≠ some ob := fun e => by
  obtain ⟨c, f, hc⟩ := own_cells h e
  rw [show V.heap[ob]? = _ from ho] at hc
  cases hc

theorem CtI.num {base kb sb ob : Nat} {KC SC : Array Value} {w V V' : World} {v v' : Value} {xs ys : List Int} (h : CtI base kb sb ob KC SC w V v xs) (hO : OwnB base V' v' ys) (hk : Keep6 base V v V' v') (n1 : kb ≠ ob) (n2 : sb ≠ ob) : CtI base kb sb ob KC SC w (V'.setCell ⟨ob, 0, none⟩ v') v' ys := by
  have ho : Boxed V' ob 28 v := hk.k5.2 ob _ _ _ (by decide) h.obx
  refine ⟨(Below.heap_setCell _ _ _ _ n1).trans (hk.k5.2 kb _ _ _ (by decide) h.kbx), (Below.heap_setCell _ _ _ _ n2).trans (hk.k5.2 sb _ _ _ (by decide) h.sbx), Boxed.set _ ho, OwnB.blk hO (fun b hb => Below.heap_setCell _ _ _ _ (fun e => own_ne hO ho (by rw [hb, show b = ob from e]))), (h.bel.trans hk.k5.1).setCell (p := ⟨ob, 0, none⟩) h.bas _, h.bas⟩

/-- Between two rounds over the literals. -/
structure InvC (base ob n1 : Nat) (H : List Int) (w : World) (pre : List LT) (W : World) : Prop where
  out : ∃ v, Boxed W ob 28 v ∧ OwnB base W v (H ++ litsT pre)
  bel : Below base w W
  size : n1 ≤ W.heap.size
  bas : base ≤ W.heap.size

theorem InvC.own {base ob n1 : Nat} {H : List Int} {w : World} {B : Nat} (hB : base ≤ B) : OwnFrom B (InvC base ob n1 H w) := by
  rintro pre W W' row ⟨⟨v, h1, h2⟩, h3, h4, h5⟩ hg hr
  have hs := h3.size
  refine ⟨⟨v, boxed_noncells h1 hg fun r e => (hr r e).2, OwnB.blk h2 (fun b hb => hg.block b ?_ (fun e => ?_))⟩, h3.grown hg ?_ fun k e => by have := (hr k e).1; omega, Nat.le_trans h4 hg.size, Nat.le_trans h5 hg.size⟩
  · obtain ⟨c, f, hc⟩ := own_cells h2 hb
    exact (Array.getElem?_eq_some_iff.1 hc).1
  · obtain ⟨c, f, hc⟩ := own_cells h2 hb
    obtain ⟨_, o, ho, hx⟩ := hr b e.symm
    rw [hc] at ho; cases ho; cases hx
  · exact h5

theorem litT_len (x : LT) : (litT x).length ≤ 5 := by
  have := digT_len x.atom
  unfold litT
  split <;> simp <;> omega
theorem litsT_len : ∀ xs : List LT, (litsT xs).length ≤ 5 * xs.length
  | [] => by simp [litsT]
  | x :: xs => by
    have h1 := litT_len x
    have h2 := litsT_len xs
    simp only [litsT, List.length_append, List.length_cons]
    omega

/-- A round's variable: the literal in a box of its own. -/
def AxC (n1 t : Nat) (f : Value → Value → Array Value) (x : LT) (a' : Act) (W : World) : Prop :=
  ∃ Bx : Nat, n1 ≤ Bx ∧ W.heap[Bx]? = some (.cells #[.int .i64 (x.place : Nat), .int .i64 (x.atom : Nat), .bool x.no] t (0, 0)) ∧ a' = { tmps := f (.agg #[.int .i64 (x.place : Nat), .int .i64 (x.atom : Nat), .bool x.no]) (.pointer (some ⟨Bx, 0, none⟩)), defers := [] }
theorem cells_noncellsC {W W' : World} {B : Nat} {c : Array Value} {t : TypeId} {fz : Nat × Nat} {row : Option Nat} (h : W.heap[B]? = some (.cells c t fz)) (hg : W.grownBy W' row)
    (hr : ∀ r, row = some r → ∃ o : Obj, W.heap[r]? = some o ∧ o.isCells = false) : W'.heap[B]? = some (.cells c t fz) :=
  (hg.block B (Array.getElem?_eq_some_iff.1 h).1 (fun e => by
    obtain ⟨o, ho, hc⟩ := hr B e.symm
    rw [h] at ho; cases ho; cases hc)).trans h
theorem AxC.own {n1 t B : Nat} {f : Value → Value → Array Value} (x : LT) (a' : Act) : OwnFrom B (fun (_ : Unit) W => AxC n1 t f x a' W) := by
  rintro _ W W' row ⟨Bx, h1, h2, h3⟩ hg hr
  exact ⟨Bx, h1, cells_noncellsC h2 hg fun r e => (hr r e).2, h3⟩

/-- What a round makes of the text: one literal more. -/
theorem InvC.step {base ob n1 : Nat} {H : List Int} {w W V : World} {v v' : Value} {pre : List LT} {x : LT} (hI : InvC base ob n1 H w pre W) (hbo : base ≤ ob) (ho1 : ob < n1) (ho : Boxed W ob 28 v) (hO : OwnB base V v' (H ++ litsT (pre ++ [x]))) (hW : OwnB base W v (H ++ litsT pre)) (hk : Keep6 base W v V v') :
    KeepsFrom n1 W (V.setCell ⟨ob, 0, none⟩ v') ∧ Kp5 base n1 W (V.setCell ⟨ob, 0, none⟩ v') ∧ InvC base ob n1 H w (pre ++ [x]) (V.setCell ⟨ob, 0, none⟩ v') := by
  have hov : Boxed V ob 28 v := hk.k5.2 ob _ _ _ (by decide) ho
  have hs := hk.k5.1.size
  refine ⟨⟨by simp; omega, fun j o hj h0 hc => ?_⟩, ⟨hk.k5.1.setCell (p := ⟨ob, 0, none⟩) hbo _, fun b c t f hb ht h0 => (Below.heap_setCell _ _ _ _ (by show b ≠ ob; omega)).trans (hk.k5.2 b c t f ht h0)⟩, ⟨v', Boxed.set _ hov, OwnB.blk hO (fun b hb => Below.heap_setCell _ _ _ _ (fun e => own_ne hO hov (by rw [hb, show b = ob from e])))⟩, (hI.bel.trans hk.k5.1).setCell (p := ⟨ob, 0, none⟩) hbo _, by have := hI.size; simp; omega, by have := hI.bas; simp; omega⟩
  rw [Below.heap_setCell _ _ _ _ (by show j ≠ ob; omega), hk.gr j (Array.getElem?_eq_some_iff.1 h0).1 (fun e => ?_)]
  · exact h0
  · obtain ⟨c, f, hcc⟩ := own_cells hW e
    rw [h0] at hcc; cases hcc; cases hc

end Go.Proofs.YtknainelonaigaaGreatDoor
