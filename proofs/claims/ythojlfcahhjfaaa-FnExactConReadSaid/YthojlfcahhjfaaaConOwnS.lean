/- spec.l2own: for every concept that can be read it answers the same one, in new memory. -/
import Derived.Test.YthojlfcahhjfaaaConNnfS
import Derived.Deep.RegionHeldLaw
namespace Go.Proofs.Ythojlfcahhjfaaa
open Go.RowKit

theorem belAl {B : Nat} {w W : World} {o : Obj} (h : Below B w W) (hB : B ≤ w.heap.size) : Below B w (W.alloc o) := h.alloc (Nat.le_trans hB h.size) o

theorem box_in {W : World} {b : Nat} {v0 v1 v2 v3 : Value} (h : W.heap[b]? = some (.cells #[v0, v1, v2, v3] 35 (0, 0))) : BoxC W b v0 v1 v2 v3 := h

theorem ltAl {W : World} {b : Nat} {o : Obj} (h : b < W.heap.size) : b < (W.alloc o).heap.size := by rw [World.size_alloc]; omega
theorem boxAl {W : World} {b : Nat} {v0 v1 v2 v3 : Value} (h : BoxC W b v0 v1 v2 v3) (o : Obj) : BoxC (W.alloc o) b v0 v1 v2 v3 := h.below ((Below.refl _ _).alloc (Nat.le_refl _) o) h.lt
theorem boxDr {W : World} {b : Nat} {v0 v1 v2 v3 : Value} (h : BoxC W b v0 v1 v2 v3) : BoxC W.drew b v0 v1 v2 v3 := h
theorem boxD (W : World) : BoxC (W.alloc (.cells #[.int .i64 0, .slice none 0 0, .slice none 0 0, .slice none 0 0] 35)) W.heap.size (.int .i64 0) (.slice none 0 0) (.slice none 0 0) (.slice none 0 0) := BoxC.new W _ _ _ _
theorem boxE (W : World) (o : Obj) : BoxC ((W.alloc (.cells #[.int .i64 0, .slice none 0 0, .slice none 0 0, .slice none 0 0] 35)).alloc o) W.heap.size (.int .i64 0) (.slice none 0 0) (.slice none 0 0) (.slice none 0 0) := boxAl (boxD W) o
theorem boxF (W : World) (o : Obj) : BoxC ((W.alloc o).alloc (.cells #[.int .i64 0, .slice none 0 0, .slice none 0 0, .slice none 0 0] 35)) (W.heap.size + 1) (.int .i64 0) (.slice none 0 0) (.slice none 0 0) (.slice none 0 0) := by have := boxD (W.alloc o); rwa [World.size_alloc] at this
theorem boxA (W : World) (o : Obj) : BoxC ((W.alloc (.cells #[.int .i64 0, .slice none 0 0, .slice none 0 0, .slice none 0 0] 35)).alloc o).drew W.heap.size (.int .i64 0) (.slice none 0 0) (.slice none 0 0) (.slice none 0 0) := boxDr (boxE W o)
theorem boxB (W : World) (o : Obj) : BoxC ((W.alloc o).alloc (.cells #[.int .i64 0, .slice none 0 0, .slice none 0 0, .slice none 0 0] 35)).drew (W.heap.size + 1) (.int .i64 0) (.slice none 0 0) (.slice none 0 0) (.slice none 0 0) := boxDr (boxF W o)
theorem boxC1 (W : World) (o o' : Obj) : BoxC (((W.alloc (.cells #[.int .i64 0, .slice none 0 0, .slice none 0 0, .slice none 0 0] 35)).alloc o).alloc o').drew W.heap.size (.int .i64 0) (.slice none 0 0) (.slice none 0 0) (.slice none 0 0) := boxDr (boxAl (boxE W o) o')
theorem boxC2 (W : World) (o o' : Obj) : BoxC (((W.alloc o).alloc (.cells #[.int .i64 0, .slice none 0 0, .slice none 0 0, .slice none 0 0] 35)).alloc o').drew (W.heap.size + 1) (.int .i64 0) (.slice none 0 0) (.slice none 0 0) (.slice none 0 0) := boxDr (boxAl (boxF W o) o')
theorem boxC3 (W : World) (o o' : Obj) : BoxC (((W.alloc o).alloc o').alloc (.cells #[.int .i64 0, .slice none 0 0, .slice none 0 0, .slice none 0 0] 35)).drew (W.heap.size + 1 + 1) (.int .i64 0) (.slice none 0 0) (.slice none 0 0) (.slice none 0 0) := by have := boxF (W.alloc o) o'; rw [World.size_alloc] at this; exact boxDr this

/-- Bytes in new memory. -/
def Fr (base : Nat) (w : World) (v : Value) (zs : List Int) (b : Nat) : Prop := ∃ a c, v = .slice a zs.length c ∧ OwB w a zs.length c zs b 0 ∧ (zs.length = 0 ∨ (base ≤ b ∧ b < w.heap.size))

theorem Fr.isSlice {base : Nat} {w : World} {v : Value} {zs : List Int} {b : Nat} (h : Fr base w v zs b) : ∃ a n c, v = .slice a n c := by
  obtain ⟨a, c, h, _⟩ := h
  exact ⟨_, _, _, h⟩

theorem Fr.below {base : Nat} {w w' : World} {v : Value} {zs : List Int} {b : Nat} (h : Fr base w v zs b) (hb : Below w.heap.size w w') : Fr base w' v zs b := by
  obtain ⟨a, c, h1, h2, h3⟩ := h
  refine ⟨a, c, h1, h2.keep' ?_, ?_⟩
  · rcases h3 with e | e
    · exact .inl e
    · exact .inr (hb.block _ e.2)
  · rcases h3 with e | e
    · exact .inl e
    · exact .inr ⟨e.1, Nat.lt_of_lt_of_le e.2 hb.size⟩

theorem Fr.mono {base base' : Nat} {w : World} {v : Value} {zs : List Int} {b : Nat} (h : Fr base w v zs b) (hb : base' ≤ base) : Fr base' w v zs b := by
  obtain ⟨a, c, h1, h2, h3⟩ := h
  refine ⟨a, c, h1, h2, ?_⟩
  rcases h3 with e | e
  · exact .inl e
  · exact .inr ⟨by omega, e.2⟩

theorem Fr.notBox {base : Nat} {w : World} {v : Value} {zs : List Int} {b o : Nat} {k : Int} {v1 v2 v3 : Value} (h : Fr base w v zs b) (hb : BoxC w o (.int .i64 k) v1 v2 v3) : zs.length = 0 ∨ b ≠ o := by
  obtain ⟨a, c, h1, h2, h3⟩ := h
  by_cases hz : zs.length = 0
  · exact .inl hz
  · refine .inr (fun e => ?_)
    subst e
    rcases h2.cells with e | ⟨_, hc⟩
    · exact hz e
    · have := hc 0 (by omega)
      rw [Nat.add_zero, hb.cells.1] at this
      simp at this

/-- An append of bytes to an empty slice, as a step of a region that draws its order: new memory. -/
theorem step_fresh {P : Program} {ops : Array Oper} {o : Oper} {a : Act} {w : World} {K : Act → World → Prop} {Q : Exit → Act → World → Prop} {E : Prop}
    (hgd : o.guard = none) (s x : Operand) (t : TypeId) (ho : o.op = .call { callee := .builtin .append, args := #[s, x], argTypes := #[t, t] })
    (i : TypeInfo) (ht : P.underlying t = some (.slice 5)) (hi : P.info? 5 = some i) (hz : i.zero = some (.int .u8 0)) (hsize : i.size = 1) (hby : i.bytes = 1)
    (ao : Option Addr) (hs : a.eval s = .slice ao 0 0) (ax : Option Addr) (n c : Nat) (zs : List Int) (hx : a.eval x = .slice ax n c) {lo hh : Nat} (hrd : Rd lo hh w ax n c zs) (hn : n ≤ 1048576)
    (h : ∀ v' w' b, Fr w.heap.size w' v' zs b → Below w.heap.size w w' → K (a.put o.dst v') w') :
    if Region.wanted o (yielded ops a.tmps) = true then Oper.wp P o a w K Q else E := by
  have hl := hrd.len
  by_cases h0 : n = 0
  · subst h0
    have hzs : zs = [] := List.eq_nil_of_length_eq_zero hl
    have hw : Region.wanted o (yielded ops a.tmps) = true := by simp [Region.wanted, hgd]
    rw [if_pos hw]
    have hr : (Builtin.append_ #[t, t] o.type #[.slice ao 0 0, .slice ax 0 c]).run P w = .ok (.slice ao 0 0) w := by
      cases ao <;> cases ax <;> simp [Builtin.append_, run_underlying ht, sizeOf, typeInfo, hi, Builtin.lenOf, Builtin.firstCells, loadCells, loadCellsFrom, storeCells]
    unfold Oper.wp execOp
    simp only [ho, resolve, invoke, builtin, Sem.run_bind, Sem.run_pure, Result.andThen_ok, List.map_toArray, List.map_cons, List.map_nil, hs, hx, hr]
    refine h _ _ 0 ⟨ao, 0, by rw [hzs]; rfl, ?_, .inl (by rw [hzs]; rfl)⟩ (Below.refl _ _)
    rw [hzs]
    exact ⟨rfl, ⟨by simp, by omega⟩, by simp, .inl rfl⟩
  · rcases hrd.cells with e | ⟨b, off, rfl, _, _, hc⟩
    · exact absurd e h0
    · refine step_append_grows hgd s x t ho 5 i (.int .u8 0) 1 1 ht hi hz hsize hby rfl (by decide) ao 0 0 [] hs (fun _ => ⟨rfl, rfl⟩) rfl (fun _ _ j u hu => by simp at hu) ⟨b, off, none⟩ n c (zs.map (Value.int .u8)) hx (by simp [hl]) (rd_news hrd) (oneCB _) (by omega) (by unfold maxLen; omega) (by omega) ?_
      intro v' w' hown hgrow
      have hO : OwnB w.heap.size w' v' zs := by
        unfold OwnB
        rw [hl]
        simpa using hown
      obtain ⟨a', c', b', rfl, hw1, hw2⟩ := hO.own hrd.byte
      refine h _ _ b' ⟨a', c', rfl, hw1, ?_⟩ ((Below.refl w.heap.size w).grown hgrow (Nat.le_refl _) (fun _ e => by cases e))
      rcases hw2 with e | ⟨_, e1, e2, _⟩
      · exact .inl e
      · exact .inr ⟨e1, e2⟩

theorem belFr {W0 X w1 : World} {v : Value} {zs : List Int} {b : Nat} (bX : Below W0.heap.size W0 X) (hb : Below X.heap.size X w1) (hF : Fr X.heap.size w1 v zs b) : Below W0.heap.size W0 w1 ∧ Fr W0.heap.size w1 v zs b := ⟨bX.trans (hb.mono bX.size), hF.mono bX.size⟩

/-- What is made ahead of the kids. -/
structure PreS (W0 W : World) (ov : Value) (k : Int) (name role : List Int) (ob bn br : Nat) (nv rv : Value) : Prop where
  ptr : ov = .pointer (some ⟨ob, 0, none⟩)
  box : BoxC W ob (.int .i64 k) nv rv (.slice none 0 0)
  ge : W0.heap.size ≤ ob
  bel : Below W0.heap.size W0 W
  nam : Fr W0.heap.size W nv name bn
  nne : name.length = 0 ∨ bn ≠ ob
  rol : Fr W0.heap.size W rv role br
  rne : role.length = 0 ∨ br ≠ ob

theorem PreS.last {W0 w1 w2 : World} {k : Int} {nv rv : Value} {name role : List Int} {bn br : Nat} (h1 : Fr W0.heap.size w1 nv name bn) (b1 : Below W0.heap.size W0 w1) (h2 : Fr w1.heap.size w2 rv role br) (b2 : Below w1.heap.size w1 w2) :
    PreS W0 (w2.alloc (.cells #[.int .i64 k, nv, rv, .slice none 0 0] 35)) (.pointer (some ⟨w2.heap.size, 0, none⟩)) k name role w2.heap.size bn br nv rv := by
  have hs1 := b1.size
  have hs2 := b2.size
  have b3 : Below w2.heap.size w2 (w2.alloc (.cells #[.int .i64 k, nv, rv, .slice none 0 0] 35)) := (Below.refl _ _).alloc (Nat.le_refl _) _
  have hn2 := (h1.below b2)
  refine ⟨rfl, BoxC.new w2 _ _ _ _, by omega, (b1.trans (b2.mono hs1)).trans (b3.mono (by omega)), hn2.below b3, ?_, (h2.mono hs1).below b3, ?_⟩
  · obtain ⟨_, _, _, _, e | e⟩ := hn2
    · exact .inl e
    · exact .inr (by omega)
  · obtain ⟨_, _, _, _, e | e⟩ := h2
    · exact .inl e
    · exact .inr (by omega)

theorem PreS.set {W0 w1 w2 : World} {k : Int} {nv rv : Value} {name role : List Int} {bn br ob : Nat} {z : Int} {z1 z2 z3 : Value} (h1 : Fr W0.heap.size w1 nv name bn) (b1 : Below W0.heap.size W0 w1) (h2 : Fr w1.heap.size w2 rv role br) (b2 : Below w1.heap.size w1 w2) (hb : BoxC w2 ob (.int .i64 z) z1 z2 z3) (ho : W0.heap.size ≤ ob) :
    PreS W0 ((((w2.setCell ⟨ob, 0, none⟩ (.int .i64 k)).setCell ⟨ob, 1, none⟩ nv).setCell ⟨ob, 2, none⟩ rv).setCell ⟨ob, 3, none⟩ (.slice none 0 0)) (.pointer (some ⟨ob, 0, none⟩)) k name role ob bn br nv rv := by
  have hs1 := b1.size
  have hn2 := (h1.below b2)
  have hr2 := h2.mono hs1
  have en := hn2.notBox hb
  have er := hr2.notBox hb
  have hsz : ((((w2.setCell ⟨ob, 0, none⟩ (.int .i64 k)).setCell ⟨ob, 1, none⟩ nv).setCell ⟨ob, 2, none⟩ rv).setCell ⟨ob, 3, none⟩ (.slice none 0 0)).heap.size = w2.heap.size := by simp
  have keep : ∀ {base b : Nat} {v : Value} {zs : List Int}, Fr base w2 v zs b → (zs.length = 0 ∨ b ≠ ob) → Fr base ((((w2.setCell ⟨ob, 0, none⟩ (.int .i64 k)).setCell ⟨ob, 1, none⟩ nv).setCell ⟨ob, 2, none⟩ rv).setCell ⟨ob, 3, none⟩ (.slice none 0 0)) v zs b := by
    intro base b v zs h e
    obtain ⟨a, c, q1, q2, q3⟩ := h
    refine ⟨a, c, q1, q2.keep' ?_, ?_⟩
    · rcases e with e | e
      · exact .inl e
      · exact .inr (heap_set4 _ _ _ _ _ e)
    · rw [hsz]; exact q3
  exact ⟨rfl, hb.set4 _ _ _ _, ho, ((((b1.trans (b2.mono hs1)).setCell ho _).setCell ho _).setCell ho _).setCell ho _, keep hn2 en, en, keep hr2 er, er⟩

end Go.Proofs.Ythojlfcahhjfaaa
