/- spec.l2own: for every concept that can be read it answers the same one, in new memory. -/
import Derived.Test.YtfbokljbmihlbaaConSpO
import Derived.Deep.RegionHeldLaw
namespace Go.Proofs.Ytfbokljbmihlbaa
open Go.RowKit

theorem fin_postS {w W : World} {d hi : Nat} {c : CN} {L : List (Addr × IntKind)} {v0 v1 v2 v3 : Value} (hL : OwC W d (.agg #[v0, v1, v2, v3]) c L) (hx : ∀ x ∈ L, (x.1.block < hi ∨ w.heap.size ≤ x.1.block) ∧ x.1.block < W.heap.size ∧ x.1.block ≠ w.heap.size + 1) (h0 : Below w.heap.size w W) :
    ∃ v' L, Ending.returned (.agg #[v0, v1, v2, v3]) = .returned v' ∧ OwC ((((W.setCell ⟨w.heap.size + 1, 0, none⟩ v0).setCell ⟨w.heap.size + 1, 1, none⟩ v1).setCell ⟨w.heap.size + 1, 2, none⟩ v2).setCell ⟨w.heap.size + 1, 3, none⟩ v3) d v' c L ∧
      (∀ x ∈ L, (x.1.block < hi ∨ w.heap.size ≤ x.1.block) ∧ x.1.block < ((((W.setCell ⟨w.heap.size + 1, 0, none⟩ v0).setCell ⟨w.heap.size + 1, 1, none⟩ v1).setCell ⟨w.heap.size + 1, 2, none⟩ v2).setCell ⟨w.heap.size + 1, 3, none⟩ v3).heap.size) ∧
      Below w.heap.size w ((((W.setCell ⟨w.heap.size + 1, 0, none⟩ v0).setCell ⟨w.heap.size + 1, 1, none⟩ v1).setCell ⟨w.heap.size + 1, 2, none⟩ v2).setCell ⟨w.heap.size + 1, 3, none⟩ v3) := by
  refine ⟨_, L, rfl, hL.sameF (fun x hx' => (hx x hx').2.2) rfl, fun x hx' => ⟨(hx x hx').1, by simpa using (hx x hx').2.1⟩, ?_⟩
  exact ((((h0.setCell (by show w.heap.size ≤ w.heap.size + 1; omega) _).setCell (by show w.heap.size ≤ w.heap.size + 1; omega) _).setCell (by show w.heap.size ≤ w.heap.size + 1; omega) _).setCell (by show w.heap.size ≤ w.heap.size + 1; omega) _)


theorem belAl {B : Nat} {w W : World} {o : Obj} (h : Below B w W) (hB : B ≤ w.heap.size) : Below B w (W.alloc o) := h.alloc (Nat.le_trans hB h.size) o

theorem box_in {W : World} {b : Nat} {v0 v1 v2 v3 : Value} (h : W.heap[b]? = some (.cells #[v0, v1, v2, v3] 38 (0, 0))) : BoxC W b v0 v1 v2 v3 := h

theorem ltAl {W : World} {b : Nat} {o : Obj} (h : b < W.heap.size) : b < (W.alloc o).heap.size := by rw [World.size_alloc]; omega
theorem boxAl {W : World} {b : Nat} {v0 v1 v2 v3 : Value} (h : BoxC W b v0 v1 v2 v3) (o : Obj) : BoxC (W.alloc o) b v0 v1 v2 v3 := h.below ((Below.refl _ _).alloc (Nat.le_refl _) o) h.lt
theorem boxDr {W : World} {b : Nat} {v0 v1 v2 v3 : Value} (h : BoxC W b v0 v1 v2 v3) : BoxC W.drew b v0 v1 v2 v3 := h
theorem boxD (W : World) : BoxC (W.alloc (.cells #[.int .i64 0, .slice none 0 0, .slice none 0 0, .slice none 0 0] 38)) W.heap.size (.int .i64 0) (.slice none 0 0) (.slice none 0 0) (.slice none 0 0) := BoxC.new W _ _ _ _
theorem boxE (W : World) (o : Obj) : BoxC ((W.alloc (.cells #[.int .i64 0, .slice none 0 0, .slice none 0 0, .slice none 0 0] 38)).alloc o) W.heap.size (.int .i64 0) (.slice none 0 0) (.slice none 0 0) (.slice none 0 0) := boxAl (boxD W) o
theorem boxF (W : World) (o : Obj) : BoxC ((W.alloc o).alloc (.cells #[.int .i64 0, .slice none 0 0, .slice none 0 0, .slice none 0 0] 38)) (W.heap.size + 1) (.int .i64 0) (.slice none 0 0) (.slice none 0 0) (.slice none 0 0) := by have := boxD (W.alloc o); rwa [World.size_alloc] at this
theorem boxA (W : World) (o : Obj) : BoxC ((W.alloc (.cells #[.int .i64 0, .slice none 0 0, .slice none 0 0, .slice none 0 0] 38)).alloc o).drew W.heap.size (.int .i64 0) (.slice none 0 0) (.slice none 0 0) (.slice none 0 0) := boxDr (boxE W o)
theorem boxB (W : World) (o : Obj) : BoxC ((W.alloc o).alloc (.cells #[.int .i64 0, .slice none 0 0, .slice none 0 0, .slice none 0 0] 38)).drew (W.heap.size + 1) (.int .i64 0) (.slice none 0 0) (.slice none 0 0) (.slice none 0 0) := boxDr (boxF W o)
theorem boxC1 (W : World) (o o' : Obj) : BoxC (((W.alloc (.cells #[.int .i64 0, .slice none 0 0, .slice none 0 0, .slice none 0 0] 38)).alloc o).alloc o').drew W.heap.size (.int .i64 0) (.slice none 0 0) (.slice none 0 0) (.slice none 0 0) := boxDr (boxAl (boxE W o) o')
theorem boxC2 (W : World) (o o' : Obj) : BoxC (((W.alloc o).alloc (.cells #[.int .i64 0, .slice none 0 0, .slice none 0 0, .slice none 0 0] 38)).alloc o').drew (W.heap.size + 1) (.int .i64 0) (.slice none 0 0) (.slice none 0 0) (.slice none 0 0) := boxDr (boxAl (boxF W o) o')
theorem boxC3 (W : World) (o o' : Obj) : BoxC (((W.alloc o).alloc o').alloc (.cells #[.int .i64 0, .slice none 0 0, .slice none 0 0, .slice none 0 0] 38)).drew (W.heap.size + 1 + 1) (.int .i64 0) (.slice none 0 0) (.slice none 0 0) (.slice none 0 0) := by have := boxF (W.alloc o) o'; rw [World.size_alloc] at this; exact boxDr this

/-- Bytes in new memory. -/
def Fr (base : Nat) (w : World) (v : Value) (zs : List Int) (b : Nat) : Prop := ∃ a c, v = .slice a zs.length c ∧ OwB w a zs.length c zs b 0 ∧ (zs.length = 0 ∨ (base ≤ b ∧ b < w.heap.size))

theorem Fr.isSlice {base : Nat} {w : World} {v : Value} {zs : List Int} {b : Nat} (h : Fr base w v zs b) : ∃ a n c, v = .slice a n c := by
  obtain ⟨a, c, h, _⟩ := h
  exact ⟨_, _, _, h⟩

theorem Fr.below {base : Nat} {w w' : World} {v : Value} {zs : List Int} {b : Nat} (h : Fr base w v zs b) (hb : Below w.heap.size w w') : Fr base w' v zs b := by
  obtain ⟨a, c, h1, h2, h3⟩ := h
  refine ⟨a, c, h1, h2.keep' ?_, ?_⟩
  · rcases h3 with e | e
    · exact .inl e
    · exact .inr (hb.block _ e.2)
  · rcases h3 with e | e
    · exact .inl e
    · exact .inr ⟨e.1, Nat.lt_of_lt_of_le e.2 hb.size⟩

theorem Fr.mono {base base' : Nat} {w : World} {v : Value} {zs : List Int} {b : Nat} (h : Fr base w v zs b) (hb : base' ≤ base) : Fr base' w v zs b := by
  obtain ⟨a, c, h1, h2, h3⟩ := h
  refine ⟨a, c, h1, h2, ?_⟩
  rcases h3 with e | e
  · exact .inl e
  · exact .inr ⟨by omega, e.2⟩

theorem Fr.notBox {base : Nat} {w : World} {v : Value} {zs : List Int} {b o : Nat} {k : Int} {v1 v2 v3 : Value} (h : Fr base w v zs b) (hb : BoxC w o (.int .i64 k) v1 v2 v3) : zs.length = 0 ∨ b ≠ o := by
  obtain ⟨a, c, h1, h2, h3⟩ := h
  by_cases hz : zs.length = 0
  · exact .inl hz
  · refine .inr (fun e => ?_)
    subst e
    rcases h2.cells with e | ⟨_, hc⟩
    · exact hz e
    · have := hc 0 (by omega)
      rw [Nat.add_zero, hb.cells.1] at this
      simp at this

/-- An append of bytes to an empty slice, as a step of a region that draws its order: new memory. -/
theorem step_fresh {P : Program} {ops : Array Oper} {o : Oper} {a : Act} {w : World} {K : Act → World → Prop} {Q : Exit → Act → World → Prop} {E : Prop}
    (hgd : o.guard = none) (s x : Operand) (t : TypeId) (ho : o.op = .call { callee := .builtin .append, args := #[s, x], argTypes := #[t, t] })
    (i : TypeInfo) (ht : P.underlying t = some (.slice 5)) (hi : P.info? 5 = some i) (hz : i.zero = some (.int .u8 0)) (hsize : i.size = 1) (hby : i.bytes = 1)
    (ao : Option Addr) (hs : a.eval s = .slice ao 0 0) (ax : Option Addr) (n c : Nat) (zs : List Int) (hx : a.eval x = .slice ax n c) {lo hh : Nat} (hrd : Rd lo hh w ax n c zs) (hn : n ≤ 1048576)
    (h : ∀ v' w' b, Fr w.heap.size w' v' zs b → Below w.heap.size w w' → K (a.put o.dst v') w') :
    if Region.wanted o (yielded ops a.tmps) = true then Oper.wp P o a w K Q else E := by
  have hl := hrd.len
  by_cases h0 : n = 0
  · subst h0
    have hzs : zs = [] := List.eq_nil_of_length_eq_zero hl
    have hw : Region.wanted o (yielded ops a.tmps) = true := by simp [Region.wanted, hgd]
    rw [if_pos hw]
    have hr : (Builtin.append_ #[t, t] o.type #[.slice ao 0 0, .slice ax 0 c]).run P w = .ok (.slice ao 0 0) w := by
      cases ao <;> cases ax <;> simp [Builtin.append_, run_underlying ht, sizeOf, typeInfo, hi, Builtin.lenOf, Builtin.firstCells, loadCells, loadCellsFrom, storeCells]
    unfold Oper.wp execOp
    simp only [ho, resolve, invoke, builtin, Sem.run_bind, Sem.run_pure, Result.andThen_ok, List.map_toArray, List.map_cons, List.map_nil, hs, hx, hr]
    refine h _ _ 0 ⟨ao, 0, by rw [hzs]; rfl, ?_, .inl (by rw [hzs]; rfl)⟩ (Below.refl _ _)
    rw [hzs]
    exact ⟨rfl, ⟨by simp, by omega⟩, by simp, .inl rfl⟩
  · rcases hrd.cells with e | ⟨b, off, rfl, _, _, hc⟩
    · exact absurd e h0
    · refine step_append_grows hgd s x t ho 5 i (.int .u8 0) 1 1 ht hi hz hsize hby rfl (by decide) ao 0 0 [] hs (fun _ => ⟨rfl, rfl⟩) rfl (fun _ _ j u hu => by simp at hu) ⟨b, off, none⟩ n c (zs.map (Value.int .u8)) hx (by simp [hl]) (rd_news hrd) (oneCB _) (by omega) (by unfold maxLen; omega) (by omega) ?_
      intro v' w' hown hgrow
      have hO : OwnB w.heap.size w' v' zs := by
        unfold OwnB
        rw [hl]
        simpa using hown
      obtain ⟨a', c', b', rfl, hw1, hw2⟩ := hO.own hrd.byte
      refine h _ _ b' ⟨a', c', rfl, hw1, ?_⟩ ((Below.refl w.heap.size w).grown hgrow (Nat.le_refl _) (fun _ e => by cases e))
      rcases hw2 with e | ⟨_, e1, e2, _⟩
      · exact .inl e
      · exact .inr ⟨e1, e2⟩

theorem belFr {W0 X w1 : World} {v : Value} {zs : List Int} {b : Nat} (bX : Below W0.heap.size W0 X) (hb : Below X.heap.size X w1) (hF : Fr X.heap.size w1 v zs b) : Below W0.heap.size W0 w1 ∧ Fr W0.heap.size w1 v zs b := ⟨bX.trans (hb.mono bX.size), hF.mono bX.size⟩

/-- What is made ahead of the kids. -/
structure PreS (W0 W : World) (ov : Value) (k : Int) (name role : List Int) (ob bn br : Nat) (nv rv : Value) : Prop where
  ptr : ov = .pointer (some ⟨ob, 0, none⟩)
  box : BoxC W ob (.int .i64 k) nv rv (.slice none 0 0)
  ge : W0.heap.size ≤ ob
  bel : Below W0.heap.size W0 W
  nam : Fr W0.heap.size W nv name bn
  nne : name.length = 0 ∨ bn ≠ ob
  rol : Fr W0.heap.size W rv role br
  rne : role.length = 0 ∨ br ≠ ob

theorem PreS.last {W0 w1 w2 : World} {k : Int} {nv rv : Value} {name role : List Int} {bn br : Nat} (h1 : Fr W0.heap.size w1 nv name bn) (b1 : Below W0.heap.size W0 w1) (h2 : Fr w1.heap.size w2 rv role br) (b2 : Below w1.heap.size w1 w2) :
    PreS W0 (w2.alloc (.cells #[.int .i64 k, nv, rv, .slice none 0 0] 38)) (.pointer (some ⟨w2.heap.size, 0, none⟩)) k name role w2.heap.size bn br nv rv := by
  have hs1 := b1.size
  have hs2 := b2.size
  have b3 : Below w2.heap.size w2 (w2.alloc (.cells #[.int .i64 k, nv, rv, .slice none 0 0] 38)) := (Below.refl _ _).alloc (Nat.le_refl _) _
  have hn2 := (h1.below b2)
  refine ⟨rfl, BoxC.new w2 _ _ _ _, by omega, (b1.trans (b2.mono hs1)).trans (b3.mono (by omega)), hn2.below b3, ?_, (h2.mono hs1).below b3, ?_⟩
  · obtain ⟨_, _, _, _, e | e⟩ := hn2
    · exact .inl e
    · exact .inr (by omega)
  · obtain ⟨_, _, _, _, e | e⟩ := h2
    · exact .inl e
    · exact .inr (by omega)

theorem PreS.set {W0 w1 w2 : World} {k : Int} {nv rv : Value} {name role : List Int} {bn br ob : Nat} {z : Int} {z1 z2 z3 : Value} (h1 : Fr W0.heap.size w1 nv name bn) (b1 : Below W0.heap.size W0 w1) (h2 : Fr w1.heap.size w2 rv role br) (b2 : Below w1.heap.size w1 w2) (hb : BoxC w2 ob (.int .i64 z) z1 z2 z3) (ho : W0.heap.size ≤ ob) :
    PreS W0 ((((w2.setCell ⟨ob, 0, none⟩ (.int .i64 k)).setCell ⟨ob, 1, none⟩ nv).setCell ⟨ob, 2, none⟩ rv).setCell ⟨ob, 3, none⟩ (.slice none 0 0)) (.pointer (some ⟨ob, 0, none⟩)) k name role ob bn br nv rv := by
  have hs1 := b1.size
  have hn2 := (h1.below b2)
  have hr2 := h2.mono hs1
  have en := hn2.notBox hb
  have er := hr2.notBox hb
  have hsz : ((((w2.setCell ⟨ob, 0, none⟩ (.int .i64 k)).setCell ⟨ob, 1, none⟩ nv).setCell ⟨ob, 2, none⟩ rv).setCell ⟨ob, 3, none⟩ (.slice none 0 0)).heap.size = w2.heap.size := by simp
  have keep : ∀ {base b : Nat} {v : Value} {zs : List Int}, Fr base w2 v zs b → (zs.length = 0 ∨ b ≠ ob) → Fr base ((((w2.setCell ⟨ob, 0, none⟩ (.int .i64 k)).setCell ⟨ob, 1, none⟩ nv).setCell ⟨ob, 2, none⟩ rv).setCell ⟨ob, 3, none⟩ (.slice none 0 0)) v zs b := by
    intro base b v zs h e
    obtain ⟨a, c, q1, q2, q3⟩ := h
    refine ⟨a, c, q1, q2.keep' ?_, ?_⟩
    · rcases e with e | e
      · exact .inl e
      · exact .inr (heap_set4 _ _ _ _ _ e)
    · rw [hsz]; exact q3
  exact ⟨rfl, hb.set4 _ _ _ _, ho, ((((b1.trans (b2.mono hs1)).setCell ho _).setCell ho _).setCell ho _).setCell ho _, keep hn2 en, en, keep hr2 er, er⟩

def OwP (d : Nat) : Prop := ∀ (v : Value) (c : CN) (w : World) (lo hi : Nat), RdC lo hi w d v c → hi ≤ w.heap.size → c.bulk ≤ 1048576 →
  Calls Try.prog 47 #[v] w fun e w' => ∃ v' L, e = .returned v' ∧ OwC w' d v' c L ∧ (∀ x ∈ L, (x.1.block < 0 ∨ w.heap.size ≤ x.1.block) ∧ x.1.block < w'.heap.size) ∧ Below w.heap.size w w'

set_option maxRecDepth 100000 in
set_option maxHeartbeats 4000000 in
theorem owP_of {d : Nat} (H : ∀ d', d = d' + 1 → OwP d') : OwP d := by
  intro v c w lo hi h hhi hbk
  cases d with
  | zero => exact h.elim
  | succ d =>
    have HH : Hid (OwP d) := H d rfl
    obtain ⟨na, nn, nc, ra, rn, rc, ka, kn, kc, rfl, hn, hr, hks⟩ := h
    have hbe := c.bulk_eq
    have hnl := hn.len
    have hrl := hr.len
    have hnn : nn ≤ 1048576 := by omega
    have hrn : rn ≤ 1048576 := by omega
    obtain ⟨k, hk⟩ : ∃ k, k = c.kind := ⟨_, rfl⟩
    rw [← hk]
    have HK : Hid (k = c.kind) := hk
    have HN : Hid (Rd lo hi w na nn nc c.name) := hn
    have HR : Hid (Rd lo hi w ra rn rc c.role) := hr
    have HKs : Hid (RdL (RdC lo hi w d) lo hi w ka kn kc c.kids) := hks
    have HBk : Hid (bulks c.kids ≤ 1048576) := by unfold Hid; omega
    have HKL : Hid (c.kids.length = kn) := hks.len
    obtain ⟨W0, hW0⟩ : ∃ W0, W0 = (w.alloc (.cells #[.int .i64 k, .slice na nn nc, .slice ra rn rc, .slice ka kn kc] 38)).alloc (.cells #[.int .i64 0, .slice none 0 0, .slice none 0 0, .slice none 0 0] 38) := ⟨_, rfl⟩
    have HW0 : Hid (W0 = (w.alloc (.cells #[.int .i64 k, .slice na nn nc, .slice ra rn rc, .slice ka kn kc] 38)).alloc (.cells #[.int .i64 0, .slice none 0 0, .slice none 0 0, .slice none 0 0] 38)) := hW0
    have hs0 : W0.heap.size = w.heap.size + 2 := by rw [hW0]; simp
    have HS0 : Hid (W0.heap.size = w.heap.size + 2) := hs0
    have hl0 : w.heap.size < W0.heap.size := by omega
    have hb0 : Below w.heap.size w W0 := by rw [hW0]; exact ((Below.refl _ _).alloc (Nat.le_refl _) _).alloc (by simp) _
    have hbx : BoxC W0 w.heap.size (.int .i64 k) (.slice na nn nc) (.slice ra rn rc) (.slice ka kn kc) := by rw [hW0]; exact (BoxC.new w _ _ _ _).below ((Below.refl _ _).alloc (Nat.le_refl _) _) (by simp)
    have hbr : BoxC W0 (w.heap.size + 1) (.int .i64 0) (.slice none 0 0) (.slice none 0 0) (.slice none 0 0) := by
      rw [hW0]
      have := BoxC.new (w.alloc (.cells #[.int .i64 k, .slice na nn nc, .slice ra rn rc, .slice ka kn kc] 38)) (.int .i64 0) (.slice none 0 0) (.slice none 0 0) (.slice none 0 0)
      rwa [World.size_alloc] at this
    have HB0 : Hid (Below w.heap.size w W0) := hb0
    have HBx : Hid (BoxC W0 w.heap.size (.int .i64 k) (.slice na nn nc) (.slice ra rn rc) (.slice ka kn kc)) := hbx
    have HBr : Hid (BoxC W0 (w.heap.size + 1) (.int .i64 0) (.slice none 0 0) (.slice none 0 0) (.slice none 0 0)) := hbr
    obtain ⟨b0, b1, b2, b3⟩ := hbx.cells
    obtain ⟨i5, hi5, hy0, hy1, hy2⟩ := info_parts Try.info5
    clear hn hr hks H hbe hnl hrl hb0 hk hW0 hbx hbr hs0
    go_enter Try.func47, Try.ntmps47
    go_upto_region 1 with fail
    rw [← HW0.out]
    go_cut [3] (fun ov W => ∃ ob bn br nv rv, PreS W0 W ov k c.name c.role ob bn br nv rv)
    case first =>
      first | go_region_held_law (fun W => W.cell? ⟨w.heap.size, 0, none⟩ = some (.int .i64 k) ∧ W.cell? ⟨w.heap.size, 1, none⟩ = some (.slice na nn nc) ∧ W.cell? ⟨w.heap.size, 2, none⟩ = some (.slice ra rn rc)) (first | with_reducible exact HS2.out | with_reducible exact HS1.out | with_reducible exact S3.drew ⟨b0, b1, b2⟩ | with_reducible exact S3.drew (S3.alloc ⟨b0, b1, b2⟩ hl0) | with_reducible exact S3.drew (S3.alloc (S3.alloc ⟨b0, b1, b2⟩ hl0) (ltAl hl0)) | with_reducible exact S3.drew (S3.alloc (S3.alloc (S3.alloc ⟨b0, b1, b2⟩ hl0) (ltAl hl0)) (ltAl (ltAl hl0))) | with_reducible exact S3.alloc HS1.out hl1 | with_reducible exact S3.alloc (S3.alloc HS1.out hl1) (ltAl hl1) | with_reducible exact S3.alloc HS2.out hl2 | with_reducible exact S3.set4 HS2.out hl0 | with_reducible exact S3.set4 HS2.out (Nat.lt_succ_of_lt hl0) | with_reducible exact S3.set4 HS2.out (Nat.lt_succ_of_lt (Nat.lt_succ_of_lt hl0)) | with_reducible exact S3.set4 HS2.out hl1 | with_reducible exact S3.set4 HS2.out (Nat.lt_succ_of_lt hl1))
        (first
        | (refine step_fresh rfl (.tmp 7) (.tmp 9) 27 rfl i5 Try.underlying27 hi5 hy0 hy1 hy2 _ (by simp [Act.eval, Act.put]; rfl) na nn nc c.name (by simp [Act.eval, Act.put]) (lo := lo) (hh := hi) ?_ hnn ?_; (first | exact HN.out.below (Below.drew ((belAl (HB0.out) (Nat.le_refl _)))) hhi | exact HN.out.below (Below.drew ((belAl ((belAl (HB0.out) (Nat.le_refl _))) (Nat.le_refl _)))) hhi | exact HN.out.below (Below.drew ((belAl ((belAl ((belAl (HB0.out) (Nat.le_refl _))) (Nat.le_refl _))) (Nat.le_refl _)))) hhi); intro nv w1 bn hF1 hb1; obtain ⟨xna, xnn, xnc, rfl⟩ := hF1.isSlice; have HX1 : Hid (Below W0.heap.size W0 w1 ∧ Fr W0.heap.size w1 (.slice xna xnn xnc) c.name bn) := (by first | exact belFr (Below.drew ((belAl ((Below.refl W0.heap.size W0)) (Nat.le_refl _)))) hb1 hF1 | exact belFr (Below.drew ((belAl ((belAl ((Below.refl W0.heap.size W0)) (Nat.le_refl _))) (Nat.le_refl _)))) hb1 hF1 | exact belFr (Below.drew ((belAl ((belAl ((belAl ((Below.refl W0.heap.size W0)) (Nat.le_refl _))) (Nat.le_refl _))) (Nat.le_refl _)))) hb1 hF1); have H1 : Hid (Below W0.heap.size W0 w1) := HX1.out.1; have HF1 : Hid (Fr W0.heap.size w1 (.slice xna xnn xnc) c.name bn) := HX1.out.2; (first | (have HOb : Hid (BoxC w1 W0.heap.size (.int .i64 0) (.slice none 0 0) (.slice none 0 0) (.slice none 0 0) ∧ W0.heap.size ≤ W0.heap.size) := ⟨by with_reducible exact BoxC.below (boxA W0 _) hb1 (BoxC.lt (boxA W0 _)), by omega⟩) | (have HOb : Hid (BoxC w1 (W0.heap.size + 1) (.int .i64 0) (.slice none 0 0) (.slice none 0 0) (.slice none 0 0) ∧ W0.heap.size ≤ (W0.heap.size + 1)) := ⟨by with_reducible exact BoxC.below (boxB W0 _) hb1 (BoxC.lt (boxB W0 _)), by omega⟩) | (have HOb : Hid (BoxC w1 W0.heap.size (.int .i64 0) (.slice none 0 0) (.slice none 0 0) (.slice none 0 0) ∧ W0.heap.size ≤ W0.heap.size) := ⟨by with_reducible exact BoxC.below (boxC1 W0 _ _) hb1 (BoxC.lt (boxC1 W0 _ _)), by omega⟩) | (have HOb : Hid (BoxC w1 (W0.heap.size + 1) (.int .i64 0) (.slice none 0 0) (.slice none 0 0) (.slice none 0 0) ∧ W0.heap.size ≤ (W0.heap.size + 1)) := ⟨by with_reducible exact BoxC.below (boxC2 W0 _ _) hb1 (BoxC.lt (boxC2 W0 _ _)), by omega⟩) | (have HOb : Hid (BoxC w1 (W0.heap.size + 1 + 1) (.int .i64 0) (.slice none 0 0) (.slice none 0 0) (.slice none 0 0) ∧ W0.heap.size ≤ (W0.heap.size + 1 + 1)) := ⟨by with_reducible exact BoxC.below (boxC3 W0 _ _) hb1 (BoxC.lt (boxC3 W0 _ _)), by omega⟩) | skip); have HS1 : Hid (w1.cell? ⟨w.heap.size, 0, none⟩ = some (.int .i64 k) ∧ w1.cell? ⟨w.heap.size, 1, none⟩ = some (.slice na nn nc) ∧ w1.cell? ⟨w.heap.size, 2, none⟩ = some (.slice ra rn rc)) := ⟨(HBx.out.below H1.out hl0).cells.1, (HBx.out.below H1.out hl0).cells.2.1, (HBx.out.below H1.out hl0).cells.2.2.1⟩; have hl1 : w.heap.size < w1.heap.size := Nat.lt_of_lt_of_le hl0 H1.out.size; clear hF1 hb1 HX1)
        | (refine step_fresh rfl (.tmp 11) (.tmp 13) 27 rfl i5 Try.underlying27 hi5 hy0 hy1 hy2 _ (by simp [Act.eval, Act.put]; rfl) ra rn rc c.role (by simp [Act.eval, Act.put]) (lo := lo) (hh := hi) ?_ hrn ?_; (first | exact HR.out.below (HB0.out.trans (H1.out.mono (Nat.le_of_lt hl0))) hhi | exact HR.out.below ((belAl ((HB0.out.trans (H1.out.mono (Nat.le_of_lt hl0)))) (Nat.le_refl _))) hhi | exact HR.out.below ((belAl ((belAl ((HB0.out.trans (H1.out.mono (Nat.le_of_lt hl0)))) (Nat.le_refl _))) (Nat.le_refl _))) hhi); intro rv w2 br hF2 hb2; obtain ⟨xra, xrn, xrc, rfl⟩ := hF2.isSlice; have HX2 : Hid (Below w1.heap.size w1 w2 ∧ Fr w1.heap.size w2 (.slice xra xrn xrc) c.role br) := (by first | exact belFr (Below.refl w1.heap.size w1) hb2 hF2 | exact belFr ((belAl ((Below.refl w1.heap.size w1)) (Nat.le_refl _))) hb2 hF2 | exact belFr ((belAl ((belAl ((Below.refl w1.heap.size w1)) (Nat.le_refl _))) (Nat.le_refl _))) hb2 hF2); have H2 : Hid (Below w1.heap.size w1 w2) := HX2.out.1; have HF2 : Hid (Fr w1.heap.size w2 (.slice xra xrn xrc) c.role br) := HX2.out.2; (first | (have HObA : Hid (BoxC w2 W0.heap.size (.int .i64 0) (.slice none 0 0) (.slice none 0 0) (.slice none 0 0) ∧ W0.heap.size ≤ W0.heap.size) := ⟨BoxC.below HOb.out.1 H2.out HOb.out.1.lt, HOb.out.2⟩; obtain ⟨o0, o1, o2, o3⟩ := HObA.out.1.cells; have of0 := HObA.out.1.frz 0; have of1 := HObA.out.1.frz 1; have of2 := HObA.out.1.frz 2; have of3 := HObA.out.1.frz 3) | (have HObA : Hid (BoxC w2 (W0.heap.size + 1) (.int .i64 0) (.slice none 0 0) (.slice none 0 0) (.slice none 0 0) ∧ W0.heap.size ≤ (W0.heap.size + 1)) := ⟨BoxC.below HOb.out.1 H2.out HOb.out.1.lt, HOb.out.2⟩; obtain ⟨o0, o1, o2, o3⟩ := HObA.out.1.cells; have of0 := HObA.out.1.frz 0; have of1 := HObA.out.1.frz 1; have of2 := HObA.out.1.frz 2; have of3 := HObA.out.1.frz 3) | (have HObA : Hid (BoxC w2 (W0.heap.size + 1 + 1) (.int .i64 0) (.slice none 0 0) (.slice none 0 0) (.slice none 0 0) ∧ W0.heap.size ≤ (W0.heap.size + 1 + 1)) := ⟨BoxC.below HOb.out.1 H2.out HOb.out.1.lt, HOb.out.2⟩; obtain ⟨o0, o1, o2, o3⟩ := HObA.out.1.cells; have of0 := HObA.out.1.frz 0; have of1 := HObA.out.1.frz 1; have of2 := HObA.out.1.frz 2; have of3 := HObA.out.1.frz 3) | (have HObA : Hid (BoxC w2 w1.heap.size (.int .i64 0) (.slice none 0 0) (.slice none 0 0) (.slice none 0 0) ∧ W0.heap.size ≤ w1.heap.size) := ⟨by with_reducible exact BoxC.below (boxD w1) hb2 (BoxC.lt (boxD w1)), by have := H1.out.size; omega⟩; obtain ⟨o0, o1, o2, o3⟩ := HObA.out.1.cells; have of0 := HObA.out.1.frz 0; have of1 := HObA.out.1.frz 1; have of2 := HObA.out.1.frz 2; have of3 := HObA.out.1.frz 3) | (have HObA : Hid (BoxC w2 w1.heap.size (.int .i64 0) (.slice none 0 0) (.slice none 0 0) (.slice none 0 0) ∧ W0.heap.size ≤ w1.heap.size) := ⟨by with_reducible exact BoxC.below (boxE w1 _) hb2 (BoxC.lt (boxE w1 _)), by have := H1.out.size; omega⟩; obtain ⟨o0, o1, o2, o3⟩ := HObA.out.1.cells; have of0 := HObA.out.1.frz 0; have of1 := HObA.out.1.frz 1; have of2 := HObA.out.1.frz 2; have of3 := HObA.out.1.frz 3) | (have HObA : Hid (BoxC w2 (w1.heap.size + 1) (.int .i64 0) (.slice none 0 0) (.slice none 0 0) (.slice none 0 0) ∧ W0.heap.size ≤ (w1.heap.size + 1)) := ⟨by with_reducible exact BoxC.below (boxF w1 _) hb2 (BoxC.lt (boxF w1 _)), by have := H1.out.size; omega⟩; obtain ⟨o0, o1, o2, o3⟩ := HObA.out.1.cells; have of0 := HObA.out.1.frz 0; have of1 := HObA.out.1.frz 1; have of2 := HObA.out.1.frz 2; have of3 := HObA.out.1.frz 3) | skip); have HS2 : Hid (w2.cell? ⟨w.heap.size, 0, none⟩ = some (.int .i64 k) ∧ w2.cell? ⟨w.heap.size, 1, none⟩ = some (.slice na nn nc) ∧ w2.cell? ⟨w.heap.size, 2, none⟩ = some (.slice ra rn rc)) := ⟨(HBx.out.below (H1.out.trans (H2.out.mono H1.out.size)) hl0).cells.1, (HBx.out.below (H1.out.trans (H2.out.mono H1.out.size)) hl0).cells.2.1, (HBx.out.below (H1.out.trans (H2.out.mono H1.out.size)) hl0).cells.2.2.1⟩; have hl2 : w.heap.size < w2.heap.size := Nat.lt_of_lt_of_le hl1 H2.out.size; clear hF2 hb2 HX2)) | fail
      all_goals
        go_wp2_with fail
        go_meet
        case rel => first | exact ⟨_, _, _, _, _, PreS.last HF1.out H1.out HF2.out H2.out⟩ | exact ⟨_, _, _, _, _, PreS.set HF1.out H1.out HF2.out H2.out HObA.out.1 HObA.out.2⟩
    case rest =>
      obtain ⟨ob, bn, br, nv, rv, hP⟩ := hcut
      obtain ⟨xna, xnn, xnc, rfl⟩ := hP.nam.isSlice
      obtain ⟨xra, xrn, xrc, rfl⟩ := hP.rol.isSlice
      obtain ⟨Wc, hWc⟩ : ∃ W, W = wc := ⟨_, rfl⟩
      subst hWc
      have HSt : Hid (StatS W0 0 Wc.heap.size ob c.name c.role bn br) := by
        refine ⟨hP.box.lt, hP.ge, Nat.zero_le _, ?_, ?_⟩
        · obtain ⟨_, _, _, _, e⟩ := hP.nam
          have := hP.nne
          omega
        · obtain ⟨_, _, _, _, e⟩ := hP.rol
          have := hP.rne
          omega
      have HI0 : Hid (InvS W0 0 Wc.heap.size ob d k (.slice xna xnn xnc) (.slice xra xrn xrc) c.name c.role bn 0 br 0 Wc (.slice none 0 0) [] [] []) := by
        obtain ⟨a1, c1, e1, q1, _⟩ := hP.nam
        obtain ⟨a2, c2, e2, q2, _⟩ := hP.rol
        exact ⟨RowK.nil _ _ _, fun x hx => by simp at hx, hP.box, ⟨a1, c1, e1, q1⟩, ⟨a2, c2, e2, q2⟩, hP.bel, Nat.le_refl _⟩
      have HNb : Hid ((c.name.length = 0 ∨ W0.heap.size ≤ bn) ∧ (c.role.length = 0 ∨ W0.heap.size ≤ br)) := by
        obtain ⟨_, _, _, _, e1⟩ := hP.nam
        obtain ⟨_, _, _, _, e2⟩ := hP.rol
        exact ⟨by omega, by omega⟩
      have hpt := hP.ptr
      subst hpt
      have hknb : kn ≤ 1048576 := by have := HBk.out; have := length_le_bulks c.kids; have := HKL.out; omega
      obtain ⟨i0, hi0, hz0, hz1, hz2⟩ := info_parts Try.infoCon4
      have hobw : w.heap.size < ob := Nat.lt_of_lt_of_le hl0 hP.ge
      clear b0 b1 b2 b3 hP
      go_wp2_with fail
      go_loopw [4] (fun i wr => ∃ (j : Nat) (kv : Value) (Ls : List (List (Addr × IntKind))) (xs : List Value), j ≤ kn ∧ i = .int .i64 j ∧ InvS W0 0 Wc.heap.size ob d k (.slice xna xnn xnc) (.slice xra xrn xrc) c.name c.role bn 0 br 0 wr kv (c.kids.take j) Ls xs) (fun i _ => kn - (intOf i).toNat)
      case atStart => exact ⟨0, .slice none 0 0, [], [], Nat.zero_le _, rfl, HI0.out⟩
      case round =>
        obtain ⟨j, kv, Ls, xs, hj, rfl, hinv⟩ := hrel
        have HI : Hid (InvS W0 0 Wc.heap.size ob d k (.slice xna xnn xnc) (.slice xra xrn xrc) c.name c.role bn 0 br 0 wr kv (c.kids.take j) Ls xs) := hinv
        have hbc : BoxC wr w.heap.size (.int .i64 k) (.slice na nn nc) (.slice ra rn rc) (.slice ka kn kc) := HBx.out.below hinv.bel hl0
        obtain ⟨b0, b1, b2, b3⟩ := hbc.cells
        obtain ⟨o0, o1, o2, o3⟩ := hinv.box.cells
        have HBwr : Hid (Below w.heap.size w wr) := HB0.out.trans (hinv.bel.mono HB0.out.size)
        by_cases hlt : j < kn
        · have hjl : j < c.kids.length := by rw [HKL.out]; exact hlt
          have hji : (j : Int) < (kn : Int) := by omega
          have HTs : Hid (c.kids.take (j + 1) = c.kids.take j ++ [c.kids.getD j CN.zero]) := take_succ_getD _ _ _ hjl
          have HTl : Hid ((c.kids.take j).length = j) := by unfold Hid; rw [List.length_take]; omega
          have HKb : Hid ((c.kids.getD j CN.zero).bulk ≤ 1048576) := by unfold Hid; have := getD_bulk_le c.kids j hjl; have := HBk.out; omega
          have hR := HKs.out.below HBwr.out hhi
          rcases hR.cells with hz | ⟨b, off, e1, _, hbhi, hc⟩
          · omega
          · subst e1
            obtain ⟨v0, v1, v2, v3, q0, q1, q2, q3, hrd⟩ := hc j hlt
            obtain ⟨yk, yna, ynn, ync, yra, yrn, yrc, yka, ykn, ykc, rfl, rfl, rfl, rfl⟩ := hrd.sh.form
            have HKid : Hid (RdC lo hi wr.drew d (.agg #[.int .i64 yk, .slice yna ynn ync, .slice yra yrn yrc, .slice yka ykn ykc]) (c.kids.getD j CN.zero)) := hrd.below (Below.refl wr.heap.size wr).drew (Nat.le_trans hhi HBwr.out.size)
            have hh4 : hi ≤ wr.drew.heap.size := Nat.le_trans hhi HBwr.out.size
            clear hR hc hrd hinv hbc
            go_upto_region 5 with fail
            first | go_region_law (first
              | (refine step_append_lies _ rfl (.tmp 24) (.tmp 31) 36 rfl Wc.heap.size 38 i0 (.agg #[.int .i64 0, .slice none 0 0, .slice none 0 0, .slice none 0 0]) 4 80 Try.underlying36 hi0 hz0 hz1 hz2 rfl (by decide) kv j xs (by simp [Act.eval]) HRow5.out ⟨w5.heap.size, 0, none⟩ 1 1 [.int .i64 zk, .slice zna znn znc, .slice zra zrn zrc, .slice zka zkn zkc] (by simp [Act.eval]) rfl (new4 _ _ _ _ _ _ _ rfl) (one4 _ _ _ _ _ _ _ _ _ _) (by decide) (by unfold maxLen; omega) (by omega) hsz5 _ rfl ?_; intro g cap w6 hown hgrow hat hlt6; have HA : Hid (BoxC w6 ob (.int .i64 k) (.slice xna xnn xnc) (.slice xra xrn xrc) kv ∧ InvS W0 0 Wc.heap.size ob d k (.slice xna xnn xnc) (.slice xra xrn xrc) c.name c.role bn 0 br 0 (w6.setCell ⟨ob, 3, none⟩ (.slice (some ⟨g, 0, none⟩) (j + 1) cap)) (.slice (some ⟨g, 0, none⟩) (j + 1) cap) (c.kids.take j ++ [c.kids.getD j CN.zero]) (Ls ++ [L5]) (xs ++ [.int .i64 zk, .slice zna znn znc, .slice zra zrn zrc, .slice zka zkn zkc])) := InvS.app HSt.out HI5.out HO5.out HL5.out hB5 HkB.out (by rw [HTl.out]) hown hgrow hat; obtain ⟨_, _, _, o36⟩ := HA.out.1.cells; have f36 := HA.out.1.frz 3; clear hown hgrow hat)
              | (go_simp; refine (HH.out _ (c.kids.getD j CN.zero) _ lo hi HKid.out hh4 HKb.out).mono ?_; rintro e w5 ⟨v5, L5, rfl, hO5, hl5, hb5⟩; obtain ⟨zna, znn, znc, zra, zrn, zrc, zka, zkn, zkc, rfl⟩ := hO5.agg; obtain ⟨zk, hzk⟩ : ∃ zk, zk = (c.kids.getD j CN.zero).kind := ⟨_, rfl⟩; rw [← hzk] at hO5; rw [← hzk]; have HB5 : Hid (Below wr.heap.size wr w5) := (Below.refl _ _).drew.trans hb5; have HI5a : Hid (InvS W0 0 Wc.heap.size ob d k (.slice xna xnn xnc) (.slice xra xrn xrc) c.name c.role bn 0 br 0 w5 kv (c.kids.take j) Ls xs) := HI.out.below HB5.out; have HB5b : Hid (Below w5.heap.size w5 (w5.alloc (.cells #[.int .i64 zk, .slice zna znn znc, .slice zra zrn zrc, .slice zka zkn zkc] 38))) := (Below.refl _ _).alloc (Nat.le_refl _) _; have HI5 : Hid (InvS W0 0 Wc.heap.size ob d k (.slice xna xnn xnc) (.slice xra xrn xrc) c.name c.role bn 0 br 0 (w5.alloc (.cells #[.int .i64 zk, .slice zna znn znc, .slice zra zrn zrc, .slice zka zkn zkc] 38)) kv (c.kids.take j) Ls xs) := HI5a.out.below HB5b.out; have HO5 : Hid (OwC (w5.alloc (.cells #[.int .i64 zk, .slice zna znn znc, .slice zra zrn zrc, .slice zka zkn zkc] 38)) d (.agg #[.int .i64 zk, .slice zna znn znc, .slice zra zrn zrc, .slice zka zkn zkc]) (c.kids.getD j CN.zero) L5) := OwC.below hO5 HB5b.out (fun x hx => (hl5 x hx).2); have HL5 : Hid (∀ x ∈ L5, (x.1.block < 0 ∨ wr.heap.size ≤ x.1.block) ∧ x.1.block < (w5.alloc (.cells #[.int .i64 zk, .slice zna znn znc, .slice zra zrn zrc, .slice zka zkn zkc] 38)).heap.size) := (fun x hx => ⟨(hl5 x hx).1, Nat.lt_of_lt_of_le (hl5 x hx).2 HB5b.out.size⟩); have HRow5 : Hid ((w5.alloc (.cells #[.int .i64 zk, .slice zna znn znc, .slice zra zrn zrc, .slice zka zkn zkc] 38)).ownsRow Wc.heap.size 38 4 kv j xs) := (by have := HI5.out.row.row; rw [HTl.out] at this; exact this); have hB5 : Wc.heap.size ≤ wr.heap.size := HI.out.sz; have HkB : Hid (∀ g, kv.ownBlock = some g → g < wr.heap.size) := (fun g hg => (HI.out.row.row.lt g hg).2); have hsz5 : Wc.heap.size ≤ (w5.alloc (.cells #[.int .i64 zk, .slice zna znn znc, .slice zra zrn zrc, .slice zka zkn zkc] 38)).heap.size := HI5.out.sz; obtain ⟨_, _, _, o35⟩ := HI5a.out.box.cells; have hlo5 : ob < w5.heap.size := HI5a.out.box.lt; clear hO5 hb5 hzk hl5)) | fail
            all_goals
              go_wp2_with fail
              go_roundw
              case rel => exact ⟨j + 1, _, _, _, by omega, by go_num, by rw [HTs.out]; exact HA.out.2⟩
              case measure => simp [intOf]; omega
        · have HTk : Hid (c.kids.take j = c.kids) := List.take_of_length_le (by rw [HKL.out]; omega)
          have hbr5 : BoxC wr (w.heap.size + 1) (.int .i64 0) (.slice none 0 0) (.slice none 0 0) (.slice none 0 0) := HBr.out.below hinv.bel (by have := HS0.out; omega)
          obtain ⟨r0, r1, r2, r3⟩ := hbr5.cells
          have f0 := hbr5.frz 0
          have f1 := hbr5.frz 1
          have f2 := hbr5.frz 2
          have f3 := hbr5.frz 3
          obtain ⟨kka, kkn, kkc, rfl⟩ := hinv.row.isSlice
          have hszc := HSt.out.o1
          have hge0 := HSt.out.o0
          have hs0 := HS0.out
          obtain ⟨L, hL, hLb⟩ := hinv.done (fun b => W0.heap.size ≤ b) HNb.out.1 HNb.out.2 (fun b _ hb => by omega)
          have HL : Hid (OwC wr (d + 1) (.agg #[.int .i64 k, .slice xna xnn xnc, .slice xra xrn xrc, .slice kka kkn kkc]) c L) := by
            have e : CN.mk k c.name c.role (c.kids.take j) = c := by rw [HTk.out, HK.out]; cases c; rfl
            rw [e] at hL
            exact hL
          have HLb : Hid (∀ x ∈ L, (x.1.block < 0 ∨ w.heap.size ≤ x.1.block) ∧ x.1.block < wr.heap.size ∧ x.1.block ≠ w.heap.size + 1) := fun x hx => by
            have := hLb x hx
            omega
          obtain ⟨s0, s1, s2, s3⟩ := (hbr5.set4 (.int .i64 k) (.slice xna xnn xnc) (.slice xra xrn xrc) (.slice kka kkn kkc)).cells
          clear hL hLb hinv hbr5 hbc hs0
          go_wp2_with fail
          refine bodyPost_ret (v := .agg #[.int .i64 k, .slice xna xnn xnc, .slice xra xrn xrc, .slice kka kkn kkc]) (by simp [results, Try.results47, go_sem, s0, s1, s2, s3]) rfl ?_
          exact fin_postS HL.out HLb.out HBwr.out

theorem owP_any : ∀ d, OwP d
  | 0 => owP_of (fun d' h => by omega)
  | d + 1 => owP_of (fun d' h => by obtain rfl : d = d' := (by omega); exact owP_any d)

end Go.Proofs.Ytfbokljbmihlbaa
