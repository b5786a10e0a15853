/- Several texts in one: DrawAx0, BentWrap. -/
import Derived.Test.YtnmljalcndfjmaaGreatDrawCon2
import Derived.Test.YtnmljalcndfjmaaGreatNG5
import Derived.Test.YtnmljalcndfjmaaGreatBentApp
namespace Go.Proofs.YtnmljalcndfjmaaGreat

section
open Go.RowKit

/-- The cursor; what is kept; the result's box. -/
structure DgM (o : Obj) (B : Nat) (a : Option Addr) (n cap : Nat) (zs : List Int) (hi : Nat) (w w' : World) : Prop where
  cur : Cur w' B a n cap zs hi
  bt : Bt B w.heap.size w w'
  box : w'.heap[w.heap.size]? = some o

section
variable {o : Obj} {B : Nat} {a : Option Addr} {n cap : Nat} {zs : List Int} {hi : Nat} {w w1 w2 : World}
theorem DgM.lt (h : DgM o B a n cap zs hi w w1) : w.heap.size < w1.heap.size := (Array.getElem?_eq_some_iff.1 h.box).1
theorem DgM.only (h : DgM o B a n cap zs hi w w1) (hB : B < w.heap.size) (c : Cur w2 B a n cap zs hi) (oo : Only B w1 w2) : DgM o B a n cap zs hi w w2 :=
  ⟨c, h.bt.trans (oo.bt.mono h.bt.size), (oo.other _ h.lt (by omega)).trans h.box⟩
theorem DgM.next (h : DgM o B a n cap zs hi w w1) (hB : B < w.heap.size) (c : Cur w2 B a n cap zs hi) (hb : Bt B w1.heap.size w1 w2) : DgM o B a n cap zs hi w w2 :=
  ⟨c, h.bt.trans (hb.mono h.bt.size), (hb.block _ h.lt (by omega)).trans h.box⟩
theorem DgM.grown {row : Option Nat} (h : DgM o B a n cap zs hi w w1) (hB : B < w.heap.size) (hg : w1.grownBy w2 row) (hr : ∀ k, row = some k → w.heap.size < k) : DgM o B a n cap zs hi w w2 := by
  have := h.bt.size
  have hl := h.lt
  have hk : ∀ q, q ≤ w.heap.size → w2.heap[q]? = w1.heap[q]? := fun q hq => hg.block q (by omega) (fun e => by have := hr q e.symm; omega)
  exact ⟨h.cur.keepB (fun q hq => hk q (by omega)), h.bt.grown hg (by omega) (fun k e => by have := hr k e; omega), (hk _ (Nat.le_refl _)).trans h.box⟩
theorem DgM.below (h : DgM o B a n cap zs hi w w1) (hB : B < w.heap.size) (hb : Below w1.heap.size w1 w2) : DgM o B a n cap zs hi w w2 := by
  have := h.bt.size
  have hl := h.lt
  exact ⟨h.cur.of (hb.mono (by omega)), h.bt.trans (Bt.of_below (hb.mono h.bt.size)), (hb.block _ hl).trans h.box⟩
theorem DgM.drew (h : DgM o B a n cap zs hi w w1) : DgM o B a n cap zs hi w w1.drew := ⟨h.cur.keepB (w' := w1.drew) (fun _ _ => rfl), h.bt.drew, h.box⟩
theorem DgM.set (h : DgM o B a n cap zs hi w w1) (hB : B < w.heap.size) {q i : Nat} (hq : w.heap.size < q) (v : Value) : DgM o B a n cap zs hi w (w1.setCell ⟨q, i, none⟩ v) :=
  ⟨h.cur.keepB (fun k hk => Below.heap_setCell _ _ _ _ (by show k ≠ q; omega)), h.bt.set (.inl (by show w.heap.size ≤ q; omega)) v, (Below.heap_setCell _ _ _ _ (by show w.heap.size ≠ q; omega)).trans h.box⟩
theorem DgM.start (c : Cur w B a n cap zs hi) (cs : Array Value) (t : Nat) : DgM (.cells cs t) B a n cap zs hi w (w.alloc (.cells cs t)) := by
  have hb0 : Below w.heap.size w (w.alloc (.cells cs t)) := (Below.refl _ _).alloc (Nat.le_refl _) _
  refine ⟨c.of (hb0.mono c.lt), Bt.of_below hb0, ?_⟩
  show (w.heap.push _)[w.heap.size]? = _
  rw [Array.getElem?_push, if_pos rfl]
end

/-- A text that is made of a string. -/
theorem bw_rd (W : World) (s : ByteArray) (hs : s.size ≤ 255) : Rd W.heap.size (Lib.bytesWorld W 5 s).heap.size (Lib.bytesWorld W 5 s) (some ⟨W.heap.size, 0, none⟩) s.size (grownCap W s.size 0 5) (numsOf s) := by
  obtain ⟨a', c', e, h3, _⟩ := rol_conv W s hs
  simp only [Value.slice.injEq] at e
  obtain ⟨e1, e2, e3⟩ := e
  rw [← e1, ← e2, ← e3] at h3
  refine h3.rd (fun x hx => ?_)
  obtain ⟨j, hj, rfl⟩ := mem_leafB.1 hx
  exact ⟨Nat.le_refl _, by rw [Lib.bytesWorld_size]; exact Nat.lt_succ_self _⟩

/-- What a drawn text leaves. -/
def WdP (B : Nat) (a : Option Addr) (n cap : Nat) (zs : List Int) (hi : Nat) (w : World) (e : Ending) (w' : World) : Prop :=
  ∃ (b : Option Addr) (k c : Nat) (z : List Int), e = .returned (.slice b k c) ∧ Rd w.heap.size w'.heap.size w' b k c z ∧ z.length ≤ 1 ∧ Cur w' B a n cap zs hi ∧ Bt B w.heap.size w w'

set_option maxRecDepth 100000 in
set_option maxHeartbeats 2000000 in
theorem l3ind_any {w : World} {B : Nat} {a : Option Addr} {n cap : Nat} {zs : List Int} {hi : Nat} (c : Cur w B a n cap zs hi) :
    Calls Tryz.prog 118 #[.pointer (some ⟨B, 0, none⟩)] w (WdP B a n cap zs hi w) := by
  have hB := c.lt
  obtain ⟨W1, HW1⟩ : ∃ W, Hid (W = w.alloc (.cells #[.string { data := #[120] }, .string { data := #[121] }] 9)) := ⟨_, rfl⟩
  have hb1 : Below w.heap.size w W1 := by rw [HW1.out]; exact (Below.refl _ _).alloc (Nat.le_refl _) _
  have hs1 : w.heap.size < W1.heap.size := by rw [HW1.out]; simp
  have HWs : Hid (∀ i : Nat, i < 2 → ∃ s : ByteArray, W1.cell? ⟨w.heap.size, i, none⟩ = some (.string s) ∧ s.size ≤ 1) := by
    intro i hi
    rw [HW1.out]
    match i, hi with
    | 0, _ | 1, _ => exact ⟨_, by simp; rfl, by decide⟩
  have HC1 : Hid (Cur W1 B a n cap zs hi) := c.of (hb1.mono hB)
  have HB1 : Hid (Below w.heap.size w W1) := hb1
  clear hb1 c
  go_enter Tryz.func118, Tryz.ntmps118
  go_wp2_with fail
  rw [← HW1.out]
  refine (l1Below_any HC1.out 2 (by omega)).mono ?_
  rintro e w2 ⟨x, rfl, ⟨hx0, hx1⟩, hc2, ho2⟩
  obtain ⟨j, hj⟩ : ∃ j : Nat, x = (j : Int) := ⟨x.toNat, by omega⟩
  subst hj
  obtain ⟨s, hsc, hss⟩ := HWs.out j (by omega)
  have hsc2 : w2.cell? ⟨w.heap.size, j, none⟩ = some (.string s) := (World.cell?_of_block (w := W1) (ho2.other w.heap.size hs1 (by omega))).trans hsc
  obtain ⟨W3, HW3⟩ : ∃ W, Hid (W = Lib.bytesWorld w2 5 s) := ⟨_, rfl⟩
  obtain ⟨cp, HCP⟩ : ∃ cp, Hid (cp = grownCap w2 s.size 0 5) := ⟨_, rfl⟩
  have hcv : (convert 9 22 (.string s)).run Tryz.prog w2 = .ok (.slice (some ⟨w2.heap.size, 0, none⟩) s.size cp) W3 := by
    rw [HW3.out, HCP.out]
    exact Lib.run_convert_string_bytes w2 9 22 5 s Tryz.underlying9 Tryz.underlying22 Tryz.underlying5
  have hb3 : Below w2.heap.size w2 W3 := by rw [HW3.out]; exact bytes_below w2 5 s
  have HF : Hid (WdP B a n cap zs hi w (.returned (.slice (some ⟨w2.heap.size, 0, none⟩) s.size cp)) W3) := by
    have hr := bw_rd w2 s (by omega)
    rw [← HW3.out, ← HCP.out] at hr
    have hs2 := ho2.below.size
    have hbt : Bt B w.heap.size w w2 := (Bt.of_below HB1.out).trans (ho2.bt.mono (Nat.le_of_lt hs1))
    exact ⟨_, _, _, _, rfl, hr.mono (by omega) (Nat.le_refl _), by rw [numsOf_len]; exact hss, hc2.of (hb3.mono hc2.lt), hbt.trans (Bt.of_below (hb3.mono hbt.size))⟩
  have hji : (j : Int) < 2 := by omega
  clear hsc hc2 ho2 hb3 hx0 hx1
  go_wp2
  go_ret
  exact HF.out
end

section
open Go.RowKit

theorem rol_rd {W : World} {a : Option Addr} {n cap : Nat} {zs : List Int} {b' b i lo hi : Nat} {v : Value} (h : RolR W (.slice a n cap) zs b') (hb : b' ≠ b) (h1 : lo ≤ b') (h2 : b' < hi) : Rd lo hi (W.setCell ⟨b, i, none⟩ v) a n cap zs := by
  obtain ⟨a', c', e, h3, _⟩ := h
  simp only [Value.slice.injEq] at e
  obtain ⟨rfl, rfl, rfl⟩ := e
  refine (h3.keep (w' := W.setCell ⟨b, i, none⟩ v) (fun x hx => ?_)).rd (fun x hx => ?_)
  · obtain ⟨j, hj, rfl⟩ := mem_leafB.1 hx
    exact Below.heap_setCell _ _ _ _ hb
  · obtain ⟨j, hj, rfl⟩ := mem_leafB.1 hx
    exact ⟨h1, h2⟩

structure WpV (B : Nat) (a : Option Addr) (n cap : Nat) (zs : List Int) (hi : Nat) (w : World) (X : Nat) (k : Int) (na : Option Addr) (nn nc : Nat) (ra : Option Addr) (rn rc : Nat) (ka : Option Addr) (kn kc : Nat) (D K : Nat) (wr : World) : Prop where
  m : DrM B a n cap zs hi w wr
  x : w.heap.size < X
  box : BoxC wr X (.int .i64 k) (.slice na nn nc) (.slice ra rn rc) (.slice ka kn kc)
  own : ∃ c L, OwC wr D (.agg #[.int .i64 k, .slice na nn nc, .slice ra rn rc, .slice ka kn kc]) c L ∧ (∀ x ∈ L, w.heap.size < x.1.block ∧ x.1.block ≠ X ∧ x.1.block < wr.heap.size) ∧ c.bulk ≤ K

theorem WpV.wrap {B : Nat} {a : Option Addr} {n cap : Nat} {zs : List Int} {hi : Nat} {w : World} {X : Nat} {k : Int} {na : Option Addr} {nn nc : Nat} {ra : Option Addr} {rn rc : Nat} {ka : Option Addr} {kn kc : Nat} {D K : Nat} {wr : World} (h : WpV B a n cap zs hi w X k na nn nc ra rn rc ka kn kc D K wr) (hB : B < w.heap.size) (k' : Int) (row : Array Value) (m : Nat) (hm : m ≤ 2)
    (hrow : ∀ i, i < m → row[0 + i * 4]? = some (.int .i64 k) ∧ row[0 + i * 4 + 1]? = some (.slice na nn nc) ∧ row[0 + i * 4 + 2]? = some (.slice ra rn rc) ∧ row[0 + i * 4 + 3]? = some (.slice ka kn kc)) :
    WpV B a n cap zs hi w X k' none 0 0 none 0 0 (some ⟨wr.heap.size, 0, none⟩) m m (D + 1) (m * (1 + K)) (((((wr.setCell ⟨X, 0, none⟩ (.int .i64 k')).setCell ⟨X, 1, none⟩ (.slice none 0 0)).setCell ⟨X, 2, none⟩ (.slice none 0 0)).setCell ⟨X, 3, none⟩ (.slice (some ⟨wr.heap.size, 0, none⟩) m m)).alloc (.cells row 30)) := by
  obtain ⟨c, L, hr, hL, hk⟩ := h.own
  have hXl : X < wr.heap.size := h.box.lt
  have hx := h.x
  obtain ⟨V, hV⟩ : ∃ V, V = ((((wr.setCell ⟨X, 0, none⟩ (.int .i64 k')).setCell ⟨X, 1, none⟩ (.slice none 0 0)).setCell ⟨X, 2, none⟩ (.slice none 0 0)).setCell ⟨X, 3, none⟩ (.slice (some ⟨wr.heap.size, 0, none⟩) m m)) := ⟨_, rfl⟩
  have hVs : V.heap.size = wr.heap.size := by rw [hV]; simp
  have hb : Below V.heap.size V (V.alloc (.cells row 30)) := (Below.refl _ _).alloc (Nat.le_refl _) _
  obtain ⟨W, hW⟩ : ∃ W, W = V.alloc (.cells row 30) := ⟨_, rfl⟩
  have hkp : ∀ q, q ≠ X → q < wr.heap.size → W.heap[q]? = wr.heap[q]? := by
    intro q hq hl
    rw [hW, hb.block q (by omega), hV]
    exact heap_set4 _ _ _ _ _ hq
  have hsz : W.heap.size = wr.heap.size + 1 := by rw [hW]; simp [hVs]
  have hbox : BoxC W X (.int .i64 k') (.slice none 0 0) (.slice none 0 0) (.slice (some ⟨wr.heap.size, 0, none⟩) m m) := by
    have : BoxC V X (.int .i64 k') (.slice none 0 0) (.slice none 0 0) (.slice (some ⟨wr.heap.size, 0, none⟩) m m) := by rw [hV]; exact h.box.set4 _ _ _ _
    rw [hW]
    exact (hb.block _ (by omega)).trans this
  have hr' : OwC W D (.agg #[.int .i64 k, .slice na nn nc, .slice ra rn rc, .slice ka kn kc]) c L := hr.keep (fun x hx => hkp _ (hL x hx).2.1 (hL x hx).2.2)
  have hcell : ∀ j u, row[j]? = some u → W.cell? ⟨wr.heap.size, j, none⟩ = some u := by
    intro j u hu
    rw [hW, ← hVs, cell_of_row _ V.heap.size j row _ (0, 0) (Go.heap_alloc_new V _)]
    exact hu
  rw [← hV]
  rw [← hW]
  refine ⟨?_, hx, hbox, .mk k' [] [] (List.replicate m c), leafK wr.heap.size 0 (fun _ => L) m, ?_, ?_, ?_⟩
  · have : DrM B a n cap zs hi w V := by rw [hV]; exact (((h.m.set hB hx _).set hB hx _).set hB hx _).set hB hx _
    rw [hW]
    exact this.below hB hb
  · have h0 : OwB W none 0 0 [] 0 0 := ⟨rfl, ⟨by simp, by omega⟩, by simp, .inl rfl⟩
    refine ⟨none, 0, 0, none, 0, 0, _, _, _, 0, 0, 0, 0, wr.heap.size, 0, fun _ => L, rfl, h0, h0, ⟨by show (List.replicate m c).length = m; simp, ⟨Nat.le_refl _, by omega⟩, .inr ⟨rfl, fun i hi => ?_⟩⟩, by simp [leafB]⟩
    obtain ⟨r0, r1, r2, r3⟩ := hrow i hi
    have e : (CN.mk k' [] [] (List.replicate m c)).kids.getD i CN.zero = c := by
      show (List.replicate m c).getD i CN.zero = c
      simp [List.getD, hi]
    rw [e]
    exact ⟨_, _, _, _, hcell _ _ r0, hcell _ _ r1, hcell _ _ r2, hcell _ _ r3, hr'⟩
  · intro x hx'
    obtain ⟨i, _, e⟩ := mem_leafK.1 hx'
    rcases e with rfl | e
    · have := h.m.bt.size
      exact ⟨by show w.heap.size < wr.heap.size; omega, by show wr.heap.size ≠ X; omega, by show wr.heap.size < W.heap.size; omega⟩
    · have := hL x e
      exact ⟨this.1, this.2.1, by omega⟩
  · have hbr : ∀ m, bulks (List.replicate m c) = m * (1 + c.bulk) := by
      intro m
      induction m with
      | zero => simp [bulks]
      | succ m ih => rw [List.replicate_succ, bulks, ih, Nat.succ_mul]; omega
    rw [CN.bulk, hbr]
    have := Nat.mul_le_mul_left m (Nat.add_le_add_left hk 1)
    simp only [List.length_nil]
    omega
end

end Go.Proofs.YtnmljalcndfjmaaGreat
