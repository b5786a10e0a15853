/- x is wrapped: what a round of the last two loops leaves. -/
import Derived.Test.YtnmljalcndfjmaaGreatDrawCon2
import Derived.Test.YtnmljalcndfjmaaGreatNG24
namespace Go.Proofs.YtnmljalcndfjmaaGreat
open Go.RowKit

theorem rol_rd {W : World} {a : Option Addr} {n cap : Nat} {zs : List Int} {b' b i lo hi : Nat} {v : Value} (h : RolR W (.slice a n cap) zs b') (hb : b' ≠ b) (h1 : lo ≤ b') (h2 : b' < hi) : Rd lo hi (W.setCell ⟨b, i, none⟩ v) a n cap zs := by
  obtain ⟨a', c', e, h3, _⟩ := h
  simp only [Value.slice.injEq] at e
  obtain ⟨rfl, rfl, rfl⟩ := e
  refine (h3.keep (w' := W.setCell ⟨b, i, none⟩ v) (fun x hx => ?_)).rd (fun x hx => ?_)
  · obtain ⟨j, hj, rfl⟩ := mem_leafB.1 hx
    exact Below.heap_setCell _ _ _ _ hb
  · obtain ⟨j, hj, rfl⟩ := mem_leafB.1 hx
    exact ⟨h1, h2⟩

structure WpV (B : Nat) (a : Option Addr) (n cap : Nat) (zs : List Int) (hi : Nat) (w : World) (X : Nat) (k : Int) (na : Option Addr) (nn nc : Nat) (ra : Option Addr) (rn rc : Nat) (ka : Option Addr) (kn kc : Nat) (D K : Nat) (wr : World) : Prop where
  m : DrM B a n cap zs hi w wr
  x : w.heap.size < X
  box : BoxC wr X (.int .i64 k) (.slice na nn nc) (.slice ra rn rc) (.slice ka kn kc)
  own : ∃ c L, OwC wr D (.agg #[.int .i64 k, .slice na nn nc, .slice ra rn rc, .slice ka kn kc]) c L ∧ (∀ x ∈ L, w.heap.size < x.1.block ∧ x.1.block ≠ X ∧ x.1.block < wr.heap.size) ∧ c.bulk ≤ K

theorem WpV.wrap {B : Nat} {a : Option Addr} {n cap : Nat} {zs : List Int} {hi : Nat} {w : World} {X : Nat} {k : Int} {na : Option Addr} {nn nc : Nat} {ra : Option Addr} {rn rc : Nat} {ka : Option Addr} {kn kc : Nat} {D K : Nat} {wr : World} (h : WpV B a n cap zs hi w X k na nn nc ra rn rc ka kn kc D K wr) (hB : B < w.heap.size) (k' : Int) (row : Array Value) (m : Nat) (hm : m ≤ 2)
    (hrow : ∀ i, i < m → row[0 + i * 4]? = some (.int .i64 k) ∧ row[0 + i * 4 + 1]? = some (.slice na nn nc) ∧ row[0 + i * 4 + 2]? = some (.slice ra rn rc) ∧ row[0 + i * 4 + 3]? = some (.slice ka kn kc)) :
    WpV B a n cap zs hi w X k' none 0 0 none 0 0 (some ⟨wr.heap.size, 0, none⟩) m m (D + 1) (m * (1 + K)) (((((wr.setCell ⟨X, 0, none⟩ (.int .i64 k')).setCell ⟨X, 1, none⟩ (.slice none 0 0)).setCell ⟨X, 2, none⟩ (.slice none 0 0)).setCell ⟨X, 3, none⟩ (.slice (some ⟨wr.heap.size, 0, none⟩) m m)).alloc (.cells row 30)) := by
  obtain ⟨c, L, hr, hL, hk⟩ := h.own
  have hXl : X < wr.heap.size := h.box.lt
  have hx := h.x
  obtain ⟨V, hV⟩ : ∃ V, V = ((((wr.setCell ⟨X, 0, none⟩ (.int .i64 k')).setCell ⟨X, 1, none⟩ (.slice none 0 0)).setCell ⟨X, 2, none⟩ (.slice none 0 0)).setCell ⟨X, 3, none⟩ (.slice (some ⟨wr.heap.size, 0, none⟩) m m)) := ⟨_, rfl⟩
  have hVs : V.heap.size = wr.heap.size := by rw [hV]; simp
  have hb : Below V.heap.size V (V.alloc (.cells row 30)) := (Below.refl _ _).alloc (Nat.le_refl _) _
  obtain ⟨W, hW⟩ : ∃ W, W = V.alloc (.cells row 30) := ⟨_, rfl⟩
  have hkp : ∀ q, q ≠ X → q < wr.heap.size → W.heap[q]? = wr.heap[q]? := by
    intro q hq hl
    rw [hW, hb.block q (by omega), hV]
    exact heap_set4 _ _ _ _ _ hq
  have hsz : W.heap.size = wr.heap.size + 1 := by rw [hW]; simp [hVs]
  have hbox : BoxC W X (.int .i64 k') (.slice none 0 0) (.slice none 0 0) (.slice (some ⟨wr.heap.size, 0, none⟩) m m) := by
    have : BoxC V X (.int .i64 k') (.slice none 0 0) (.slice none 0 0) (.slice (some ⟨wr.heap.size, 0, none⟩) m m) := by rw [hV]; exact h.box.set4 _ _ _ _
    rw [hW]
    exact (hb.block _ (by omega)).trans this
  have hr' : OwC W D (.agg #[.int .i64 k, .slice na nn nc, .slice ra rn rc, .slice ka kn kc]) c L := hr.keep (fun x hx => hkp _ (hL x hx).2.1 (hL x hx).2.2)
  have hcell : ∀ j u, row[j]? = some u → W.cell? ⟨wr.heap.size, j, none⟩ = some u := by
    intro j u hu
    rw [hW, ← hVs, cell_of_row _ V.heap.size j row _ (0, 0) (Go.heap_alloc_new V _)]
    exact hu
  rw [← hV]
  rw [← hW]
  refine ⟨?_, hx, hbox, .mk k' [] [] (List.replicate m c), leafK wr.heap.size 0 (fun _ => L) m, ?_, ?_, ?_⟩
  · have : DrM B a n cap zs hi w V := by rw [hV]; exact (((h.m.set hB hx _).set hB hx _).set hB hx _).set hB hx _
    rw [hW]
    exact this.below hB hb
  · have h0 : OwB W none 0 0 [] 0 0 := ⟨rfl, ⟨by simp, by omega⟩, by simp, .inl rfl⟩
    refine ⟨none, 0, 0, none, 0, 0, _, _, _, 0, 0, 0, 0, wr.heap.size, 0, fun _ => L, rfl, h0, h0, ⟨by show (List.replicate m c).length = m; simp, ⟨Nat.le_refl _, by omega⟩, .inr ⟨rfl, fun i hi => ?_⟩⟩, by simp [leafB]⟩
    obtain ⟨r0, r1, r2, r3⟩ := hrow i hi
    have e : (CN.mk k' [] [] (List.replicate m c)).kids.getD i CN.zero = c := by
      show (List.replicate m c).getD i CN.zero = c
      simp [List.getD, hi]
    rw [e]
    exact ⟨_, _, _, _, hcell _ _ r0, hcell _ _ r1, hcell _ _ r2, hcell _ _ r3, hr'⟩
  · intro x hx'
    obtain ⟨i, _, e⟩ := mem_leafK.1 hx'
    rcases e with rfl | e
    · have := h.m.bt.size
      exact ⟨by show w.heap.size < wr.heap.size; omega, by show wr.heap.size ≠ X; omega, by show wr.heap.size < W.heap.size; omega⟩
    · have := hL x e
      exact ⟨this.1, this.2.1, by omega⟩
  · have hbr : ∀ m, bulks (List.replicate m c) = m * (1 + c.bulk) := by
      intro m
      induction m with
      | zero => simp [bulks]
      | succ m ih => rw [List.replicate_succ, bulks, ih, Nat.succ_mul]; omega
    rw [CN.bulk, hbr]
    have := Nat.mul_le_mul_left m (Nat.add_le_add_left hk 1)
    simp only [List.length_nil]
    omega

end Go.Proofs.YtnmljalcndfjmaaGreat
