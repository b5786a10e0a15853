/- The laws' own copy of a question: a contract. -/
import Derived.Test.YtnhiccklpllkhaaAskMem
import Derived.Test.YtnhiccklpllkhaaConTo
import Derived.Deep.DeepCutAuto
namespace Go.Proofs.Ytnhiccklpllkhaa
open Go.RowKit

theorem BoxAk.frz {t : Nat} {W : World} {p : Nat} {k : Int} {c0 c1 c2 c3 d0 d1 d2 d3 r : Value} (h : BoxAk t W p k c0 c1 c2 c3 d0 d1 d2 d3 r) (o : Nat) : W.frozen? ⟨p, o, none⟩ = false := by
  unfold BoxAk at h
  simp [World.frozen?, h]

theorem BoxAk.at {t : Nat} {W : World} {p : Nat} {k : Int} {c0 c1 c2 c3 d0 d1 d2 d3 r : Value} (h : BoxAk t W p k c0 c1 c2 c3 d0 d1 d2 d3 r) (i : Nat) (v : Value) : (W.setCell ⟨p, i, none⟩ v).heap[p]? = some (.cells (#[.int .i64 k, c0, c1, c2, c3, d0, d1, d2, d3, r].setIfInBounds i v) t (0, 0)) := heap_setCell_same W p i _ _ v h

theorem BoxAk.setC {t : Nat} {W : World} {p : Nat} {k : Int} {c0 c1 c2 c3 d0 d1 d2 d3 r : Value} (h : BoxAk t W p k c0 c1 c2 c3 d0 d1 d2 d3 r) (x0 x1 x2 x3 : Value) : BoxAk t ((((W.setCell ⟨p, 1, none⟩ x0).setCell ⟨p, 2, none⟩ x1).setCell ⟨p, 3, none⟩ x2).setCell ⟨p, 4, none⟩ x3) p k x0 x1 x2 x3 d0 d1 d2 d3 r := by
  have e0 : BoxAk t (W.setCell ⟨p, 1, none⟩ x0) p k x0 c1 c2 c3 d0 d1 d2 d3 r := h.at 1 x0
  have e1 : BoxAk t ((W.setCell ⟨p, 1, none⟩ x0).setCell ⟨p, 2, none⟩ x1) p k x0 x1 c2 c3 d0 d1 d2 d3 r := e0.at 2 x1
  have e2 : BoxAk t (((W.setCell ⟨p, 1, none⟩ x0).setCell ⟨p, 2, none⟩ x1).setCell ⟨p, 3, none⟩ x2) p k x0 x1 x2 c3 d0 d1 d2 d3 r := e1.at 3 x2
  exact e2.at 4 x3

theorem BoxAk.setD {t : Nat} {W : World} {p : Nat} {k : Int} {c0 c1 c2 c3 d0 d1 d2 d3 r : Value} (h : BoxAk t W p k c0 c1 c2 c3 d0 d1 d2 d3 r) (x0 x1 x2 x3 : Value) : BoxAk t ((((W.setCell ⟨p, 5, none⟩ x0).setCell ⟨p, 6, none⟩ x1).setCell ⟨p, 7, none⟩ x2).setCell ⟨p, 8, none⟩ x3) p k c0 c1 c2 c3 x0 x1 x2 x3 r := by
  have e0 : BoxAk t (W.setCell ⟨p, 5, none⟩ x0) p k c0 c1 c2 c3 x0 d1 d2 d3 r := h.at 5 x0
  have e1 : BoxAk t ((W.setCell ⟨p, 5, none⟩ x0).setCell ⟨p, 6, none⟩ x1) p k c0 c1 c2 c3 x0 x1 d2 d3 r := e0.at 6 x1
  have e2 : BoxAk t (((W.setCell ⟨p, 5, none⟩ x0).setCell ⟨p, 6, none⟩ x1).setCell ⟨p, 7, none⟩ x2) p k c0 c1 c2 c3 x0 x1 x2 d3 r := e1.at 7 x2
  exact e2.at 8 x3

/-- All ten cells of a box, laid anew. -/
def setAk (W : World) (p : Nat) (v0 v1 v2 v3 v4 v5 v6 v7 v8 v9 : Value) : World := ((((((((((W.setCell ⟨p, 0, none⟩ v0).setCell ⟨p, 1, none⟩ v1).setCell ⟨p, 2, none⟩ v2).setCell ⟨p, 3, none⟩ v3).setCell ⟨p, 4, none⟩ v4).setCell ⟨p, 5, none⟩ v5).setCell ⟨p, 6, none⟩ v6).setCell ⟨p, 7, none⟩ v7).setCell ⟨p, 8, none⟩ v8).setCell ⟨p, 9, none⟩ v9)

theorem heap_setAk (W : World) {b p : Nat} (v0 v1 v2 v3 v4 v5 v6 v7 v8 v9 : Value) (hb : b ≠ p) : (setAk W p v0 v1 v2 v3 v4 v5 v6 v7 v8 v9).heap[b]? = W.heap[b]? := by
  unfold setAk
  rw [Below.heap_setCell _ ⟨p, 9, none⟩ _ b hb, Below.heap_setCell _ ⟨p, 8, none⟩ _ b hb, Below.heap_setCell _ ⟨p, 7, none⟩ _ b hb, Below.heap_setCell _ ⟨p, 6, none⟩ _ b hb, Below.heap_setCell _ ⟨p, 5, none⟩ _ b hb, Below.heap_setCell _ ⟨p, 4, none⟩ _ b hb, Below.heap_setCell _ ⟨p, 3, none⟩ _ b hb, Below.heap_setCell _ ⟨p, 2, none⟩ _ b hb, Below.heap_setCell _ ⟨p, 1, none⟩ _ b hb, Below.heap_setCell _ ⟨p, 0, none⟩ _ b hb]

theorem size_setAk (W : World) (p : Nat) (v0 v1 v2 v3 v4 v5 v6 v7 v8 v9 : Value) : (setAk W p v0 v1 v2 v3 v4 v5 v6 v7 v8 v9).heap.size = W.heap.size := by unfold setAk; simp

theorem below_setAk {B : Nat} {w W : World} (h : Below B w W) {p : Nat} (hp : B ≤ p) (v0 v1 v2 v3 v4 v5 v6 v7 v8 v9 : Value) : Below B w (setAk W p v0 v1 v2 v3 v4 v5 v6 v7 v8 v9) :=
  (((((((((h.setCell hp _).setCell hp _).setCell hp _).setCell hp _).setCell hp _).setCell hp _).setCell hp _).setCell hp _).setCell hp _).setCell hp _

theorem BoxAk.setAk {t : Nat} {W : World} {p : Nat} {k : Int} {c0 c1 c2 c3 d0 d1 d2 d3 r : Value} (h : BoxAk t W p k c0 c1 c2 c3 d0 d1 d2 d3 r) (k' : Int) (v1 v2 v3 v4 v5 v6 v7 v8 v9 : Value) : BoxAk t (setAk W p (.int .i64 k') v1 v2 v3 v4 v5 v6 v7 v8 v9) p k' v1 v2 v3 v4 v5 v6 v7 v8 v9 := by
  have e0 : BoxAk t (W.setCell ⟨p, 0, none⟩ (.int .i64 k')) p k' c0 c1 c2 c3 d0 d1 d2 d3 r := h.at 0 _
  have e4 := (e0.setC v1 v2 v3 v4).setD v5 v6 v7 v8
  exact BoxAk.at e4 9 v9

theorem same_outK {W : World} {p o lo hi : Nat} (v : Value) (h : p < lo) : Same lo hi W (W.setCell ⟨p, o, none⟩ v) := fun b h1 _ => Below.heap_setCell W ⟨p, o, none⟩ v b (by show b ≠ p; omega)

set_option maxRecDepth 100000 in
set_option maxHeartbeats 8000000 in
theorem toAk_any {dp : Nat} {c0 c1 c2 c3 d0 d1 d2 d3 : Value} {ra : Option Addr} {rn rc : Nat} {x : AK} {w : World} {lo hi : Nat} (h : RdAk lo hi w dp c0 c1 c2 c3 d0 d1 d2 d3 ra rn rc x) (hhi : hi ≤ w.heap.size) (hcb : x.c.bulk ≤ 1048576) (hdb : x.d.bulk ≤ 1048576) (hrn : rn ≤ 1048576) (k : Int) :
    Calls Try.prog 32 #[.agg #[.int .i64 k, c0, c1, c2, c3, d0, d1, d2, d3, .slice ra rn rc]] w fun e w' => ∃ u0 u1 u2 u3 y0 y1 y2 y3 g0, e = .returned (.agg #[.int .i64 k, u0, u1, u2, u3, y0, y1, y2, y3, .slice (some ⟨g0, 0, none⟩) rn rn]) ∧
      RdAk w.heap.size w'.heap.size w' dp u0 u1 u2 u3 y0 y1 y2 y3 (some ⟨g0, 0, none⟩) rn rn x ∧ Below w.heap.size w w' := by
  obtain ⟨W1, hW1⟩ : ∃ W1, W1 = ((w.alloc (.cells #[.int .i64 k, c0, c1, c2, c3, d0, d1, d2, d3, .slice ra rn rc] 52)).alloc (.cells #[.int .i64 0, .int .i64 0, .slice none 0 0, .slice none 0 0, .slice none 0 0, .int .i64 0, .slice none 0 0, .slice none 0 0, .slice none 0 0, .slice none 0 0] 56)).alloc (.cells #[.int .i64 k, .int .i64 0, .slice none 0 0, .slice none 0 0, .slice none 0 0, .int .i64 0, .slice none 0 0, .slice none 0 0, .slice none 0 0, .slice none 0 0] 56) := ⟨_, rfl⟩
  have HW1 : Hid (W1 = ((w.alloc (.cells #[.int .i64 k, c0, c1, c2, c3, d0, d1, d2, d3, .slice ra rn rc] 52)).alloc (.cells #[.int .i64 0, .int .i64 0, .slice none 0 0, .slice none 0 0, .slice none 0 0, .int .i64 0, .slice none 0 0, .slice none 0 0, .slice none 0 0, .slice none 0 0] 56)).alloc (.cells #[.int .i64 k, .int .i64 0, .slice none 0 0, .slice none 0 0, .slice none 0 0, .int .i64 0, .slice none 0 0, .slice none 0 0, .slice none 0 0, .slice none 0 0] 56)) := hW1
  have hs1 : W1.heap.size = w.heap.size + 3 := by rw [hW1]; simp
  have hb0 : Below w.heap.size w W1 := by rw [hW1]; exact (((Below.refl _ _).alloc (Nat.le_refl _) _).alloc (by simp) _).alloc (by simp; omega) _
  have HB0 : Hid (Below w.heap.size w W1) := hb0
  have hlx : BoxAk 52 W1 w.heap.size k c0 c1 c2 c3 d0 d1 d2 d3 (.slice ra rn rc) := by rw [hW1]; exact ((BoxAk.new _ w _ _ _ _ _ _ _ _ _ _).below ((Below.refl _ _).alloc (Nat.le_refl _) _) (by simp)).below ((Below.refl _ _).alloc (Nat.le_refl _) _) (by simp; omega)
  have hrx : BoxAk 56 W1 (w.heap.size + 1) 0 (.int .i64 0) (.slice none 0 0) (.slice none 0 0) (.slice none 0 0) (.int .i64 0) (.slice none 0 0) (.slice none 0 0) (.slice none 0 0) (.slice none 0 0) := by
    rw [hW1]
    have := BoxAk.new 56 (w.alloc (.cells #[.int .i64 k, c0, c1, c2, c3, d0, d1, d2, d3, .slice ra rn rc] 52)) 0 (.int .i64 0) (.slice none 0 0) (.slice none 0 0) (.slice none 0 0) (.int .i64 0) (.slice none 0 0) (.slice none 0 0) (.slice none 0 0) (.slice none 0 0)
    rw [World.size_alloc] at this
    exact this.below ((Below.refl _ _).alloc (Nat.le_refl _) _) (by simp)
  have hox : BoxAk 56 W1 (w.heap.size + 1 + 1) k (.int .i64 0) (.slice none 0 0) (.slice none 0 0) (.slice none 0 0) (.int .i64 0) (.slice none 0 0) (.slice none 0 0) (.slice none 0 0) (.slice none 0 0) := by
    rw [hW1]
    have := BoxAk.new 56 ((w.alloc (.cells #[.int .i64 k, c0, c1, c2, c3, d0, d1, d2, d3, .slice ra rn rc] 52)).alloc (.cells #[.int .i64 0, .int .i64 0, .slice none 0 0, .slice none 0 0, .slice none 0 0, .int .i64 0, .slice none 0 0, .slice none 0 0, .slice none 0 0, .slice none 0 0] 56)) k (.int .i64 0) (.slice none 0 0) (.slice none 0 0) (.slice none 0 0) (.int .i64 0) (.slice none 0 0) (.slice none 0 0) (.slice none 0 0) (.slice none 0 0)
    rwa [World.size_alloc, World.size_alloc] at this
  have HLx : Hid (∀ W, Below (w.heap.size + 2) W1 W → BoxAk 52 W w.heap.size k c0 c1 c2 c3 d0 d1 d2 d3 (.slice ra rn rc)) := fun W hW => hlx.below hW (by omega)
  have HRx : Hid (∀ W, Below (w.heap.size + 2) W1 W → BoxAk 56 W (w.heap.size + 1) 0 (.int .i64 0) (.slice none 0 0) (.slice none 0 0) (.slice none 0 0) (.int .i64 0) (.slice none 0 0) (.slice none 0 0) (.slice none 0 0) (.slice none 0 0)) := fun W hW => hrx.below hW (by omega)
  have HOx : Hid (BoxAk 56 W1 (w.heap.size + 1 + 1) k (.int .i64 0) (.slice none 0 0) (.slice none 0 0) (.slice none 0 0) (.int .i64 0) (.slice none 0 0) (.slice none 0 0) (.slice none 0 0) (.slice none 0 0)) := hox
  have HS1 : Hid (W1.heap.size = w.heap.size + 3) := hs1
  have HRA : Hid (RdAk lo hi w dp c0 c1 c2 c3 d0 d1 d2 d3 ra rn rc x) := h
  have HBd : Hid (x.c.bulk ≤ 1048576 ∧ x.d.bulk ≤ 1048576) := ⟨hcb, hdb⟩
  have hRd : ∀ W, Below (w.heap.size + 2) W1 W → RdAk lo hi W dp c0 c1 c2 c3 d0 d1 d2 d3 ra rn rc x ∧ hi ≤ W.heap.size := fun W hW => ⟨(h.below hb0 hhi).below hW (by omega), Nat.le_trans (Nat.le_trans hhi hb0.size) hW.size⟩
  have HRd : Hid (∀ W, Below (w.heap.size + 2) W1 W → RdAk lo hi W dp c0 c1 c2 c3 d0 d1 d2 d3 ra rn rc x ∧ hi ≤ W.heap.size) := hRd
  obtain ⟨z0, z1, z2, z3, z4, z5, z6, z7, z8, z9⟩ := hlx.cells
  clear h hb0 hW1 hlx hrx hox hcb hdb hRd hs1
  go_enter Try.func32, Try.ntmps32
  go_wp2_with fail
  rw [← HW1.out]
  refine (toC_any dp _ x.c W1 lo hi (HRd.out _ (Below.refl _ _)).1.c (HRd.out _ (Below.refl _ _)).2 HBd.out.1).mono ?_
  rintro e w1 ⟨v1, rfl, hx1, _, hb1⟩
  obtain ⟨ek, e1a, e1n, e1c, e2a, e2n, e2c, e3a, e3n, e3c, rfl⟩ := hx1.shape
  have HX1 : Hid (RdC W1.heap.size w1.heap.size w1 dp (.agg #[.int .i64 ek, .slice e1a e1n e1c, .slice e2a e2n e2c, .slice e3a e3n e3c]) x.c) := hx1
  have H1 : Hid (Below (w.heap.size + 2) W1 w1) := hb1.mono (by have := HS1.out; omega)
  have hs1b := hb1.size
  have hox1 := HOx.out.below hb1 (by have := HS1.out; omega)
  obtain ⟨o0, o1, o2, o3, o4, o5, o6, o7, o8, o9⟩ := hox1.cells
  have g1 := hox1.frz 1
  have g2 := hox1.frz 2
  have g3 := hox1.frz 3
  have g4 := hox1.frz 4
  obtain ⟨U1, hU1⟩ : ∃ U, U = ((((w1.setCell ⟨w.heap.size + 1 + 1, 1, none⟩ (.int .i64 ek)).setCell ⟨w.heap.size + 1 + 1, 2, none⟩ (.slice e1a e1n e1c)).setCell ⟨w.heap.size + 1 + 1, 3, none⟩ (.slice e2a e2n e2c)).setCell ⟨w.heap.size + 1 + 1, 4, none⟩ (.slice e3a e3n e3c)) := ⟨_, rfl⟩
  have HU1 : Hid (U1 = ((((w1.setCell ⟨w.heap.size + 1 + 1, 1, none⟩ (.int .i64 ek)).setCell ⟨w.heap.size + 1 + 1, 2, none⟩ (.slice e1a e1n e1c)).setCell ⟨w.heap.size + 1 + 1, 3, none⟩ (.slice e2a e2n e2c)).setCell ⟨w.heap.size + 1 + 1, 4, none⟩ (.slice e3a e3n e3c))) := hU1
  have HOx1 : Hid (BoxAk 56 U1 (w.heap.size + 1 + 1) k (.int .i64 ek) (.slice e1a e1n e1c) (.slice e2a e2n e2c) (.slice e3a e3n e3c) (.int .i64 0) (.slice none 0 0) (.slice none 0 0) (.slice none 0 0) (.slice none 0 0)) := by unfold Hid; rw [hU1]; exact hox1.setC _ _ _ _
  have hBU1 : Below (w.heap.size + 2) W1 U1 := by rw [hU1]; exact ((((H1.out.setCell (by show w.heap.size + 2 ≤ w.heap.size + 1 + 1; omega) _).setCell (by show w.heap.size + 2 ≤ w.heap.size + 1 + 1; omega) _).setCell (by show w.heap.size + 2 ≤ w.heap.size + 1 + 1; omega) _).setCell (by show w.heap.size + 2 ≤ w.heap.size + 1 + 1; omega) _)
  have HBU1 : Hid (Below (w.heap.size + 2) W1 U1) := hBU1
  have hsU1 : U1.heap.size = w1.heap.size := by rw [hU1]; simp
  have HSm1 : Hid (Same W1.heap.size w1.heap.size w1 U1) := by
    unfold Hid
    rw [hU1]
    have hp := HS1.out
    exact (((same_outK _ (by omega)).trans (same_outK _ (by omega))).trans (same_outK _ (by omega))).trans (same_outK _ (by omega))
  clear z0 z1 z2 z3 z4 z5 z6 z7 z8 z9 hx1 hb1 hox1
  obtain ⟨z0, z1, z2, z3, z4, z5, z6, z7, z8, z9⟩ := (HLx.out _ H1.out).cells
  have hne0 : w.heap.size ≠ w.heap.size + 1 + 1 := by omega
  clear hU1 hBU1
  go_wp2_with fail
  rw [← HU1.out]
  refine (toC_any dp _ x.d U1 lo hi (HRd.out _ HBU1.out).1.d (HRd.out _ HBU1.out).2 HBd.out.2).mono ?_
  rintro e w2 ⟨v2, rfl, hx2, _, hb2⟩
  obtain ⟨fk, f1a, f1n, f1c, f2a, f2n, f2c, f3a, f3n, f3c, rfl⟩ := hx2.shape
  have hs2b := hb2.size
  have HX2 : Hid (RdC U1.heap.size w2.heap.size w2 dp (.agg #[.int .i64 fk, .slice f1a f1n f1c, .slice f2a f2n f2c, .slice f3a f3n f3c]) x.d) := hx2
  have HX12 : Hid (RdC W1.heap.size w1.heap.size w2 dp (.agg #[.int .i64 ek, .slice e1a e1n e1c, .slice e2a e2n e2c, .slice e3a e3n e3c]) x.c) := (HX1.out.same HSm1.out).below hb2 (by omega)
  have H2 : Hid (Below (w.heap.size + 2) W1 w2) := HBU1.out.trans (hb2.mono (by have := HS1.out; omega))
  have hox2 := HOx1.out.below hb2 (by have := HS1.out; omega)
  clear o0 o1 o2 o3 o4 o5 o6 o7 o8 o9 g1 g2 g3 g4 z0 z1 z2 z3 z4 z5 z6 z7 z8 z9
  obtain ⟨o0, o1, o2, o3, o4, o5, o6, o7, o8, o9⟩ := hox2.cells
  have g5 := hox2.frz 5
  have g6 := hox2.frz 6
  have g7 := hox2.frz 7
  have g8 := hox2.frz 8
  obtain ⟨U2, hU2⟩ : ∃ U, U = ((((w2.setCell ⟨w.heap.size + 1 + 1, 5, none⟩ (.int .i64 fk)).setCell ⟨w.heap.size + 1 + 1, 6, none⟩ (.slice f1a f1n f1c)).setCell ⟨w.heap.size + 1 + 1, 7, none⟩ (.slice f2a f2n f2c)).setCell ⟨w.heap.size + 1 + 1, 8, none⟩ (.slice f3a f3n f3c)) := ⟨_, rfl⟩
  have HU2 : Hid (U2 = ((((w2.setCell ⟨w.heap.size + 1 + 1, 5, none⟩ (.int .i64 fk)).setCell ⟨w.heap.size + 1 + 1, 6, none⟩ (.slice f1a f1n f1c)).setCell ⟨w.heap.size + 1 + 1, 7, none⟩ (.slice f2a f2n f2c)).setCell ⟨w.heap.size + 1 + 1, 8, none⟩ (.slice f3a f3n f3c))) := hU2
  have HOx2 : Hid (BoxAk 56 U2 (w.heap.size + 1 + 1) k (.int .i64 ek) (.slice e1a e1n e1c) (.slice e2a e2n e2c) (.slice e3a e3n e3c) (.int .i64 fk) (.slice f1a f1n f1c) (.slice f2a f2n f2c) (.slice f3a f3n f3c) (.slice none 0 0)) := by unfold Hid; rw [hU2]; exact hox2.setD _ _ _ _
  have HBU2 : Hid (Below (w.heap.size + 2) W1 U2) := by unfold Hid; rw [hU2]; exact ((((H2.out.setCell (by show w.heap.size + 2 ≤ w.heap.size + 1 + 1; omega) _).setCell (by show w.heap.size + 2 ≤ w.heap.size + 1 + 1; omega) _).setCell (by show w.heap.size + 2 ≤ w.heap.size + 1 + 1; omega) _).setCell (by show w.heap.size + 2 ≤ w.heap.size + 1 + 1; omega) _)
  have hsU2 : U2.heap.size = w2.heap.size := by rw [hU2]; simp
  have HSm2 : Hid (Same W1.heap.size w2.heap.size w2 U2) := by
    unfold Hid
    rw [hU2]
    have hp := HS1.out
    exact (((same_outK _ (by omega)).trans (same_outK _ (by omega))).trans (same_outK _ (by omega))).trans (same_outK _ (by omega))
  have HC2 : Hid (RdC W1.heap.size U2.heap.size U2 dp (.agg #[.int .i64 ek, .slice e1a e1n e1c, .slice e2a e2n e2c, .slice e3a e3n e3c]) x.c ∧ RdC W1.heap.size U2.heap.size U2 dp (.agg #[.int .i64 fk, .slice f1a f1n f1c, .slice f2a f2n f2c, .slice f3a f3n f3c]) x.d) := by
    have hp := HS1.out
    exact ⟨(HX12.out.same (HSm2.out.mono (Nat.le_refl _) (by omega))).mono (Nat.le_refl _) (by omega), (HX2.out.same (HSm2.out.mono (by omega) (by omega))).mono (by omega) (by omega)⟩
  clear hx2 hb2 hox2
  obtain ⟨z0, z1, z2, z3, z4, z5, z6, z7, z8, z9⟩ := (HLx.out _ H2.out).cells
  clear hU2
  go_wp2_with fail
  rw [← HU2.out]
  refine (toByteS_any ra rn rc x.r U2 (HRd.out _ HBU2.out).1.r (HRd.out _ HBU2.out).2 hrn).mono ?_
  rintro e w3 ⟨rfl, hrow0, hb3⟩
  obtain ⟨g0, hg0⟩ : ∃ g, g = U2.heap.size := ⟨_, rfl⟩
  rw [← hg0] at hrow0
  rw [← hg0]
  have hs3b := hb3.size
  have hlt0 := hrow0.lt
  have hge0 : W1.heap.size ≤ g0 := by omega
  clear hg0
  have H3 : Hid (Below (w.heap.size + 2) W1 w3) := HBU2.out.trans (hb3.mono (by have := HS1.out; omega))
  have hox3 := HOx2.out.below hb3 (by have := HS1.out; omega)
  clear o0 o1 o2 o3 o4 o5 o6 o7 o8 o9 z0 z1 z2 z3 z4 z5 z6 z7 z8 z9
  obtain ⟨o0, o1, o2, o3, o4, o5, o6, o7, o8, o9⟩ := hox3.cells
  have gg0 := hox3.frz 9
  have hC0 : (RdC W1.heap.size w3.heap.size w3 dp (.agg #[.int .i64 ek, .slice e1a e1n e1c, .slice e2a e2n e2c, .slice e3a e3n e3c]) x.c ∧ RdC W1.heap.size w3.heap.size w3 dp (.agg #[.int .i64 fk, .slice f1a f1n f1c, .slice f2a f2n f2c, .slice f3a f3n f3c]) x.d ∧ Row w3 g0 rn x.r ∧ W1.heap.size ≤ g0 ∧ g0 < w3.heap.size) := by
    exact ⟨(HC2.out.1.below hb3 (Nat.le_refl _)).mono (Nat.le_refl _) (by omega), (HC2.out.2.below hb3 (Nat.le_refl _)).mono (Nat.le_refl _) (by omega), hrow0, hge0, hlt0⟩
  have hB6 : Below (w.heap.size + 2) W1 (w3.setCell ⟨w.heap.size + 1 + 1, 9, none⟩ (.slice (some ⟨g0, 0, none⟩) rn rn)) := (H3.out.setCell (by show w.heap.size + 2 ≤ w.heap.size + 1 + 1; omega) _)
  have hrx6 := HRx.out _ hB6
  have hrxw := HRx.out _ H3.out
  obtain ⟨t0, t1, t2, t3, t4, t5, t6, t7, t8, t9⟩ := hrxw.cells
  have tf0 := hrxw.frz 0
  have tf1 := hrxw.frz 1
  have tf2 := hrxw.frz 2
  have tf3 := hrxw.frz 3
  have tf4 := hrxw.frz 4
  have tf5 := hrxw.frz 5
  have tf6 := hrxw.frz 6
  have tf7 := hrxw.frz 7
  have tf8 := hrxw.frz 8
  have tf9 := hrxw.frz 9
  obtain ⟨s0, s1, s2, s3, s4, s5, s6, s7, s8, s9⟩ := (hrx6.setAk k (.int .i64 ek) (.slice e1a e1n e1c) (.slice e2a e2n e2c) (.slice e3a e3n e3c) (.int .i64 fk) (.slice f1a f1n f1c) (.slice f2a f2n f2c) (.slice f3a f3n f3c) (.slice (some ⟨g0, 0, none⟩) rn rn)).cells
  have HPost : Hid (RdAk w.heap.size (setAk (w3.setCell ⟨w.heap.size + 1 + 1, 9, none⟩ (.slice (some ⟨g0, 0, none⟩) rn rn)) (w.heap.size + 1) (.int .i64 k) (.int .i64 ek) (.slice e1a e1n e1c) (.slice e2a e2n e2c) (.slice e3a e3n e3c) (.int .i64 fk) (.slice f1a f1n f1c) (.slice f2a f2n f2c) (.slice f3a f3n f3c) (.slice (some ⟨g0, 0, none⟩) rn rn)).heap.size (setAk (w3.setCell ⟨w.heap.size + 1 + 1, 9, none⟩ (.slice (some ⟨g0, 0, none⟩) rn rn)) (w.heap.size + 1) (.int .i64 k) (.int .i64 ek) (.slice e1a e1n e1c) (.slice e2a e2n e2c) (.slice e3a e3n e3c) (.int .i64 fk) (.slice f1a f1n f1c) (.slice f2a f2n f2c) (.slice f3a f3n f3c) (.slice (some ⟨g0, 0, none⟩) rn rn)) dp (.int .i64 ek) (.slice e1a e1n e1c) (.slice e2a e2n e2c) (.slice e3a e3n e3c) (.int .i64 fk) (.slice f1a f1n f1c) (.slice f2a f2n f2c) (.slice f3a f3n f3c) (some ⟨g0, 0, none⟩) rn rn x ∧ Below w.heap.size w (setAk (w3.setCell ⟨w.heap.size + 1 + 1, 9, none⟩ (.slice (some ⟨g0, 0, none⟩) rn rn)) (w.heap.size + 1) (.int .i64 k) (.int .i64 ek) (.slice e1a e1n e1c) (.slice e2a e2n e2c) (.slice e3a e3n e3c) (.int .i64 fk) (.slice f1a f1n f1c) (.slice f2a f2n f2c) (.slice f3a f3n f3c) (.slice (some ⟨g0, 0, none⟩) rn rn))) := by
    have hp := HS1.out
    have hSm : Same W1.heap.size w3.heap.size w3 (setAk (w3.setCell ⟨w.heap.size + 1 + 1, 9, none⟩ (.slice (some ⟨g0, 0, none⟩) rn rn)) (w.heap.size + 1) (.int .i64 k) (.int .i64 ek) (.slice e1a e1n e1c) (.slice e2a e2n e2c) (.slice e3a e3n e3c) (.int .i64 fk) (.slice f1a f1n f1c) (.slice f2a f2n f2c) (.slice f3a f3n f3c) (.slice (some ⟨g0, 0, none⟩) rn rn)) := fun b h1 h2 => (heap_setAk _ _ _ _ _ _ _ _ _ _ _ (by omega)).trans (Below.heap_setCell w3 ⟨w.heap.size + 1 + 1, 9, none⟩ _ b (by show b ≠ w.heap.size + 1 + 1; omega))
    have hsf : (setAk (w3.setCell ⟨w.heap.size + 1 + 1, 9, none⟩ (.slice (some ⟨g0, 0, none⟩) rn rn)) (w.heap.size + 1) (.int .i64 k) (.int .i64 ek) (.slice e1a e1n e1c) (.slice e2a e2n e2c) (.slice e3a e3n e3c) (.int .i64 fk) (.slice f1a f1n f1c) (.slice f2a f2n f2c) (.slice f3a f3n f3c) (.slice (some ⟨g0, 0, none⟩) rn rn)).heap.size = w3.heap.size := by rw [size_setAk]; simp
    rw [hsf]
    have hlen := HRA.out
    refine ⟨⟨(hC0.1.same hSm).mono (by omega) (Nat.le_refl _), (hC0.2.1.same hSm).mono (by omega) (Nat.le_refl _), ?_⟩, below_setAk (((HB0.out.trans (H3.out.mono (by omega))).setCell (by show w.heap.size ≤ w.heap.size + 1 + 1; omega) _)) (by omega) _ _ _ _ _ _ _ _ _ _⟩
    exact ((hC0.2.2.1).same hSm (hC0.2.2.2.1) (hC0.2.2.2.2)).rd hlen.r.len hlen.r.byte (by omega) (by have := hC0.2.2.2.1; omega) (hC0.2.2.2.2)
  simp only [setAk] at s0 s1 s2 s3 s4 s5 s6 s7 s8 s9
  clear hb3 hox3 hC0 hrow0 hrx6 hrxw hB6
  obtain ⟨z0, z1, z2, z3, z4, z5, z6, z7, z8, z9⟩ := (HLx.out _ H3.out).cells
  go_wp2_with fail
  refine bodyPost_ret (v := .agg #[.int .i64 k, .int .i64 ek, .slice e1a e1n e1c, .slice e2a e2n e2c, .slice e3a e3n e3c, .int .i64 fk, .slice f1a f1n f1c, .slice f2a f2n f2c, .slice f3a f3n f3c, .slice (some ⟨g0, 0, none⟩) rn rn]) (by simp [results, Try.results32, go_sem, s0, s1, s2, s3, s4, s5, s6, s7, s8, s9]) rfl ?_
  exact ⟨_, _, _, _, _, _, _, _, _, rfl, HPost.out.1, HPost.out.2⟩

end Go.Proofs.Ytnhiccklpllkhaa
