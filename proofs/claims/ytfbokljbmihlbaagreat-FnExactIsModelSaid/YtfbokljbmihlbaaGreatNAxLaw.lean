/- Several texts in one: AxLaw1, AxLawM. -/
import Derived.Test.YtfbokljbmihlbaaGreatNSatM
import Derived.Test.YtfbokljbmihlbaaGreatNConLaw
import Derived.Deep.DeepCutAuto
import Derived.Test.YtfbokljbmihlbaaGreatConTo
import Derived.Test.YtfbokljbmihlbaaGreatNCon
namespace Go.Proofs.YtfbokljbmihlbaaGreat

section
open Go.RowKit

set_option maxRecDepth 100000 in
set_option maxHeartbeats 4000000 in
theorem eqAx_any {dp : Nat} {c0 c1 c2 c3 d0 d1 d2 d3 : Value} {ra : Option Addr} {rn rc : Nat} {sa : Option Addr} {sn sc : Nat} {aa : Option Addr} {an ac : Nat} {ba : Option Addr} {bn bc : Nat} {x : AX} {w : World} {lo hi lo' hi' : Nat} {dp' : Nat} {c0' c1' c2' c3' d0' d1' d2' d3' : Value} {ra' : Option Addr} {rn' rc' : Nat} {sa' : Option Addr} {sn' sc' : Nat} {aa' : Option Addr} {an' ac' : Nat} {ba' : Option Addr} {bn' bc' : Nat} (h : RdA lo hi w dp c0 c1 c2 c3 d0 d1 d2 d3 ra rn rc sa sn sc aa an ac ba bn bc x) (h' : RdA lo' hi' w dp' c0' c1' c2' c3' d0' d1' d2' d3' ra' rn' rc' sa' sn' sc' aa' an' ac' ba' bn' bc' x) (hhi : hi ≤ w.heap.size) (hhi' : hi' ≤ w.heap.size) (k : Int) :
    Calls Tryz.prog 12 #[.agg #[.int .i64 k, c0, c1, c2, c3, d0, d1, d2, d3, .slice ra rn rc, .slice sa sn sc, .slice aa an ac, .slice ba bn bc], .agg #[.int .i64 k, c0', c1', c2', c3', d0', d1', d2', d3', .slice ra' rn' rc', .slice sa' sn' sc', .slice aa' an' ac', .slice ba' bn' bc']] w fun e w' => e = .returned (.bool true) ∧ Below w.heap.size w w' := by
  obtain ⟨W0, hW0⟩ : ∃ W0, W0 = (w.alloc (.cells #[.int .i64 k, c0, c1, c2, c3, d0, d1, d2, d3, .slice ra rn rc, .slice sa sn sc, .slice aa an ac, .slice ba bn bc] 42)).alloc (.cells #[.int .i64 k, c0', c1', c2', c3', d0', d1', d2', d3', .slice ra' rn' rc', .slice sa' sn' sc', .slice aa' an' ac', .slice ba' bn' bc'] 42) := ⟨_, rfl⟩
  have HW0 : Hid (W0 = (w.alloc (.cells #[.int .i64 k, c0, c1, c2, c3, d0, d1, d2, d3, .slice ra rn rc, .slice sa sn sc, .slice aa an ac, .slice ba bn bc] 42)).alloc (.cells #[.int .i64 k, c0', c1', c2', c3', d0', d1', d2', d3', .slice ra' rn' rc', .slice sa' sn' sc', .slice aa' an' ac', .slice ba' bn' bc'] 42)) := hW0
  have hb0 : Below w.heap.size w W0 := by rw [hW0]; exact ((Below.refl _ _).alloc (Nat.le_refl _) _).alloc (by simp) _
  have HB0 : Hid (Below w.heap.size w W0) := hb0
  have hs0 : W0.heap.size = w.heap.size + 2 := by rw [hW0]; simp
  have hbx : BoxA 42 W0 w.heap.size k c0 c1 c2 c3 d0 d1 d2 d3 (.slice ra rn rc) (.slice sa sn sc) (.slice aa an ac) (.slice ba bn bc) := by rw [hW0]; exact (BoxA.new _ w _ _ _ _ _ _ _ _ _ _ _ _ _).below ((Below.refl _ _).alloc (Nat.le_refl _) _) (by simp)
  have hby : BoxA 42 W0 (w.heap.size + 1) k c0' c1' c2' c3' d0' d1' d2' d3' (.slice ra' rn' rc') (.slice sa' sn' sc') (.slice aa' an' ac') (.slice ba' bn' bc') := by
    rw [hW0]
    have := BoxA.new 42 (w.alloc (.cells #[.int .i64 k, c0, c1, c2, c3, d0, d1, d2, d3, .slice ra rn rc, .slice sa sn sc, .slice aa an ac, .slice ba bn bc] 42)) k c0' c1' c2' c3' d0' d1' d2' d3' (.slice ra' rn' rc') (.slice sa' sn' sc') (.slice aa' an' ac') (.slice ba' bn' bc')
    rwa [World.size_alloc] at this
  have HAt : Hid (∀ W, Below W0.heap.size W0 W → BoxA 42 W w.heap.size k c0 c1 c2 c3 d0 d1 d2 d3 (.slice ra rn rc) (.slice sa sn sc) (.slice aa an ac) (.slice ba bn bc) ∧ BoxA 42 W (w.heap.size + 1) k c0' c1' c2' c3' d0' d1' d2' d3' (.slice ra' rn' rc') (.slice sa' sn' sc') (.slice aa' an' ac') (.slice ba' bn' bc')) := fun W hW => ⟨hbx.below hW (by omega), hby.below hW (by omega)⟩
  obtain ⟨z0, z1, z2, z3, z4, z5, z6, z7, z8, z9, z10, z11, z12⟩ := hbx.cells
  obtain ⟨y0, y1, y2, y3, y4, y5, y6, y7, y8, y9, y10, y11, y12⟩ := hby.cells
  have HRA : Hid (RdA lo hi W0 dp c0 c1 c2 c3 d0 d1 d2 d3 ra rn rc sa sn sc aa an ac ba bn bc x) := h.below hb0 hhi
  have HRA' : Hid (RdA lo' hi' W0 dp' c0' c1' c2' c3' d0' d1' d2' d3' ra' rn' rc' sa' sn' sc' aa' an' ac' ba' bn' bc' x) := h'.below hb0 hhi'
  have hh0 : hi ≤ W0.heap.size := Nat.le_trans hhi hb0.size
  have hh0' : hi' ≤ W0.heap.size := Nat.le_trans hhi' hb0.size
  have hkk : (k != k) = false := by simp
  clear h h' hb0 hW0 hbx hby hs0
  go_enter Tryz.func12, Tryz.ntmps12
  go_upto_region 1 with fail
  rw [← HW0.out]
  go_wp2_with fail
  refine (eqC_any dp _ _ x.c dp' W0 lo hi lo' hi' HRA.out.c HRA'.out.c hh0 hh0').mono ?_
  rintro e w1 ⟨rfl, hb1⟩
  have H1 : Hid (Below W0.heap.size W0 w1) := hb1
  clear z0 z1 z2 z3 z4 z5 z6 z7 z8 z9 z10 z11 z12 y0 y1 y2 y3 y4 y5 y6 y7 y8 y9 y10 y11 y12 hb1
  obtain ⟨z0, z1, z2, z3, z4, z5, z6, z7, z8, z9, z10, z11, z12⟩ := (HAt.out _ H1.out).1.cells
  obtain ⟨y0, y1, y2, y3, y4, y5, y6, y7, y8, y9, y10, y11, y12⟩ := (HAt.out _ H1.out).2.cells
  go_wp2_with fail
  refine (eqC_any dp _ _ x.d dp' w1 lo hi lo' hi' (HRA.out.below H1.out hh0).d (HRA'.out.below H1.out hh0').d (Nat.le_trans hh0 H1.out.size) (Nat.le_trans hh0' H1.out.size)).mono ?_
  rintro e w2 ⟨rfl, hb2⟩
  have H2 : Hid (Below W0.heap.size W0 w2) := H1.out.trans (hb2.mono H1.out.size)
  clear z0 z1 z2 z3 z4 z5 z6 z7 z8 z9 z10 z11 z12 y0 y1 y2 y3 y4 y5 y6 y7 y8 y9 y10 y11 y12 hb2
  obtain ⟨z0, z1, z2, z3, z4, z5, z6, z7, z8, z9, z10, z11, z12⟩ := (HAt.out _ H2.out).1.cells
  obtain ⟨y0, y1, y2, y3, y4, y5, y6, y7, y8, y9, y10, y11, y12⟩ := (HAt.out _ H2.out).2.cells
  go_wp2_with fail
  refine (eqByteS_any _ _ _ _ _ _ x.r x.r _ (HRA.out.below H2.out hh0).r (HRA'.out.below H2.out hh0').r).mono ?_
  rintro e w3 ⟨rfl, nd0, hw0⟩
  rw [show decide (x.r = x.r) = true from by simp]
  have H3 : Hid (Below W0.heap.size W0 w3) := by unfold Hid; rw [hw0]; exact below_drewN H2.out nd0
  clear z0 z1 z2 z3 z4 z5 z6 z7 z8 z9 z10 z11 z12 y0 y1 y2 y3 y4 y5 y6 y7 y8 y9 y10 y11 y12 hw0
  obtain ⟨z0, z1, z2, z3, z4, z5, z6, z7, z8, z9, z10, z11, z12⟩ := (HAt.out _ H3.out).1.cells
  obtain ⟨y0, y1, y2, y3, y4, y5, y6, y7, y8, y9, y10, y11, y12⟩ := (HAt.out _ H3.out).2.cells
  go_wp2_with fail
  refine (eqByteS_any _ _ _ _ _ _ x.s x.s _ (HRA.out.below H3.out hh0).s (HRA'.out.below H3.out hh0').s).mono ?_
  rintro e w4 ⟨rfl, nd1, hw1⟩
  rw [show decide (x.s = x.s) = true from by simp]
  have H4 : Hid (Below W0.heap.size W0 w4) := by unfold Hid; rw [hw1]; exact below_drewN H3.out nd1
  clear z0 z1 z2 z3 z4 z5 z6 z7 z8 z9 z10 z11 z12 y0 y1 y2 y3 y4 y5 y6 y7 y8 y9 y10 y11 y12 hw1
  obtain ⟨z0, z1, z2, z3, z4, z5, z6, z7, z8, z9, z10, z11, z12⟩ := (HAt.out _ H4.out).1.cells
  obtain ⟨y0, y1, y2, y3, y4, y5, y6, y7, y8, y9, y10, y11, y12⟩ := (HAt.out _ H4.out).2.cells
  go_wp2_with fail
  refine (eqByteS_any _ _ _ _ _ _ x.a x.a _ (HRA.out.below H4.out hh0).a (HRA'.out.below H4.out hh0').a).mono ?_
  rintro e w5 ⟨rfl, nd2, hw2⟩
  rw [show decide (x.a = x.a) = true from by simp]
  have H5 : Hid (Below W0.heap.size W0 w5) := by unfold Hid; rw [hw2]; exact below_drewN H4.out nd2
  clear z0 z1 z2 z3 z4 z5 z6 z7 z8 z9 z10 z11 z12 y0 y1 y2 y3 y4 y5 y6 y7 y8 y9 y10 y11 y12 hw2
  obtain ⟨z0, z1, z2, z3, z4, z5, z6, z7, z8, z9, z10, z11, z12⟩ := (HAt.out _ H5.out).1.cells
  obtain ⟨y0, y1, y2, y3, y4, y5, y6, y7, y8, y9, y10, y11, y12⟩ := (HAt.out _ H5.out).2.cells
  go_wp2_with fail
  refine (eqByteS_any _ _ _ _ _ _ x.b x.b _ (HRA.out.below H5.out hh0).b (HRA'.out.below H5.out hh0').b).mono ?_
  rintro e w6 ⟨rfl, nd3, hw3⟩
  rw [show decide (x.b = x.b) = true from by simp]
  have H6 : Hid (Below W0.heap.size W0 w6) := by unfold Hid; rw [hw3]; exact below_drewN H5.out nd3
  clear z0 z1 z2 z3 z4 z5 z6 z7 z8 z9 z10 z11 z12 y0 y1 y2 y3 y4 y5 y6 y7 y8 y9 y10 y11 y12 hw3
  obtain ⟨z0, z1, z2, z3, z4, z5, z6, z7, z8, z9, z10, z11, z12⟩ := (HAt.out _ H6.out).1.cells
  obtain ⟨y0, y1, y2, y3, y4, y5, y6, y7, y8, y9, y10, y11, y12⟩ := (HAt.out _ H6.out).2.cells
  go_wp2_with fail
  go_ret
  exact ⟨rfl, HB0.out.trans (H6.out.mono HB0.out.size)⟩
end

section
section
open Go.RowKit

theorem BoxA.frz {t : Nat} {W : World} {p : Nat} {k : Int} {c0 c1 c2 c3 d0 d1 d2 d3 r s a b : Value} (h : BoxA t W p k c0 c1 c2 c3 d0 d1 d2 d3 r s a b) (o : Nat) : W.frozen? ⟨p, o, none⟩ = false := by
  unfold BoxA at h
  simp [World.frozen?, h]

theorem BoxA.at {t : Nat} {W : World} {p : Nat} {k : Int} {c0 c1 c2 c3 d0 d1 d2 d3 r s a b : Value} (h : BoxA t W p k c0 c1 c2 c3 d0 d1 d2 d3 r s a b) (i : Nat) (v : Value) : (W.setCell ⟨p, i, none⟩ v).heap[p]? = some (.cells (#[.int .i64 k, c0, c1, c2, c3, d0, d1, d2, d3, r, s, a, b].setIfInBounds i v) t (0, 0)) := heap_setCell_same W p i _ _ v h

theorem BoxA.setC {t : Nat} {W : World} {p : Nat} {k : Int} {c0 c1 c2 c3 d0 d1 d2 d3 r s a b : Value} (h : BoxA t W p k c0 c1 c2 c3 d0 d1 d2 d3 r s a b) (x0 x1 x2 x3 : Value) : BoxA t ((((W.setCell ⟨p, 1, none⟩ x0).setCell ⟨p, 2, none⟩ x1).setCell ⟨p, 3, none⟩ x2).setCell ⟨p, 4, none⟩ x3) p k x0 x1 x2 x3 d0 d1 d2 d3 r s a b := by
  have e0 : BoxA t (W.setCell ⟨p, 1, none⟩ x0) p k x0 c1 c2 c3 d0 d1 d2 d3 r s a b := h.at 1 x0
  have e1 : BoxA t ((W.setCell ⟨p, 1, none⟩ x0).setCell ⟨p, 2, none⟩ x1) p k x0 x1 c2 c3 d0 d1 d2 d3 r s a b := e0.at 2 x1
  have e2 : BoxA t (((W.setCell ⟨p, 1, none⟩ x0).setCell ⟨p, 2, none⟩ x1).setCell ⟨p, 3, none⟩ x2) p k x0 x1 x2 c3 d0 d1 d2 d3 r s a b := e1.at 3 x2
  exact e2.at 4 x3

theorem BoxA.setD {t : Nat} {W : World} {p : Nat} {k : Int} {c0 c1 c2 c3 d0 d1 d2 d3 r s a b : Value} (h : BoxA t W p k c0 c1 c2 c3 d0 d1 d2 d3 r s a b) (x0 x1 x2 x3 : Value) : BoxA t ((((W.setCell ⟨p, 5, none⟩ x0).setCell ⟨p, 6, none⟩ x1).setCell ⟨p, 7, none⟩ x2).setCell ⟨p, 8, none⟩ x3) p k c0 c1 c2 c3 x0 x1 x2 x3 r s a b := by
  have e0 : BoxA t (W.setCell ⟨p, 5, none⟩ x0) p k c0 c1 c2 c3 x0 d1 d2 d3 r s a b := h.at 5 x0
  have e1 : BoxA t ((W.setCell ⟨p, 5, none⟩ x0).setCell ⟨p, 6, none⟩ x1) p k c0 c1 c2 c3 x0 x1 d2 d3 r s a b := e0.at 6 x1
  have e2 : BoxA t (((W.setCell ⟨p, 5, none⟩ x0).setCell ⟨p, 6, none⟩ x1).setCell ⟨p, 7, none⟩ x2) p k c0 c1 c2 c3 x0 x1 x2 d3 r s a b := e1.at 7 x2
  exact e2.at 8 x3

/-- All thirteen cells of a box, laid anew. -/
def set13 (W : World) (p : Nat) (v0 v1 v2 v3 v4 v5 v6 v7 v8 v9 v10 v11 v12 : Value) : World := (((((((((((((W.setCell ⟨p, 0, none⟩ v0).setCell ⟨p, 1, none⟩ v1).setCell ⟨p, 2, none⟩ v2).setCell ⟨p, 3, none⟩ v3).setCell ⟨p, 4, none⟩ v4).setCell ⟨p, 5, none⟩ v5).setCell ⟨p, 6, none⟩ v6).setCell ⟨p, 7, none⟩ v7).setCell ⟨p, 8, none⟩ v8).setCell ⟨p, 9, none⟩ v9).setCell ⟨p, 10, none⟩ v10).setCell ⟨p, 11, none⟩ v11).setCell ⟨p, 12, none⟩ v12)

theorem heap_set13 (W : World) {b p : Nat} (v0 v1 v2 v3 v4 v5 v6 v7 v8 v9 v10 v11 v12 : Value) (hb : b ≠ p) : (set13 W p v0 v1 v2 v3 v4 v5 v6 v7 v8 v9 v10 v11 v12).heap[b]? = W.heap[b]? := by
  unfold set13
  rw [Below.heap_setCell _ ⟨p, 12, none⟩ _ b hb, Below.heap_setCell _ ⟨p, 11, none⟩ _ b hb, Below.heap_setCell _ ⟨p, 10, none⟩ _ b hb, Below.heap_setCell _ ⟨p, 9, none⟩ _ b hb, Below.heap_setCell _ ⟨p, 8, none⟩ _ b hb, Below.heap_setCell _ ⟨p, 7, none⟩ _ b hb, Below.heap_setCell _ ⟨p, 6, none⟩ _ b hb, Below.heap_setCell _ ⟨p, 5, none⟩ _ b hb, Below.heap_setCell _ ⟨p, 4, none⟩ _ b hb, Below.heap_setCell _ ⟨p, 3, none⟩ _ b hb, Below.heap_setCell _ ⟨p, 2, none⟩ _ b hb, Below.heap_setCell _ ⟨p, 1, none⟩ _ b hb, Below.heap_setCell _ ⟨p, 0, none⟩ _ b hb]

theorem size_set13 (W : World) (p : Nat) (v0 v1 v2 v3 v4 v5 v6 v7 v8 v9 v10 v11 v12 : Value) : (set13 W p v0 v1 v2 v3 v4 v5 v6 v7 v8 v9 v10 v11 v12).heap.size = W.heap.size := by unfold set13; simp

theorem below_set13 {B : Nat} {w W : World} (h : Below B w W) {p : Nat} (hp : B ≤ p) (v0 v1 v2 v3 v4 v5 v6 v7 v8 v9 v10 v11 v12 : Value) : Below B w (set13 W p v0 v1 v2 v3 v4 v5 v6 v7 v8 v9 v10 v11 v12) :=
  ((((((((((((h.setCell hp _).setCell hp _).setCell hp _).setCell hp _).setCell hp _).setCell hp _).setCell hp _).setCell hp _).setCell hp _).setCell hp _).setCell hp _).setCell hp _).setCell hp _

theorem BoxA.set13 {t : Nat} {W : World} {p : Nat} {k : Int} {c0 c1 c2 c3 d0 d1 d2 d3 r s a b : Value} (h : BoxA t W p k c0 c1 c2 c3 d0 d1 d2 d3 r s a b) (k' : Int) (v1 v2 v3 v4 v5 v6 v7 v8 v9 v10 v11 v12 : Value) : BoxA t (set13 W p (.int .i64 k') v1 v2 v3 v4 v5 v6 v7 v8 v9 v10 v11 v12) p k' v1 v2 v3 v4 v5 v6 v7 v8 v9 v10 v11 v12 := by
  have e0 : BoxA t (W.setCell ⟨p, 0, none⟩ (.int .i64 k')) p k' c0 c1 c2 c3 d0 d1 d2 d3 r s a b := h.at 0 _
  have e4 := (e0.setC v1 v2 v3 v4).setD v5 v6 v7 v8
  have e9 := BoxA.at e4 9 v9
  have e9' : BoxA t _ p k' v1 v2 v3 v4 v5 v6 v7 v8 v9 s a b := e9
  have e10 : BoxA t _ p k' v1 v2 v3 v4 v5 v6 v7 v8 v9 v10 a b := e9'.at 10 v10
  have e11 : BoxA t _ p k' v1 v2 v3 v4 v5 v6 v7 v8 v9 v10 v11 b := e10.at 11 v11
  exact e11.at 12 v12

theorem same_out {W : World} {p o lo hi : Nat} (v : Value) (h : p < lo) : Same lo hi W (W.setCell ⟨p, o, none⟩ v) := fun b h1 _ => Below.heap_setCell W ⟨p, o, none⟩ v b (by show b ≠ p; omega)

end

section
open Go.RowKit

theorem Free.alloc' {lo : Nat} {w : World} (h : Free lo w.heap.size w) (c : Array Value) (t : TypeId) : Free lo (w.alloc (.cells c t)).heap.size (w.alloc (.cells c t)) := by
  rw [World.size_alloc]; exact h.alloc c t

theorem free_set13 {lo hi : Nat} {W : World} (h : Free lo hi W) (p : Nat) (v0 v1 v2 v3 v4 v5 v6 v7 v8 v9 v10 v11 v12 : Value) : Free lo hi (set13 W p v0 v1 v2 v3 v4 v5 v6 v7 v8 v9 v10 v11 v12) := by
  unfold set13
  exact ((((((((((((h.set _ _).set _ _).set _ _).set _ _).set _ _).set _ _).set _ _).set _ _).set _ _).set _ _).set _ _).set _ _).set _ _

set_option maxRecDepth 100000 in
set_option maxHeartbeats 8000000 in
theorem toAxF_any {dp : Nat} {c0 c1 c2 c3 d0 d1 d2 d3 : Value} {ra : Option Addr} {rn rc : Nat} {sa : Option Addr} {sn sc : Nat} {aa : Option Addr} {an ac : Nat} {ba : Option Addr} {bn bc : Nat} {x : AX} {w : World} {lo hi : Nat} (h : RdA lo hi w dp c0 c1 c2 c3 d0 d1 d2 d3 ra rn rc sa sn sc aa an ac ba bn bc x) (hhi : hi ≤ w.heap.size) (hcb : x.c.bulk ≤ 1048576) (hdb : x.d.bulk ≤ 1048576) (hrn : rn ≤ 1048576) (hsn : sn ≤ 1048576) (han : an ≤ 1048576) (hbn : bn ≤ 1048576) (k : Int) :
    Calls Tryz.prog 9 #[.agg #[.int .i64 k, c0, c1, c2, c3, d0, d1, d2, d3, .slice ra rn rc, .slice sa sn sc, .slice aa an ac, .slice ba bn bc]] w fun e w' => ∃ u0 u1 u2 u3 y0 y1 y2 y3 g0 g1 g2 g3, e = .returned (.agg #[.int .i64 k, u0, u1, u2, u3, y0, y1, y2, y3, .slice (some ⟨g0, 0, none⟩) rn rn, .slice (some ⟨g1, 0, none⟩) sn sn, .slice (some ⟨g2, 0, none⟩) an an, .slice (some ⟨g3, 0, none⟩) bn bn]) ∧
      RdA w.heap.size w'.heap.size w' dp u0 u1 u2 u3 y0 y1 y2 y3 (some ⟨g0, 0, none⟩) rn rn (some ⟨g1, 0, none⟩) sn sn (some ⟨g2, 0, none⟩) an an (some ⟨g3, 0, none⟩) bn bn x ∧ Below w.heap.size w w' ∧ Free w.heap.size w'.heap.size w' := by
  obtain ⟨W1, hW1⟩ : ∃ W1, W1 = ((w.alloc (.cells #[.int .i64 k, c0, c1, c2, c3, d0, d1, d2, d3, .slice ra rn rc, .slice sa sn sc, .slice aa an ac, .slice ba bn bc] 32)).alloc (.cells #[.int .i64 0, .int .i64 0, .slice none 0 0, .slice none 0 0, .slice none 0 0, .int .i64 0, .slice none 0 0, .slice none 0 0, .slice none 0 0, .slice none 0 0, .slice none 0 0, .slice none 0 0, .slice none 0 0] 42)).alloc (.cells #[.int .i64 k, .int .i64 0, .slice none 0 0, .slice none 0 0, .slice none 0 0, .int .i64 0, .slice none 0 0, .slice none 0 0, .slice none 0 0, .slice none 0 0, .slice none 0 0, .slice none 0 0, .slice none 0 0] 42) := ⟨_, rfl⟩
  have HW1 : Hid (W1 = ((w.alloc (.cells #[.int .i64 k, c0, c1, c2, c3, d0, d1, d2, d3, .slice ra rn rc, .slice sa sn sc, .slice aa an ac, .slice ba bn bc] 32)).alloc (.cells #[.int .i64 0, .int .i64 0, .slice none 0 0, .slice none 0 0, .slice none 0 0, .int .i64 0, .slice none 0 0, .slice none 0 0, .slice none 0 0, .slice none 0 0, .slice none 0 0, .slice none 0 0, .slice none 0 0] 42)).alloc (.cells #[.int .i64 k, .int .i64 0, .slice none 0 0, .slice none 0 0, .slice none 0 0, .int .i64 0, .slice none 0 0, .slice none 0 0, .slice none 0 0, .slice none 0 0, .slice none 0 0, .slice none 0 0, .slice none 0 0] 42)) := hW1
  have hs1 : W1.heap.size = w.heap.size + 3 := by rw [hW1]; simp
  have hb0 : Below w.heap.size w W1 := by rw [hW1]; exact (((Below.refl _ _).alloc (Nat.le_refl _) _).alloc (by simp) _).alloc (by simp; omega) _
  have HB0 : Hid (Below w.heap.size w W1) := hb0
  have HF0 : Hid (Free w.heap.size W1.heap.size W1) := by unfold Hid; rw [hW1]; exact (((Free.nil w w.heap.size).alloc' _ _).alloc' _ _).alloc' _ _
  have hlx : BoxA 32 W1 w.heap.size k c0 c1 c2 c3 d0 d1 d2 d3 (.slice ra rn rc) (.slice sa sn sc) (.slice aa an ac) (.slice ba bn bc) := by rw [hW1]; exact ((BoxA.new _ w _ _ _ _ _ _ _ _ _ _ _ _ _).below ((Below.refl _ _).alloc (Nat.le_refl _) _) (by simp)).below ((Below.refl _ _).alloc (Nat.le_refl _) _) (by simp; omega)
  have hrx : BoxA 42 W1 (w.heap.size + 1) 0 (.int .i64 0) (.slice none 0 0) (.slice none 0 0) (.slice none 0 0) (.int .i64 0) (.slice none 0 0) (.slice none 0 0) (.slice none 0 0) (.slice none 0 0) (.slice none 0 0) (.slice none 0 0) (.slice none 0 0) := by
    rw [hW1]
    have := BoxA.new 42 (w.alloc (.cells #[.int .i64 k, c0, c1, c2, c3, d0, d1, d2, d3, .slice ra rn rc, .slice sa sn sc, .slice aa an ac, .slice ba bn bc] 32)) 0 (.int .i64 0) (.slice none 0 0) (.slice none 0 0) (.slice none 0 0) (.int .i64 0) (.slice none 0 0) (.slice none 0 0) (.slice none 0 0) (.slice none 0 0) (.slice none 0 0) (.slice none 0 0) (.slice none 0 0)
    rw [World.size_alloc] at this
    exact this.below ((Below.refl _ _).alloc (Nat.le_refl _) _) (by simp)
  have hox : BoxA 42 W1 (w.heap.size + 1 + 1) k (.int .i64 0) (.slice none 0 0) (.slice none 0 0) (.slice none 0 0) (.int .i64 0) (.slice none 0 0) (.slice none 0 0) (.slice none 0 0) (.slice none 0 0) (.slice none 0 0) (.slice none 0 0) (.slice none 0 0) := by
    rw [hW1]
    have := BoxA.new 42 ((w.alloc (.cells #[.int .i64 k, c0, c1, c2, c3, d0, d1, d2, d3, .slice ra rn rc, .slice sa sn sc, .slice aa an ac, .slice ba bn bc] 32)).alloc (.cells #[.int .i64 0, .int .i64 0, .slice none 0 0, .slice none 0 0, .slice none 0 0, .int .i64 0, .slice none 0 0, .slice none 0 0, .slice none 0 0, .slice none 0 0, .slice none 0 0, .slice none 0 0, .slice none 0 0] 42)) k (.int .i64 0) (.slice none 0 0) (.slice none 0 0) (.slice none 0 0) (.int .i64 0) (.slice none 0 0) (.slice none 0 0) (.slice none 0 0) (.slice none 0 0) (.slice none 0 0) (.slice none 0 0) (.slice none 0 0)
    rwa [World.size_alloc, World.size_alloc] at this
  have HLx : Hid (∀ W, Below (w.heap.size + 2) W1 W → BoxA 32 W w.heap.size k c0 c1 c2 c3 d0 d1 d2 d3 (.slice ra rn rc) (.slice sa sn sc) (.slice aa an ac) (.slice ba bn bc)) := fun W hW => hlx.below hW (by omega)
  have HRx : Hid (∀ W, Below (w.heap.size + 2) W1 W → BoxA 42 W (w.heap.size + 1) 0 (.int .i64 0) (.slice none 0 0) (.slice none 0 0) (.slice none 0 0) (.int .i64 0) (.slice none 0 0) (.slice none 0 0) (.slice none 0 0) (.slice none 0 0) (.slice none 0 0) (.slice none 0 0) (.slice none 0 0)) := fun W hW => hrx.below hW (by omega)
  have HOx : Hid (BoxA 42 W1 (w.heap.size + 1 + 1) k (.int .i64 0) (.slice none 0 0) (.slice none 0 0) (.slice none 0 0) (.int .i64 0) (.slice none 0 0) (.slice none 0 0) (.slice none 0 0) (.slice none 0 0) (.slice none 0 0) (.slice none 0 0) (.slice none 0 0)) := hox
  have HS1 : Hid (W1.heap.size = w.heap.size + 3) := hs1
  have HRA : Hid (RdA lo hi w dp c0 c1 c2 c3 d0 d1 d2 d3 ra rn rc sa sn sc aa an ac ba bn bc x) := h
  have HBd : Hid (x.c.bulk ≤ 1048576 ∧ x.d.bulk ≤ 1048576) := ⟨hcb, hdb⟩
  have hRd : ∀ W, Below (w.heap.size + 2) W1 W → RdA lo hi W dp c0 c1 c2 c3 d0 d1 d2 d3 ra rn rc sa sn sc aa an ac ba bn bc x ∧ hi ≤ W.heap.size := fun W hW => ⟨(h.below hb0 hhi).below hW (by omega), Nat.le_trans (Nat.le_trans hhi hb0.size) hW.size⟩
  have HRd : Hid (∀ W, Below (w.heap.size + 2) W1 W → RdA lo hi W dp c0 c1 c2 c3 d0 d1 d2 d3 ra rn rc sa sn sc aa an ac ba bn bc x ∧ hi ≤ W.heap.size) := hRd
  obtain ⟨z0, z1, z2, z3, z4, z5, z6, z7, z8, z9, z10, z11, z12⟩ := hlx.cells
  clear h hb0 hW1 hlx hrx hox hcb hdb hRd hs1
  go_enter Tryz.func9, Tryz.ntmps9
  go_wp2_with fail
  rw [← HW1.out]
  refine (toC_any dp _ x.c W1 lo hi (HRd.out _ (Below.refl _ _)).1.c (HRd.out _ (Below.refl _ _)).2 HBd.out.1).mono ?_
  rintro e w1 ⟨v1, rfl, hx1, hf1, hb1⟩
  have HFw1 : Hid (Free w.heap.size w1.heap.size w1) := Free.next HF0.out hb1 hf1
  clear hf1
  obtain ⟨ek, e1a, e1n, e1c, e2a, e2n, e2c, e3a, e3n, e3c, rfl⟩ := hx1.shape
  have HX1 : Hid (RdC W1.heap.size w1.heap.size w1 dp (.agg #[.int .i64 ek, .slice e1a e1n e1c, .slice e2a e2n e2c, .slice e3a e3n e3c]) x.c) := hx1
  have H1 : Hid (Below (w.heap.size + 2) W1 w1) := hb1.mono (by have := HS1.out; omega)
  have hs1b := hb1.size
  have hox1 := HOx.out.below hb1 (by have := HS1.out; omega)
  obtain ⟨o0, o1, o2, o3, o4, o5, o6, o7, o8, o9, o10, o11, o12⟩ := hox1.cells
  have g1 := hox1.frz 1
  have g2 := hox1.frz 2
  have g3 := hox1.frz 3
  have g4 := hox1.frz 4
  obtain ⟨U1, hU1⟩ : ∃ U, U = ((((w1.setCell ⟨w.heap.size + 1 + 1, 1, none⟩ (.int .i64 ek)).setCell ⟨w.heap.size + 1 + 1, 2, none⟩ (.slice e1a e1n e1c)).setCell ⟨w.heap.size + 1 + 1, 3, none⟩ (.slice e2a e2n e2c)).setCell ⟨w.heap.size + 1 + 1, 4, none⟩ (.slice e3a e3n e3c)) := ⟨_, rfl⟩
  have HU1 : Hid (U1 = ((((w1.setCell ⟨w.heap.size + 1 + 1, 1, none⟩ (.int .i64 ek)).setCell ⟨w.heap.size + 1 + 1, 2, none⟩ (.slice e1a e1n e1c)).setCell ⟨w.heap.size + 1 + 1, 3, none⟩ (.slice e2a e2n e2c)).setCell ⟨w.heap.size + 1 + 1, 4, none⟩ (.slice e3a e3n e3c))) := hU1
  have HOx1 : Hid (BoxA 42 U1 (w.heap.size + 1 + 1) k (.int .i64 ek) (.slice e1a e1n e1c) (.slice e2a e2n e2c) (.slice e3a e3n e3c) (.int .i64 0) (.slice none 0 0) (.slice none 0 0) (.slice none 0 0) (.slice none 0 0) (.slice none 0 0) (.slice none 0 0) (.slice none 0 0)) := by unfold Hid; rw [hU1]; exact hox1.setC _ _ _ _
  have hBU1 : Below (w.heap.size + 2) W1 U1 := by rw [hU1]; exact ((((H1.out.setCell (by show w.heap.size + 2 ≤ w.heap.size + 1 + 1; omega) _).setCell (by show w.heap.size + 2 ≤ w.heap.size + 1 + 1; omega) _).setCell (by show w.heap.size + 2 ≤ w.heap.size + 1 + 1; omega) _).setCell (by show w.heap.size + 2 ≤ w.heap.size + 1 + 1; omega) _)
  have HBU1 : Hid (Below (w.heap.size + 2) W1 U1) := hBU1
  have hsU1 : U1.heap.size = w1.heap.size := by rw [hU1]; simp
  have HFU1 : Hid (Free w.heap.size U1.heap.size U1) := by unfold Hid; rw [hsU1, hU1]; exact (((HFw1.out.set _ _).set _ _).set _ _).set _ _
  have HSm1 : Hid (Same W1.heap.size w1.heap.size w1 U1) := by
    unfold Hid
    rw [hU1]
    have hp := HS1.out
    exact (((same_out _ (by omega)).trans (same_out _ (by omega))).trans (same_out _ (by omega))).trans (same_out _ (by omega))
  clear z0 z1 z2 z3 z4 z5 z6 z7 z8 z9 z10 z11 z12 hx1 hb1 hox1
  obtain ⟨z0, z1, z2, z3, z4, z5, z6, z7, z8, z9, z10, z11, z12⟩ := (HLx.out _ H1.out).cells
  have hne0 : w.heap.size ≠ w.heap.size + 1 + 1 := by omega
  clear hU1 hBU1
  go_wp2_with fail
  rw [← HU1.out]
  refine (toC_any dp _ x.d U1 lo hi (HRd.out _ HBU1.out).1.d (HRd.out _ HBU1.out).2 HBd.out.2).mono ?_
  rintro e w2 ⟨v2, rfl, hx2, hf2, hb2⟩
  have HFw2 : Hid (Free w.heap.size w2.heap.size w2) := Free.next HFU1.out hb2 hf2
  clear hf2
  obtain ⟨fk, f1a, f1n, f1c, f2a, f2n, f2c, f3a, f3n, f3c, rfl⟩ := hx2.shape
  have hs2b := hb2.size
  have HX2 : Hid (RdC U1.heap.size w2.heap.size w2 dp (.agg #[.int .i64 fk, .slice f1a f1n f1c, .slice f2a f2n f2c, .slice f3a f3n f3c]) x.d) := hx2
  have HX12 : Hid (RdC W1.heap.size w1.heap.size w2 dp (.agg #[.int .i64 ek, .slice e1a e1n e1c, .slice e2a e2n e2c, .slice e3a e3n e3c]) x.c) := (HX1.out.same HSm1.out).below hb2 (by omega)
  have H2 : Hid (Below (w.heap.size + 2) W1 w2) := HBU1.out.trans (hb2.mono (by have := HS1.out; omega))
  have hox2 := HOx1.out.below hb2 (by have := HS1.out; omega)
  clear o0 o1 o2 o3 o4 o5 o6 o7 o8 o9 o10 o11 o12 g1 g2 g3 g4 z0 z1 z2 z3 z4 z5 z6 z7 z8 z9 z10 z11 z12
  obtain ⟨o0, o1, o2, o3, o4, o5, o6, o7, o8, o9, o10, o11, o12⟩ := hox2.cells
  have g5 := hox2.frz 5
  have g6 := hox2.frz 6
  have g7 := hox2.frz 7
  have g8 := hox2.frz 8
  obtain ⟨U2, hU2⟩ : ∃ U, U = ((((w2.setCell ⟨w.heap.size + 1 + 1, 5, none⟩ (.int .i64 fk)).setCell ⟨w.heap.size + 1 + 1, 6, none⟩ (.slice f1a f1n f1c)).setCell ⟨w.heap.size + 1 + 1, 7, none⟩ (.slice f2a f2n f2c)).setCell ⟨w.heap.size + 1 + 1, 8, none⟩ (.slice f3a f3n f3c)) := ⟨_, rfl⟩
  have HU2 : Hid (U2 = ((((w2.setCell ⟨w.heap.size + 1 + 1, 5, none⟩ (.int .i64 fk)).setCell ⟨w.heap.size + 1 + 1, 6, none⟩ (.slice f1a f1n f1c)).setCell ⟨w.heap.size + 1 + 1, 7, none⟩ (.slice f2a f2n f2c)).setCell ⟨w.heap.size + 1 + 1, 8, none⟩ (.slice f3a f3n f3c))) := hU2
  have HOx2 : Hid (BoxA 42 U2 (w.heap.size + 1 + 1) k (.int .i64 ek) (.slice e1a e1n e1c) (.slice e2a e2n e2c) (.slice e3a e3n e3c) (.int .i64 fk) (.slice f1a f1n f1c) (.slice f2a f2n f2c) (.slice f3a f3n f3c) (.slice none 0 0) (.slice none 0 0) (.slice none 0 0) (.slice none 0 0)) := by unfold Hid; rw [hU2]; exact hox2.setD _ _ _ _
  have HBU2 : Hid (Below (w.heap.size + 2) W1 U2) := by unfold Hid; rw [hU2]; exact ((((H2.out.setCell (by show w.heap.size + 2 ≤ w.heap.size + 1 + 1; omega) _).setCell (by show w.heap.size + 2 ≤ w.heap.size + 1 + 1; omega) _).setCell (by show w.heap.size + 2 ≤ w.heap.size + 1 + 1; omega) _).setCell (by show w.heap.size + 2 ≤ w.heap.size + 1 + 1; omega) _)
  have hsU2 : U2.heap.size = w2.heap.size := by rw [hU2]; simp
  have HFU2 : Hid (Free w.heap.size U2.heap.size U2) := by unfold Hid; rw [hsU2, hU2]; exact (((HFw2.out.set _ _).set _ _).set _ _).set _ _
  have HSm2 : Hid (Same W1.heap.size w2.heap.size w2 U2) := by
    unfold Hid
    rw [hU2]
    have hp := HS1.out
    exact (((same_out _ (by omega)).trans (same_out _ (by omega))).trans (same_out _ (by omega))).trans (same_out _ (by omega))
  have HC2 : Hid (RdC W1.heap.size U2.heap.size U2 dp (.agg #[.int .i64 ek, .slice e1a e1n e1c, .slice e2a e2n e2c, .slice e3a e3n e3c]) x.c ∧ RdC W1.heap.size U2.heap.size U2 dp (.agg #[.int .i64 fk, .slice f1a f1n f1c, .slice f2a f2n f2c, .slice f3a f3n f3c]) x.d) := by
    have hp := HS1.out
    exact ⟨(HX12.out.same (HSm2.out.mono (Nat.le_refl _) (by omega))).mono (Nat.le_refl _) (by omega), (HX2.out.same (HSm2.out.mono (by omega) (by omega))).mono (by omega) (by omega)⟩
  clear hx2 hb2 hox2
  obtain ⟨z0, z1, z2, z3, z4, z5, z6, z7, z8, z9, z10, z11, z12⟩ := (HLx.out _ H2.out).cells
  clear hU2
  go_wp2_with fail
  rw [← HU2.out]
  refine (toByteS_one ra rn rc x.r U2 (HRd.out _ HBU2.out).1.r (HRd.out _ HBU2.out).2 hrn).mono ?_
  rintro e w3 ⟨rfl, hrow0, hb3, hz3⟩
  have HFw3 : Hid (Free w.heap.size w3.heap.size w3) := Free.next HFU2.out hb3 (free_row hrow0 hz3)
  clear hz3
  obtain ⟨g0, hg0⟩ : ∃ g, g = U2.heap.size := ⟨_, rfl⟩
  rw [← hg0] at hrow0
  rw [← hg0]
  have hs3b := hb3.size
  have hlt0 := hrow0.lt
  have hge0 : W1.heap.size ≤ g0 := by omega
  clear hg0
  have H3 : Hid (Below (w.heap.size + 2) W1 w3) := HBU2.out.trans (hb3.mono (by have := HS1.out; omega))
  have hox3 := HOx2.out.below hb3 (by have := HS1.out; omega)
  clear o0 o1 o2 o3 o4 o5 o6 o7 o8 o9 o10 o11 o12 z0 z1 z2 z3 z4 z5 z6 z7 z8 z9 z10 z11 z12
  obtain ⟨o0, o1, o2, o3, o4, o5, o6, o7, o8, o9, o10, o11, o12⟩ := hox3.cells
  have gg0 := hox3.frz 9
  have hC0 : (RdC W1.heap.size w3.heap.size w3 dp (.agg #[.int .i64 ek, .slice e1a e1n e1c, .slice e2a e2n e2c, .slice e3a e3n e3c]) x.c ∧ RdC W1.heap.size w3.heap.size w3 dp (.agg #[.int .i64 fk, .slice f1a f1n f1c, .slice f2a f2n f2c, .slice f3a f3n f3c]) x.d ∧ Row w3 g0 rn x.r ∧ W1.heap.size ≤ g0 ∧ g0 < w3.heap.size) := by
    exact ⟨(HC2.out.1.below hb3 (Nat.le_refl _)).mono (Nat.le_refl _) (by omega), (HC2.out.2.below hb3 (Nat.le_refl _)).mono (Nat.le_refl _) (by omega), hrow0, hge0, hlt0⟩
  obtain ⟨U3, hU3⟩ : ∃ U, U = w3.setCell ⟨w.heap.size + 1 + 1, 9, none⟩ (.slice (some ⟨g0, 0, none⟩) rn rn) := ⟨_, rfl⟩
  have HU3 : Hid (U3 = w3.setCell ⟨w.heap.size + 1 + 1, 9, none⟩ (.slice (some ⟨g0, 0, none⟩) rn rn)) := hU3
  have HOx3 : Hid (BoxA 42 U3 (w.heap.size + 1 + 1) k (.int .i64 ek) (.slice e1a e1n e1c) (.slice e2a e2n e2c) (.slice e3a e3n e3c) (.int .i64 fk) (.slice f1a f1n f1c) (.slice f2a f2n f2c) (.slice f3a f3n f3c) (.slice (some ⟨g0, 0, none⟩) rn rn) (.slice none 0 0) (.slice none 0 0) (.slice none 0 0)) := by unfold Hid; rw [hU3]; exact hox3.at 9 _
  have HBU3 : Hid (Below (w.heap.size + 2) W1 U3) := by unfold Hid; rw [hU3]; exact (H3.out.setCell (by show w.heap.size + 2 ≤ w.heap.size + 1 + 1; omega) _)
  have hsU3 : U3.heap.size = w3.heap.size := by rw [hU3]; simp
  have HFU3 : Hid (Free w.heap.size U3.heap.size U3) := by unfold Hid; rw [hsU3, hU3]; exact HFw3.out.set _ _
  have hsm0 : Same W1.heap.size w3.heap.size w3 U3 := by rw [hU3]; exact same_out _ (by have := HS1.out; omega)
  have HCU3 : Hid (RdC W1.heap.size U3.heap.size U3 dp (.agg #[.int .i64 ek, .slice e1a e1n e1c, .slice e2a e2n e2c, .slice e3a e3n e3c]) x.c ∧ RdC W1.heap.size U3.heap.size U3 dp (.agg #[.int .i64 fk, .slice f1a f1n f1c, .slice f2a f2n f2c, .slice f3a f3n f3c]) x.d ∧ Row U3 g0 rn x.r ∧ W1.heap.size ≤ g0 ∧ g0 < U3.heap.size) := by
    have hp := HS1.out
    rw [hsU3]
    exact ⟨hC0.1.same hsm0, hC0.2.1.same hsm0, (hC0.2.2.1).same hsm0 (hC0.2.2.2.1) (hC0.2.2.2.2), hC0.2.2.2.1, hC0.2.2.2.2⟩
  clear hb3 hox3 hC0 hsm0 hrow0
  obtain ⟨z0, z1, z2, z3, z4, z5, z6, z7, z8, z9, z10, z11, z12⟩ := (HLx.out _ H3.out).cells
  clear hU3
  go_wp2_with fail
  rw [← HU3.out]
  refine (toByteS_one sa sn sc x.s U3 (HRd.out _ HBU3.out).1.s (HRd.out _ HBU3.out).2 hsn).mono ?_
  rintro e w4 ⟨rfl, hrow1, hb4, hz4⟩
  have HFw4 : Hid (Free w.heap.size w4.heap.size w4) := Free.next HFU3.out hb4 (free_row hrow1 hz4)
  clear hz4
  obtain ⟨g1, hg1⟩ : ∃ g, g = U3.heap.size := ⟨_, rfl⟩
  rw [← hg1] at hrow1
  rw [← hg1]
  have hs4b := hb4.size
  have hlt1 := hrow1.lt
  have hge1 : W1.heap.size ≤ g1 := by omega
  clear hg1
  have H4 : Hid (Below (w.heap.size + 2) W1 w4) := HBU3.out.trans (hb4.mono (by have := HS1.out; omega))
  have hox4 := HOx3.out.below hb4 (by have := HS1.out; omega)
  clear o0 o1 o2 o3 o4 o5 o6 o7 o8 o9 o10 o11 o12 z0 z1 z2 z3 z4 z5 z6 z7 z8 z9 z10 z11 z12
  obtain ⟨o0, o1, o2, o3, o4, o5, o6, o7, o8, o9, o10, o11, o12⟩ := hox4.cells
  have gg1 := hox4.frz 10
  have hC1 : (RdC W1.heap.size w4.heap.size w4 dp (.agg #[.int .i64 ek, .slice e1a e1n e1c, .slice e2a e2n e2c, .slice e3a e3n e3c]) x.c ∧ RdC W1.heap.size w4.heap.size w4 dp (.agg #[.int .i64 fk, .slice f1a f1n f1c, .slice f2a f2n f2c, .slice f3a f3n f3c]) x.d ∧ Row w4 g0 rn x.r ∧ W1.heap.size ≤ g0 ∧ g0 < w4.heap.size ∧ Row w4 g1 sn x.s ∧ W1.heap.size ≤ g1 ∧ g1 < w4.heap.size) := by
    exact ⟨(HCU3.out.1.below hb4 (Nat.le_refl _)).mono (Nat.le_refl _) (by omega), (HCU3.out.2.1.below hb4 (Nat.le_refl _)).mono (Nat.le_refl _) (by omega), (HCU3.out.2.2.1.below hb4 (by have := (HCU3.out.2.2.1).lt; omega)), HCU3.out.2.2.2.1, by have := (HCU3.out.2.2.1).lt; omega, hrow1, hge1, hlt1⟩
  obtain ⟨U4, hU4⟩ : ∃ U, U = w4.setCell ⟨w.heap.size + 1 + 1, 10, none⟩ (.slice (some ⟨g1, 0, none⟩) sn sn) := ⟨_, rfl⟩
  have HU4 : Hid (U4 = w4.setCell ⟨w.heap.size + 1 + 1, 10, none⟩ (.slice (some ⟨g1, 0, none⟩) sn sn)) := hU4
  have HOx4 : Hid (BoxA 42 U4 (w.heap.size + 1 + 1) k (.int .i64 ek) (.slice e1a e1n e1c) (.slice e2a e2n e2c) (.slice e3a e3n e3c) (.int .i64 fk) (.slice f1a f1n f1c) (.slice f2a f2n f2c) (.slice f3a f3n f3c) (.slice (some ⟨g0, 0, none⟩) rn rn) (.slice (some ⟨g1, 0, none⟩) sn sn) (.slice none 0 0) (.slice none 0 0)) := by unfold Hid; rw [hU4]; exact hox4.at 10 _
  have HBU4 : Hid (Below (w.heap.size + 2) W1 U4) := by unfold Hid; rw [hU4]; exact (H4.out.setCell (by show w.heap.size + 2 ≤ w.heap.size + 1 + 1; omega) _)
  have hsU4 : U4.heap.size = w4.heap.size := by rw [hU4]; simp
  have HFU4 : Hid (Free w.heap.size U4.heap.size U4) := by unfold Hid; rw [hsU4, hU4]; exact HFw4.out.set _ _
  have hsm1 : Same W1.heap.size w4.heap.size w4 U4 := by rw [hU4]; exact same_out _ (by have := HS1.out; omega)
  have HCU4 : Hid (RdC W1.heap.size U4.heap.size U4 dp (.agg #[.int .i64 ek, .slice e1a e1n e1c, .slice e2a e2n e2c, .slice e3a e3n e3c]) x.c ∧ RdC W1.heap.size U4.heap.size U4 dp (.agg #[.int .i64 fk, .slice f1a f1n f1c, .slice f2a f2n f2c, .slice f3a f3n f3c]) x.d ∧ Row U4 g0 rn x.r ∧ W1.heap.size ≤ g0 ∧ g0 < U4.heap.size ∧ Row U4 g1 sn x.s ∧ W1.heap.size ≤ g1 ∧ g1 < U4.heap.size) := by
    have hp := HS1.out
    rw [hsU4]
    exact ⟨hC1.1.same hsm1, hC1.2.1.same hsm1, (hC1.2.2.1).same hsm1 (hC1.2.2.2.1) (hC1.2.2.2.2.1), hC1.2.2.2.1, hC1.2.2.2.2.1, (hC1.2.2.2.2.2.1).same hsm1 (hC1.2.2.2.2.2.2.1) (hC1.2.2.2.2.2.2.2), hC1.2.2.2.2.2.2.1, hC1.2.2.2.2.2.2.2⟩
  clear hb4 hox4 hC1 hsm1 hrow1
  obtain ⟨z0, z1, z2, z3, z4, z5, z6, z7, z8, z9, z10, z11, z12⟩ := (HLx.out _ H4.out).cells
  clear hU4
  go_wp2_with fail
  rw [← HU4.out]
  refine (toByteS_one aa an ac x.a U4 (HRd.out _ HBU4.out).1.a (HRd.out _ HBU4.out).2 han).mono ?_
  rintro e w5 ⟨rfl, hrow2, hb5, hz5⟩
  have HFw5 : Hid (Free w.heap.size w5.heap.size w5) := Free.next HFU4.out hb5 (free_row hrow2 hz5)
  clear hz5
  obtain ⟨g2, hg2⟩ : ∃ g, g = U4.heap.size := ⟨_, rfl⟩
  rw [← hg2] at hrow2
  rw [← hg2]
  have hs5b := hb5.size
  have hlt2 := hrow2.lt
  have hge2 : W1.heap.size ≤ g2 := by omega
  clear hg2
  have H5 : Hid (Below (w.heap.size + 2) W1 w5) := HBU4.out.trans (hb5.mono (by have := HS1.out; omega))
  have hox5 := HOx4.out.below hb5 (by have := HS1.out; omega)
  clear o0 o1 o2 o3 o4 o5 o6 o7 o8 o9 o10 o11 o12 z0 z1 z2 z3 z4 z5 z6 z7 z8 z9 z10 z11 z12
  obtain ⟨o0, o1, o2, o3, o4, o5, o6, o7, o8, o9, o10, o11, o12⟩ := hox5.cells
  have gg2 := hox5.frz 11
  have hC2 : (RdC W1.heap.size w5.heap.size w5 dp (.agg #[.int .i64 ek, .slice e1a e1n e1c, .slice e2a e2n e2c, .slice e3a e3n e3c]) x.c ∧ RdC W1.heap.size w5.heap.size w5 dp (.agg #[.int .i64 fk, .slice f1a f1n f1c, .slice f2a f2n f2c, .slice f3a f3n f3c]) x.d ∧ Row w5 g0 rn x.r ∧ W1.heap.size ≤ g0 ∧ g0 < w5.heap.size ∧ Row w5 g1 sn x.s ∧ W1.heap.size ≤ g1 ∧ g1 < w5.heap.size ∧ Row w5 g2 an x.a ∧ W1.heap.size ≤ g2 ∧ g2 < w5.heap.size) := by
    exact ⟨(HCU4.out.1.below hb5 (Nat.le_refl _)).mono (Nat.le_refl _) (by omega), (HCU4.out.2.1.below hb5 (Nat.le_refl _)).mono (Nat.le_refl _) (by omega), (HCU4.out.2.2.1.below hb5 (by have := (HCU4.out.2.2.1).lt; omega)), HCU4.out.2.2.2.1, by have := (HCU4.out.2.2.1).lt; omega, (HCU4.out.2.2.2.2.2.1.below hb5 (by have := (HCU4.out.2.2.2.2.2.1).lt; omega)), HCU4.out.2.2.2.2.2.2.1, by have := (HCU4.out.2.2.2.2.2.1).lt; omega, hrow2, hge2, hlt2⟩
  obtain ⟨U5, hU5⟩ : ∃ U, U = w5.setCell ⟨w.heap.size + 1 + 1, 11, none⟩ (.slice (some ⟨g2, 0, none⟩) an an) := ⟨_, rfl⟩
  have HU5 : Hid (U5 = w5.setCell ⟨w.heap.size + 1 + 1, 11, none⟩ (.slice (some ⟨g2, 0, none⟩) an an)) := hU5
  have HOx5 : Hid (BoxA 42 U5 (w.heap.size + 1 + 1) k (.int .i64 ek) (.slice e1a e1n e1c) (.slice e2a e2n e2c) (.slice e3a e3n e3c) (.int .i64 fk) (.slice f1a f1n f1c) (.slice f2a f2n f2c) (.slice f3a f3n f3c) (.slice (some ⟨g0, 0, none⟩) rn rn) (.slice (some ⟨g1, 0, none⟩) sn sn) (.slice (some ⟨g2, 0, none⟩) an an) (.slice none 0 0)) := by unfold Hid; rw [hU5]; exact hox5.at 11 _
  have HBU5 : Hid (Below (w.heap.size + 2) W1 U5) := by unfold Hid; rw [hU5]; exact (H5.out.setCell (by show w.heap.size + 2 ≤ w.heap.size + 1 + 1; omega) _)
  have hsU5 : U5.heap.size = w5.heap.size := by rw [hU5]; simp
  have HFU5 : Hid (Free w.heap.size U5.heap.size U5) := by unfold Hid; rw [hsU5, hU5]; exact HFw5.out.set _ _
  have hsm2 : Same W1.heap.size w5.heap.size w5 U5 := by rw [hU5]; exact same_out _ (by have := HS1.out; omega)
  have HCU5 : Hid (RdC W1.heap.size U5.heap.size U5 dp (.agg #[.int .i64 ek, .slice e1a e1n e1c, .slice e2a e2n e2c, .slice e3a e3n e3c]) x.c ∧ RdC W1.heap.size U5.heap.size U5 dp (.agg #[.int .i64 fk, .slice f1a f1n f1c, .slice f2a f2n f2c, .slice f3a f3n f3c]) x.d ∧ Row U5 g0 rn x.r ∧ W1.heap.size ≤ g0 ∧ g0 < U5.heap.size ∧ Row U5 g1 sn x.s ∧ W1.heap.size ≤ g1 ∧ g1 < U5.heap.size ∧ Row U5 g2 an x.a ∧ W1.heap.size ≤ g2 ∧ g2 < U5.heap.size) := by
    have hp := HS1.out
    rw [hsU5]
    exact ⟨hC2.1.same hsm2, hC2.2.1.same hsm2, (hC2.2.2.1).same hsm2 (hC2.2.2.2.1) (hC2.2.2.2.2.1), hC2.2.2.2.1, hC2.2.2.2.2.1, (hC2.2.2.2.2.2.1).same hsm2 (hC2.2.2.2.2.2.2.1) (hC2.2.2.2.2.2.2.2.1), hC2.2.2.2.2.2.2.1, hC2.2.2.2.2.2.2.2.1, (hC2.2.2.2.2.2.2.2.2.1).same hsm2 (hC2.2.2.2.2.2.2.2.2.2.1) (hC2.2.2.2.2.2.2.2.2.2.2), hC2.2.2.2.2.2.2.2.2.2.1, hC2.2.2.2.2.2.2.2.2.2.2⟩
  clear hb5 hox5 hC2 hsm2 hrow2
  obtain ⟨z0, z1, z2, z3, z4, z5, z6, z7, z8, z9, z10, z11, z12⟩ := (HLx.out _ H5.out).cells
  clear hU5
  go_wp2_with fail
  rw [← HU5.out]
  refine (toByteS_one ba bn bc x.b U5 (HRd.out _ HBU5.out).1.b (HRd.out _ HBU5.out).2 hbn).mono ?_
  rintro e w6 ⟨rfl, hrow3, hb6, hz6⟩
  have HFw6 : Hid (Free w.heap.size w6.heap.size w6) := Free.next HFU5.out hb6 (free_row hrow3 hz6)
  clear hz6
  obtain ⟨g3, hg3⟩ : ∃ g, g = U5.heap.size := ⟨_, rfl⟩
  rw [← hg3] at hrow3
  rw [← hg3]
  have hs6b := hb6.size
  have hlt3 := hrow3.lt
  have hge3 : W1.heap.size ≤ g3 := by omega
  clear hg3
  have H6 : Hid (Below (w.heap.size + 2) W1 w6) := HBU5.out.trans (hb6.mono (by have := HS1.out; omega))
  have hox6 := HOx5.out.below hb6 (by have := HS1.out; omega)
  clear o0 o1 o2 o3 o4 o5 o6 o7 o8 o9 o10 o11 o12 z0 z1 z2 z3 z4 z5 z6 z7 z8 z9 z10 z11 z12
  obtain ⟨o0, o1, o2, o3, o4, o5, o6, o7, o8, o9, o10, o11, o12⟩ := hox6.cells
  have gg3 := hox6.frz 12
  have hC3 : (RdC W1.heap.size w6.heap.size w6 dp (.agg #[.int .i64 ek, .slice e1a e1n e1c, .slice e2a e2n e2c, .slice e3a e3n e3c]) x.c ∧ RdC W1.heap.size w6.heap.size w6 dp (.agg #[.int .i64 fk, .slice f1a f1n f1c, .slice f2a f2n f2c, .slice f3a f3n f3c]) x.d ∧ Row w6 g0 rn x.r ∧ W1.heap.size ≤ g0 ∧ g0 < w6.heap.size ∧ Row w6 g1 sn x.s ∧ W1.heap.size ≤ g1 ∧ g1 < w6.heap.size ∧ Row w6 g2 an x.a ∧ W1.heap.size ≤ g2 ∧ g2 < w6.heap.size ∧ Row w6 g3 bn x.b ∧ W1.heap.size ≤ g3 ∧ g3 < w6.heap.size) := by
    exact ⟨(HCU5.out.1.below hb6 (Nat.le_refl _)).mono (Nat.le_refl _) (by omega), (HCU5.out.2.1.below hb6 (Nat.le_refl _)).mono (Nat.le_refl _) (by omega), (HCU5.out.2.2.1.below hb6 (by have := (HCU5.out.2.2.1).lt; omega)), HCU5.out.2.2.2.1, by have := (HCU5.out.2.2.1).lt; omega, (HCU5.out.2.2.2.2.2.1.below hb6 (by have := (HCU5.out.2.2.2.2.2.1).lt; omega)), HCU5.out.2.2.2.2.2.2.1, by have := (HCU5.out.2.2.2.2.2.1).lt; omega, (HCU5.out.2.2.2.2.2.2.2.2.1.below hb6 (by have := (HCU5.out.2.2.2.2.2.2.2.2.1).lt; omega)), HCU5.out.2.2.2.2.2.2.2.2.2.1, by have := (HCU5.out.2.2.2.2.2.2.2.2.1).lt; omega, hrow3, hge3, hlt3⟩
  have hB6 : Below (w.heap.size + 2) W1 (w6.setCell ⟨w.heap.size + 1 + 1, 12, none⟩ (.slice (some ⟨g3, 0, none⟩) bn bn)) := (H6.out.setCell (by show w.heap.size + 2 ≤ w.heap.size + 1 + 1; omega) _)
  have hrx6 := HRx.out _ hB6
  have hrxw := HRx.out _ H6.out
  obtain ⟨t0, t1, t2, t3, t4, t5, t6, t7, t8, t9, t10, t11, t12⟩ := hrxw.cells
  have tf0 := hrxw.frz 0
  have tf1 := hrxw.frz 1
  have tf2 := hrxw.frz 2
  have tf3 := hrxw.frz 3
  have tf4 := hrxw.frz 4
  have tf5 := hrxw.frz 5
  have tf6 := hrxw.frz 6
  have tf7 := hrxw.frz 7
  have tf8 := hrxw.frz 8
  have tf9 := hrxw.frz 9
  have tf10 := hrxw.frz 10
  have tf11 := hrxw.frz 11
  have tf12 := hrxw.frz 12
  obtain ⟨s0, s1, s2, s3, s4, s5, s6, s7, s8, s9, s10, s11, s12⟩ := (hrx6.set13 k (.int .i64 ek) (.slice e1a e1n e1c) (.slice e2a e2n e2c) (.slice e3a e3n e3c) (.int .i64 fk) (.slice f1a f1n f1c) (.slice f2a f2n f2c) (.slice f3a f3n f3c) (.slice (some ⟨g0, 0, none⟩) rn rn) (.slice (some ⟨g1, 0, none⟩) sn sn) (.slice (some ⟨g2, 0, none⟩) an an) (.slice (some ⟨g3, 0, none⟩) bn bn)).cells
  have HPost : Hid (RdA w.heap.size (set13 (w6.setCell ⟨w.heap.size + 1 + 1, 12, none⟩ (.slice (some ⟨g3, 0, none⟩) bn bn)) (w.heap.size + 1) (.int .i64 k) (.int .i64 ek) (.slice e1a e1n e1c) (.slice e2a e2n e2c) (.slice e3a e3n e3c) (.int .i64 fk) (.slice f1a f1n f1c) (.slice f2a f2n f2c) (.slice f3a f3n f3c) (.slice (some ⟨g0, 0, none⟩) rn rn) (.slice (some ⟨g1, 0, none⟩) sn sn) (.slice (some ⟨g2, 0, none⟩) an an) (.slice (some ⟨g3, 0, none⟩) bn bn)).heap.size (set13 (w6.setCell ⟨w.heap.size + 1 + 1, 12, none⟩ (.slice (some ⟨g3, 0, none⟩) bn bn)) (w.heap.size + 1) (.int .i64 k) (.int .i64 ek) (.slice e1a e1n e1c) (.slice e2a e2n e2c) (.slice e3a e3n e3c) (.int .i64 fk) (.slice f1a f1n f1c) (.slice f2a f2n f2c) (.slice f3a f3n f3c) (.slice (some ⟨g0, 0, none⟩) rn rn) (.slice (some ⟨g1, 0, none⟩) sn sn) (.slice (some ⟨g2, 0, none⟩) an an) (.slice (some ⟨g3, 0, none⟩) bn bn)) dp (.int .i64 ek) (.slice e1a e1n e1c) (.slice e2a e2n e2c) (.slice e3a e3n e3c) (.int .i64 fk) (.slice f1a f1n f1c) (.slice f2a f2n f2c) (.slice f3a f3n f3c) (some ⟨g0, 0, none⟩) rn rn (some ⟨g1, 0, none⟩) sn sn (some ⟨g2, 0, none⟩) an an (some ⟨g3, 0, none⟩) bn bn x ∧ Below w.heap.size w (set13 (w6.setCell ⟨w.heap.size + 1 + 1, 12, none⟩ (.slice (some ⟨g3, 0, none⟩) bn bn)) (w.heap.size + 1) (.int .i64 k) (.int .i64 ek) (.slice e1a e1n e1c) (.slice e2a e2n e2c) (.slice e3a e3n e3c) (.int .i64 fk) (.slice f1a f1n f1c) (.slice f2a f2n f2c) (.slice f3a f3n f3c) (.slice (some ⟨g0, 0, none⟩) rn rn) (.slice (some ⟨g1, 0, none⟩) sn sn) (.slice (some ⟨g2, 0, none⟩) an an) (.slice (some ⟨g3, 0, none⟩) bn bn)) ∧ Free w.heap.size (set13 (w6.setCell ⟨w.heap.size + 1 + 1, 12, none⟩ (.slice (some ⟨g3, 0, none⟩) bn bn)) (w.heap.size + 1) (.int .i64 k) (.int .i64 ek) (.slice e1a e1n e1c) (.slice e2a e2n e2c) (.slice e3a e3n e3c) (.int .i64 fk) (.slice f1a f1n f1c) (.slice f2a f2n f2c) (.slice f3a f3n f3c) (.slice (some ⟨g0, 0, none⟩) rn rn) (.slice (some ⟨g1, 0, none⟩) sn sn) (.slice (some ⟨g2, 0, none⟩) an an) (.slice (some ⟨g3, 0, none⟩) bn bn)).heap.size (set13 (w6.setCell ⟨w.heap.size + 1 + 1, 12, none⟩ (.slice (some ⟨g3, 0, none⟩) bn bn)) (w.heap.size + 1) (.int .i64 k) (.int .i64 ek) (.slice e1a e1n e1c) (.slice e2a e2n e2c) (.slice e3a e3n e3c) (.int .i64 fk) (.slice f1a f1n f1c) (.slice f2a f2n f2c) (.slice f3a f3n f3c) (.slice (some ⟨g0, 0, none⟩) rn rn) (.slice (some ⟨g1, 0, none⟩) sn sn) (.slice (some ⟨g2, 0, none⟩) an an) (.slice (some ⟨g3, 0, none⟩) bn bn))) := by
    have hp := HS1.out
    have hSm : Same W1.heap.size w6.heap.size w6 (set13 (w6.setCell ⟨w.heap.size + 1 + 1, 12, none⟩ (.slice (some ⟨g3, 0, none⟩) bn bn)) (w.heap.size + 1) (.int .i64 k) (.int .i64 ek) (.slice e1a e1n e1c) (.slice e2a e2n e2c) (.slice e3a e3n e3c) (.int .i64 fk) (.slice f1a f1n f1c) (.slice f2a f2n f2c) (.slice f3a f3n f3c) (.slice (some ⟨g0, 0, none⟩) rn rn) (.slice (some ⟨g1, 0, none⟩) sn sn) (.slice (some ⟨g2, 0, none⟩) an an) (.slice (some ⟨g3, 0, none⟩) bn bn)) := fun b h1 h2 => (heap_set13 _ _ _ _ _ _ _ _ _ _ _ _ _ _ (by omega)).trans (Below.heap_setCell w6 ⟨w.heap.size + 1 + 1, 12, none⟩ _ b (by show b ≠ w.heap.size + 1 + 1; omega))
    have hsf : (set13 (w6.setCell ⟨w.heap.size + 1 + 1, 12, none⟩ (.slice (some ⟨g3, 0, none⟩) bn bn)) (w.heap.size + 1) (.int .i64 k) (.int .i64 ek) (.slice e1a e1n e1c) (.slice e2a e2n e2c) (.slice e3a e3n e3c) (.int .i64 fk) (.slice f1a f1n f1c) (.slice f2a f2n f2c) (.slice f3a f3n f3c) (.slice (some ⟨g0, 0, none⟩) rn rn) (.slice (some ⟨g1, 0, none⟩) sn sn) (.slice (some ⟨g2, 0, none⟩) an an) (.slice (some ⟨g3, 0, none⟩) bn bn)).heap.size = w6.heap.size := by rw [size_set13]; simp
    rw [hsf]
    have hlen := HRA.out
    refine ⟨⟨(hC3.1.same hSm).mono (by omega) (Nat.le_refl _), (hC3.2.1.same hSm).mono (by omega) (Nat.le_refl _), ?_, ?_, ?_, ?_⟩, below_set13 (((HB0.out.trans (H6.out.mono (by omega))).setCell (by show w.heap.size ≤ w.heap.size + 1 + 1; omega) _)) (by omega) _ _ _ _ _ _ _ _ _ _ _ _ _, free_set13 (HFw6.out.set _ _) _ _ _ _ _ _ _ _ _ _ _ _ _ _⟩
    · exact ((hC3.2.2.1).same hSm (hC3.2.2.2.1) (hC3.2.2.2.2.1)).rd hlen.r.len hlen.r.byte (by omega) (by have := hC3.2.2.2.1; omega) (hC3.2.2.2.2.1)
    · exact ((hC3.2.2.2.2.2.1).same hSm (hC3.2.2.2.2.2.2.1) (hC3.2.2.2.2.2.2.2.1)).rd hlen.s.len hlen.s.byte (by omega) (by have := hC3.2.2.2.2.2.2.1; omega) (hC3.2.2.2.2.2.2.2.1)
    · exact ((hC3.2.2.2.2.2.2.2.2.1).same hSm (hC3.2.2.2.2.2.2.2.2.2.1) (hC3.2.2.2.2.2.2.2.2.2.2.1)).rd hlen.a.len hlen.a.byte (by omega) (by have := hC3.2.2.2.2.2.2.2.2.2.1; omega) (hC3.2.2.2.2.2.2.2.2.2.2.1)
    · exact ((hC3.2.2.2.2.2.2.2.2.2.2.2.1).same hSm (hC3.2.2.2.2.2.2.2.2.2.2.2.2.1) (hC3.2.2.2.2.2.2.2.2.2.2.2.2.2)).rd hlen.b.len hlen.b.byte (by omega) (by have := hC3.2.2.2.2.2.2.2.2.2.2.2.2.1; omega) (hC3.2.2.2.2.2.2.2.2.2.2.2.2.2)
  simp only [set13] at s0 s1 s2 s3 s4 s5 s6 s7 s8 s9 s10 s11 s12
  clear hb6 hox6 hC3 hrow3 hrx6 hrxw hB6
  obtain ⟨z0, z1, z2, z3, z4, z5, z6, z7, z8, z9, z10, z11, z12⟩ := (HLx.out _ H6.out).cells
  go_wp2_with fail
  refine bodyPost_ret (v := .agg #[.int .i64 k, .int .i64 ek, .slice e1a e1n e1c, .slice e2a e2n e2c, .slice e3a e3n e3c, .int .i64 fk, .slice f1a f1n f1c, .slice f2a f2n f2c, .slice f3a f3n f3c, .slice (some ⟨g0, 0, none⟩) rn rn, .slice (some ⟨g1, 0, none⟩) sn sn, .slice (some ⟨g2, 0, none⟩) an an, .slice (some ⟨g3, 0, none⟩) bn bn]) (by simp [results, Tryz.results9, go_sem, s0, s1, s2, s3, s4, s5, s6, s7, s8, s9, s10, s11, s12]) rfl ?_
  exact ⟨_, _, _, _, _, _, _, _, _, _, _, _, rfl, HPost.out.1, HPost.out.2.1, HPost.out.2.2⟩
end
end

end Go.Proofs.YtfbokljbmihlbaaGreat
