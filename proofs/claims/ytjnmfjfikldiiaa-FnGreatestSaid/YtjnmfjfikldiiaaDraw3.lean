/- The part that the law of the greatest literal draws: a contract of each function. -/
import Derived.Test.YtjnmfjfikldiiaaDraw2
namespace Go.Proofs.Ytjnmfjfikldiiaa
open Go.RowKit

set_option maxRecDepth 100000 in
theorem pick3_any {w : World} {B : Nat} {a : Option Addr} {n cap : Nat} {zs : List Int} {hi : Nat} (c : Cur w B a n cap zs hi) {g : Nat} (hg : g ≠ B) (hgl : g < w.heap.size) {v0 v1 v2 : Int} (c0 : w.cell? ⟨g, 0, none⟩ = some (.int .i64 v0)) (c1 : w.cell? ⟨g, 1, none⟩ = some (.int .i64 v1)) (c2 : w.cell? ⟨g, 2, none⟩ = some (.int .i64 v2)) :
    Calls Try.prog 64 #[.pointer (some ⟨B, 0, none⟩), .slice (some ⟨g, 0, none⟩) 3 3] w fun e w' => ∃ x : Int, e = .returned (.int .i64 x) ∧ Cur w' B a n cap zs hi ∧ Only B w w' := by
  have HC : Hid (Cur w B a n cap zs hi) := c
  clear c
  go_enter Try.func64, Try.ntmps64
  go_wp2_with fail
  refine (l1Below_any HC.out 3 ⟨by omega, by omega⟩).mono ?_
  rintro e w1 ⟨x, rfl, hx, hc, ho⟩
  have e0 : w1.cell? ⟨g, 0, none⟩ = some (.int .i64 v0) := (World.cell?_of_block (w := w) (ho.other g hgl hg)).trans c0
  have e1 : w1.cell? ⟨g, 1, none⟩ = some (.int .i64 v1) := (World.cell?_of_block (w := w) (ho.other g hgl hg)).trans c1
  have e2 : w1.cell? ⟨g, 2, none⟩ = some (.int .i64 v2) := (World.cell?_of_block (w := w) (ho.other g hgl hg)).trans c2
  have HC1 : Hid (Cur w1 B a n cap zs hi) := hc
  have HO1 : Hid (Only B w w1) := ho
  clear hc ho c0 c1 c2
  rcases (by omega : x = 0 ∨ x = 1 ∨ x = 2) with rfl | rfl | rfl
  all_goals
    clear hx
    go_wp2_with fail
    go_ret
    exact ⟨_, rfl, HC1.out, HO1.out⟩

set_option maxRecDepth 100000 in
set_option maxHeartbeats 4000000 in
theorem drawGreatest_any {a : Option Addr} {n cap : Nat} {zs : List Int} {w : World} {hi : Nat} (h : Rd 0 hi w a n cap zs) (hhi : hi ≤ w.heap.size) :
    Calls Try.prog 14 #[.slice a n cap] w fun e w' => ∃ p q : Int, e = .returned (.agg #[.int .i64 p, .int .i64 q]) ∧ Below w.heap.size w w' := by
  obtain ⟨W, hW⟩ : ∃ W, W = w.alloc (.cells #[.int .i64 0, .int .i64 0] 24) := ⟨_, rfl⟩
  have HW : Hid (W = w.alloc (.cells #[.int .i64 0, .int .i64 0] 24)) := hW
  have hb0 : Below w.heap.size w W := by rw [hW]; exact (Below.refl _ _).alloc (Nat.le_refl _) _
  have HB0 : Hid (Below w.heap.size w W) := hb0
  have hp0 : BoxP 24 W w.heap.size 0 0 := by rw [hW]; exact BoxP.new _ w _ _
  have hs0 : w.heap.size < W.heap.size := hp0.lt
  have HP0 : Hid (BoxP 24 W w.heap.size 0 0) := hp0
  have HR : Hid (Rd 0 hi W a n cap zs) := h.below hb0 hhi
  obtain ⟨C, hC⟩ : ∃ C, C = W.heap.size := ⟨_, rfl⟩
  have HCe : Hid (C = W.heap.size) := hC
  have hCw : w.heap.size < C := by omega
  clear hW hb0 hp0 h hC
  go_enter Try.func14, Try.ntmps14
  go_upto_region 1 with fail
  rw [← HW.out]
  go_wp2_with fail
  refine (l1New_any HR.out (by omega)).mono ?_
  rintro e w1 ⟨rfl, hc1, hb1⟩
  rw [← HCe.out] at hc1 hb1
  rw [← HCe.out]
  have HC1 : Hid (Cur w1 C a n cap zs hi) := hc1
  have HB1 : Hid (Below w.heap.size w w1) := HB0.out.trans (hb1.mono (by omega))
  have HP1 : Hid (BoxP 24 w1 w.heap.size 0 0) := HP0.out.below hb1 hCw
  clear hc1 hb1
  go_wp2_with fail
  refine (l5drawPart_any HC1.out).mono ?_
  rintro e w2 ⟨p, q, rfl, hc2, ho2⟩
  have HC2 : Hid (Cur w2 C a n cap zs hi) := hc2
  have HB2 : Hid (Below w.heap.size w w2) := HB1.out.trans (ho2.below.mono (by omega))
  have HP2 : Hid (BoxP 24 w2 w.heap.size 0 0) := ho2.boxP HP1.out (by omega)
  clear hc2 ho2
  obtain ⟨w3, hw3⟩ : ∃ w3, w3 = w2.alloc (.cells #[.int .i64 p, .int .i64 q] 24) := ⟨_, rfl⟩
  have HW3 : Hid (w3 = w2.alloc (.cells #[.int .i64 p, .int .i64 q] 24)) := hw3
  have hb3 : Below w2.heap.size w2 w3 := by rw [hw3]; exact (Below.refl _ _).alloc (Nat.le_refl _) _
  have hq3 : BoxP 24 w3 w2.heap.size p q := by rw [hw3]; exact BoxP.new _ w2 _ _
  have hCl : C < w2.heap.size := by obtain ⟨_, _, _, q⟩ := HC2.out.box; exact q.lt
  have HC3 : Hid (Cur w3 C a n cap zs hi) := by
    obtain ⟨⟨i, hh, h1, h2⟩, h3, h4⟩ := HC2.out
    exact ⟨⟨i, hh, h1, (hb3.block C hCl).trans h2⟩, h3.below hb3 (by omega), h4⟩
  have HB3 : Hid (Below w.heap.size w w3) := HB2.out.trans (hb3.mono HB2.out.size)
  have HP3 : Hid (BoxP 24 w3 w.heap.size 0 0) := HP2.out.below hb3 HP2.out.lt
  have HQ3 : Hid (BoxP 24 w3 w2.heap.size p q) := hq3
  clear hw3 hb3 hq3
  go_upto_region 3 with fail
  rw [← HW3.out]
  go_wp2_with fail
  refine (l1Once_any HC3.out 8 ⟨by omega, by omega⟩).mono ?_
  rintro e w4 ⟨x, rfl, hc4, ho4⟩
  have HC4 : Hid (Cur w4 C a n cap zs hi) := hc4
  have HB4 : Hid (Below w.heap.size w w4) := HB3.out.trans (ho4.below.mono (by omega))
  have HP4 : Hid (BoxP 24 w4 w.heap.size 0 0) := ho4.boxP HP3.out (by omega)
  have HQ4 : Hid (BoxP 24 w4 w2.heap.size p q) := ho4.boxP HQ3.out (by omega)
  clear hc4 ho4
  cases x with
  | false =>
    obtain ⟨z0, z1⟩ := HQ4.out.cells
    obtain ⟨y0, y1⟩ := HP4.out.cells
    have f0 := HP4.out.frz 0
    have f1 := HP4.out.frz 1
    obtain ⟨s0, s1⟩ := ((HP4.out.set0 p).set1 q).cells
    have HFin : Hid (Below w.heap.size w ((w4.setCell ⟨w.heap.size, 0, none⟩ (.int .i64 p)).setCell ⟨w.heap.size, 1, none⟩ (.int .i64 q))) := (HB4.out.setCell (Nat.le_refl _) _).setCell (Nat.le_refl _) _
    go_wp2_with fail
    refine bodyPost_ret (v := .agg #[.int .i64 p, .int .i64 q]) (by simp [results, Try.results14, go_sem, s0, s1]) rfl ⟨p, q, rfl, HFin.out⟩
  | true =>
    obtain ⟨w5, hw5⟩ : ∃ w5, w5 = w4.alloc (.cells #[.int .i64 (-1), .int .i64 16777216, .int .i64 8388608] 3) := ⟨_, rfl⟩
    have HW5 : Hid (w5 = w4.alloc (.cells #[.int .i64 (-1), .int .i64 16777216, .int .i64 8388608] 3)) := hw5
    have hb5 : Below w4.heap.size w4 w5 := by rw [hw5]; exact (Below.refl _ _).alloc (Nat.le_refl _) _
    have hg5 : w5.heap[w4.heap.size]? = some (.cells #[.int .i64 (-1), .int .i64 16777216, .int .i64 8388608] 3 (0, 0)) := by rw [hw5]; exact World.alloc_heap_new w4 _
    have hl5 : w4.heap.size < w5.heap.size := by rw [hw5]; simp
    have hC4 : C < w4.heap.size := by obtain ⟨_, _, _, q⟩ := HC4.out.box; exact q.lt
    have HC5 : Hid (Cur w5 C a n cap zs hi) := by
      obtain ⟨⟨i, hh, h1, h2⟩, h3, h4⟩ := HC4.out
      exact ⟨⟨i, hh, h1, (hb5.block C hC4).trans h2⟩, h3.below hb5 (by omega), h4⟩
    have HB5 : Hid (Below w.heap.size w w5) := HB4.out.trans (hb5.mono HB4.out.size)
    have HP5 : Hid (BoxP 24 w5 w.heap.size 0 0) := HP4.out.below hb5 HP4.out.lt
    have HQ5 : Hid (BoxP 24 w5 w2.heap.size p q) := HQ4.out.below hb5 HQ4.out.lt
    have HG : Hid (w5.cell? ⟨w4.heap.size, 0, none⟩ = some (.int .i64 (-1)) ∧ w5.cell? ⟨w4.heap.size, 1, none⟩ = some (.int .i64 16777216) ∧ w5.cell? ⟨w4.heap.size, 2, none⟩ = some (.int .i64 8388608)) := by
      refine ⟨?_, ?_, ?_⟩ <;> simp [World.cell?, hg5]
    clear hw5 hb5 hg5
    go_wp2_with fail
    rw [← HW5.out]
    refine (pick3_any HC5.out (by omega) hl5 HG.out.1 HG.out.2.1 HG.out.2.2).mono ?_
    rintro e w6 ⟨x, rfl, hc6, ho6⟩
    have HB6 : Hid (Below w.heap.size w w6) := HB5.out.trans (ho6.below.mono (by omega))
    have HP6 : Hid (BoxP 24 w6 w.heap.size 0 0) := ho6.boxP HP5.out (by omega)
    have HQ6 : Hid (BoxP 24 w6 w2.heap.size p q) := ho6.boxP HQ5.out (by omega)
    clear hc6 ho6
    obtain ⟨w7, hw7⟩ : ∃ w7, w7 = w6.setCell ⟨w2.heap.size, 1, none⟩ (.int .i64 x) := ⟨_, rfl⟩
    have HW7 : Hid (w7 = w6.setCell ⟨w2.heap.size, 1, none⟩ (.int .i64 x)) := hw7
    have HQ7 : Hid (BoxP 24 w7 w2.heap.size p x) := by unfold Hid; rw [hw7]; exact HQ6.out.set1 x
    have HP7 : Hid (BoxP 24 w7 w.heap.size 0 0) := by unfold Hid; rw [hw7]; exact HP6.out.setO (by omega) _
    have HB7 : Hid (Below w.heap.size w w7) := by unfold Hid; rw [hw7]; exact HB6.out.setCell (by show w.heap.size ≤ w2.heap.size; omega) _
    obtain ⟨z0, z1⟩ := HQ6.out.cells
    have g1 := HQ6.out.frz 1
    clear hw7
    go_upto_region 5 with fail
    rw [← HW7.out]
    clear z0 z1
    obtain ⟨z0, z1⟩ := HQ7.out.cells
    obtain ⟨y0, y1⟩ := HP7.out.cells
    have f0 := HP7.out.frz 0
    have f1 := HP7.out.frz 1
    obtain ⟨s0, s1⟩ := ((HP7.out.set0 p).set1 x).cells
    have HFin : Hid (Below w.heap.size w ((w7.setCell ⟨w.heap.size, 0, none⟩ (.int .i64 p)).setCell ⟨w.heap.size, 1, none⟩ (.int .i64 x))) := (HB7.out.setCell (Nat.le_refl _) _).setCell (Nat.le_refl _) _
    go_wp2_with fail
    refine bodyPost_ret (v := .agg #[.int .i64 p, .int .i64 x]) (by simp [results, Try.results14, go_sem, s0, s1]) rfl ⟨p, x, rfl, HFin.out⟩

end Go.Proofs.Ytjnmfjfikldiiaa
