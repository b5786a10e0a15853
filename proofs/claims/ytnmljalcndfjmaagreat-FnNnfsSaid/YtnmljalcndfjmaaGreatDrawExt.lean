/- A drawn world and a drawn concept. -/
import Derived.Test.YtnmljalcndfjmaaGreatBentWd
import Derived.Test.YtnmljalcndfjmaaGreatBent1
import Derived.Test.YtnmljalcndfjmaaGreatNG1
namespace Go.Proofs.YtnmljalcndfjmaaGreat
open Go.RowKit

/-- What it leaves. -/
def DxP (w : World) (e : Ending) (w' : World) : Prop :=
  ∃ (nx : Int) (a1 : Option Addr) (n1 c1 : Nat) (a2 : Option Addr) (n2 c2 : Nat) (a3 : Option Addr) (n3 c3 : Nat) (a4 : Option Addr) (n4 c4 : Nat) (a5 : Option Addr) (n5 c5 : Nat) (a6 : Option Addr) (n6 c6 : Nat) (x : WD) (v : Value) (c : CN), e = .returned (.tuple #[.agg #[.int .i64 nx, .slice a1 n1 c1, .slice a2 n2 c2, .slice a3 n3 c3, .slice a4 n4 c4, .slice a5 n5 c5, .slice a6 n6 c6], v]) ∧ (-1 ≤ nx ∧ nx ≤ 129) ∧ x.n = nx ∧ RdW w.heap.size w'.heap.size w' a1 n1 c1 a2 n2 c2 a3 n3 c3 a4 n4 c4 a5 n5 c5 a6 n6 c6 x ∧ RdC w.heap.size w'.heap.size w' 20 v c ∧ c.bulk ≤ 100000 ∧ Below w.heap.size w w'

set_option maxRecDepth 100000 in
set_option maxHeartbeats 4000000 in
theorem drawExt_any {a : Option Addr} {n cap : Nat} {zs : List Int} {w : World} (h : Rd 0 w.heap.size w a n cap zs) :
    Calls Tryz.prog 6 #[.slice a n cap] w (DxP w) := by
  obtain ⟨W0, HW0⟩ : ∃ W, Hid (W = (w.alloc (.cells #[.int .i64 0, .slice none 0 0, .slice none 0 0, .slice none 0 0, .slice none 0 0, .slice none 0 0, .slice none 0 0] 27)).alloc (.cells #[.int .i64 0, .slice none 0 0, .slice none 0 0, .slice none 0 0] 30)) := ⟨_, rfl⟩
  have HB0 : Hid (Below w.heap.size w W0) := by unfold Hid; rw [HW0.out]; exact ((Below.refl _ _).alloc (Nat.le_refl _) _).alloc (by simp) _
  have HX0 : Hid (BoxW 27 W0 w.heap.size 0 (.slice none 0 0) (.slice none 0 0) (.slice none 0 0) (.slice none 0 0) (.slice none 0 0) (.slice none 0 0)) := by unfold Hid; rw [HW0.out]; exact (allocOld (by simp)).trans (BoxW.new _ w _ _ _ _ _ _ _)
  have HY0 : Hid (BoxC W0 (w.heap.size + 1) (.int .i64 0) (.slice none 0 0) (.slice none 0 0) (.slice none 0 0)) := by
    unfold Hid; rw [HW0.out]
    have := BoxC.new (w.alloc (.cells #[.int .i64 0, .slice none 0 0, .slice none 0 0, .slice none 0 0, .slice none 0 0, .slice none 0 0, .slice none 0 0] 27)) (.int .i64 0) (.slice none 0 0) (.slice none 0 0) (.slice none 0 0)
    rwa [show (w.alloc (.cells #[.int .i64 0, .slice none 0 0, .slice none 0 0, .slice none 0 0, .slice none 0 0, .slice none 0 0, .slice none 0 0] 27)).heap.size = w.heap.size + 1 from by simp] at this
  have HR0 : Hid (Rd 0 w.heap.size W0 a n cap zs) := h.below HB0.out (Nat.le_refl _)
  have hs0 : w.heap.size + 1 < W0.heap.size := HY0.out.lt
  clear h
  go_enter Tryz.func6, Tryz.ntmps6
  go_wp2_with fail
  rw [← HW0.out]
  refine (l1New_any HR0.out (by omega)).mono ?_
  rintro e w1 ⟨rfl, hc1, hb1⟩
  have HC1 : Hid (Cur w1 W0.heap.size a n cap zs w.heap.size) := hc1
  have HB1 : Hid (Below W0.heap.size W0 w1) := hb1
  have hs1 := hc1.lt
  clear hc1 hb1
  go_wp2_with fail
  refine (l4bent_any HC1.out).mono ?_
  rintro e w2 hD
  obtain ⟨nx, a1, n1, c1, a2, n2, c2, a3, n3, c3, a4, n4, c4, a5, n5, c5, a6, n6, c6, x, rfl, hn, hx, hr, hc2, hbt2⟩ := hD
  have HC2 : Hid (Cur w2 W0.heap.size a n cap zs w.heap.size) := hc2
  have HT2 : Hid (Bt W0.heap.size w1.heap.size w1 w2) := hbt2
  have HR2 : Hid (RdW w1.heap.size w2.heap.size w2 a1 n1 c1 a2 n2 c2 a3 n3 c3 a4 n4 c4 a5 n5 c5 a6 n6 c6 x) := hr
  have HN : Hid ((-1 ≤ nx ∧ nx ≤ 129) ∧ x.n = nx) := ⟨hn, hx⟩
  have hs2 := hbt2.size
  clear hn hx hr hc2 hbt2
  go_wp2_with fail
  refine (l2bent_any HC2.out).mono ?_
  rintro e w3 hD
  obtain ⟨v, c, rfl, hr, hbk, _, hbt3⟩ := hD
  obtain ⟨k, na, nn, nc, ra, rn, rc, ka, kn, kc, rfl⟩ := hr.shape
  have HR3 : Hid (RdC w2.heap.size w3.heap.size w3 20 (.agg #[.int .i64 k, .slice na nn nc, .slice ra rn rc, .slice ka kn kc]) c) := hr
  have HK3 : Hid (c.bulk ≤ 100000) := hbk
  have hs3 := hbt3.size
  have HRW3 : Hid (RdW w1.heap.size w2.heap.size w3 a1 n1 c1 a2 n2 c2 a3 n3 c3 a4 n4 c4 a5 n5 c5 a6 n6 c6 x) := HR2.out.same (fun b h1 h2 => hbt3.block b h2 (by omega))
  have HB3 : Hid (Below w.heap.size w w3) := ((HB0.out.trans (HB1.out.mono (by omega))).trans (HT2.out.below (by omega) (by omega))).trans (hbt3.below (by omega) (by omega))
  have HX3 : Hid (BoxW 27 w3 w.heap.size 0 (.slice none 0 0) (.slice none 0 0) (.slice none 0 0) (.slice none 0 0) (.slice none 0 0) (.slice none 0 0)) := (hbt3.block _ (by omega) (by omega)).trans ((HT2.out.block _ (by omega) (by omega)).trans ((HB1.out.block _ (by omega)).trans HX0.out))
  have HY3 : Hid (BoxC w3 (w.heap.size + 1) (.int .i64 0) (.slice none 0 0) (.slice none 0 0) (.slice none 0 0)) := (hbt3.block _ (by omega) (by omega)).trans ((HT2.out.block _ (by omega) (by omega)).trans ((HB1.out.block _ hs0).trans HY0.out))
  obtain ⟨z0, z1, z2, z3, z4, z5, z6⟩ := HX3.out.cells
  obtain ⟨y0, y1, y2, y3⟩ := HY3.out.cells
  have zf0 := HX3.out.frz 0
  have zf1 := HX3.out.frz 1
  have zf2 := HX3.out.frz 2
  have zf3 := HX3.out.frz 3
  have zf4 := HX3.out.frz 4
  have zf5 := HX3.out.frz 5
  have zf6 := HX3.out.frz 6
  have yf0 := HY3.out.frz 0
  have yf1 := HY3.out.frz 1
  have yf2 := HY3.out.frz 2
  have yf3 := HY3.out.frz 3
  clear hr hbk hbt3
  have hbw : BoxW 27 (put7 w3 w.heap.size (.int .i64 nx) (.slice a1 n1 c1) (.slice a2 n2 c2) (.slice a3 n3 c3) (.slice a4 n4 c4) (.slice a5 n5 c5) (.slice a6 n6 c6)) w.heap.size nx (.slice a1 n1 c1) (.slice a2 n2 c2) (.slice a3 n3 c3) (.slice a4 n4 c4) (.slice a5 n5 c5) (.slice a6 n6 c6) := put7_box HX3.out _ _ _ _ _ _ _
  have hby : BoxC (put7 w3 w.heap.size (.int .i64 nx) (.slice a1 n1 c1) (.slice a2 n2 c2) (.slice a3 n3 c3) (.slice a4 n4 c4) (.slice a5 n5 c5) (.slice a6 n6 c6)) (w.heap.size + 1) (.int .i64 0) (.slice none 0 0) (.slice none 0 0) (.slice none 0 0) := (put7_other _ _ _ _ _ _ _ _ (by omega)).trans HY3.out
  have hby2 := hby.set4 (.int .i64 k) (.slice na nn nc) (.slice ra rn rc) (.slice ka kn kc)
  obtain ⟨W4, hW4⟩ : ∃ W, W = ((((put7 w3 w.heap.size (.int .i64 nx) (.slice a1 n1 c1) (.slice a2 n2 c2) (.slice a3 n3 c3) (.slice a4 n4 c4) (.slice a5 n5 c5) (.slice a6 n6 c6)).setCell ⟨w.heap.size + 1, 0, none⟩ (.int .i64 k)).setCell ⟨w.heap.size + 1, 1, none⟩ (.slice na nn nc)).setCell ⟨w.heap.size + 1, 2, none⟩ (.slice ra rn rc)).setCell ⟨w.heap.size + 1, 3, none⟩ (.slice ka kn kc) := ⟨_, rfl⟩
  have ho4 : ∀ q, q ≠ w.heap.size → q ≠ w.heap.size + 1 → W4.heap[q]? = w3.heap[q]? := fun q h1 h2 => by
    rw [hW4]; exact (heap_set4 _ _ _ _ _ h2).trans (put7_other _ _ _ _ _ _ _ _ h1)
  have hbw4 : BoxW 27 W4 w.heap.size nx (.slice a1 n1 c1) (.slice a2 n2 c2) (.slice a3 n3 c3) (.slice a4 n4 c4) (.slice a5 n5 c5) (.slice a6 n6 c6) := by rw [hW4]; exact (heap_set4 _ _ _ _ _ (by omega)).trans hbw
  have hby4 : BoxC W4 (w.heap.size + 1) (.int .i64 k) (.slice na nn nc) (.slice ra rn rc) (.slice ka kn kc) := by rw [hW4]; exact hby2
  have hsz4 : W4.heap.size = w3.heap.size := by rw [hW4]; simp [put7]
  have hk4 : W4.os = w3.os ∧ W4.tape = w3.tape ∧ W4.output = w3.output := by
    rw [hW4]
    have := put7_keep w3 w.heap.size (.int .i64 nx) (.slice a1 n1 c1) (.slice a2 n2 c2) (.slice a3 n3 c3) (.slice a4 n4 c4) (.slice a5 n5 c5) (.slice a6 n6 c6)
    simp only [setCell_os, setCell_tape, setCell_output]
    exact this
  have HF : Hid (DxP w (.returned (.tuple #[.agg #[.int .i64 nx, .slice a1 n1 c1, .slice a2 n2 c2, .slice a3 n3 c3, .slice a4 n4 c4, .slice a5 n5 c5, .slice a6 n6 c6], .agg #[.int .i64 k, .slice na nn nc, .slice ra rn rc, .slice ka kn kc]])) W4) := by
    have hb3 := HB3.out
    have hsm : Same w1.heap.size w3.heap.size w3 W4 := fun q h1 _ => ho4 q (by omega) (by omega)
    have hs4 : w3.heap.size ≤ W4.heap.size := Nat.le_of_eq hsz4.symm
    exact ⟨nx, a1, n1, c1, a2, n2, c2, a3, n3, c3, a4, n4, c4, a5, n5, c5, a6, n6, c6, x, _, c, rfl, HN.out.1, HN.out.2, (HRW3.out.same (hsm.mono (Nat.le_refl _) hs3)).mono (by omega) (by omega), (HR3.out.same (hsm.mono (by omega) (Nat.le_refl _))).mono (by omega) hs4, HK3.out, ⟨hk4.1.trans hb3.os, hk4.2.1.trans hb3.tape, hk4.2.2.trans hb3.output, Nat.le_trans hb3.size hs4, fun q hq => (ho4 q (by omega) (by omega)).trans (hb3.block q hq)⟩⟩
  obtain ⟨x0, x1, x2, x3, x4, x5, x6⟩ := hbw4.cells
  obtain ⟨t0, t1, t2, t3⟩ := hby4.cells
  clear hbw hby hby2 hbw4 hby4 hsz4 hk4 ho4
  rw [hW4] at x0 x1 x2 x3 x4 x5 x6 t0 t1 t2 t3 HF
  clear hW4
  simp only [put7] at x0 x1 x2 x3 x4 x5 x6 t0 t1 t2 t3 HF
  go_wp2
  refine bodyPost_ret (v := .tuple #[.agg #[.int .i64 nx, .slice a1 n1 c1, .slice a2 n2 c2, .slice a3 n3 c3, .slice a4 n4 c4, .slice a5 n5 c5, .slice a6 n6 c6], .agg #[.int .i64 k, .slice na nn nc, .slice ra rn rc, .slice ka kn kc]]) (by simp [results, Tryz.results6, go_sem, x0, x1, x2, x3, x4, x5, x6, t0, t1, t2, t3]) rfl ?_
  exact HF.out

end Go.Proofs.YtnmljalcndfjmaaGreat
