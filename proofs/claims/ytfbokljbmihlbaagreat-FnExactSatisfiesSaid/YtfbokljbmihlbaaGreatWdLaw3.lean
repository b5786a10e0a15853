/- The laws' own count, comparison and copy of a world. -/
import Derived.Test.YtfbokljbmihlbaaGreatNWdLaw
import Derived.Deep.DeepCutAuto
namespace Go.Proofs.YtfbokljbmihlbaaGreat
open Go.RowKit

/-- What is counted is not too much. -/
structure BdW (x : WD) (nn sn rn ln im tn : Nat) : Prop where
  n : nn ≤ 1048576 ∧ ∀ i, i < nn → (x.names.getD i []).length ≤ 1048576
  s : sn ≤ 1048576 ∧ ∀ i, i < sn → (x.sets.getD i []).length ≤ 1048576
  r : rn ≤ 1048576 ∧ ∀ i, i < rn → (x.roles.getD i []).length ≤ 1048576
  l : ln ≤ 1048576 ∧ ∀ i, i < ln → (x.rels.getD i []).length ≤ 1048576
  i : im ≤ 1048576 ∧ ∀ i, i < im → (x.inds.getD i []).length ≤ 1048576
  t : tn ≤ 1048576

set_option maxRecDepth 100000 in
set_option maxHeartbeats 2000000 in
theorem szW_any {na : Option Addr} {nn nc : Nat} {sa : Option Addr} {sn sc : Nat} {ra : Option Addr} {rn rc : Nat} {la : Option Addr} {ln lc : Nat} {ia : Option Addr} {im ic : Nat} {ta : Option Addr} {tn tc : Nat} {x : WD} {w : World} {lo hi : Nat} (h : RdW lo hi w na nn nc sa sn sc ra rn rc la ln lc ia im ic ta tn tc x) (hhi : hi ≤ w.heap.size) (nx : Int) :
    Calls Tryz.prog 5 #[.agg #[.int .i64 nx, .slice na nn nc, .slice sa sn sc, .slice ra rn rc, .slice la ln lc, .slice ia im ic, .slice ta tn tc], .int .i64 1048576] w fun e w' => ∃ r : Int, e = .returned (.int .i64 r) ∧ (¬ r < 0 → BdW x nn sn rn ln im tn ∧ r ≤ 1048576) ∧ Below w.heap.size w w' := by
  obtain ⟨W0, hW0⟩ : ∃ W0, W0 = w.alloc (.cells #[.int .i64 nx, .slice na nn nc, .slice sa sn sc, .slice ra rn rc, .slice la ln lc, .slice ia im ic, .slice ta tn tc] 26) := ⟨_, rfl⟩
  have HW0 : Hid (W0 = w.alloc (.cells #[.int .i64 nx, .slice na nn nc, .slice sa sn sc, .slice ra rn rc, .slice la ln lc, .slice ia im ic, .slice ta tn tc] 26)) := hW0
  have hb0 : Below w.heap.size w W0 := by rw [hW0]; exact (Below.refl _ _).alloc (Nat.le_refl _) _
  have HB0 : Hid (Below w.heap.size w W0) := hb0
  have hbx : BoxW 26 W0 w.heap.size nx (.slice na nn nc) (.slice sa sn sc) (.slice ra rn rc) (.slice la ln lc) (.slice ia im ic) (.slice ta tn tc) := by rw [hW0]; exact BoxW.new _ w _ _ _ _ _ _ _
  have HR : Hid (RdW lo hi W0 na nn nc sa sn sc ra rn rc la ln lc ia im ic ta tn tc x) := h.below hb0 hhi
  obtain ⟨z0, z1, z2, z3, z4, z5, z6⟩ := hbx.cells
  clear h hb0 hW0 hbx
  go_enter Tryz.func5, Tryz.ntmps5
  go_wp2_with fail
  rw [← HW0.out]
  refine (szByteSS_any na nn nc x.names 1048576 W0 HR.out.names (by omega) (by omega)).mono ?_
  rintro e w0 ⟨q0, rfl, hq0, hbd0, hw0⟩
  rw [hw0]
  clear hw0
  have HBd0 : Hid (¬ q0 < 0 → nn ≤ 1048576 ∧ ∀ i, i < nn → (x.names.getD i []).length ≤ 1048576) := hbd0
  clear hbd0
  by_cases hneg0 : q0 < 0
  · go_wp2_with fail
    go_ret
    exact ⟨-1, rfl, fun hh => by omega, HB0.out⟩
  · go_wp2_with fail
    refine (szBoolSS_any sa sn sc x.sets q0 W0 HR.out.sets (by omega) (by omega)).mono ?_
    rintro e w1 ⟨q1, rfl, hq1, hbd1, hw1⟩
    rw [hw1]
    clear hw1
    have HBd1 : Hid (¬ q1 < 0 → sn ≤ 1048576 ∧ ∀ i, i < sn → (x.sets.getD i []).length ≤ 1048576) := hbd1
    clear hbd1
    by_cases hneg1 : q1 < 0
    · go_wp2_with fail
      go_ret
      exact ⟨-1, rfl, fun hh => by omega, HB0.out⟩
    · go_wp2_with fail
      refine (szByteSS_any ra rn rc x.roles q1 W0 HR.out.roles (by omega) (by omega)).mono ?_
      rintro e w2 ⟨q2, rfl, hq2, hbd2, hw2⟩
      rw [hw2]
      clear hw2
      have HBd2 : Hid (¬ q2 < 0 → rn ≤ 1048576 ∧ ∀ i, i < rn → (x.roles.getD i []).length ≤ 1048576) := hbd2
      clear hbd2
      by_cases hneg2 : q2 < 0
      · go_wp2_with fail
        go_ret
        exact ⟨-1, rfl, fun hh => by omega, HB0.out⟩
      · go_wp2_with fail
        refine (szBoolSS_any la ln lc x.rels q2 W0 HR.out.rels (by omega) (by omega)).mono ?_
        rintro e w3 ⟨q3, rfl, hq3, hbd3, hw3⟩
        rw [hw3]
        clear hw3
        have HBd3 : Hid (¬ q3 < 0 → ln ≤ 1048576 ∧ ∀ i, i < ln → (x.rels.getD i []).length ≤ 1048576) := hbd3
        clear hbd3
        by_cases hneg3 : q3 < 0
        · go_wp2_with fail
          go_ret
          exact ⟨-1, rfl, fun hh => by omega, HB0.out⟩
        · go_wp2_with fail
          refine (szByteSS_any ia im ic x.inds q3 W0 HR.out.inds (by omega) (by omega)).mono ?_
          rintro e w4 ⟨q4, rfl, hq4, hbd4, hw4⟩
          rw [hw4]
          clear hw4
          have HBd4 : Hid (¬ q4 < 0 → im ≤ 1048576 ∧ ∀ i, i < im → (x.inds.getD i []).length ≤ 1048576) := hbd4
          clear hbd4
          by_cases hneg4 : q4 < 0
          · go_wp2_with fail
            go_ret
            exact ⟨-1, rfl, fun hh => by omega, HB0.out⟩
          · go_wp2_with fail
            obtain ⟨q5, hqq⟩ : ∃ q, q = szRes q4 tn := ⟨_, rfl⟩
            have HQ : Hid (q5 = szRes q4 tn) := hqq
            clear hqq
            refine (szIntS_any ta tn tc q4 W0 ⟨by omega, by omega⟩ (Nat.le_trans HR.out.at'.fits.1 HR.out.at'.fits.2)).mono ?_
            rintro e w5 ⟨rfl, hw5⟩
            rw [← HQ.out, hw5]
            clear hw5
            by_cases hneg5 : q5 < 0
            · go_wp2_with fail
              go_ret
              exact ⟨-1, rfl, fun hh => by omega, HB0.out⟩
            · have hq5 : q5 ≤ 1048576 := by
                have e := HQ.out
                unfold szRes at e
                split at e <;> omega
              have HT : Hid (tn ≤ 1048576) := by
                have e := HQ.out
                unfold szRes at e
                unfold Hid
                split at e <;> omega
              go_wp2_with fail
              go_ret
              exact ⟨q5, rfl, fun _ => ⟨⟨HBd0.out hneg0, HBd1.out hneg1, HBd2.out hneg2, HBd3.out hneg3, HBd4.out hneg4, HT.out⟩, hq5⟩, HB0.out⟩

set_option maxRecDepth 100000 in
set_option maxHeartbeats 2000000 in
theorem eqW_any {na : Option Addr} {nn nc : Nat} {sa : Option Addr} {sn sc : Nat} {ra : Option Addr} {rn rc : Nat} {la : Option Addr} {ln lc : Nat} {ia : Option Addr} {im ic : Nat} {ta : Option Addr} {tn tc : Nat} {x : WD} {na' : Option Addr} {nc' : Nat} {sa' : Option Addr} {sc' : Nat} {ra' : Option Addr} {rc' : Nat} {la' : Option Addr} {lc' : Nat} {ia' : Option Addr} {ic' : Nat} {ta' : Option Addr} {tc' : Nat} {w : World} {lo hi lo' hi' : Nat} (h : RdW lo hi w na nn nc sa sn sc ra rn rc la ln lc ia im ic ta tn tc x) (h' : RdW lo' hi' w na' nn nc' sa' sn sc' ra' rn rc' la' ln lc' ia' im ic' ta' tn tc' x) (hhi : hi ≤ w.heap.size) (hhi' : hi' ≤ w.heap.size) (nx : Int) :
    Calls Tryz.prog 11 #[.agg #[.int .i64 nx, .slice na nn nc, .slice sa sn sc, .slice ra rn rc, .slice la ln lc, .slice ia im ic, .slice ta tn tc], .agg #[.int .i64 nx, .slice na' nn nc', .slice sa' sn sc', .slice ra' rn rc', .slice la' ln lc', .slice ia' im ic', .slice ta' tn tc']] w fun e w' => e = .returned (.bool true) ∧ Below w.heap.size w w' := by
  obtain ⟨W0, hW0⟩ : ∃ W0, W0 = (w.alloc (.cells #[.int .i64 nx, .slice na nn nc, .slice sa sn sc, .slice ra rn rc, .slice la ln lc, .slice ia im ic, .slice ta tn tc] 36)).alloc (.cells #[.int .i64 nx, .slice na' nn nc', .slice sa' sn sc', .slice ra' rn rc', .slice la' ln lc', .slice ia' im ic', .slice ta' tn tc'] 36) := ⟨_, rfl⟩
  have HW0 : Hid (W0 = (w.alloc (.cells #[.int .i64 nx, .slice na nn nc, .slice sa sn sc, .slice ra rn rc, .slice la ln lc, .slice ia im ic, .slice ta tn tc] 36)).alloc (.cells #[.int .i64 nx, .slice na' nn nc', .slice sa' sn sc', .slice ra' rn rc', .slice la' ln lc', .slice ia' im ic', .slice ta' tn tc'] 36)) := hW0
  have hb0 : Below w.heap.size w W0 := by rw [hW0]; exact ((Below.refl _ _).alloc (Nat.le_refl _) _).alloc (by simp) _
  have HB0 : Hid (Below w.heap.size w W0) := hb0
  have hs0 : W0.heap.size = w.heap.size + 1 + 1 := by rw [hW0]; simp
  have hbx : BoxW 36 W0 w.heap.size nx (.slice na nn nc) (.slice sa sn sc) (.slice ra rn rc) (.slice la ln lc) (.slice ia im ic) (.slice ta tn tc) := by rw [hW0]; exact (BoxW.new _ w _ _ _ _ _ _ _).below ((Below.refl _ _).alloc (Nat.le_refl _) _) (by simp)
  have hby : BoxW 36 W0 (w.heap.size + 1) nx (.slice na' nn nc') (.slice sa' sn sc') (.slice ra' rn rc') (.slice la' ln lc') (.slice ia' im ic') (.slice ta' tn tc') := by
    rw [hW0]
    have := BoxW.new 36 (w.alloc (.cells #[.int .i64 nx, .slice na nn nc, .slice sa sn sc, .slice ra rn rc, .slice la ln lc, .slice ia im ic, .slice ta tn tc] 36)) nx (.slice na' nn nc') (.slice sa' sn sc') (.slice ra' rn rc') (.slice la' ln lc') (.slice ia' im ic') (.slice ta' tn tc')
    rwa [World.size_alloc] at this
  have HR : Hid (∀ W, Below W0.heap.size W0 W → RdW lo hi W na nn nc sa sn sc ra rn rc la ln lc ia im ic ta tn tc x) := fun W hW => (h.below hb0 hhi).below hW (by omega)
  have HR' : Hid (∀ W, Below W0.heap.size W0 W → RdW lo' hi' W na' nn nc' sa' sn sc' ra' rn rc' la' ln lc' ia' im ic' ta' tn tc' x) := fun W hW => (h'.below hb0 hhi').below hW (by omega)
  have HX : Hid (∀ W, Below W0.heap.size W0 W → BoxW 36 W w.heap.size nx (.slice na nn nc) (.slice sa sn sc) (.slice ra rn rc) (.slice la ln lc) (.slice ia im ic) (.slice ta tn tc)) := fun W hW => hbx.below hW hbx.lt
  have HY : Hid (∀ W, Below W0.heap.size W0 W → BoxW 36 W (w.heap.size + 1) nx (.slice na' nn nc') (.slice sa' sn sc') (.slice ra' rn rc') (.slice la' ln lc') (.slice ia' im ic') (.slice ta' tn tc')) := fun W hW => hby.below hW hby.lt
  have HRf : Hid (Below W0.heap.size W0 W0) := Below.refl _ _
  have hnx : (nx != nx) = false := by simp
  obtain ⟨z0, z1, z2, z3, z4, z5, z6⟩ := hbx.cells
  obtain ⟨y0, y1, y2, y3, y4, y5, y6⟩ := hby.cells
  clear h h' hb0 hW0 hbx hby
  go_enter Tryz.func11, Tryz.ntmps11
  go_upto_region 1 with fail
  rw [← HW0.out]
  go_wp2_with fail
  refine (eqByteSS_any na na' nn nc nc' x.names W0 (HR.out _ HRf.out).names (HR'.out _ HRf.out).names (by have := HRf.out.size; omega) (by have := HRf.out.size; omega)).mono ?_
  rintro e w0 ⟨rfl, hb0⟩
  have HC0 : Hid (Below W0.heap.size W0 w0) := HRf.out.trans (hb0.mono HRf.out.size)
  clear hb0
  clear z0 z1 z2 z3 z4 z5 z6 y0 y1 y2 y3 y4 y5 y6
  obtain ⟨z0, z1, z2, z3, z4, z5, z6⟩ := (HX.out _ HC0.out).cells
  obtain ⟨y0, y1, y2, y3, y4, y5, y6⟩ := (HY.out _ HC0.out).cells
  go_wp2_with fail
  refine (eqBoolSS_any sa sa' sn sc sc' x.sets w0 (HR.out _ HC0.out).sets (HR'.out _ HC0.out).sets (by have := HC0.out.size; omega) (by have := HC0.out.size; omega)).mono ?_
  rintro e w1 ⟨rfl, hb1⟩
  have HC1 : Hid (Below W0.heap.size W0 w1) := HC0.out.trans (hb1.mono HC0.out.size)
  clear hb1
  clear z0 z1 z2 z3 z4 z5 z6 y0 y1 y2 y3 y4 y5 y6
  obtain ⟨z0, z1, z2, z3, z4, z5, z6⟩ := (HX.out _ HC1.out).cells
  obtain ⟨y0, y1, y2, y3, y4, y5, y6⟩ := (HY.out _ HC1.out).cells
  go_wp2_with fail
  refine (eqByteSS_any ra ra' rn rc rc' x.roles w1 (HR.out _ HC1.out).roles (HR'.out _ HC1.out).roles (by have := HC1.out.size; omega) (by have := HC1.out.size; omega)).mono ?_
  rintro e w2 ⟨rfl, hb2⟩
  have HC2 : Hid (Below W0.heap.size W0 w2) := HC1.out.trans (hb2.mono HC1.out.size)
  clear hb2
  clear z0 z1 z2 z3 z4 z5 z6 y0 y1 y2 y3 y4 y5 y6
  obtain ⟨z0, z1, z2, z3, z4, z5, z6⟩ := (HX.out _ HC2.out).cells
  obtain ⟨y0, y1, y2, y3, y4, y5, y6⟩ := (HY.out _ HC2.out).cells
  go_wp2_with fail
  refine (eqBoolSS_any la la' ln lc lc' x.rels w2 (HR.out _ HC2.out).rels (HR'.out _ HC2.out).rels (by have := HC2.out.size; omega) (by have := HC2.out.size; omega)).mono ?_
  rintro e w3 ⟨rfl, hb3⟩
  have HC3 : Hid (Below W0.heap.size W0 w3) := HC2.out.trans (hb3.mono HC2.out.size)
  clear hb3
  clear z0 z1 z2 z3 z4 z5 z6 y0 y1 y2 y3 y4 y5 y6
  obtain ⟨z0, z1, z2, z3, z4, z5, z6⟩ := (HX.out _ HC3.out).cells
  obtain ⟨y0, y1, y2, y3, y4, y5, y6⟩ := (HY.out _ HC3.out).cells
  go_wp2_with fail
  refine (eqByteSS_any ia ia' im ic ic' x.inds w3 (HR.out _ HC3.out).inds (HR'.out _ HC3.out).inds (by have := HC3.out.size; omega) (by have := HC3.out.size; omega)).mono ?_
  rintro e w4 ⟨rfl, hb4⟩
  have HC4 : Hid (Below W0.heap.size W0 w4) := HC3.out.trans (hb4.mono HC3.out.size)
  clear hb4
  clear z0 z1 z2 z3 z4 z5 z6 y0 y1 y2 y3 y4 y5 y6
  obtain ⟨z0, z1, z2, z3, z4, z5, z6⟩ := (HX.out _ HC4.out).cells
  obtain ⟨y0, y1, y2, y3, y4, y5, y6⟩ := (HY.out _ HC4.out).cells
  go_wp2_with fail
  refine (eqIntS_any ta ta' tn tc tc' x.at' w4 (HR.out _ HC4.out).at' (HR'.out _ HC4.out).at').mono ?_
  rintro e w5 ⟨rfl, nd, hwn⟩
  have HC5 : Hid (Below W0.heap.size W0 w5) := by unfold Hid; rw [hwn]; exact below_drewN HC4.out nd
  clear hwn
  clear z0 z1 z2 z3 z4 z5 z6 y0 y1 y2 y3 y4 y5 y6
  obtain ⟨z0, z1, z2, z3, z4, z5, z6⟩ := (HX.out _ HC5.out).cells
  obtain ⟨y0, y1, y2, y3, y4, y5, y6⟩ := (HY.out _ HC5.out).cells
  go_wp2_with fail
  go_ret
  exact ⟨rfl, HB0.out.trans (HC5.out.mono (by omega))⟩

def set7 (W : World) (p : Nat) (v0 v1 v2 v3 v4 v5 v6 : Value) : World := ((((((W.setCell ⟨p, 0, none⟩ v0).setCell ⟨p, 1, none⟩ v1).setCell ⟨p, 2, none⟩ v2).setCell ⟨p, 3, none⟩ v3).setCell ⟨p, 4, none⟩ v4).setCell ⟨p, 5, none⟩ v5).setCell ⟨p, 6, none⟩ v6

theorem heap_set7 (W : World) {b p : Nat} (v0 v1 v2 v3 v4 v5 v6 : Value) (hb : b ≠ p) : (set7 W p v0 v1 v2 v3 v4 v5 v6).heap[b]? = W.heap[b]? := by
  unfold set7
  rw [Below.heap_setCell _ ⟨p, 6, none⟩ _ b hb, Below.heap_setCell _ ⟨p, 5, none⟩ _ b hb, Below.heap_setCell _ ⟨p, 4, none⟩ _ b hb, Below.heap_setCell _ ⟨p, 3, none⟩ _ b hb, Below.heap_setCell _ ⟨p, 2, none⟩ _ b hb, Below.heap_setCell _ ⟨p, 1, none⟩ _ b hb, Below.heap_setCell _ ⟨p, 0, none⟩ _ b hb]

theorem size_set7 (W : World) (p : Nat) (v0 v1 v2 v3 v4 v5 v6 : Value) : (set7 W p v0 v1 v2 v3 v4 v5 v6).heap.size = W.heap.size := by unfold set7; simp

theorem below_set7 {B : Nat} {w W : World} (h : Below B w W) {p : Nat} (hp : B ≤ p) (v0 v1 v2 v3 v4 v5 v6 : Value) : Below B w (set7 W p v0 v1 v2 v3 v4 v5 v6) := by
  unfold set7
  exact ((((((h.setCell (p := ⟨p, 0, none⟩) hp _).setCell (p := ⟨p, 1, none⟩) hp _).setCell (p := ⟨p, 2, none⟩) hp _).setCell (p := ⟨p, 3, none⟩) hp _).setCell (p := ⟨p, 4, none⟩) hp _).setCell (p := ⟨p, 5, none⟩) hp _).setCell (p := ⟨p, 6, none⟩) hp _

theorem BoxW.set7 {t : Nat} {W : World} {p : Nat} {n : Int} {v1 v2 v3 v4 v5 v6 : Value} (h : BoxW t W p n v1 v2 v3 v4 v5 v6) (n' : Int) (u1 u2 u3 u4 u5 u6 : Value) : BoxW t (set7 W p (.int .i64 n') u1 u2 u3 u4 u5 u6) p n' u1 u2 u3 u4 u5 u6 := by
  unfold Go.Proofs.YtfbokljbmihlbaaGreat.set7
  have h0 : BoxW t (W.setCell ⟨p, 0, none⟩ (.int .i64 n')) p n' v1 v2 v3 v4 v5 v6 := h.at 0 _
  have h1 : BoxW t _ p n' u1 v2 v3 v4 v5 v6 := h0.at 1 u1
  have h2 : BoxW t _ p n' u1 u2 v3 v4 v5 v6 := h1.at 2 u2
  have h3 : BoxW t _ p n' u1 u2 u3 v4 v5 v6 := h2.at 3 u3
  have h4 : BoxW t _ p n' u1 u2 u3 u4 v5 v6 := h3.at 4 u4
  have h5 : BoxW t _ p n' u1 u2 u3 u4 u5 v6 := h4.at 5 u5
  exact h5.at 6 u6

set_option maxRecDepth 100000 in
set_option maxHeartbeats 4000000 in
theorem toW_any {na : Option Addr} {nn nc : Nat} {sa : Option Addr} {sn sc : Nat} {ra : Option Addr} {rn rc : Nat} {la : Option Addr} {ln lc : Nat} {ia : Option Addr} {im ic : Nat} {ta : Option Addr} {tn tc : Nat} {x : WD} {w : World} {lo hi : Nat} (h : RdW lo hi w na nn nc sa sn sc ra rn rc la ln lc ia im ic ta tn tc x) (hhi : hi ≤ w.heap.size) (hbd : BdW x nn sn rn ln im tn) (nx : Int) :
    Calls Tryz.prog 8 #[.agg #[.int .i64 nx, .slice na nn nc, .slice sa sn sc, .slice ra rn rc, .slice la ln lc, .slice ia im ic, .slice ta tn tc]] w fun e w' => ∃ g0 g1 g2 g3 g4 g5, e = .returned (.agg #[.int .i64 nx, .slice (some ⟨g0, 0, none⟩) nn nn, .slice (some ⟨g1, 0, none⟩) sn sn, .slice (some ⟨g2, 0, none⟩) rn rn, .slice (some ⟨g3, 0, none⟩) ln ln, .slice (some ⟨g4, 0, none⟩) im im, .slice (some ⟨g5, 0, none⟩) tn tn]) ∧ RdW w.heap.size w'.heap.size w' (some ⟨g0, 0, none⟩) nn nn (some ⟨g1, 0, none⟩) sn sn (some ⟨g2, 0, none⟩) rn rn (some ⟨g3, 0, none⟩) ln ln (some ⟨g4, 0, none⟩) im im (some ⟨g5, 0, none⟩) tn tn x ∧ Below w.heap.size w w' := by
  obtain ⟨W1, hW1⟩ : ∃ W1, W1 = ((w.alloc (.cells #[.int .i64 nx, .slice na nn nc, .slice sa sn sc, .slice ra rn rc, .slice la ln lc, .slice ia im ic, .slice ta tn tc] 26)).alloc (.cells #[.int .i64 0, .slice none 0 0, .slice none 0 0, .slice none 0 0, .slice none 0 0, .slice none 0 0, .slice none 0 0] 36)).alloc (.cells #[.int .i64 nx, .slice none 0 0, .slice none 0 0, .slice none 0 0, .slice none 0 0, .slice none 0 0, .slice none 0 0] 36) := ⟨_, rfl⟩
  have HW1 : Hid (W1 = ((w.alloc (.cells #[.int .i64 nx, .slice na nn nc, .slice sa sn sc, .slice ra rn rc, .slice la ln lc, .slice ia im ic, .slice ta tn tc] 26)).alloc (.cells #[.int .i64 0, .slice none 0 0, .slice none 0 0, .slice none 0 0, .slice none 0 0, .slice none 0 0, .slice none 0 0] 36)).alloc (.cells #[.int .i64 nx, .slice none 0 0, .slice none 0 0, .slice none 0 0, .slice none 0 0, .slice none 0 0, .slice none 0 0] 36)) := hW1
  have hs1 : W1.heap.size = w.heap.size + 3 := by rw [hW1]; simp
  have hb0 : Below w.heap.size w W1 := by rw [hW1]; exact (((Below.refl _ _).alloc (Nat.le_refl _) _).alloc (by simp) _).alloc (by simp; omega) _
  have HB0 : Hid (Below w.heap.size w W1) := hb0
  have hlx : BoxW 26 W1 w.heap.size nx (.slice na nn nc) (.slice sa sn sc) (.slice ra rn rc) (.slice la ln lc) (.slice ia im ic) (.slice ta tn tc) := by rw [hW1]; exact ((BoxW.new _ w _ _ _ _ _ _ _).below ((Below.refl _ _).alloc (Nat.le_refl _) _) (by simp)).below ((Below.refl _ _).alloc (Nat.le_refl _) _) (by simp; omega)
  have hrx : BoxW 36 W1 (w.heap.size + 1) 0 (.slice none 0 0) (.slice none 0 0) (.slice none 0 0) (.slice none 0 0) (.slice none 0 0) (.slice none 0 0) := by
    rw [hW1]
    have := BoxW.new 36 (w.alloc (.cells #[.int .i64 nx, .slice na nn nc, .slice sa sn sc, .slice ra rn rc, .slice la ln lc, .slice ia im ic, .slice ta tn tc] 26)) 0 (.slice none 0 0) (.slice none 0 0) (.slice none 0 0) (.slice none 0 0) (.slice none 0 0) (.slice none 0 0)
    rw [World.size_alloc] at this
    exact this.below ((Below.refl _ _).alloc (Nat.le_refl _) _) (by simp)
  have hox : BoxW 36 W1 (w.heap.size + 1 + 1) nx (.slice none 0 0) (.slice none 0 0) (.slice none 0 0) (.slice none 0 0) (.slice none 0 0) (.slice none 0 0) := by
    rw [hW1]
    have := BoxW.new 36 ((w.alloc (.cells #[.int .i64 nx, .slice na nn nc, .slice sa sn sc, .slice ra rn rc, .slice la ln lc, .slice ia im ic, .slice ta tn tc] 26)).alloc (.cells #[.int .i64 0, .slice none 0 0, .slice none 0 0, .slice none 0 0, .slice none 0 0, .slice none 0 0, .slice none 0 0] 36)) nx (.slice none 0 0) (.slice none 0 0) (.slice none 0 0) (.slice none 0 0) (.slice none 0 0) (.slice none 0 0)
    rwa [World.size_alloc, World.size_alloc] at this
  have HLx : Hid (∀ W, Below (w.heap.size + 2) W1 W → BoxW 26 W w.heap.size nx (.slice na nn nc) (.slice sa sn sc) (.slice ra rn rc) (.slice la ln lc) (.slice ia im ic) (.slice ta tn tc)) := fun W hW => hlx.below hW (by omega)
  have HRx : Hid (∀ W, Below (w.heap.size + 2) W1 W → BoxW 36 W (w.heap.size + 1) 0 (.slice none 0 0) (.slice none 0 0) (.slice none 0 0) (.slice none 0 0) (.slice none 0 0) (.slice none 0 0)) := fun W hW => hrx.below hW (by omega)
  have HOx0 : Hid (BoxW 36 W1 (w.heap.size + 1 + 1) nx (.slice none 0 0) (.slice none 0 0) (.slice none 0 0) (.slice none 0 0) (.slice none 0 0) (.slice none 0 0)) := hox
  have HS1 : Hid (W1.heap.size = w.heap.size + 3) := hs1
  have HRd : Hid (∀ W, Below (w.heap.size + 2) W1 W → RdW lo hi W na nn nc sa sn sc ra rn rc la ln lc ia im ic ta tn tc x ∧ hi ≤ W.heap.size) := fun W hW => ⟨(h.below hb0 hhi).below hW (by omega), Nat.le_trans (Nat.le_trans hhi hb0.size) hW.size⟩
  have HBd : Hid (BdW x nn sn rn ln im tn) := hbd
  have HU0 : Hid (Below (w.heap.size + 2) W1 W1) := Below.refl _ _
  obtain ⟨z0, z1, z2, z3, z4, z5, z6⟩ := hlx.cells
  have hne0 : w.heap.size ≠ w.heap.size + 1 + 1 := by omega
  clear h hb0 hW1 hlx hrx hox hbd hs1
  go_enter Tryz.func8, Tryz.ntmps8
  go_upto_region 3 with fail
  rw [← HW1.out]
  go_wp2_with fail
  refine (toByteSS_any na nn nc x.names W1 (HRd.out _ HU0.out).1.names (HRd.out _ HU0.out).2 HBd.out.n.1 HBd.out.n.2).mono ?_
  rintro e v1 ⟨rfl, hrd0, hb0⟩
  obtain ⟨g0, hg0⟩ : ∃ g, g = W1.heap.size := ⟨_, rfl⟩
  rw [← hg0] at hrd0 ⊢
  have hsb0 := hb0.size
  have hu0 := HU0.out.size
  have hox0 := HOx0.out.below hb0 HOx0.out.lt
  obtain ⟨o0, o1, o2, o3, o4, o5, o6⟩ := hox0.cells
  have gf := hox0.frz 1
  obtain ⟨U1, hE⟩ : ∃ U, U = v1.setCell ⟨w.heap.size + 1 + 1, 1, none⟩ (.slice (some ⟨g0, 0, none⟩) nn nn) := ⟨_, rfl⟩
  have HE1 : Hid (U1 = v1.setCell ⟨w.heap.size + 1 + 1, 1, none⟩ (.slice (some ⟨g0, 0, none⟩) nn nn)) := hE
  have HOx1 : Hid (BoxW 36 U1 (w.heap.size + 1 + 1) nx (.slice (some ⟨g0, 0, none⟩) nn nn) (.slice none 0 0) (.slice none 0 0) (.slice none 0 0) (.slice none 0 0) (.slice none 0 0)) := by unfold Hid; rw [hE]; exact hox0.at 1 _
  have hsU : U1.heap.size = v1.heap.size := by rw [hE]; simp
  have HV0 : Hid (Below (w.heap.size + 2) W1 v1) := HU0.out.trans (hb0.mono (by have := HS1.out; omega))
  have HU1 : Hid (Below (w.heap.size + 2) W1 U1) := by unfold Hid; rw [hE]; exact HV0.out.setCell (by show w.heap.size + 2 ≤ w.heap.size + 1 + 1; omega) _
  have hsm : Same W1.heap.size v1.heap.size v1 U1 := by
    rw [hE]
    have hp := HS1.out
    exact fun b h1 _ => Below.heap_setCell v1 ⟨w.heap.size + 1 + 1, 1, none⟩ _ b (by show b ≠ w.heap.size + 1 + 1; omega)
  have HG0 : Hid (RSS W1.heap.size U1.heap.size U1 (some ⟨g0, 0, none⟩) nn nn x.names) := by
    have hp := HS1.out
    rw [Hid, hsU]
    exact (hrd0.mono (by omega) (Nat.le_refl _)).same hsm
  clear hrd0 hb0 hox0 hE hsm hg0 z0 z1 z2 z3 z4 z5 z6
  obtain ⟨z0, z1, z2, z3, z4, z5, z6⟩ := (HLx.out _ HV0.out).cells
  have hk0 := hsU
  clear hsU
  go_wp2_with fail
  rw [← HE1.out]
  refine (toBoolSS_any sa sn sc x.sets U1 (HRd.out _ HU1.out).1.sets (HRd.out _ HU1.out).2 HBd.out.s.1 HBd.out.s.2).mono ?_
  rintro e v2 ⟨rfl, hrd1, hb1⟩
  obtain ⟨g1, hg1⟩ : ∃ g, g = U1.heap.size := ⟨_, rfl⟩
  rw [← hg1] at hrd1 ⊢
  have hsb1 := hb1.size
  have hu1 := HU1.out.size
  clear o0 o1 o2 o3 o4 o5 o6 gf
  have hox1 := HOx1.out.below hb1 HOx1.out.lt
  obtain ⟨o0, o1, o2, o3, o4, o5, o6⟩ := hox1.cells
  have gf := hox1.frz 2
  obtain ⟨U2, hE⟩ : ∃ U, U = v2.setCell ⟨w.heap.size + 1 + 1, 2, none⟩ (.slice (some ⟨g1, 0, none⟩) sn sn) := ⟨_, rfl⟩
  have HE2 : Hid (U2 = v2.setCell ⟨w.heap.size + 1 + 1, 2, none⟩ (.slice (some ⟨g1, 0, none⟩) sn sn)) := hE
  have HOx2 : Hid (BoxW 36 U2 (w.heap.size + 1 + 1) nx (.slice (some ⟨g0, 0, none⟩) nn nn) (.slice (some ⟨g1, 0, none⟩) sn sn) (.slice none 0 0) (.slice none 0 0) (.slice none 0 0) (.slice none 0 0)) := by unfold Hid; rw [hE]; exact hox1.at 2 _
  have hsU : U2.heap.size = v2.heap.size := by rw [hE]; simp
  have HV1 : Hid (Below (w.heap.size + 2) W1 v2) := HU1.out.trans (hb1.mono (by have := HS1.out; omega))
  have HU2 : Hid (Below (w.heap.size + 2) W1 U2) := by unfold Hid; rw [hE]; exact HV1.out.setCell (by show w.heap.size + 2 ≤ w.heap.size + 1 + 1; omega) _
  have hsm : Same W1.heap.size v2.heap.size v2 U2 := by
    rw [hE]
    have hp := HS1.out
    exact fun b h1 _ => Below.heap_setCell v2 ⟨w.heap.size + 1 + 1, 2, none⟩ _ b (by show b ≠ w.heap.size + 1 + 1; omega)
  have HG1 : Hid (RSS W1.heap.size U2.heap.size U2 (some ⟨g0, 0, none⟩) nn nn x.names ∧ RFF W1.heap.size U2.heap.size U2 (some ⟨g1, 0, none⟩) sn sn x.sets) := by
    have hp := HS1.out
    rw [Hid, hsU]
    exact ⟨((HG0.out.same (Same.of_below hb1 (Nat.le_refl _))).mono (Nat.le_refl _) hb1.size).same hsm, (hrd1.mono (by omega) (Nat.le_refl _)).same hsm⟩
  clear hrd1 hb1 hox1 hE hsm hg1 z0 z1 z2 z3 z4 z5 z6
  obtain ⟨z0, z1, z2, z3, z4, z5, z6⟩ := (HLx.out _ HV1.out).cells
  have hk1 := hsU
  clear hsU
  go_wp2_with fail
  rw [← HE2.out]
  refine (toByteSS_any ra rn rc x.roles U2 (HRd.out _ HU2.out).1.roles (HRd.out _ HU2.out).2 HBd.out.r.1 HBd.out.r.2).mono ?_
  rintro e v3 ⟨rfl, hrd2, hb2⟩
  obtain ⟨g2, hg2⟩ : ∃ g, g = U2.heap.size := ⟨_, rfl⟩
  rw [← hg2] at hrd2 ⊢
  have hsb2 := hb2.size
  have hu2 := HU2.out.size
  clear o0 o1 o2 o3 o4 o5 o6 gf
  have hox2 := HOx2.out.below hb2 HOx2.out.lt
  obtain ⟨o0, o1, o2, o3, o4, o5, o6⟩ := hox2.cells
  have gf := hox2.frz 3
  obtain ⟨U3, hE⟩ : ∃ U, U = v3.setCell ⟨w.heap.size + 1 + 1, 3, none⟩ (.slice (some ⟨g2, 0, none⟩) rn rn) := ⟨_, rfl⟩
  have HE3 : Hid (U3 = v3.setCell ⟨w.heap.size + 1 + 1, 3, none⟩ (.slice (some ⟨g2, 0, none⟩) rn rn)) := hE
  have HOx3 : Hid (BoxW 36 U3 (w.heap.size + 1 + 1) nx (.slice (some ⟨g0, 0, none⟩) nn nn) (.slice (some ⟨g1, 0, none⟩) sn sn) (.slice (some ⟨g2, 0, none⟩) rn rn) (.slice none 0 0) (.slice none 0 0) (.slice none 0 0)) := by unfold Hid; rw [hE]; exact hox2.at 3 _
  have hsU : U3.heap.size = v3.heap.size := by rw [hE]; simp
  have HV2 : Hid (Below (w.heap.size + 2) W1 v3) := HU2.out.trans (hb2.mono (by have := HS1.out; omega))
  have HU3 : Hid (Below (w.heap.size + 2) W1 U3) := by unfold Hid; rw [hE]; exact HV2.out.setCell (by show w.heap.size + 2 ≤ w.heap.size + 1 + 1; omega) _
  have hsm : Same W1.heap.size v3.heap.size v3 U3 := by
    rw [hE]
    have hp := HS1.out
    exact fun b h1 _ => Below.heap_setCell v3 ⟨w.heap.size + 1 + 1, 3, none⟩ _ b (by show b ≠ w.heap.size + 1 + 1; omega)
  have HG2 : Hid (RSS W1.heap.size U3.heap.size U3 (some ⟨g0, 0, none⟩) nn nn x.names ∧ RFF W1.heap.size U3.heap.size U3 (some ⟨g1, 0, none⟩) sn sn x.sets ∧ RSS W1.heap.size U3.heap.size U3 (some ⟨g2, 0, none⟩) rn rn x.roles) := by
    have hp := HS1.out
    rw [Hid, hsU]
    exact ⟨((HG1.out.1.same (Same.of_below hb2 (Nat.le_refl _))).mono (Nat.le_refl _) hb2.size).same hsm, ((HG1.out.2.same (Same.of_below hb2 (Nat.le_refl _))).mono (Nat.le_refl _) hb2.size).same hsm, (hrd2.mono (by omega) (Nat.le_refl _)).same hsm⟩
  clear hrd2 hb2 hox2 hE hsm hg2 z0 z1 z2 z3 z4 z5 z6
  obtain ⟨z0, z1, z2, z3, z4, z5, z6⟩ := (HLx.out _ HV2.out).cells
  have hk2 := hsU
  clear hsU
  go_wp2_with fail
  rw [← HE3.out]
  refine (toBoolSS_any la ln lc x.rels U3 (HRd.out _ HU3.out).1.rels (HRd.out _ HU3.out).2 HBd.out.l.1 HBd.out.l.2).mono ?_
  rintro e v4 ⟨rfl, hrd3, hb3⟩
  obtain ⟨g3, hg3⟩ : ∃ g, g = U3.heap.size := ⟨_, rfl⟩
  rw [← hg3] at hrd3 ⊢
  have hsb3 := hb3.size
  have hu3 := HU3.out.size
  clear o0 o1 o2 o3 o4 o5 o6 gf
  have hox3 := HOx3.out.below hb3 HOx3.out.lt
  obtain ⟨o0, o1, o2, o3, o4, o5, o6⟩ := hox3.cells
  have gf := hox3.frz 4
  obtain ⟨U4, hE⟩ : ∃ U, U = v4.setCell ⟨w.heap.size + 1 + 1, 4, none⟩ (.slice (some ⟨g3, 0, none⟩) ln ln) := ⟨_, rfl⟩
  have HE4 : Hid (U4 = v4.setCell ⟨w.heap.size + 1 + 1, 4, none⟩ (.slice (some ⟨g3, 0, none⟩) ln ln)) := hE
  have HOx4 : Hid (BoxW 36 U4 (w.heap.size + 1 + 1) nx (.slice (some ⟨g0, 0, none⟩) nn nn) (.slice (some ⟨g1, 0, none⟩) sn sn) (.slice (some ⟨g2, 0, none⟩) rn rn) (.slice (some ⟨g3, 0, none⟩) ln ln) (.slice none 0 0) (.slice none 0 0)) := by unfold Hid; rw [hE]; exact hox3.at 4 _
  have hsU : U4.heap.size = v4.heap.size := by rw [hE]; simp
  have HV3 : Hid (Below (w.heap.size + 2) W1 v4) := HU3.out.trans (hb3.mono (by have := HS1.out; omega))
  have HU4 : Hid (Below (w.heap.size + 2) W1 U4) := by unfold Hid; rw [hE]; exact HV3.out.setCell (by show w.heap.size + 2 ≤ w.heap.size + 1 + 1; omega) _
  have hsm : Same W1.heap.size v4.heap.size v4 U4 := by
    rw [hE]
    have hp := HS1.out
    exact fun b h1 _ => Below.heap_setCell v4 ⟨w.heap.size + 1 + 1, 4, none⟩ _ b (by show b ≠ w.heap.size + 1 + 1; omega)
  have HG3 : Hid (RSS W1.heap.size U4.heap.size U4 (some ⟨g0, 0, none⟩) nn nn x.names ∧ RFF W1.heap.size U4.heap.size U4 (some ⟨g1, 0, none⟩) sn sn x.sets ∧ RSS W1.heap.size U4.heap.size U4 (some ⟨g2, 0, none⟩) rn rn x.roles ∧ RFF W1.heap.size U4.heap.size U4 (some ⟨g3, 0, none⟩) ln ln x.rels) := by
    have hp := HS1.out
    rw [Hid, hsU]
    exact ⟨((HG2.out.1.same (Same.of_below hb3 (Nat.le_refl _))).mono (Nat.le_refl _) hb3.size).same hsm, ((HG2.out.2.1.same (Same.of_below hb3 (Nat.le_refl _))).mono (Nat.le_refl _) hb3.size).same hsm, ((HG2.out.2.2.same (Same.of_below hb3 (Nat.le_refl _))).mono (Nat.le_refl _) hb3.size).same hsm, (hrd3.mono (by omega) (Nat.le_refl _)).same hsm⟩
  clear hrd3 hb3 hox3 hE hsm hg3 z0 z1 z2 z3 z4 z5 z6
  obtain ⟨z0, z1, z2, z3, z4, z5, z6⟩ := (HLx.out _ HV3.out).cells
  have hk3 := hsU
  clear hsU
  go_wp2_with fail
  rw [← HE4.out]
  refine (toByteSS_any ia im ic x.inds U4 (HRd.out _ HU4.out).1.inds (HRd.out _ HU4.out).2 HBd.out.i.1 HBd.out.i.2).mono ?_
  rintro e v5 ⟨rfl, hrd4, hb4⟩
  obtain ⟨g4, hg4⟩ : ∃ g, g = U4.heap.size := ⟨_, rfl⟩
  rw [← hg4] at hrd4 ⊢
  have hsb4 := hb4.size
  have hu4 := HU4.out.size
  clear o0 o1 o2 o3 o4 o5 o6 gf
  have hox4 := HOx4.out.below hb4 HOx4.out.lt
  obtain ⟨o0, o1, o2, o3, o4, o5, o6⟩ := hox4.cells
  have gf := hox4.frz 5
  obtain ⟨U5, hE⟩ : ∃ U, U = v5.setCell ⟨w.heap.size + 1 + 1, 5, none⟩ (.slice (some ⟨g4, 0, none⟩) im im) := ⟨_, rfl⟩
  have HE5 : Hid (U5 = v5.setCell ⟨w.heap.size + 1 + 1, 5, none⟩ (.slice (some ⟨g4, 0, none⟩) im im)) := hE
  have HOx5 : Hid (BoxW 36 U5 (w.heap.size + 1 + 1) nx (.slice (some ⟨g0, 0, none⟩) nn nn) (.slice (some ⟨g1, 0, none⟩) sn sn) (.slice (some ⟨g2, 0, none⟩) rn rn) (.slice (some ⟨g3, 0, none⟩) ln ln) (.slice (some ⟨g4, 0, none⟩) im im) (.slice none 0 0)) := by unfold Hid; rw [hE]; exact hox4.at 5 _
  have hsU : U5.heap.size = v5.heap.size := by rw [hE]; simp
  have HV4 : Hid (Below (w.heap.size + 2) W1 v5) := HU4.out.trans (hb4.mono (by have := HS1.out; omega))
  have HU5 : Hid (Below (w.heap.size + 2) W1 U5) := by unfold Hid; rw [hE]; exact HV4.out.setCell (by show w.heap.size + 2 ≤ w.heap.size + 1 + 1; omega) _
  have hsm : Same W1.heap.size v5.heap.size v5 U5 := by
    rw [hE]
    have hp := HS1.out
    exact fun b h1 _ => Below.heap_setCell v5 ⟨w.heap.size + 1 + 1, 5, none⟩ _ b (by show b ≠ w.heap.size + 1 + 1; omega)
  have HG4 : Hid (RSS W1.heap.size U5.heap.size U5 (some ⟨g0, 0, none⟩) nn nn x.names ∧ RFF W1.heap.size U5.heap.size U5 (some ⟨g1, 0, none⟩) sn sn x.sets ∧ RSS W1.heap.size U5.heap.size U5 (some ⟨g2, 0, none⟩) rn rn x.roles ∧ RFF W1.heap.size U5.heap.size U5 (some ⟨g3, 0, none⟩) ln ln x.rels ∧ RSS W1.heap.size U5.heap.size U5 (some ⟨g4, 0, none⟩) im im x.inds) := by
    have hp := HS1.out
    rw [Hid, hsU]
    exact ⟨((HG3.out.1.same (Same.of_below hb4 (Nat.le_refl _))).mono (Nat.le_refl _) hb4.size).same hsm, ((HG3.out.2.1.same (Same.of_below hb4 (Nat.le_refl _))).mono (Nat.le_refl _) hb4.size).same hsm, ((HG3.out.2.2.1.same (Same.of_below hb4 (Nat.le_refl _))).mono (Nat.le_refl _) hb4.size).same hsm, ((HG3.out.2.2.2.same (Same.of_below hb4 (Nat.le_refl _))).mono (Nat.le_refl _) hb4.size).same hsm, (hrd4.mono (by omega) (Nat.le_refl _)).same hsm⟩
  clear hrd4 hb4 hox4 hE hsm hg4 z0 z1 z2 z3 z4 z5 z6
  obtain ⟨z0, z1, z2, z3, z4, z5, z6⟩ := (HLx.out _ HV4.out).cells
  have hk4 := hsU
  clear hsU
  go_wp2_with fail
  rw [← HE5.out]
  refine (toIntS_any ta tn tc x.at' U5 (HRd.out _ HU5.out).1.at' (HRd.out _ HU5.out).2 HBd.out.t).mono ?_
  rintro e v6 ⟨rfl, hrd5, hb5, hsz5⟩
  have hrd5 := hrd5.mono (Nat.le_refl _) (Nat.le_of_eq hsz5.symm)
  obtain ⟨g5, hg5⟩ : ∃ g, g = U5.heap.size := ⟨_, rfl⟩
  rw [← hg5] at hrd5 ⊢
  have hsb5 := hb5.size
  have hu5 := HU5.out.size
  clear o0 o1 o2 o3 o4 o5 o6 gf
  have hox5 := HOx5.out.below hb5 HOx5.out.lt
  obtain ⟨o0, o1, o2, o3, o4, o5, o6⟩ := hox5.cells
  have gf := hox5.frz 6
  obtain ⟨U6, hE⟩ : ∃ U, U = v6.setCell ⟨w.heap.size + 1 + 1, 6, none⟩ (.slice (some ⟨g5, 0, none⟩) tn tn) := ⟨_, rfl⟩
  have HE6 : Hid (U6 = v6.setCell ⟨w.heap.size + 1 + 1, 6, none⟩ (.slice (some ⟨g5, 0, none⟩) tn tn)) := hE
  have HOx6 : Hid (BoxW 36 U6 (w.heap.size + 1 + 1) nx (.slice (some ⟨g0, 0, none⟩) nn nn) (.slice (some ⟨g1, 0, none⟩) sn sn) (.slice (some ⟨g2, 0, none⟩) rn rn) (.slice (some ⟨g3, 0, none⟩) ln ln) (.slice (some ⟨g4, 0, none⟩) im im) (.slice (some ⟨g5, 0, none⟩) tn tn)) := by unfold Hid; rw [hE]; exact hox5.at 6 _
  have hsU : U6.heap.size = v6.heap.size := by rw [hE]; simp
  have HV5 : Hid (Below (w.heap.size + 2) W1 v6) := HU5.out.trans (hb5.mono (by have := HS1.out; omega))
  have HU6 : Hid (Below (w.heap.size + 2) W1 U6) := by unfold Hid; rw [hE]; exact HV5.out.setCell (by show w.heap.size + 2 ≤ w.heap.size + 1 + 1; omega) _
  have hsm : Same W1.heap.size v6.heap.size v6 U6 := by
    rw [hE]
    have hp := HS1.out
    exact fun b h1 _ => Below.heap_setCell v6 ⟨w.heap.size + 1 + 1, 6, none⟩ _ b (by show b ≠ w.heap.size + 1 + 1; omega)
  have HG5 : Hid (RSS W1.heap.size U6.heap.size U6 (some ⟨g0, 0, none⟩) nn nn x.names ∧ RFF W1.heap.size U6.heap.size U6 (some ⟨g1, 0, none⟩) sn sn x.sets ∧ RSS W1.heap.size U6.heap.size U6 (some ⟨g2, 0, none⟩) rn rn x.roles ∧ RFF W1.heap.size U6.heap.size U6 (some ⟨g3, 0, none⟩) ln ln x.rels ∧ RSS W1.heap.size U6.heap.size U6 (some ⟨g4, 0, none⟩) im im x.inds ∧ RI W1.heap.size U6.heap.size U6 (some ⟨g5, 0, none⟩) tn tn x.at') := by
    have hp := HS1.out
    rw [Hid, hsU]
    exact ⟨((HG4.out.1.same (Same.of_below hb5 (Nat.le_refl _))).mono (Nat.le_refl _) hb5.size).same hsm, ((HG4.out.2.1.same (Same.of_below hb5 (Nat.le_refl _))).mono (Nat.le_refl _) hb5.size).same hsm, ((HG4.out.2.2.1.same (Same.of_below hb5 (Nat.le_refl _))).mono (Nat.le_refl _) hb5.size).same hsm, ((HG4.out.2.2.2.1.same (Same.of_below hb5 (Nat.le_refl _))).mono (Nat.le_refl _) hb5.size).same hsm, ((HG4.out.2.2.2.2.same (Same.of_below hb5 (Nat.le_refl _))).mono (Nat.le_refl _) hb5.size).same hsm, (hrd5.mono (by omega) (Nat.le_refl _)).same hsm⟩
  clear hrd5 hb5 hox5 hE hsm hg5 z0 z1 z2 z3 z4 z5 z6 hsz5
  have hrxw := HRx.out _ HV5.out
  have hrxu := HRx.out _ HU6.out
  obtain ⟨t0, t1, t2, t3, t4, t5, t6⟩ := hrxw.cells
  have tf0 := hrxw.frz 0
  have tf1 := hrxw.frz 1
  have tf2 := hrxw.frz 2
  have tf3 := hrxw.frz 3
  have tf4 := hrxw.frz 4
  have tf5 := hrxw.frz 5
  have tf6 := hrxw.frz 6
  obtain ⟨s0, s1, s2, s3, s4, s5, s6⟩ := (hrxu.set7 nx (.slice (some ⟨g0, 0, none⟩) nn nn) (.slice (some ⟨g1, 0, none⟩) sn sn) (.slice (some ⟨g2, 0, none⟩) rn rn) (.slice (some ⟨g3, 0, none⟩) ln ln) (.slice (some ⟨g4, 0, none⟩) im im) (.slice (some ⟨g5, 0, none⟩) tn tn)).cells
  have HPost : Hid (RdW w.heap.size (set7 U6 (w.heap.size + 1) (.int .i64 nx) (.slice (some ⟨g0, 0, none⟩) nn nn) (.slice (some ⟨g1, 0, none⟩) sn sn) (.slice (some ⟨g2, 0, none⟩) rn rn) (.slice (some ⟨g3, 0, none⟩) ln ln) (.slice (some ⟨g4, 0, none⟩) im im) (.slice (some ⟨g5, 0, none⟩) tn tn)).heap.size (set7 U6 (w.heap.size + 1) (.int .i64 nx) (.slice (some ⟨g0, 0, none⟩) nn nn) (.slice (some ⟨g1, 0, none⟩) sn sn) (.slice (some ⟨g2, 0, none⟩) rn rn) (.slice (some ⟨g3, 0, none⟩) ln ln) (.slice (some ⟨g4, 0, none⟩) im im) (.slice (some ⟨g5, 0, none⟩) tn tn)) (some ⟨g0, 0, none⟩) nn nn (some ⟨g1, 0, none⟩) sn sn (some ⟨g2, 0, none⟩) rn rn (some ⟨g3, 0, none⟩) ln ln (some ⟨g4, 0, none⟩) im im (some ⟨g5, 0, none⟩) tn tn x ∧ Below w.heap.size w (set7 U6 (w.heap.size + 1) (.int .i64 nx) (.slice (some ⟨g0, 0, none⟩) nn nn) (.slice (some ⟨g1, 0, none⟩) sn sn) (.slice (some ⟨g2, 0, none⟩) rn rn) (.slice (some ⟨g3, 0, none⟩) ln ln) (.slice (some ⟨g4, 0, none⟩) im im) (.slice (some ⟨g5, 0, none⟩) tn tn))) := by
    have hp := HS1.out
    have hsf := size_set7 U6 (w.heap.size + 1) (.int .i64 nx) (.slice (some ⟨g0, 0, none⟩) nn nn) (.slice (some ⟨g1, 0, none⟩) sn sn) (.slice (some ⟨g2, 0, none⟩) rn rn) (.slice (some ⟨g3, 0, none⟩) ln ln) (.slice (some ⟨g4, 0, none⟩) im im) (.slice (some ⟨g5, 0, none⟩) tn tn)
    have hSm : Same W1.heap.size U6.heap.size U6 (set7 U6 (w.heap.size + 1) (.int .i64 nx) (.slice (some ⟨g0, 0, none⟩) nn nn) (.slice (some ⟨g1, 0, none⟩) sn sn) (.slice (some ⟨g2, 0, none⟩) rn rn) (.slice (some ⟨g3, 0, none⟩) ln ln) (.slice (some ⟨g4, 0, none⟩) im im) (.slice (some ⟨g5, 0, none⟩) tn tn)) := fun b h1 h2 => heap_set7 _ _ _ _ _ _ _ _ (by omega)
    have hG := HG5.out
    rw [Hid, hsf]
    exact ⟨⟨(hG.1.same hSm).mono (by omega) (Nat.le_refl _), (hG.2.1.same hSm).mono (by omega) (Nat.le_refl _), (hG.2.2.1.same hSm).mono (by omega) (Nat.le_refl _), (hG.2.2.2.1.same hSm).mono (by omega) (Nat.le_refl _), (hG.2.2.2.2.1.same hSm).mono (by omega) (Nat.le_refl _), (hG.2.2.2.2.2.same hSm).mono (by omega) (Nat.le_refl _)⟩, below_set7 (HB0.out.trans (HU6.out.mono (by omega))) (by omega) _ _ _ _ _ _ _⟩
  rw [HE6.out] at HPost s0 s1 s2 s3 s4 s5 s6
  simp only [set7] at s0 s1 s2 s3 s4 s5 s6 HPost
  clear hrxw hrxu
  go_wp2_with fail
  refine bodyPost_ret (v := .agg #[.int .i64 nx, .slice (some ⟨g0, 0, none⟩) nn nn, .slice (some ⟨g1, 0, none⟩) sn sn, .slice (some ⟨g2, 0, none⟩) rn rn, .slice (some ⟨g3, 0, none⟩) ln ln, .slice (some ⟨g4, 0, none⟩) im im, .slice (some ⟨g5, 0, none⟩) tn tn]) (by simp [results, Tryz.results8, go_sem, s0, s1, s2, s3, s4, s5, s6]) rfl ?_
  exact ⟨_, _, _, _, _, _, rfl, HPost.out.1, HPost.out.2⟩

end Go.Proofs.YtfbokljbmihlbaaGreat
