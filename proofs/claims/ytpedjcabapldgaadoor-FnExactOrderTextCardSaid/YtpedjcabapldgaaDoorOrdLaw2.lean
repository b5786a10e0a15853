/- The laws' own count, comparison and copy of an order. -/
import Derived.Test.YtpedjcabapldgaaDoorOrdLaw1
import Derived.Deep.DeepCutAuto
namespace Go.Proofs.YtpedjcabapldgaaDoor
open Go.RowKit

set_option maxRecDepth 100000 in
set_option maxHeartbeats 2000000 in
theorem szO_any {ca : Option Addr} {cn cc : Nat} {ea : Option Addr} {en ec : Nat} {x : OD} {w : World} {lo hi : Nat} (h : RdO lo hi w ca cn cc ea en ec x) (hhi : hi ≤ w.heap.size) (kx : Int) :
    Calls Tryd.prog 4 #[.agg #[.slice ca cn cc, .slice ea en ec, .int .i64 kx], .int .i64 1048576] w fun e w' => ∃ r : Int, e = .returned (.int .i64 r) ∧ (¬ r < 0 → BdO x cn en) ∧ Below w.heap.size w w' := by
  obtain ⟨W0, hW0⟩ : ∃ W0, W0 = w.alloc (.cells #[.slice ca cn cc, .slice ea en ec, .int .i64 kx] 25) := ⟨_, rfl⟩
  have HW0 : Hid (W0 = w.alloc (.cells #[.slice ca cn cc, .slice ea en ec, .int .i64 kx] 25)) := hW0
  have hb0 : Below w.heap.size w W0 := by rw [hW0]; exact (Below.refl _ _).alloc (Nat.le_refl _) _
  have HB0 : Hid (Below w.heap.size w W0) := hb0
  have hbx : BoxO 25 W0 w.heap.size (.slice ca cn cc) (.slice ea en ec) kx := by rw [hW0]; exact BoxO.new _ w _ _ _
  have HR : Hid (RdO lo hi W0 ca cn cc ea en ec x) := h.below hb0 hhi
  obtain ⟨z0, z1, z2⟩ := hbx.cells
  clear h hb0 hW0 hbx
  go_enter Tryd.func4, Tryd.ntmps4
  go_wp2_with fail
  rw [← HW0.out]
  refine (szByteSSS_any ca cn cc x.cls 1048576 W0 HR.out.cls (by omega) (by omega)).mono ?_
  rintro e w0 ⟨q0, rfl, hq0, hbd0, hw0⟩
  rw [hw0]
  clear hw0
  have HBd0 : Hid (¬ q0 < 0 → BdSSS cn x.cls) := hbd0
  clear hbd0
  by_cases hneg0 : q0 < 0
  · go_wp2_with fail
    go_ret
    exact ⟨-1, rfl, fun hh => by omega, HB0.out⟩
  · go_wp2_with fail
    obtain ⟨q1, hqq⟩ : ∃ q, q = szRes q0 en := ⟨_, rfl⟩
    have HQ : Hid (q1 = szRes q0 en) := hqq
    clear hqq
    refine (szEdgeS_any ea en ec q0 W0 ⟨by omega, by omega⟩ (Nat.le_trans HR.out.edg.fits.1 HR.out.edg.fits.2)).mono ?_
    rintro e w1 ⟨rfl, hw1⟩
    rw [← HQ.out, hw1]
    clear hw1
    by_cases hneg1 : q1 < 0
    · go_wp2_with fail
      go_ret
      exact ⟨-1, rfl, fun hh => by omega, HB0.out⟩
    · have HT : Hid (en ≤ 1048576) := by
        have e := HQ.out
        unfold szRes at e
        unfold Hid
        split at e <;> omega
      go_wp2_with fail
      go_ret
      exact ⟨q1, rfl, fun _ => ⟨HBd0.out hneg0, HT.out⟩, HB0.out⟩

set_option maxRecDepth 100000 in
set_option maxHeartbeats 2000000 in
theorem eqO_any {ca : Option Addr} {cn cc : Nat} {ea : Option Addr} {en ec : Nat} {x : OD} {ca' : Option Addr} {cc' : Nat} {ea' : Option Addr} {ec' : Nat} {w : World} {lo hi lo' hi' : Nat} (h : RdO lo hi w ca cn cc ea en ec x) (h' : RdO lo' hi' w ca' cn cc' ea' en ec' x) (hhi : hi ≤ w.heap.size) (hhi' : hi' ≤ w.heap.size) (kx : Int) :
    Calls Tryd.prog 9 #[.agg #[.slice ca cn cc, .slice ea en ec, .int .i64 kx], .agg #[.slice ca' cn cc', .slice ea' en ec', .int .i64 kx]] w fun e w' => e = .returned (.bool true) ∧ Below w.heap.size w w' := by
  obtain ⟨W0, hW0⟩ : ∃ W0, W0 = (w.alloc (.cells #[.slice ca cn cc, .slice ea en ec, .int .i64 kx] 31)).alloc (.cells #[.slice ca' cn cc', .slice ea' en ec', .int .i64 kx] 31) := ⟨_, rfl⟩
  have HW0 : Hid (W0 = (w.alloc (.cells #[.slice ca cn cc, .slice ea en ec, .int .i64 kx] 31)).alloc (.cells #[.slice ca' cn cc', .slice ea' en ec', .int .i64 kx] 31)) := hW0
  have hb0 : Below w.heap.size w W0 := by rw [hW0]; exact ((Below.refl _ _).alloc (Nat.le_refl _) _).alloc (by simp) _
  have HB0 : Hid (Below w.heap.size w W0) := hb0
  have hs0 : W0.heap.size = w.heap.size + 1 + 1 := by rw [hW0]; simp
  have hbx : BoxO 31 W0 w.heap.size (.slice ca cn cc) (.slice ea en ec) kx := by rw [hW0]; exact (BoxO.new _ w _ _ _).below ((Below.refl _ _).alloc (Nat.le_refl _) _) (by simp)
  have hby : BoxO 31 W0 (w.heap.size + 1) (.slice ca' cn cc') (.slice ea' en ec') kx := by
    rw [hW0]
    have := BoxO.new 31 (w.alloc (.cells #[.slice ca cn cc, .slice ea en ec, .int .i64 kx] 31)) (.slice ca' cn cc') (.slice ea' en ec') kx
    rwa [World.size_alloc] at this
  have HR : Hid (∀ W, Below W0.heap.size W0 W → RdO lo hi W ca cn cc ea en ec x) := fun W hW => (h.below hb0 hhi).below hW (by omega)
  have HR' : Hid (∀ W, Below W0.heap.size W0 W → RdO lo' hi' W ca' cn cc' ea' en ec' x) := fun W hW => (h'.below hb0 hhi').below hW (by omega)
  have HX : Hid (∀ W, Below W0.heap.size W0 W → BoxO 31 W w.heap.size (.slice ca cn cc) (.slice ea en ec) kx) := fun W hW => hbx.below hW hbx.lt
  have HY : Hid (∀ W, Below W0.heap.size W0 W → BoxO 31 W (w.heap.size + 1) (.slice ca' cn cc') (.slice ea' en ec') kx) := fun W hW => hby.below hW hby.lt
  have HRf : Hid (Below W0.heap.size W0 W0) := Below.refl _ _
  have hnx : (kx != kx) = false := by simp
  obtain ⟨z0, z1, z2⟩ := hbx.cells
  obtain ⟨y0, y1, y2⟩ := hby.cells
  clear h h' hb0 hW0 hbx hby
  go_enter Tryd.func9, Tryd.ntmps9
  go_upto_region 1 with fail
  rw [← HW0.out]
  go_wp2_with fail
  refine (eqByteSSS_any ca ca' cn cc cc' x.cls W0 (HR.out _ HRf.out).cls (HR'.out _ HRf.out).cls (by have := HRf.out.size; omega) (by have := HRf.out.size; omega)).mono ?_
  rintro e w0 ⟨rfl, hb0⟩
  have HC0 : Hid (Below W0.heap.size W0 w0) := HRf.out.trans (hb0.mono HRf.out.size)
  clear hb0
  clear z0 z1 z2 y0 y1 y2
  obtain ⟨z0, z1, z2⟩ := (HX.out _ HC0.out).cells
  obtain ⟨y0, y1, y2⟩ := (HY.out _ HC0.out).cells
  go_wp2_with fail
  refine (eqEdgeS_same (HR.out _ HC0.out).edg (HR'.out _ HC0.out).edg (by have := HC0.out.size; omega) (by have := HC0.out.size; omega)).mono ?_
  rintro e w1 ⟨rfl, hb1⟩
  have HC1 : Hid (Below W0.heap.size W0 w1) := HC0.out.trans (hb1.mono HC0.out.size)
  clear hb1
  clear z0 z1 z2 y0 y1 y2
  obtain ⟨z0, z1, z2⟩ := (HX.out _ HC1.out).cells
  obtain ⟨y0, y1, y2⟩ := (HY.out _ HC1.out).cells
  go_wp2_with fail
  go_ret
  exact ⟨rfl, HB0.out.trans (HC1.out.mono (by omega))⟩

def setO (W : World) (p : Nat) (v0 v1 v2 : Value) : World := ((W.setCell ⟨p, 0, none⟩ v0).setCell ⟨p, 1, none⟩ v1).setCell ⟨p, 2, none⟩ v2
theorem heap_setO (W : World) {b p : Nat} (v0 v1 v2 : Value) (hb : b ≠ p) : (setO W p v0 v1 v2).heap[b]? = W.heap[b]? := by
  unfold setO
  rw [Below.heap_setCell _ ⟨p, 2, none⟩ _ b hb, Below.heap_setCell _ ⟨p, 1, none⟩ _ b hb, Below.heap_setCell _ ⟨p, 0, none⟩ _ b hb]
theorem size_setO (W : World) (p : Nat) (v0 v1 v2 : Value) : (setO W p v0 v1 v2).heap.size = W.heap.size := by unfold setO; simp
theorem below_setO {B : Nat} {w W : World} (h : Below B w W) {p : Nat} (hp : B ≤ p) (v0 v1 v2 : Value) : Below B w (setO W p v0 v1 v2) := by
  unfold setO
  exact ((h.setCell (p := ⟨p, 0, none⟩) hp _).setCell (p := ⟨p, 1, none⟩) hp _).setCell (p := ⟨p, 2, none⟩) hp _
theorem BoxO.setO {t : Nat} {W : World} {p : Nat} {v1 v2 : Value} {c : Int} (h : BoxO t W p v1 v2 c) (u1 u2 : Value) (c' : Int) : BoxO t (setO W p u1 u2 (.int .i64 c')) p u1 u2 c' := by
  unfold Go.Proofs.YtpedjcabapldgaaDoor.setO
  have h0 : BoxO t (W.setCell ⟨p, 0, none⟩ u1) p u1 v2 c := h.at 0 _
  have h1 : BoxO t _ p u1 u2 c := h0.at 1 u2
  exact h1.at 2 _

set_option maxRecDepth 100000 in
set_option maxHeartbeats 4000000 in
theorem toO_any {ca : Option Addr} {cn cc : Nat} {ea : Option Addr} {en ec : Nat} {x : OD} {w : World} {lo hi : Nat} (h : RdO lo hi w ca cn cc ea en ec x) (hhi : hi ≤ w.heap.size) (hbd : BdO x cn en) (kx : Int) :
    Calls Tryd.prog 6 #[.agg #[.slice ca cn cc, .slice ea en ec, .int .i64 kx]] w fun e w' => ∃ g0 g1, e = .returned (.agg #[.slice (some ⟨g0, 0, none⟩) cn cn, .slice (some ⟨g1, 0, none⟩) en en, .int .i64 kx]) ∧ RdO w.heap.size w'.heap.size w' (some ⟨g0, 0, none⟩) cn cn (some ⟨g1, 0, none⟩) en en x ∧ Below w.heap.size w w' := by
  obtain ⟨W1, hW1⟩ : ∃ W1, W1 = ((w.alloc (.cells #[.slice ca cn cc, .slice ea en ec, .int .i64 kx] 25)).alloc (.cells #[.slice none 0 0, .slice none 0 0, .int .i64 0] 31)).alloc (.cells #[.slice none 0 0, .slice none 0 0, .int .i64 0] 31) := ⟨_, rfl⟩
  have HW1 : Hid (W1 = ((w.alloc (.cells #[.slice ca cn cc, .slice ea en ec, .int .i64 kx] 25)).alloc (.cells #[.slice none 0 0, .slice none 0 0, .int .i64 0] 31)).alloc (.cells #[.slice none 0 0, .slice none 0 0, .int .i64 0] 31)) := hW1
  have hs1 : W1.heap.size = w.heap.size + 3 := by rw [hW1]; simp
  have hb0 : Below w.heap.size w W1 := by rw [hW1]; exact (((Below.refl _ _).alloc (Nat.le_refl _) _).alloc (by simp) _).alloc (by simp; omega) _
  have HB0 : Hid (Below w.heap.size w W1) := hb0
  have hlx : BoxO 25 W1 w.heap.size (.slice ca cn cc) (.slice ea en ec) kx := by rw [hW1]; exact ((BoxO.new _ w _ _ _).below ((Below.refl _ _).alloc (Nat.le_refl _) _) (by simp)).below ((Below.refl _ _).alloc (Nat.le_refl _) _) (by simp; omega)
  have hrx : BoxO 31 W1 (w.heap.size + 1) (.slice none 0 0) (.slice none 0 0) 0 := by
    rw [hW1]
    have := BoxO.new 31 (w.alloc (.cells #[.slice ca cn cc, .slice ea en ec, .int .i64 kx] 25)) (.slice none 0 0) (.slice none 0 0) 0
    rw [World.size_alloc] at this
    exact this.below ((Below.refl _ _).alloc (Nat.le_refl _) _) (by simp)
  have hox : BoxO 31 W1 (w.heap.size + 1 + 1) (.slice none 0 0) (.slice none 0 0) 0 := by
    rw [hW1]
    have := BoxO.new 31 ((w.alloc (.cells #[.slice ca cn cc, .slice ea en ec, .int .i64 kx] 25)).alloc (.cells #[.slice none 0 0, .slice none 0 0, .int .i64 0] 31)) (.slice none 0 0) (.slice none 0 0) 0
    rwa [World.size_alloc, World.size_alloc] at this
  have HLx : Hid (∀ W, Below (w.heap.size + 2) W1 W → BoxO 25 W w.heap.size (.slice ca cn cc) (.slice ea en ec) kx) := fun W hW => hlx.below hW (by omega)
  have HRx : Hid (∀ W, Below (w.heap.size + 2) W1 W → BoxO 31 W (w.heap.size + 1) (.slice none 0 0) (.slice none 0 0) 0) := fun W hW => hrx.below hW (by omega)
  have HOx0 : Hid (BoxO 31 W1 (w.heap.size + 1 + 1) (.slice none 0 0) (.slice none 0 0) 0) := hox
  have HS1 : Hid (W1.heap.size = w.heap.size + 3) := hs1
  have HRd : Hid (∀ W, Below (w.heap.size + 2) W1 W → RdO lo hi W ca cn cc ea en ec x ∧ hi ≤ W.heap.size) := fun W hW => ⟨(h.below hb0 hhi).below hW (by omega), Nat.le_trans (Nat.le_trans hhi hb0.size) hW.size⟩
  have HBd : Hid (BdO x cn en) := hbd
  have HU0 : Hid (Below (w.heap.size + 2) W1 W1) := Below.refl _ _
  obtain ⟨z0, z1, z2⟩ := hlx.cells
  have hne0 : w.heap.size ≠ w.heap.size + 1 + 1 := by omega
  clear h hb0 hW1 hlx hrx hox hbd hs1
  go_enter Tryd.func6, Tryd.ntmps6
  go_upto_region 2 with fail
  rw [← HW1.out]
  go_wp2_with fail
  refine (toByteSSS_any ca cn cc x.cls W1 (HRd.out _ HU0.out).1.cls (HRd.out _ HU0.out).2 HBd.out.c).mono ?_
  rintro e v1 ⟨rfl, hrd0, hb0⟩
  obtain ⟨g0, hg0⟩ : ∃ g, g = W1.heap.size := ⟨_, rfl⟩
  rw [← hg0] at hrd0 ⊢
  have hsb0 := hb0.size
  have hu0 := HU0.out.size
  have hox0 := HOx0.out.below hb0 HOx0.out.lt
  obtain ⟨o0, o1, o2⟩ := hox0.cells
  have gf := hox0.frz 0
  obtain ⟨U1, hE⟩ : ∃ U, U = v1.setCell ⟨w.heap.size + 1 + 1, 0, none⟩ (.slice (some ⟨g0, 0, none⟩) cn cn) := ⟨_, rfl⟩
  have HE1 : Hid (U1 = v1.setCell ⟨w.heap.size + 1 + 1, 0, none⟩ (.slice (some ⟨g0, 0, none⟩) cn cn)) := hE
  have HOx1 : Hid (BoxO 31 U1 (w.heap.size + 1 + 1) (.slice (some ⟨g0, 0, none⟩) cn cn) (.slice none 0 0) 0) := by unfold Hid; rw [hE]; exact hox0.at 0 _
  have hsU : U1.heap.size = v1.heap.size := by rw [hE]; simp
  have HV0 : Hid (Below (w.heap.size + 2) W1 v1) := HU0.out.trans (hb0.mono (by have := HS1.out; omega))
  have HU1 : Hid (Below (w.heap.size + 2) W1 U1) := by unfold Hid; rw [hE]; exact HV0.out.setCell (by show w.heap.size + 2 ≤ w.heap.size + 1 + 1; omega) _
  have hsm : Same W1.heap.size v1.heap.size v1 U1 := by
    rw [hE]
    have hp := HS1.out
    exact fun b h1 _ => Below.heap_setCell v1 ⟨w.heap.size + 1 + 1, 0, none⟩ _ b (by show b ≠ w.heap.size + 1 + 1; omega)
  have HG0 : Hid (RSSS W1.heap.size U1.heap.size U1 (some ⟨g0, 0, none⟩) cn cn x.cls) := by
    have hp := HS1.out
    rw [Hid, hsU]
    exact (hrd0.mono (by omega) (Nat.le_refl _)).same hsm
  clear hrd0 hb0 hox0 hE hsm hg0 z0 z1 z2
  obtain ⟨z0, z1, z2⟩ := (HLx.out _ HV0.out).cells
  have hk0 := hsU
  clear hsU
  go_wp2_with fail
  rw [← HE1.out]
  refine (toEdgeS_any (HRd.out _ HU1.out).1.edg (HRd.out _ HU1.out).2 HBd.out.e).mono ?_
  rintro e v2 ⟨rfl, hrow, hb1⟩
  have hrd1 := rowP_rd (lo := U1.heap.size) (hi := v2.heap.size) hrow (HRd.out _ HU1.out).1.edg.len HBd.out.e (Nat.le_refl _) hrow.lt
  obtain ⟨g1, hg1⟩ : ∃ g, g = U1.heap.size := ⟨_, rfl⟩
  rw [← hg1] at hrd1 ⊢
  have hsb1 := hb1.size
  have hu1 := HU1.out.size
  clear o0 o1 o2 gf
  have hox1 := HOx1.out.below hb1 HOx1.out.lt
  obtain ⟨o0, o1, o2⟩ := hox1.cells
  have gf := hox1.frz 1
  have gf2 := hox1.frz 2
  obtain ⟨U2, hE⟩ : ∃ U, U = (v2.setCell ⟨w.heap.size + 1 + 1, 1, none⟩ (.slice (some ⟨g1, 0, none⟩) en en)).setCell ⟨w.heap.size + 1 + 1, 2, none⟩ (.int .i64 kx) := ⟨_, rfl⟩
  have HE2 : Hid (U2 = (v2.setCell ⟨w.heap.size + 1 + 1, 1, none⟩ (.slice (some ⟨g1, 0, none⟩) en en)).setCell ⟨w.heap.size + 1 + 1, 2, none⟩ (.int .i64 kx)) := hE
  have HOx2 : Hid (BoxO 31 U2 (w.heap.size + 1 + 1) (.slice (some ⟨g0, 0, none⟩) cn cn) (.slice (some ⟨g1, 0, none⟩) en en) kx) := by
    unfold Hid; rw [hE]
    have e1 : BoxO 31 (v2.setCell ⟨w.heap.size + 1 + 1, 1, none⟩ (.slice (some ⟨g1, 0, none⟩) en en)) (w.heap.size + 1 + 1) (.slice (some ⟨g0, 0, none⟩) cn cn) (.slice (some ⟨g1, 0, none⟩) en en) 0 := hox1.at 1 _
    exact e1.at 2 _
  have hsU : U2.heap.size = v2.heap.size := by rw [hE]; simp
  have HV1 : Hid (Below (w.heap.size + 2) W1 v2) := HU1.out.trans (hb1.mono (by have := HS1.out; omega))
  have HU2 : Hid (Below (w.heap.size + 2) W1 U2) := by unfold Hid; rw [hE]; exact (HV1.out.setCell (by show w.heap.size + 2 ≤ w.heap.size + 1 + 1; omega) _).setCell (by show w.heap.size + 2 ≤ w.heap.size + 1 + 1; omega) _
  have hsm : Same W1.heap.size v2.heap.size v2 U2 := by
    rw [hE]
    have hp := HS1.out
    exact fun b h1 _ => (Below.heap_setCell _ ⟨w.heap.size + 1 + 1, 2, none⟩ _ b (by show b ≠ w.heap.size + 1 + 1; omega)).trans (Below.heap_setCell v2 ⟨w.heap.size + 1 + 1, 1, none⟩ _ b (by show b ≠ w.heap.size + 1 + 1; omega))
  have HG1 : Hid (RSSS W1.heap.size U2.heap.size U2 (some ⟨g0, 0, none⟩) cn cn x.cls ∧ RP W1.heap.size U2.heap.size U2 (some ⟨g1, 0, none⟩) en en x.edg) := by
    have hp := HS1.out
    rw [Hid, hsU]
    exact ⟨((HG0.out.same (Same.of_below hb1 (Nat.le_refl _))).mono (Nat.le_refl _) hb1.size).same hsm, (hrd1.mono (by omega) (Nat.le_refl _)).same hsm⟩
  clear hrd1 hrow hb1 hox1 hE hsm hg1 z0 z1 z2
  obtain ⟨z0, z1, z2⟩ := (HLx.out _ HV1.out).cells
  go_upto_region 5 with fail
  rw [← HE2.out]
  clear z0 z1 z2 o0 o1 o2 gf gf2
  obtain ⟨o0, o1, o2⟩ := HOx2.out.cells
  have hrx2 := HRx.out _ HU2.out
  obtain ⟨t0, t1, t2⟩ := hrx2.cells
  have tf0 := hrx2.frz 0
  have tf1 := hrx2.frz 1
  have tf2 := hrx2.frz 2
  obtain ⟨s0, s1, s2⟩ := (hrx2.setO (.slice (some ⟨g0, 0, none⟩) cn cn) (.slice (some ⟨g1, 0, none⟩) en en) kx).cells
  have HPost : Hid (RdO w.heap.size (setO U2 (w.heap.size + 1) (.slice (some ⟨g0, 0, none⟩) cn cn) (.slice (some ⟨g1, 0, none⟩) en en) (.int .i64 kx)).heap.size (setO U2 (w.heap.size + 1) (.slice (some ⟨g0, 0, none⟩) cn cn) (.slice (some ⟨g1, 0, none⟩) en en) (.int .i64 kx)) (some ⟨g0, 0, none⟩) cn cn (some ⟨g1, 0, none⟩) en en x ∧ Below w.heap.size w (setO U2 (w.heap.size + 1) (.slice (some ⟨g0, 0, none⟩) cn cn) (.slice (some ⟨g1, 0, none⟩) en en) (.int .i64 kx))) := by
    have hp := HS1.out
    have hsf := size_setO U2 (w.heap.size + 1) (.slice (some ⟨g0, 0, none⟩) cn cn) (.slice (some ⟨g1, 0, none⟩) en en) (.int .i64 kx)
    have hSm : Same W1.heap.size U2.heap.size U2 (setO U2 (w.heap.size + 1) (.slice (some ⟨g0, 0, none⟩) cn cn) (.slice (some ⟨g1, 0, none⟩) en en) (.int .i64 kx)) := fun b h1 h2 => heap_setO _ _ _ _ (by omega)
    have hG := HG1.out
    rw [Hid, hsf]
    exact ⟨⟨(hG.1.same hSm).mono (by omega) (Nat.le_refl _), (hG.2.same hSm).mono (by omega) (Nat.le_refl _)⟩, below_setO (HB0.out.trans (HU2.out.mono (by omega))) (by omega) _ _ _⟩
  simp only [setO] at s0 s1 s2 HPost
  clear hrx2
  go_wp2_with fail
  refine bodyPost_ret (v := .agg #[.slice (some ⟨g0, 0, none⟩) cn cn, .slice (some ⟨g1, 0, none⟩) en en, .int .i64 kx]) (by simp [results, Tryd.results6, go_sem, s0, s1, s2]) rfl ?_
  exact ⟨_, _, rfl, HPost.out.1, HPost.out.2⟩

end Go.Proofs.YtpedjcabapldgaaDoor
