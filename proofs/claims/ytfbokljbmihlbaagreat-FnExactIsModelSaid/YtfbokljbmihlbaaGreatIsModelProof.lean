/- For every world and all that may be told the law FnExactIsModel answers true, and what was handed in reads behind the call as it did before: no condition. -/
import Derived.Test.YtfbokljbmihlbaaGreatRows
import Derived.Test.YtfbokljbmihlbaaGreatNMdl
import Derived.Test.YtfbokljbmihlbaaGreatWdLaw3
import Derived.Test.YtfbokljbmihlbaaGreatNConLaw
import Derived.Test.YtfbokljbmihlbaaGreatConTo
import Derived.Test.YtfbokljbmihlbaaGreatNSz
import Derived.Test.YtfbokljbmihlbaaGreatNAxLaw
import Derived.Test.YtfbokljbmihlbaaGreatNKbLaw
import Derived.WalkKit
import Derived.ProofKit
import Derived.OpenShut
import Derived.ShutString
import Derived.ChangeOld
import Derived.Below
import Derived.Deep.DeepCutAuto
namespace Go.Proofs.YtfbokljbmihlbaaGreat.fnExactIsModel
open Go.ChangeShapes Go.WideShapes Go.ChangeAt Go.RowKit Go.Deep
set_option linter.unusedVariables false

theorem own : ownKnob Tryz.prog.godebug = none := by kernel_rfl
theorem laidOut : laidOutB Tryz.prog = true := by kernel_rfl

theorem bulks {xs : List AX} (h : bulkK xs ≤ 1048576) : ∀ x ∈ xs, x.c.bulk ≤ 1048576 ∧ x.d.bulk ≤ 1048576 := by
  intro x hx
  obtain ⟨i, hi, rfl⟩ := mem_getD hx
  have := bulkK_getD xs i hi
  unfold AX.bulk at this
  omega

set_option maxRecDepth 100000 in
set_option maxHeartbeats 8000000 in
theorem walk {na : Option Addr} {nn nc : Nat} {sa : Option Addr} {sn sc : Nat} {ra : Option Addr} {rn rc : Nat} {la : Option Addr} {ln lc : Nat} {ia : Option Addr} {im ic : Nat} {ta : Option Addr} {tn tc : Nat} {dp : Nat} {ka : Option Addr} {kn kc : Nat} {xs : List AX} {x : WD} (k : Int) (hk : x.n = k) (w : World) (hR : RdW 0 w.heap.size w na nn nc sa sn sc ra rn rc la ln lc ia im ic ta tn tc x) (hC : RdK 0 w.heap.size w dp ka kn kc xs) :
    Calls Tryz.prog 4 #[.agg #[.int .i64 k, .slice na nn nc, .slice sa sn sc, .slice ra rn rc, .slice la ln lc, .slice ia im ic, .slice ta tn tc], .agg #[.slice ka kn kc]] w fun e w' => e = .returned (.bool true) ∧ Below w.heap.size w w' := by
  obtain ⟨Wb, hWb⟩ : ∃ Wb, Wb = (w.alloc (.cells #[.int .i64 k, .slice na nn nc, .slice sa sn sc, .slice ra rn rc, .slice la ln lc, .slice ia im ic, .slice ta tn tc] 26)).alloc (.cells #[.slice ka kn kc] 49) := ⟨_, rfl⟩
  have HWb : Hid (Wb = (w.alloc (.cells #[.int .i64 k, .slice na nn nc, .slice sa sn sc, .slice ra rn rc, .slice la ln lc, .slice ia im ic, .slice ta tn tc] 26)).alloc (.cells #[.slice ka kn kc] 49)) := hWb
  have hbb : Below w.heap.size w Wb := by rw [hWb]; exact ((Below.refl _ _).alloc (Nat.le_refl _) _).alloc (by simp) _
  have HBB : Hid (Below w.heap.size w Wb) := hbb
  have hsb : Wb.heap.size = w.heap.size + 2 := by rw [hWb]; simp
  have HRb : Hid (RdW 0 w.heap.size Wb na nn nc sa sn sc ra rn rc la ln lc ia im ic ta tn tc x) := hR.below hbb (Nat.le_refl _)
  have HCb : Hid (RdK 0 w.heap.size Wb dp ka kn kc xs) := hC.below hbb (Nat.le_refl _)
  have hbx : BoxW 26 Wb w.heap.size k (.slice na nn nc) (.slice sa sn sc) (.slice ra rn rc) (.slice la ln lc) (.slice ia im ic) (.slice ta tn tc) := by rw [hWb]; exact (BoxW.new _ w _ _ _ _ _ _ _).below ((Below.refl _ _).alloc (Nat.le_refl _) _) (by simp)
  have hby : Boxed Wb (w.heap.size + 1) 49 (.slice ka kn kc) := by
    rw [hWb]
    have := Boxed.new (w.alloc (.cells #[.int .i64 k, .slice na nn nc, .slice sa sn sc, .slice ra rn rc, .slice la ln lc, .slice ia im ic, .slice ta tn tc] 26)) 49 (.slice ka kn kc)
    rwa [World.size_alloc] at this
  have HAt : Hid (∀ W, Below Wb.heap.size Wb W → BoxW 26 W w.heap.size k (.slice na nn nc) (.slice sa sn sc) (.slice ra rn rc) (.slice la ln lc) (.slice ia im ic) (.slice ta tn tc) ∧ Boxed W (w.heap.size + 1) 49 (.slice ka kn kc)) := fun W hW => ⟨hbx.below hW (by omega), (hW.block _ (by omega)).trans hby⟩
  have HK : Hid (x.n = k) := hk
  obtain ⟨ok, hok⟩ : ∃ ok, ok = isModelB x xs := ⟨_, rfl⟩
  have HOk : Hid (ok = isModelB x xs) := hok
  have hokk : (ok != ok) = false := by simp
  obtain ⟨z0, z1, z2, z3, z4, z5, z6⟩ := hbx.cells
  have j0 := hby.cell
  have hsb' : w.heap.size + 2 ≤ Wb.heap.size := by omega
  clear hR hC hbb hWb hbx hby hk hok hsb
  go_enter Tryz.func4, Tryz.ntmps4
  go_upto_region 1 with fail
  rw [← HWb.out]
  go_wp2_with fail
  refine (szW_any HRb.out (by omega) k).mono ?_
  rintro e wz ⟨r, rfl, hbounds, hb⟩
  have HBo : Hid (¬ r < 0 → BdW x nn sn rn ln im tn ∧ r ≤ 1048576) := hbounds
  have Hz : Hid (Below Wb.heap.size Wb wz) := hb
  have sz := hb.size
  clear z0 z1 z2 z3 z4 z5 z6 j0 hb hbounds
  obtain ⟨⟨z0, z1, z2, z3, z4, z5, z6⟩, j0⟩ := And.intro (HAt.out _ Hz.out).1.cells (HAt.out _ Hz.out).2.cell
  by_cases hneg : r < 0
  · go_wp2_with fail
    go_ret
    exact ⟨rfl, HBB.out.trans (Hz.out.mono (by omega))⟩
  have HBd : Hid (BdW x nn sn rn ln im tn) := (HBo.out hneg).1
  have hr1 : r ≤ 1048576 := (HBo.out hneg).2
  go_wp2_with fail
  refine (szKbG_any (HCb.out.below Hz.out (by omega)) (by omega) r (by omega) hr1).mono ?_
  rintro e w0 ⟨r2, rfl, hr2, hb⟩
  have HSz : Hid (¬ r2 < 0 → bulkK xs ≤ 1048576) := hr2
  clear hr2
  have H0 : Hid (Below Wb.heap.size Wb w0) := Hz.out.trans (hb.mono sz)
  have s0 := H0.out.size
  clear hb z0 z1 z2 z3 z4 z5 z6 j0
  obtain ⟨⟨z0, z1, z2, z3, z4, z5, z6⟩, j0⟩ := And.intro (HAt.out _ H0.out).1.cells (HAt.out _ H0.out).2.cell
  by_cases hneg2 : r2 < 0
  · go_wp2_with fail
    go_ret
    exact ⟨rfl, HBB.out.trans (H0.out.mono (by omega))⟩
  · have HBk : Hid (bulkK xs ≤ 1048576) := HSz.out hneg2
    have HTo : Hid (∀ W, Below Wb.heap.size Wb W → Calls Tryz.prog 8 #[.agg #[.int .i64 k, .slice na nn nc, .slice sa sn sc, .slice ra rn rc, .slice la ln lc, .slice ia im ic, .slice ta tn tc]] W fun e w' => ∃ g0 g1 g2 g3 g4 g5, e = .returned (.agg #[.int .i64 k, .slice (some ⟨g0, 0, none⟩) nn nn, .slice (some ⟨g1, 0, none⟩) sn sn, .slice (some ⟨g2, 0, none⟩) rn rn, .slice (some ⟨g3, 0, none⟩) ln ln, .slice (some ⟨g4, 0, none⟩) im im, .slice (some ⟨g5, 0, none⟩) tn tn]) ∧ RdW W.heap.size w'.heap.size w' (some ⟨g0, 0, none⟩) nn nn (some ⟨g1, 0, none⟩) sn sn (some ⟨g2, 0, none⟩) rn rn (some ⟨g3, 0, none⟩) ln ln (some ⟨g4, 0, none⟩) im im (some ⟨g5, 0, none⟩) tn tn x ∧ Below W.heap.size W w') := fun W hW => toW_any (HRb.out.below hW (by omega)) (Nat.le_trans (by omega) hW.size) HBd.out k
    have HTc : Hid (∀ W, Below Wb.heap.size Wb W → Calls Tryz.prog 15 #[.agg #[.slice ka kn kc]] W fun e w' => ∃ yg, e = .returned (.agg #[.slice (some ⟨yg, 0, none⟩) kn kn]) ∧ RdK W.heap.size w'.heap.size w' dp (some ⟨yg, 0, none⟩) kn kn xs ∧ Below W.heap.size W w') := fun W hW => (toKb_any (HCb.out.below hW (by omega)) (Nat.le_trans (by omega) hW.size) HBk.out).mono fun e w' ⟨g, he, hr, hb, _⟩ => ⟨g, he, hr, hb⟩
    have H0d : Hid (Below Wb.heap.size Wb w0.drew) := H0.out.drew
    go_upto_region 8 with fail
    clear hneg hneg2
    go_cut [6] (fun b W => b = .bool ok ∧ Below Wb.heap.size Wb W)
    case first =>
      first | go_region_with (first
        | (go_at_call 8; first | (refine (HTo.out w0.drew H0d.out).mono ?_; rintro e w1 ⟨ag0, ag1, ag2, ag3, ag4, ag5, rfl, hx1, hb1⟩; have HX1 : Hid (RdW w0.drew.heap.size w1.heap.size w1 (some ⟨ag0, 0, none⟩) nn nn (some ⟨ag1, 0, none⟩) sn sn (some ⟨ag2, 0, none⟩) rn rn (some ⟨ag3, 0, none⟩) ln ln (some ⟨ag4, 0, none⟩) im im (some ⟨ag5, 0, none⟩) tn tn x) := hx1; have H1 : Hid (Below Wb.heap.size Wb w1) := H0d.out.trans (hb1.mono H0d.out.size); clear hx1 hb1 z0 z1 z2 z3 z4 z5 z6 j0; obtain ⟨⟨z0, z1, z2, z3, z4, z5, z6⟩, j0⟩ := And.intro (HAt.out _ H1.out).1.cells (HAt.out _ H1.out).2.cell) | (refine (HTo.out w3 H3.out).mono ?_; rintro e w2 ⟨ag0, ag1, ag2, ag3, ag4, ag5, rfl, hx2, hb2⟩; have HXx : Hid (∃ lo hi, RdW lo hi w2 (some ⟨ag0, 0, none⟩) nn nn (some ⟨ag1, 0, none⟩) sn sn (some ⟨ag2, 0, none⟩) rn rn (some ⟨ag3, 0, none⟩) ln ln (some ⟨ag4, 0, none⟩) im im (some ⟨ag5, 0, none⟩) tn tn x ∧ hi ≤ w2.heap.size) := ⟨_, _, hx2, Nat.le_refl _⟩; have HCx : Hid (∃ lo hi, RdK lo hi w2 dp (some ⟨yg, 0, none⟩) kn kn xs ∧ hi ≤ w2.heap.size ∧ lo ≤ w2.heap.size) := ⟨_, _, HC3.out.below hb2 (Nat.le_refl _), hb2.size, Nat.le_trans HL3.out hb2.size⟩; have H2 : Hid (Below Wb.heap.size Wb w2) := H3.out.trans (hb2.mono H3.out.size); clear hx2 hb2))
        | (go_at_call 15; first | (refine (HTc.out w1 H1.out).mono ?_; rintro e w2 ⟨yg, rfl, hx2, hb2⟩; have HXx : Hid (∃ lo hi, RdW lo hi w2 (some ⟨ag0, 0, none⟩) nn nn (some ⟨ag1, 0, none⟩) sn sn (some ⟨ag2, 0, none⟩) rn rn (some ⟨ag3, 0, none⟩) ln ln (some ⟨ag4, 0, none⟩) im im (some ⟨ag5, 0, none⟩) tn tn x ∧ hi ≤ w2.heap.size) := ⟨_, _, HX1.out.below hb2 (Nat.le_refl _), hb2.size⟩; have HCx : Hid (∃ lo hi, RdK lo hi w2 dp (some ⟨yg, 0, none⟩) kn kn xs ∧ hi ≤ w2.heap.size ∧ lo ≤ w2.heap.size) := ⟨_, _, hx2, Nat.le_refl _, hb2.size⟩; have H2 : Hid (Below Wb.heap.size Wb w2) := H1.out.trans (hb2.mono H1.out.size); clear hx2 hb2) | (refine (HTc.out w0.drew H0d.out).mono ?_; rintro e w3 ⟨yg, rfl, hx3, hb3⟩; have HC3 : Hid (RdK w0.drew.heap.size w3.heap.size w3 dp (some ⟨yg, 0, none⟩) kn kn xs) := hx3; have H3 : Hid (Below Wb.heap.size Wb w3) := H0d.out.trans (hb3.mono H0d.out.size); have HL3 : Hid (w0.drew.heap.size ≤ w3.heap.size) := hb3.size; clear hx3 hb3 z0 z1 z2 z3 z4 z5 z6 j0; obtain ⟨⟨z0, z1, z2, z3, z4, z5, z6⟩, j0⟩ := And.intro (HAt.out _ H3.out).1.cells (HAt.out _ H3.out).2.cell))
        | (go_at_call 14; obtain ⟨_, _, hxx, hxs⟩ := HXx.out; obtain ⟨_, _, hcx, hcs, hcl⟩ := HCx.out; refine (specIsModel_any hxx hcx HK.out hxs hcs hcl).mono ?_; rintro e w5 ⟨rfl, hb5⟩; rw [← HOk.out]; have H5 : Hid (Below Wb.heap.size Wb w5) := H2.out.trans (hb5.mono H2.out.size); clear hb5 hxx hxs hcx hcs hcl)) | fail
      all_goals
        go_wp2_with fail
        go_meet
        case rel => exact ⟨rfl, H5.out⟩
    case rest =>
      obtain ⟨hb8, h3c⟩ := hcut
      subst hb8
      obtain ⟨w3, hw3⟩ : ∃ V, V = wc := ⟨_, rfl⟩
      rw [← hw3] at h3c ⊢
      clear hw3
      have H3 : Hid (Below Wb.heap.size Wb w3) := h3c
      have s3 := h3c.size
      clear z0 z1 z2 z3 z4 z5 z6 j0 h3c
      obtain ⟨⟨z0, z1, z2, z3, z4, z5, z6⟩, j0⟩ := And.intro (HAt.out _ H3.out).1.cells (HAt.out _ H3.out).2.cell
      go_wp2_with fail
      refine (HTo.out w3 H3.out).mono ?_
      rintro e w4 ⟨bg0, bg1, bg2, bg3, bg4, bg5, rfl, hx4, hb4⟩
      have s4 := hb4.size
      obtain ⟨w5, hw5⟩ : ∃ w5, w5 = w4.alloc (.cells #[.int .i64 k, .slice (some ⟨bg0, 0, none⟩) nn nn, .slice (some ⟨bg1, 0, none⟩) sn sn, .slice (some ⟨bg2, 0, none⟩) rn rn, .slice (some ⟨bg3, 0, none⟩) ln ln, .slice (some ⟨bg4, 0, none⟩) im im, .slice (some ⟨bg5, 0, none⟩) tn tn] 36) := ⟨_, rfl⟩
      have HW5 : Hid (w5 = w4.alloc (.cells #[.int .i64 k, .slice (some ⟨bg0, 0, none⟩) nn nn, .slice (some ⟨bg1, 0, none⟩) sn sn, .slice (some ⟨bg2, 0, none⟩) rn rn, .slice (some ⟨bg3, 0, none⟩) ln ln, .slice (some ⟨bg4, 0, none⟩) im im, .slice (some ⟨bg5, 0, none⟩) tn tn] 36)) := hw5
      have hb5 : Below w4.heap.size w4 w5 := by rw [hw5]; exact (Below.refl _ _).alloc (Nat.le_refl _) _
      have s5 : w4.heap.size < w5.heap.size := by rw [hw5]; simp
      have H5 : Hid (Below Wb.heap.size Wb w5) := (H3.out.trans (hb4.mono (by omega))).trans (hb5.mono (by omega))
      have HX5 : Hid (RdW w3.heap.size w4.heap.size w5 (some ⟨bg0, 0, none⟩) nn nn (some ⟨bg1, 0, none⟩) sn sn (some ⟨bg2, 0, none⟩) rn rn (some ⟨bg3, 0, none⟩) ln ln (some ⟨bg4, 0, none⟩) im im (some ⟨bg5, 0, none⟩) tn tn x) := hx4.below hb5 (Nat.le_refl _)
      have HBX : Hid (BoxW 36 w5 w4.heap.size k (.slice (some ⟨bg0, 0, none⟩) nn nn) (.slice (some ⟨bg1, 0, none⟩) sn sn) (.slice (some ⟨bg2, 0, none⟩) rn rn) (.slice (some ⟨bg3, 0, none⟩) ln ln) (.slice (some ⟨bg4, 0, none⟩) im im) (.slice (some ⟨bg5, 0, none⟩) tn tn)) := by unfold Hid; rw [hw5]; exact BoxW.new _ w4 _ _ _ _ _ _ _
      clear hx4 hb4 hb5 hw5 z0 z1 z2 z3 z4 z5 z6 j0
      obtain ⟨⟨z0, z1, z2, z3, z4, z5, z6⟩, j0⟩ := And.intro (HAt.out _ H5.out).1.cells (HAt.out _ H5.out).2.cell
      go_upto_region 10 with fail
      rw [← HW5.out]
      go_wp2_with fail
      refine (HTc.out w5 H5.out).mono ?_
      rintro e w6 ⟨xg, rfl, hx6, hb6⟩
      have s6 := hb6.size
      obtain ⟨w7, hw7⟩ : ∃ w7, w7 = w6.alloc (.cells #[.slice (some ⟨xg, 0, none⟩) kn kn] 54) := ⟨_, rfl⟩
      have HW7 : Hid (w7 = w6.alloc (.cells #[.slice (some ⟨xg, 0, none⟩) kn kn] 54)) := hw7
      have hb7 : Below w6.heap.size w6 w7 := by rw [hw7]; exact (Below.refl _ _).alloc (Nat.le_refl _) _
      have s7 : w6.heap.size < w7.heap.size := by rw [hw7]; simp
      have h57 : Below w5.heap.size w5 w7 := hb6.trans (hb7.mono (by omega))
      have H7 : Hid (Below Wb.heap.size Wb w7) := H5.out.trans (h57.mono (by omega))
      have HX7 : Hid (RdW w3.heap.size w4.heap.size w7 (some ⟨bg0, 0, none⟩) nn nn (some ⟨bg1, 0, none⟩) sn sn (some ⟨bg2, 0, none⟩) rn rn (some ⟨bg3, 0, none⟩) ln ln (some ⟨bg4, 0, none⟩) im im (some ⟨bg5, 0, none⟩) tn tn x) := HX5.out.below h57 (by omega)
      have HC7 : Hid (RdK w5.heap.size w6.heap.size w7 dp (some ⟨xg, 0, none⟩) kn kn xs) := hx6.below hb7 (Nat.le_refl _)
      have HB7 : Hid (BoxW 36 w7 w4.heap.size k (.slice (some ⟨bg0, 0, none⟩) nn nn) (.slice (some ⟨bg1, 0, none⟩) sn sn) (.slice (some ⟨bg2, 0, none⟩) rn rn) (.slice (some ⟨bg3, 0, none⟩) ln ln) (.slice (some ⟨bg4, 0, none⟩) im im) (.slice (some ⟨bg5, 0, none⟩) tn tn)) := HBX.out.below h57 (by omega)
      have HBC7 : Hid (Boxed w7 w6.heap.size 54 (.slice (some ⟨xg, 0, none⟩) kn kn)) := by unfold Hid; rw [hw7]; exact Boxed.new w6 _ _
      obtain ⟨m0, m1, m2, m3, m4, m5, m6⟩ := HB7.out.cells
      have n0 := HBC7.out.cell
      clear hx6 hb6 hb7 hw7 h57 z0 z1 z2 z3 z4 z5 z6 j0
      go_upto_region 11 with fail
      rw [← HW7.out]
      go_wp2_with fail
      refine (implIsModel_any HX7.out HC7.out HK.out (by omega) (by omega) (by omega) (bulks HBk.out)).mono ?_
      rintro e w8 ⟨rfl, hb8⟩
      rw [← HOk.out]
      have s8 := hb8.size
      have H78 : Hid (Below w7.heap.size w7 w8) := hb8
      have H8 : Hid (Below Wb.heap.size Wb w8) := H7.out.trans (hb8.mono (by omega))
      have HV : Hid (∀ V, Below w8.heap.size w8 V → RdW w3.heap.size w4.heap.size V (some ⟨bg0, 0, none⟩) nn nn (some ⟨bg1, 0, none⟩) sn sn (some ⟨bg2, 0, none⟩) rn rn (some ⟨bg3, 0, none⟩) ln ln (some ⟨bg4, 0, none⟩) im im (some ⟨bg5, 0, none⟩) tn tn x ∧ RdK w5.heap.size w6.heap.size V dp (some ⟨xg, 0, none⟩) kn kn xs ∧ BoxW 36 V w4.heap.size k (.slice (some ⟨bg0, 0, none⟩) nn nn) (.slice (some ⟨bg1, 0, none⟩) sn sn) (.slice (some ⟨bg2, 0, none⟩) rn rn) (.slice (some ⟨bg3, 0, none⟩) ln ln) (.slice (some ⟨bg4, 0, none⟩) im im) (.slice (some ⟨bg5, 0, none⟩) tn tn) ∧ Boxed V w6.heap.size 54 (.slice (some ⟨xg, 0, none⟩) kn kn) ∧ w8.heap.size ≤ V.heap.size) := fun V hV => by
        have h7V := hb8.trans (hV.mono hb8.size)
        exact ⟨HX7.out.below h7V (by omega), HC7.out.below h7V (by omega), HB7.out.below h7V (by omega), (h7V.block _ (by omega)).trans HBC7.out, hV.size⟩
      clear hb8 m0 m1 m2 m3 m4 m5 m6 n0
      obtain ⟨m0, m1, m2, m3, m4, m5, m6⟩ := (HV.out w8 (Below.refl _ _)).2.2.1.cells
      have n0 := (HV.out w8 (Below.refl _ _)).2.2.2.1.cell
      obtain ⟨⟨z0, z1, z2, z3, z4, z5, z6⟩, j0⟩ := And.intro (HAt.out _ H8.out).1.cells (HAt.out _ H8.out).2.cell
      have H8d : Hid (Below w8.heap.size w8 w8.drew) := (Below.refl _ _).drew
      have HWV : Hid (∀ {V : World}, Below w8.heap.size w8 V → Below Wb.heap.size Wb V) := fun {V} hV => H8.out.trans (hV.mono H8.out.size)
      go_upto_region 14 with fail
      go_cut [39] (fun b W => b = .bool false ∧ Below w8.heap.size w8 W)
      case first =>
        first | go_region_with (first
          | (go_at_call 8; refine (HTo.out w8.drew (HWV.out H8d.out)).mono ?_; rintro e w9 ⟨qg0, qg1, qg2, qg3, qg4, qg5, rfl, hx9, hb9⟩; have HX9 : Hid (RdW w8.drew.heap.size w9.heap.size w9 (some ⟨qg0, 0, none⟩) nn nn (some ⟨qg1, 0, none⟩) sn sn (some ⟨qg2, 0, none⟩) rn rn (some ⟨qg3, 0, none⟩) ln ln (some ⟨qg4, 0, none⟩) im im (some ⟨qg5, 0, none⟩) tn tn x) := hx9; have H9 : Hid (Below w8.heap.size w8 w9) := H8d.out.trans (hb9.mono H8d.out.size); clear hx9 hb9 m0 m1 m2 m3 m4 m5 m6; obtain ⟨m0, m1, m2, m3, m4, m5, m6⟩ := (HV.out w9 H9.out).2.2.1.cells)
          | (go_at_call 11; refine (eqW_any (HV.out w9 H9.out).1 HX9.out (by have := H9.out.size; omega) (Nat.le_refl _) k).mono ?_; rintro e wt ⟨rfl, hbt⟩; have Ht : Hid (Below w8.heap.size w8 wt) := H9.out.trans (hbt.mono H9.out.size); clear hbt)) | fail
        all_goals
          go_wp2_with fail
          go_meet
          case rel => exact ⟨rfl, Ht.out⟩
      case rest =>
        obtain ⟨hb39, h8c⟩ := hcut
        subst hb39
        have Hc : Hid (Below w8.heap.size w8 wc) := h8c
        clear m0 m1 m2 m3 m4 m5 m6 n0 z0 z1 z2 z3 z4 z5 z6 j0 h8c
        have n0 := (HV.out wc Hc.out).2.2.2.1.cell
        have j0 := (HAt.out _ (HWV.out Hc.out)).2.cell
        have Hcd : Hid (Below w8.heap.size w8 wc.drew) := Hc.out.drew
        go_upto_region 16 with fail
        go_cut [44] (fun b W => b = .bool false ∧ Below w8.heap.size w8 W)
        case first =>
          first | go_region_with (first
            | (go_at_call 15; refine (HTc.out wc.drew (HWV.out Hcd.out)).mono ?_; rintro e w9 ⟨yg, rfl, hx9, hb9⟩; have HC9 : Hid (RdK wc.drew.heap.size w9.heap.size w9 dp (some ⟨yg, 0, none⟩) kn kn xs) := hx9; have H9 : Hid (Below w8.heap.size w8 w9) := Hcd.out.trans (hb9.mono Hcd.out.size); clear hx9 hb9 n0; have n0 := (HV.out w9 H9.out).2.2.2.1.cell)
            | (go_at_call 17; refine (eqKb_any (HV.out w9 H9.out).2.1 HC9.out (by have := H9.out.size; omega) (Nat.le_refl _)).mono ?_; rintro e wt ⟨rfl, hbt⟩; have Ht : Hid (Below w8.heap.size w8 wt) := H9.out.trans (hbt.mono H9.out.size); clear hbt)) | fail
          all_goals
            go_wp2_with fail
            go_meet
            case rel => exact ⟨rfl, Ht.out⟩
        case rest =>
          obtain ⟨hb44x, h8e⟩ := hcut
          subst hb44x
          have He : Hid (Below w8.heap.size w8 _) := h8e
          clear h8e
          go_wp2_with fail
          go_ret
          exact ⟨rfl, HBB.out.trans ((HWV.out He.out).mono (by omega))⟩

set_option maxRecDepth 100000 in
theorem lifted (os : Os) (started : os.Started) (H : Type) (enc : TypeId × Value → H) :
    ReturnsInHanded {} Tryz.checked os 4 .any (Rows.fnExactIsModelSpec.pre6 enc Tryz.prog Tryz.f4 Rows.fnExactIsModelRow.domain false) (Rows.fnExactIsModelSpec.post enc Tryz.prog Tryz.f4 false true false false) := by
  refine returnsInHanded_of_change (C := Tryz.checked) own started (by kernel_rfl) Tryz.func4
    (ChangeSpec.witness6 (enc := enc) (C := Tryz.checked) false ⟨#[], #[.agg #[.int .i64 0, .slice none 0 0, .slice none 0 0, .slice none 0 0, .slice none 0 0, .slice none 0 0, .slice none 0 0], .agg #[.slice none 0 0]], []⟩ 8 (by kernel_rfl) (by kernel_rfl) (by kernel_rfl) (by kernel_rfl)) ?_
  intro W base args ds gs before hval0 hW hcnd _
  have hval : ∀ (j : Nat) t v, Tryz.f4.params[j]? = some t → args[j]? = some v → Value.okWide Tryz.prog W .any base t v := hval0
  have hW' := hW
  obtain ⟨p, q, hA0, hV, rfl, hfz, hnd⟩ := hW
  have hA : DataW.TrodAll enc Tryz.prog W 0 (fun _ => true) true Tryz.f4.params.toList args.toList ds p := hA0
  rw [Tryz.params4] at hA hval
  obtain ⟨v0, vs0, d0, ds0, p0, q0, hargs, rfl, rfl, h0, r0⟩ := trodAll_cons hA
  obtain ⟨v1, vs1, d1, ds1, p1, q1, hargs1, rfl, rfl, h1, r1⟩ := trodAll_cons r0
  obtain ⟨rfl, rfl, rfl⟩ := trodAll_nil r1
  obtain rfl : args = #[v0, v1] := by cases args; simp_all
  obtain ⟨rfl, rfl⟩ := trodVars_none hV
  obtain ⟨cs0, rfl, _⟩ := okWide_struct Tryz.underlying26 (hval 0 26 v0 rfl rfl)
  obtain ⟨cs1, rfl, _⟩ := okWide_struct Tryz.underlying49 (hval 1 49 v1 rfl rfl)
  have k0 := h0
  have k1 := h1
  have lt0 : ∀ x ∈ p0, x.block < W.heap.size := by obtain ⟨m, hm⟩ := k0; exact DataW.trod_lt m _ _ _ hm
  have lt1 : ∀ x ∈ p1, x.block < W.heap.size := by obtain ⟨m, hm⟩ := k1; exact DataW.trod_lt m _ _ _ hm
  obtain ⟨k, na, nn, nc, sa, sn, sc, ra, rn, rc, la, ln, lc, ia, im, ic, ta, tn, tc, x, hcs, hk, w0⟩ : ∃ k na nn nc sa sn sc ra rn rc la ln lc ia im ic ta tn tc x, cs0 = #[.int .i64 k, .slice na nn nc, .slice sa sn sc, .slice ra rn rc, .slice la ln lc, .slice ia im ic, .slice ta tn tc] ∧ WD.n x = k ∧ RdW 0 W.heap.size W na nn nc sa sn sc ra rn rc la ln lc ia im ic ta tn tc x := by
    obtain ⟨fuel, hf⟩ := h0
    obtain ⟨k, na, nn, nc, sa, sn, sc, ra, rn, rc, la, ln, lc, ia, im, ic, ta, tn, tc, x, hv, hk, hr⟩ := open_world (cs := cs0.toList) (by simpa [Value.cells] using hf)
    exact ⟨k, na, nn, nc, sa, sn, sc, ra, rn, rc, la, ln, lc, ia, im, ic, ta, tn, tc, x, by cases cs0; simp_all, hk, hr⟩
  subst hcs
  obtain ⟨dd, ka, kn, kc, xs, hcs1, w1⟩ : ∃ dd ka kn kc xs, cs1 = #[.slice ka kn kc] ∧ RdK 0 W.heap.size W dd ka kn kc xs := by
    obtain ⟨fuel, hf⟩ := h1
    obtain ⟨dd, ka, kn, kc, xs, hv, hr⟩ := open_kb (cs := cs1.toList) (by simpa [Value.cells] using hf)
    exact ⟨dd, ka, kn, kc, xs, by cases cs1; simp_all, hr⟩
  subst hcs1
  clear hA0 hval0
  refine (walk k hk W w0 w1).mono fun e W' ⟨he, bel⟩ => ?_
  subst he
  exact ⟨_, rfl, _, _, _, [], _, [], hW', trodAll_mk1 (shut_bool Tryz.underlying4 _), (trodAll_cons_mk (Below.trod laidOut (by kernel_rfl) (of_decide_eq_true (by kernel_rfl)) k0 bel lt0) (trodAll_cons_mk (Below.trod laidOut (by kernel_rfl) (of_decide_eq_true (by kernel_rfl)) k1 bel lt1) trodAll_mk0)), rfl, bel.frame _, fun h => by cases h⟩

theorem over : Rows.fnExactIsModelRow.holds Tryz.pinned (OpenSpec.ofChange Rows.fnExactIsModelSpec) :=
  OpenClaim.holds_of_wide 4 Tryz.f4 rfl rfl rfl rfl rfl rfl rfl ⟨rfl, rfl, rfl, rfl, rfl⟩ rfl rfl rfl rfl rfl (by kernel_rfl) Tryz.func4 (by kernel_rfl)
    (of_decide_eq_true (by kernel_rfl)) (by unfold Func.isWrapper; first | (rw [if_pos (by decide +kernel)]; kernel_rfl) | (rw [if_neg (by decide +kernel)]; exact ⟨rfl, rfl⟩))
    (fun os started H enc _ => lifted os started H enc)

theorem proved : Rows.FnExactIsModelSaid := over
#print axioms proved
end Go.Proofs.YtfbokljbmihlbaaGreat.fnExactIsModel
namespace Go.Proofs.YtfbokljbmihlbaaGreat
theorem fnExactIsModel_holds : Rows.FnExactIsModelSaid := fnExactIsModel.proved
end Go.Proofs.YtfbokljbmihlbaaGreat
