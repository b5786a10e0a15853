/- For every world and every concept the law FnExactExtension answers true, and what was handed in reads behind the call as it did before: no condition. -/
import Derived.Test.YtfbokljbmihlbaaRows
import Derived.Test.YtfbokljbmihlbaaExtAll
import Derived.Test.YtfbokljbmihlbaaExtLaws
import Derived.Test.YtfbokljbmihlbaaWdLaw3
import Derived.Test.YtfbokljbmihlbaaConTo
import Derived.WalkKit
import Derived.ProofKit
import Derived.OpenShut
import Derived.ShutString
import Derived.ChangeOld
import Derived.Below
import Derived.Deep.DeepCutAuto
namespace Go.Proofs.Ytfbokljbmihlbaa.fnExactExtension
open Go.ChangeShapes Go.WideShapes Go.ChangeAt Go.RowKit Go.Deep
set_option linter.unusedVariables false

theorem own : ownKnob Try.prog.godebug = none := by kernel_rfl
theorem laidOut : laidOutB Try.prog = true := by kernel_rfl

theorem leafIn {w w' : World} {b n lo hi : Nat} (h : LeafOk w (leafI b 0 n)) (hb : n = 0 ∨ (lo ≤ b ∧ b < hi)) (hs : Same lo hi w w') : LeafOk w' (leafI b 0 n) := by
  rcases hb with h0 | hb
  · rw [h0]; intro x hx; simp [leafI] at hx
  · exact h.blk (hs b hb.1 hb.2)

set_option maxRecDepth 100000 in
set_option maxHeartbeats 8000000 in
theorem walk {na : Option Addr} {nn nc : Nat} {sa : Option Addr} {sn sc : Nat} {ra : Option Addr} {rn rc : Nat} {la : Option Addr} {ln lc : Nat} {ia : Option Addr} {im ic : Nat} {ta : Option Addr} {tn tc : Nat} {d : Nat} {v0 v1 v2 v3 : Value} {c : CN} {x : WD} (k : Int) (hk : x.n = k) (w : World) (hR : RdW 0 w.heap.size w na nn nc sa sn sc ra rn rc la ln lc ia im ic ta tn tc x) (hC : RdC 0 w.heap.size w d (.agg #[v0, v1, v2, v3]) c) :
    Calls Try.prog 3 #[.agg #[.int .i64 k, .slice na nn nc, .slice sa sn sc, .slice ra rn rc, .slice la ln lc, .slice ia im ic, .slice ta tn tc], .agg #[v0, v1, v2, v3]] w fun e w' => e = .returned (.bool true) ∧ Below w.heap.size w w' := by
  obtain ⟨Wb, hWb⟩ : ∃ Wb, Wb = (w.alloc (.cells #[.int .i64 k, .slice na nn nc, .slice sa sn sc, .slice ra rn rc, .slice la ln lc, .slice ia im ic, .slice ta tn tc] 26)).alloc (.cells #[v0, v1, v2, v3] 30) := ⟨_, rfl⟩
  have HWb : Hid (Wb = (w.alloc (.cells #[.int .i64 k, .slice na nn nc, .slice sa sn sc, .slice ra rn rc, .slice la ln lc, .slice ia im ic, .slice ta tn tc] 26)).alloc (.cells #[v0, v1, v2, v3] 30)) := hWb
  have hbb : Below w.heap.size w Wb := by rw [hWb]; exact ((Below.refl _ _).alloc (Nat.le_refl _) _).alloc (by simp) _
  have HBB : Hid (Below w.heap.size w Wb) := hbb
  have hsb : Wb.heap.size = w.heap.size + 2 := by rw [hWb]; simp
  have HRb : Hid (RdW 0 w.heap.size Wb na nn nc sa sn sc ra rn rc la ln lc ia im ic ta tn tc x) := hR.below hbb (Nat.le_refl _)
  have HCb : Hid (RdC 0 w.heap.size Wb d (.agg #[v0, v1, v2, v3]) c) := hC.below hbb (Nat.le_refl _)
  have hbx : BoxW 26 Wb w.heap.size k (.slice na nn nc) (.slice sa sn sc) (.slice ra rn rc) (.slice la ln lc) (.slice ia im ic) (.slice ta tn tc) := by rw [hWb]; exact (BoxW.new _ w _ _ _ _ _ _ _).below ((Below.refl _ _).alloc (Nat.le_refl _) _) (by simp)
  have hby : BoxL Wb (w.heap.size + 1) v0 v1 v2 v3 := by
    rw [hWb]
    have := BoxL.new (w.alloc (.cells #[.int .i64 k, .slice na nn nc, .slice sa sn sc, .slice ra rn rc, .slice la ln lc, .slice ia im ic, .slice ta tn tc] 26)) v0 v1 v2 v3
    rwa [World.size_alloc] at this
  have HAt : Hid (∀ W, Below Wb.heap.size Wb W → BoxW 26 W w.heap.size k (.slice na nn nc) (.slice sa sn sc) (.slice ra rn rc) (.slice la ln lc) (.slice ia im ic) (.slice ta tn tc) ∧ BoxL W (w.heap.size + 1) v0 v1 v2 v3) := fun W hW => ⟨hbx.below hW (by omega), hby.below hW (by omega)⟩
  have HK : Hid (x.n = k) := hk
  obtain ⟨L, hL⟩ : ∃ L, L = extL x c := ⟨_, rfl⟩
  have HL : Hid (L = extL x c) := hL
  obtain ⟨len, hlen⟩ : ∃ len, len = L.length := ⟨_, rfl⟩
  have HLen : Hid (len = L.length) := hlen
  have hl128 : len ≤ 128 := by rw [hlen, hL]; exact extL_len x c
  obtain ⟨z0, z1, z2, z3, z4, z5, z6⟩ := hbx.cells
  obtain ⟨k0, k1, k2, k3⟩ := hby.cells
  have hsb' : w.heap.size + 2 ≤ Wb.heap.size := by omega
  clear hR hC hbb hWb hbx hby hk hL hlen hsb
  go_enter Try.func3, Try.ntmps3
  go_upto_region 1 with fail
  rw [← HWb.out]
  go_wp2_with fail
  refine (szW_any HRb.out (by omega) k).mono ?_
  rintro e wz ⟨r, rfl, hbounds, hb⟩
  have HBo : Hid (¬ r < 0 → BdW x nn sn rn ln im tn ∧ r ≤ 1048576) := hbounds
  have Hz : Hid (Below Wb.heap.size Wb wz) := hb
  have sz := hb.size
  clear z0 z1 z2 z3 z4 z5 z6 k0 k1 k2 k3 hb hbounds
  obtain ⟨⟨z0, z1, z2, z3, z4, z5, z6⟩, k0, k1, k2, k3⟩ := And.intro (HAt.out _ Hz.out).1.cells (HAt.out _ Hz.out).2.cells
  by_cases hneg : r < 0
  · go_wp2_with fail
    go_ret
    exact ⟨rfl, HBB.out.trans (Hz.out.mono (by omega))⟩
  have HBd : Hid (BdW x nn sn rn ln im tn) := (HBo.out hneg).1
  have hr1 : r ≤ 1048576 := (HBo.out hneg).2
  obtain ⟨r2, hr2⟩ : ∃ r2, r2 = szRes r c.bulk := ⟨_, rfl⟩
  have HSz : Hid (r2 = szRes r c.bulk) := hr2
  clear hr2
  go_wp2_with fail
  refine (szC_any d _ c r wz 0 w.heap.size (HCb.out.below Hz.out (by omega)) (by omega) (by omega) hr1).mono ?_
  rintro e w0 ⟨rfl, hb⟩
  rw [← HSz.out]
  have H0 : Hid (Below Wb.heap.size Wb w0) := Hz.out.trans (hb.mono sz)
  have s0 := H0.out.size
  clear hb z0 z1 z2 z3 z4 z5 z6 k0 k1 k2 k3
  obtain ⟨⟨z0, z1, z2, z3, z4, z5, z6⟩, k0, k1, k2, k3⟩ := And.intro (HAt.out _ H0.out).1.cells (HAt.out _ H0.out).2.cells
  by_cases hneg2 : r2 < 0
  · go_wp2_with fail
    go_ret
    exact ⟨rfl, HBB.out.trans (H0.out.mono (by omega))⟩
  · have HBk : Hid (c.bulk ≤ 1048576) := by have := szRes_pos (by rw [← HSz.out]; exact hneg2); unfold Hid; omega
    have HTo : Hid (∀ W, Below Wb.heap.size Wb W → Calls Try.prog 8 #[.agg #[.int .i64 k, .slice na nn nc, .slice sa sn sc, .slice ra rn rc, .slice la ln lc, .slice ia im ic, .slice ta tn tc]] W fun e w' => ∃ g0 g1 g2 g3 g4 g5, e = .returned (.agg #[.int .i64 k, .slice (some ⟨g0, 0, none⟩) nn nn, .slice (some ⟨g1, 0, none⟩) sn sn, .slice (some ⟨g2, 0, none⟩) rn rn, .slice (some ⟨g3, 0, none⟩) ln ln, .slice (some ⟨g4, 0, none⟩) im im, .slice (some ⟨g5, 0, none⟩) tn tn]) ∧ RdW W.heap.size w'.heap.size w' (some ⟨g0, 0, none⟩) nn nn (some ⟨g1, 0, none⟩) sn sn (some ⟨g2, 0, none⟩) rn rn (some ⟨g3, 0, none⟩) ln ln (some ⟨g4, 0, none⟩) im im (some ⟨g5, 0, none⟩) tn tn x ∧ Below W.heap.size W w' ∧ Free W.heap.size w'.heap.size w') := fun W hW => toW_fr (HRb.out.below hW (by omega)) (Nat.le_trans (by omega) hW.size) HBd.out k
    have HTc : Hid (∀ W, Below Wb.heap.size Wb W → Calls Try.prog 9 #[.agg #[v0, v1, v2, v3]] W fun e w' => ∃ yk yna ynn ync yra yrn yrc yka ykn ykc, e = .returned (.agg #[.int .i64 yk, .slice yna ynn ync, .slice yra yrn yrc, .slice yka ykn ykc]) ∧ RdC W.heap.size w'.heap.size w' d (.agg #[.int .i64 yk, .slice yna ynn ync, .slice yra yrn yrc, .slice yka ykn ykc]) c ∧ Below W.heap.size W w' ∧ Free W.heap.size w'.heap.size w') := fun W hW => (toC_any d _ c W 0 w.heap.size (HCb.out.below hW (by omega)) (Nat.le_trans (by omega) hW.size) HBk.out).mono fun e w' ⟨v, he, hr, hfr, hb⟩ => by
      obtain ⟨yk, yna, ynn, ync, yra, yrn, yrc, yka, ykn, ykc, rfl⟩ := hr.shape
      exact ⟨_, _, _, _, _, _, _, _, _, _, he, hr, hb, hfr⟩
    have H0d : Hid (Below Wb.heap.size Wb w0.drew) := H0.out.drew
    go_upto_region 8 with fail
    clear hneg hneg2
    go_cut [6] (fun b W => OwnI Wb.heap.size W b L ∧ Below Wb.heap.size Wb W)
    case first =>
      first | go_region_with (first
        | (go_at_call 8; first | (refine (HTo.out w0.drew H0d.out).mono ?_; rintro e w1 ⟨ag0, ag1, ag2, ag3, ag4, ag5, rfl, hx1, hb1, _⟩; have HX1 : Hid (RdW w0.drew.heap.size w1.heap.size w1 (some ⟨ag0, 0, none⟩) nn nn (some ⟨ag1, 0, none⟩) sn sn (some ⟨ag2, 0, none⟩) rn rn (some ⟨ag3, 0, none⟩) ln ln (some ⟨ag4, 0, none⟩) im im (some ⟨ag5, 0, none⟩) tn tn x) := hx1; have H1 : Hid (Below Wb.heap.size Wb w1) := H0d.out.trans (hb1.mono H0d.out.size); clear hx1 hb1 z0 z1 z2 z3 z4 z5 z6 k0 k1 k2 k3; obtain ⟨⟨z0, z1, z2, z3, z4, z5, z6⟩, k0, k1, k2, k3⟩ := And.intro (HAt.out _ H1.out).1.cells (HAt.out _ H1.out).2.cells) | (refine (HTo.out w3 H3.out).mono ?_; rintro e w2 ⟨ag0, ag1, ag2, ag3, ag4, ag5, rfl, hx2, hb2, _⟩; have HXx : Hid (∃ lo hi, RdW lo hi w2 (some ⟨ag0, 0, none⟩) nn nn (some ⟨ag1, 0, none⟩) sn sn (some ⟨ag2, 0, none⟩) rn rn (some ⟨ag3, 0, none⟩) ln ln (some ⟨ag4, 0, none⟩) im im (some ⟨ag5, 0, none⟩) tn tn x ∧ hi ≤ w2.heap.size) := ⟨_, _, hx2, Nat.le_refl _⟩; have HCx : Hid (∃ lo hi, RdC lo hi w2 d (.agg #[.int .i64 yk, .slice yna ynn ync, .slice yra yrn yrc, .slice yka ykn ykc]) c ∧ hi ≤ w2.heap.size) := ⟨_, _, HC3.out.below hb2 (Nat.le_refl _), hb2.size⟩; have H2 : Hid (Below Wb.heap.size Wb w2) := H3.out.trans (hb2.mono H3.out.size); clear hx2 hb2))
        | (go_at_call 9; first | (refine (HTc.out w1 H1.out).mono ?_; rintro e w2 ⟨yk, yna, ynn, ync, yra, yrn, yrc, yka, ykn, ykc, rfl, hx2, hb2, _⟩; have HXx : Hid (∃ lo hi, RdW lo hi w2 (some ⟨ag0, 0, none⟩) nn nn (some ⟨ag1, 0, none⟩) sn sn (some ⟨ag2, 0, none⟩) rn rn (some ⟨ag3, 0, none⟩) ln ln (some ⟨ag4, 0, none⟩) im im (some ⟨ag5, 0, none⟩) tn tn x ∧ hi ≤ w2.heap.size) := ⟨_, _, HX1.out.below hb2 (Nat.le_refl _), hb2.size⟩; have HCx : Hid (∃ lo hi, RdC lo hi w2 d (.agg #[.int .i64 yk, .slice yna ynn ync, .slice yra yrn yrc, .slice yka ykn ykc]) c ∧ hi ≤ w2.heap.size) := ⟨_, _, hx2, Nat.le_refl _⟩; have H2 : Hid (Below Wb.heap.size Wb w2) := H1.out.trans (hb2.mono H1.out.size); clear hx2 hb2) | (refine (HTc.out w0.drew H0d.out).mono ?_; rintro e w3 ⟨yk, yna, ynn, ync, yra, yrn, yrc, yka, ykn, ykc, rfl, hx3, hb3, _⟩; have HC3 : Hid (RdC w0.drew.heap.size w3.heap.size w3 d (.agg #[.int .i64 yk, .slice yna ynn ync, .slice yra yrn yrc, .slice yka ykn ykc]) c) := hx3; have H3 : Hid (Below Wb.heap.size Wb w3) := H0d.out.trans (hb3.mono H0d.out.size); clear hx3 hb3 z0 z1 z2 z3 z4 z5 z6 k0 k1 k2 k3; obtain ⟨⟨z0, z1, z2, z3, z4, z5, z6⟩, k0, k1, k2, k3⟩ := And.intro (HAt.out _ H3.out).1.cells (HAt.out _ H3.out).2.cells))
        | (go_at_call 7; obtain ⟨_, _, hxx, hxs⟩ := HXx.out; obtain ⟨_, _, hcx, hcs⟩ := HCx.out; refine (specExt_any hxx hcx HK.out hxs hcs).mono ?_; rintro e w5 ⟨vS, rfl, hS, hb5⟩; rw [← HL.out] at hS; have HS5 : Hid (OwnI Wb.heap.size w5 vS L) := hS.mono H2.out.size; have H5 : Hid (Below Wb.heap.size Wb w5) := H2.out.trans (hb5.mono H2.out.size); clear hb5 hS hxx hxs hcx hcs)) | fail
      all_goals
        go_wp2_with fail
        go_meet
        case rel => exact ⟨HS5.out, H5.out⟩
    case rest =>
      obtain ⟨hS, h3c⟩ := hcut
      obtain ⟨pa, pc, _, hb8, hSr, _, _, _⟩ := hS.form
      rw [← HLen.out] at hb8 hSr
      subst hb8
      obtain ⟨w3, hw3⟩ : ∃ V, V = wc := ⟨_, rfl⟩
      rw [← hw3] at h3c hSr ⊢
      clear hw3 hS
      have HSr : Hid (RI Wb.heap.size w3.heap.size w3 pa len pc L) := hSr
      have H3 : Hid (Below Wb.heap.size Wb w3) := h3c
      have s3 := h3c.size
      clear hSr
      clear z0 z1 z2 z3 z4 z5 z6 k0 k1 k2 k3 h3c
      obtain ⟨⟨z0, z1, z2, z3, z4, z5, z6⟩, k0, k1, k2, k3⟩ := And.intro (HAt.out _ H3.out).1.cells (HAt.out _ H3.out).2.cells
      go_wp2_with fail
      refine (HTo.out w3 H3.out).mono ?_
      rintro e w4 ⟨bg0, bg1, bg2, bg3, bg4, bg5, rfl, hx4, hb4, hf4⟩
      have s4 := hb4.size
      obtain ⟨w5, hw5⟩ : ∃ w5, w5 = w4.alloc (.cells #[.int .i64 k, .slice (some ⟨bg0, 0, none⟩) nn nn, .slice (some ⟨bg1, 0, none⟩) sn sn, .slice (some ⟨bg2, 0, none⟩) rn rn, .slice (some ⟨bg3, 0, none⟩) ln ln, .slice (some ⟨bg4, 0, none⟩) im im, .slice (some ⟨bg5, 0, none⟩) tn tn] 34) := ⟨_, rfl⟩
      have HW5 : Hid (w5 = w4.alloc (.cells #[.int .i64 k, .slice (some ⟨bg0, 0, none⟩) nn nn, .slice (some ⟨bg1, 0, none⟩) sn sn, .slice (some ⟨bg2, 0, none⟩) rn rn, .slice (some ⟨bg3, 0, none⟩) ln ln, .slice (some ⟨bg4, 0, none⟩) im im, .slice (some ⟨bg5, 0, none⟩) tn tn] 34)) := hw5
      have hb5 : Below w4.heap.size w4 w5 := by rw [hw5]; exact (Below.refl _ _).alloc (Nat.le_refl _) _
      have s5 : w4.heap.size < w5.heap.size := by rw [hw5]; simp
      have H5 : Hid (Below Wb.heap.size Wb w5) := (H3.out.trans (hb4.mono (by omega))).trans (hb5.mono (by omega))
      have HF5 : Hid (Free w3.heap.size w4.heap.size w5) := hf4.same (Same.of_below hb5 (Nat.le_refl _))
      have HS5 : Hid (RI Wb.heap.size w3.heap.size w5 pa len pc L) := (HSr.out.below hb4 (Nat.le_refl _)).below hb5 (by omega)
      have HX5 : Hid (RdW w3.heap.size w4.heap.size w5 (some ⟨bg0, 0, none⟩) nn nn (some ⟨bg1, 0, none⟩) sn sn (some ⟨bg2, 0, none⟩) rn rn (some ⟨bg3, 0, none⟩) ln ln (some ⟨bg4, 0, none⟩) im im (some ⟨bg5, 0, none⟩) tn tn x) := hx4.below hb5 (Nat.le_refl _)
      have HBX : Hid (BoxW 34 w5 w4.heap.size k (.slice (some ⟨bg0, 0, none⟩) nn nn) (.slice (some ⟨bg1, 0, none⟩) sn sn) (.slice (some ⟨bg2, 0, none⟩) rn rn) (.slice (some ⟨bg3, 0, none⟩) ln ln) (.slice (some ⟨bg4, 0, none⟩) im im) (.slice (some ⟨bg5, 0, none⟩) tn tn)) := by unfold Hid; rw [hw5]; exact BoxW.new _ w4 _ _ _ _ _ _ _
      clear hx4 hb4 hb5 hw5 hf4 z0 z1 z2 z3 z4 z5 z6 k0 k1 k2 k3
      obtain ⟨⟨z0, z1, z2, z3, z4, z5, z6⟩, k0, k1, k2, k3⟩ := And.intro (HAt.out _ H5.out).1.cells (HAt.out _ H5.out).2.cells
      go_upto_region 10 with fail
      rw [← HW5.out]
      go_wp2_with fail
      refine (HTc.out w5 H5.out).mono ?_
      rintro e w6 ⟨xk, xna, xnn, xnc, xra, xrn, xrc, xka, xkn, xkc, rfl, hx6, hb6, hf6⟩
      have s6 := hb6.size
      obtain ⟨w7, hw7⟩ : ∃ w7, w7 = w6.alloc (.cells #[.int .i64 xk, .slice xna xnn xnc, .slice xra xrn xrc, .slice xka xkn xkc] 38) := ⟨_, rfl⟩
      have HW7 : Hid (w7 = w6.alloc (.cells #[.int .i64 xk, .slice xna xnn xnc, .slice xra xrn xrc, .slice xka xkn xkc] 38)) := hw7
      have hb7 : Below w6.heap.size w6 w7 := by rw [hw7]; exact (Below.refl _ _).alloc (Nat.le_refl _) _
      have s7 : w6.heap.size < w7.heap.size := by rw [hw7]; simp
      have h57 : Below w5.heap.size w5 w7 := hb6.trans (hb7.mono (by omega))
      have H7 : Hid (Below Wb.heap.size Wb w7) := H5.out.trans (h57.mono (by omega))
      have HF7 : Hid (Free w3.heap.size w4.heap.size w7) := HF5.out.same (Same.of_below h57 (by omega))
      have HG7 : Hid (Free w5.heap.size w6.heap.size w7) := hf6.same (Same.of_below hb7 (Nat.le_refl _))
      have HS7 : Hid (RI Wb.heap.size w3.heap.size w7 pa len pc L) := HS5.out.below h57 (by omega)
      have HX7 : Hid (RdW w3.heap.size w4.heap.size w7 (some ⟨bg0, 0, none⟩) nn nn (some ⟨bg1, 0, none⟩) sn sn (some ⟨bg2, 0, none⟩) rn rn (some ⟨bg3, 0, none⟩) ln ln (some ⟨bg4, 0, none⟩) im im (some ⟨bg5, 0, none⟩) tn tn x) := HX5.out.below h57 (by omega)
      have HC7 : Hid (RdC w5.heap.size w6.heap.size w7 d (.agg #[.int .i64 xk, .slice xna xnn xnc, .slice xra xrn xrc, .slice xka xkn xkc]) c) := hx6.below hb7 (Nat.le_refl _)
      have HB7 : Hid (BoxW 34 w7 w4.heap.size k (.slice (some ⟨bg0, 0, none⟩) nn nn) (.slice (some ⟨bg1, 0, none⟩) sn sn) (.slice (some ⟨bg2, 0, none⟩) rn rn) (.slice (some ⟨bg3, 0, none⟩) ln ln) (.slice (some ⟨bg4, 0, none⟩) im im) (.slice (some ⟨bg5, 0, none⟩) tn tn)) := HBX.out.below h57 (by omega)
      have HBC7 : Hid (BoxC w7 w6.heap.size (.int .i64 xk) (.slice xna xnn xnc) (.slice xra xrn xrc) (.slice xka xkn xkc)) := by unfold Hid; rw [hw7]; exact BoxC.new w6 _ _ _ _
      obtain ⟨m0, m1, m2, m3, m4, m5, m6⟩ := HB7.out.cells
      obtain ⟨n0, n1, n2, n3⟩ := HBC7.out.cells
      clear hx6 hb6 hb7 hw7 h57 hf6 z0 z1 z2 z3 z4 z5 z6 k0 k1 k2 k3
      go_upto_region 11 with fail
      rw [← HW7.out]
      go_wp2_with fail
      refine (implExt_any HX7.out HC7.out HK.out (by omega) (by omega) HBk.out).mono ?_
      rintro e w8 ⟨vI, rfl, hI, hb8⟩
      rw [← HL.out] at hI
      have s8 := hb8.size
      obtain ⟨qa, qc, qb, hvI, hIr, hIa, hIl, hIb⟩ := hI.form
      rw [← HLen.out] at hvI hIr hIa hIl hIb
      subst hvI
      have HIr : Hid (RI w7.heap.size w8.heap.size w8 qa len qc L) := hIr
      have HIa : Hid (len = 0 ∨ qa = some ⟨qb, 0, none⟩) := hIa
      have HIl : Hid (LeafOk w8 (leafI qb 0 len)) := hIl
      have HIb : Hid (len = 0 ∨ (w7.heap.size ≤ qb ∧ qb < w8.heap.size)) := hIb
      have HS8 : Hid (RI Wb.heap.size w3.heap.size w8 pa len pc L) := HS7.out.below hb8 (by omega)
      have HF8 : Hid (Free w3.heap.size w4.heap.size w8) := HF7.out.same (Same.of_below hb8 (by omega))
      have HG8 : Hid (Free w5.heap.size w6.heap.size w8) := HG7.out.same (Same.of_below hb8 (by omega))
      have H78 : Hid (Below w7.heap.size w7 w8) := hb8
      have H8 : Hid (Below Wb.heap.size Wb w8) := H7.out.trans (hb8.mono (by omega))
      have HV : Hid (∀ V, Below w8.heap.size w8 V → RdW w3.heap.size w4.heap.size V (some ⟨bg0, 0, none⟩) nn nn (some ⟨bg1, 0, none⟩) sn sn (some ⟨bg2, 0, none⟩) rn rn (some ⟨bg3, 0, none⟩) ln ln (some ⟨bg4, 0, none⟩) im im (some ⟨bg5, 0, none⟩) tn tn x ∧ RdC w5.heap.size w6.heap.size V d (.agg #[.int .i64 xk, .slice xna xnn xnc, .slice xra xrn xrc, .slice xka xkn xkc]) c ∧ BoxW 34 V w4.heap.size k (.slice (some ⟨bg0, 0, none⟩) nn nn) (.slice (some ⟨bg1, 0, none⟩) sn sn) (.slice (some ⟨bg2, 0, none⟩) rn rn) (.slice (some ⟨bg3, 0, none⟩) ln ln) (.slice (some ⟨bg4, 0, none⟩) im im) (.slice (some ⟨bg5, 0, none⟩) tn tn) ∧ BoxC V w6.heap.size (.int .i64 xk) (.slice xna xnn xnc) (.slice xra xrn xrc) (.slice xka xkn xkc) ∧ w8.heap.size ≤ V.heap.size) := fun V hV => by
        have h7V := hb8.trans (hV.mono hb8.size)
        exact ⟨HX7.out.below h7V (by omega), HC7.out.below h7V (by omega), HB7.out.below h7V (by omega), HBC7.out.below h7V (by omega), hV.size⟩
      clear hb8 hI hIr hIa hIl hIb m0 m1 m2 m3 m4 m5 m6 n0 n1 n2 n3
      go_wp2_with fail
      refine (eqIntS_any qa pa len qc pc L w8 HIr.out HS8.out).mono ?_
      rintro e wq ⟨rfl, ndq, hwq⟩
      have H8q : Hid (Below w8.heap.size w8 wq) := by unfold Hid; rw [hwq]; exact below_drewN (Below.refl _ _) ndq
      clear hwq
      obtain ⟨m0, m1, m2, m3, m4, m5, m6⟩ := (HV.out wq H8q.out).2.2.1.cells
      obtain ⟨n0, n1, n2, n3⟩ := (HV.out wq H8q.out).2.2.2.1.cells
      have HWV : Hid (∀ {V : World}, Below w8.heap.size w8 V → Below Wb.heap.size Wb V) := fun {V} hV => H8.out.trans (hV.mono H8.out.size)
      obtain ⟨⟨z0, z1, z2, z3, z4, z5, z6⟩, k0, k1, k2, k3⟩ := And.intro (HAt.out _ (HWV.out H8q.out)).1.cells (HAt.out _ (HWV.out H8q.out)).2.cells
      have H8d : Hid (Below w8.heap.size w8 wq.drew) := H8q.out.drew
      go_upto_region 14 with fail
      go_cut [44] (fun b W => b = .bool false ∧ Below w8.heap.size w8 W)
      case first =>
        first | go_region_with (first
          | (go_at_call 8; refine (HTo.out wq.drew (HWV.out H8d.out)).mono ?_; rintro e w9 ⟨qg0, qg1, qg2, qg3, qg4, qg5, rfl, hx9, hb9, _⟩; have HX9 : Hid (RdW wq.drew.heap.size w9.heap.size w9 (some ⟨qg0, 0, none⟩) nn nn (some ⟨qg1, 0, none⟩) sn sn (some ⟨qg2, 0, none⟩) rn rn (some ⟨qg3, 0, none⟩) ln ln (some ⟨qg4, 0, none⟩) im im (some ⟨qg5, 0, none⟩) tn tn x) := hx9; have H9 : Hid (Below w8.heap.size w8 w9) := H8d.out.trans (hb9.mono H8d.out.size); clear hx9 hb9 m0 m1 m2 m3 m4 m5 m6; obtain ⟨m0, m1, m2, m3, m4, m5, m6⟩ := (HV.out w9 H9.out).2.2.1.cells)
          | (go_at_call 12; refine (eqW_any (HV.out w9 H9.out).1 HX9.out (by have := H9.out.size; omega) (Nat.le_refl _) k).mono ?_; rintro e wt ⟨rfl, hbt⟩; have Ht : Hid (Below w8.heap.size w8 wt) := H9.out.trans (hbt.mono H9.out.size); clear hbt)) | fail
        all_goals
          go_wp2_with fail
          go_meet
          case rel => exact ⟨rfl, Ht.out⟩
      case rest =>
        obtain ⟨hb44, h8c⟩ := hcut
        subst hb44
        have Hc : Hid (Below w8.heap.size w8 wc) := h8c
        clear m0 m1 m2 m3 m4 m5 m6 n0 n1 n2 n3 z0 z1 z2 z3 z4 z5 z6 k0 k1 k2 k3 h8c
        obtain ⟨n0, n1, n2, n3⟩ := (HV.out wc Hc.out).2.2.2.1.cells
        obtain ⟨k0, k1, k2, k3⟩ := (HAt.out _ (HWV.out Hc.out)).2.cells
        have Hcd : Hid (Below w8.heap.size w8 wc.drew) := Hc.out.drew
        go_upto_region 16 with fail
        go_cut [49] (fun b W => b = .bool false ∧ Below w8.heap.size w8 W)
        case first =>
          first | go_region_with (first
            | (go_at_call 9; refine (HTc.out wc.drew (HWV.out Hcd.out)).mono ?_; rintro e w9 ⟨yk, yna, ynn, ync, yra, yrn, yrc, yka, ykn, ykc, rfl, hx9, hb9, _⟩; have HC9 : Hid (RdC wc.drew.heap.size w9.heap.size w9 d (.agg #[.int .i64 yk, .slice yna ynn ync, .slice yra yrn yrc, .slice yka ykn ykc]) c) := hx9; have H9 : Hid (Below w8.heap.size w8 w9) := Hcd.out.trans (hb9.mono Hcd.out.size); clear hx9 hb9 n0 n1 n2 n3; obtain ⟨n0, n1, n2, n3⟩ := (HV.out w9 H9.out).2.2.2.1.cells)
            | (go_at_call 13; refine (eqC_any d _ _ c d w9 w5.heap.size w6.heap.size wc.drew.heap.size w9.heap.size (HV.out w9 H9.out).2.1 HC9.out (by have := H9.out.size; omega) (Nat.le_refl _)).mono ?_; rintro e wt ⟨rfl, hbt⟩; have Ht : Hid (Below w8.heap.size w8 wt) := H9.out.trans (hbt.mono H9.out.size); clear hbt)) | fail
          all_goals
            go_wp2_with fail
            go_meet
            case rel => exact ⟨rfl, Ht.out⟩
        case rest =>
          obtain ⟨hb49, h8e⟩ := hcut
          subst hb49
          rename World => we
          have He : Hid (Below w8.heap.size w8 we) := h8e
          have se := h8e.size
          clear h8e n0 n1 n2 n3 k0 k1 k2 k3
          have HXe : Hid (RdW w3.heap.size w4.heap.size we (some ⟨bg0, 0, none⟩) nn nn (some ⟨bg1, 0, none⟩) sn sn (some ⟨bg2, 0, none⟩) rn rn (some ⟨bg3, 0, none⟩) ln ln (some ⟨bg4, 0, none⟩) im im (some ⟨bg5, 0, none⟩) tn tn x) := (HV.out we He.out).1
          have HCe : Hid (RdC w5.heap.size w6.heap.size we d (.agg #[.int .i64 xk, .slice xna xnn xnc, .slice xra xrn xrc, .slice xka xkn xkc]) c) := (HV.out we He.out).2.1
          have HFe : Hid (Free w3.heap.size w4.heap.size we) := HF8.out.same (Same.of_below He.out (by omega))
          have HGe : Hid (Free w5.heap.size w6.heap.size we) := HG8.out.same (Same.of_below He.out (by omega))
          have HIe : Hid (RI w7.heap.size w8.heap.size we qa len qc L) := HIr.out.below He.out (Nat.le_refl _)
          have HSe : Hid (RI Wb.heap.size w3.heap.size we pa len pc L) := HS8.out.below He.out (by omega)
          have HIle : Hid (LeafOk we (leafI qb 0 len)) := leafIn HIl.out HIb.out (Same.of_below He.out (Nat.le_refl _))
          have Hbe : Hid (Below Wb.heap.size Wb we) := HWV.out He.out
          obtain ⟨m0, m1, m2, m3, m4, m5, m6⟩ := (HV.out we He.out).2.2.1.cells
          have HBCe : Hid (BoxC we w6.heap.size (.int .i64 xk) (.slice xna xnn xnc) (.slice xra xrn xrc) (.slice xka xkn xkc)) := (HV.out we He.out).2.2.2.1
          go_wp2_with fail
          refine (markWorld_any HXe.out HFe.out (by omega) HBd.out (k := 1) (by omega)).mono ?_
          rintro e wf ⟨t, rfl, htb, hmf⟩
          have HMf : Hid (MarkW w3.heap.size w4.heap.size we wf) := hmf
          have sf := hmf.size
          have HCf : Hid (ShC w5.heap.size w6.heap.size wf d (.agg #[.int .i64 xk, .slice xna xnn xnc, .slice xra xrn xrc, .slice xka xkn xkc]) c) := (RdC.same (hmf.same (by omega) (.inr (by omega))) HCe.out).sh
          have HGf : Hid (Free w5.heap.size w6.heap.size wf) := HGe.out.markW hmf (by omega)
          have hbcf : BoxC wf w6.heap.size (.int .i64 xk) (.slice xna xnn xnc) (.slice xra xrn xrc) (.slice xka xkn xkc) := (hmf.out _ (by omega) (.inr (by omega))).trans HBCe.out
          clear m0 m1 m2 m3 m4 m5 m6 hmf
          obtain ⟨n0, n1, n2, n3⟩ := hbcf.cells
          clear hbcf
          go_wp2_with fail
          refine (markConW_any _ c (1 + (t : Int)) wf HCf.out (by omega) HGf.out HBk.out (by omega) (by omega)).mono ?_
          rintro e wg ⟨rfl, hmg⟩
          have HMg : Hid (MarkW w5.heap.size w6.heap.size wf wg) := hmg
          have sg := hmg.size
          have HIg : Hid (RI w7.heap.size w8.heap.size wg qa len qc L) := (HIe.out.same (HMf.out.same (by omega) (.inr (by omega)))).same (hmg.same (by omega) (.inr (by omega)))
          have HSg : Hid (RI Wb.heap.size w3.heap.size wg pa len pc L) := (HSe.out.same (HMf.out.same (by omega) (.inl (by omega)))).same (hmg.same (by omega) (.inl (by omega)))
          have HIlg : Hid (LeafOk wg (leafI qb 0 len)) := leafIn (leafIn HIle.out HIb.out (HMf.out.same (by omega) (.inr (by omega)))) HIb.out (hmg.same (by omega) (.inr (by omega)))
          have Hbg : Hid (Below Wb.heap.size Wb wg) := (Hbe.out.trans (HMf.out.below (by omega) (by omega))).trans (hmg.below (by omega) (by omega))
          obtain ⟨kk, hkk⟩ : ∃ kk : Int, kk = 1 + (t : Int) + c.bulk := ⟨_, rfl⟩
          rw [← hkk]
          have hkn : decide (kk < 0) = false := by simp; omega
          clear hmg n0 n1 n2 n3 hkk
          go_wp2_with fail
          refine (eqIntS_any qa pa len qc pc L wg HIg.out HSg.out).mono ?_
          rintro e wh ⟨rfl, ndh, hwh⟩
          have Hgh : Hid (Below wg.heap.size wg wh) := by unfold Hid; rw [hwh]; exact below_drewN (Below.refl _ _) ndh
          have sh := Hgh.out.size
          have HIlh : Hid (LeafOk wh (leafI qb 0 len)) := leafIn HIlg.out HIb.out (Same.of_below Hgh.out (by omega))
          have HSh : Hid (RI Wb.heap.size w3.heap.size wh pa len pc L) := HSg.out.below Hgh.out (by omega)
          have Hbh : Hid (Below Wb.heap.size Wb wh) := Hbg.out.trans (Hgh.out.mono (by omega))
          clear hwh hkn
          go_wp2_with fail
          refine (markIntS_any qa len qc 1 wh qb 0 HIa.out HIlh.out (by omega) (by omega)).mono ?_
          rintro e wm ⟨rfl, hwm⟩
          have hMm : MarkW w7.heap.size w8.heap.size wh wm := by
            rw [hwm]
            refine markW_marks HIlh.out (fun x hx => ?_) 1
            rcases HIb.out with h0 | hb
            · rw [h0] at hx; simp [leafI] at hx
            · have := leafI_block x hx; omega
          have HMm : Hid (MarkW w7.heap.size w8.heap.size wh wm) := hMm
          have sm := hMm.size
          have HCm : Hid (∀ j, j < len → wm.cell? ⟨qb, 0 + j, none⟩ = some (.int .i64 (1 + j))) := by
            unfold Hid
            rw [hwm]
            exact marksI_cell HIlh.out (by omega)
          have HSm : Hid (RI Wb.heap.size w3.heap.size wm pa len pc L) := HSh.out.same (hMm.same (by omega) (.inl (by omega)))
          have Hbm : Hid (Below Wb.heap.size Wb wm) := Hbh.out.trans (hMm.below (by omega) (by omega))
          clear hwm hMm
          go_wp2_with fail
          refine (heldIntS_any qa len qc 1 wm qb 0 HIa.out HCm.out (by omega) (by omega)).mono ?_
          rintro e wm2 ⟨rfl, hwm2⟩
          rw [hwm2]
          clear hwm2
          obtain ⟨qq, hqq⟩ : ∃ qq : Int, qq = 1 + (len : Int) := ⟨_, rfl⟩
          rw [← hqq]
          have HQq : Hid (qq = 1 + (len : Int)) := hqq
          have hqn : decide (qq < 0) = false := by simp; omega
          clear hqq
          have Hbd : Hid (Below Wb.heap.size Wb wm.drew) := Hbm.out.drew
          obtain ⟨⟨z0, z1, z2, z3, z4, z5, z6⟩, k0, k1, k2, k3⟩ := And.intro (HAt.out _ Hbm.out).1.cells (HAt.out _ Hbm.out).2.cells
          have sb := Hbm.out.size
          go_upto_region 31 with fail
          go_cut [13] (fun b W => OwnI wm.heap.size W b L ∧ Below wm.heap.size wm W)
          case first =>
            first | go_region_with (first
              | (go_at_call 8; first | (refine (HTo.out wm.drew Hbd.out).mono ?_; rintro e w1 ⟨ag0, ag1, ag2, ag3, ag4, ag5, rfl, hx1, hb1, _⟩; have HX1 : Hid (RdW wm.drew.heap.size w1.heap.size w1 (some ⟨ag0, 0, none⟩) nn nn (some ⟨ag1, 0, none⟩) sn sn (some ⟨ag2, 0, none⟩) rn rn (some ⟨ag3, 0, none⟩) ln ln (some ⟨ag4, 0, none⟩) im im (some ⟨ag5, 0, none⟩) tn tn x) := hx1; have Hm1 : Hid (Below wm.heap.size wm w1) := (Below.refl _ _).drew.trans hb1; have H1 : Hid (Below Wb.heap.size Wb w1) := Hbd.out.trans (hb1.mono Hbd.out.size); clear hx1 hb1 z0 z1 z2 z3 z4 z5 z6 k0 k1 k2 k3; obtain ⟨⟨z0, z1, z2, z3, z4, z5, z6⟩, k0, k1, k2, k3⟩ := And.intro (HAt.out _ H1.out).1.cells (HAt.out _ H1.out).2.cells) | (refine (HTo.out w9 H9.out).mono ?_; rintro e w2 ⟨ag0, ag1, ag2, ag3, ag4, ag5, rfl, hx2, hb2, _⟩; have HXx : Hid (∃ lo hi, RdW lo hi w2 (some ⟨ag0, 0, none⟩) nn nn (some ⟨ag1, 0, none⟩) sn sn (some ⟨ag2, 0, none⟩) rn rn (some ⟨ag3, 0, none⟩) ln ln (some ⟨ag4, 0, none⟩) im im (some ⟨ag5, 0, none⟩) tn tn x ∧ hi ≤ w2.heap.size) := ⟨_, _, hx2, Nat.le_refl _⟩; have HCx : Hid (∃ lo hi, RdC lo hi w2 d (.agg #[.int .i64 yk, .slice yna ynn ync, .slice yra yrn yrc, .slice yka ykn ykc]) c ∧ hi ≤ w2.heap.size) := ⟨_, _, HC9.out.below hb2 (Nat.le_refl _), hb2.size⟩; have Hm2 : Hid (Below wm.heap.size wm w2) := Hm9.out.trans (hb2.mono Hm9.out.size); clear hx2 hb2))
              | (go_at_call 9; first | (refine (HTc.out w1 H1.out).mono ?_; rintro e w2 ⟨yk, yna, ynn, ync, yra, yrn, yrc, yka, ykn, ykc, rfl, hx2, hb2, _⟩; have HXx : Hid (∃ lo hi, RdW lo hi w2 (some ⟨ag0, 0, none⟩) nn nn (some ⟨ag1, 0, none⟩) sn sn (some ⟨ag2, 0, none⟩) rn rn (some ⟨ag3, 0, none⟩) ln ln (some ⟨ag4, 0, none⟩) im im (some ⟨ag5, 0, none⟩) tn tn x ∧ hi ≤ w2.heap.size) := ⟨_, _, HX1.out.below hb2 (Nat.le_refl _), hb2.size⟩; have HCx : Hid (∃ lo hi, RdC lo hi w2 d (.agg #[.int .i64 yk, .slice yna ynn ync, .slice yra yrn yrc, .slice yka ykn ykc]) c ∧ hi ≤ w2.heap.size) := ⟨_, _, hx2, Nat.le_refl _⟩; have Hm2 : Hid (Below wm.heap.size wm w2) := Hm1.out.trans (hb2.mono Hm1.out.size); clear hx2 hb2) | (refine (HTc.out wm.drew Hbd.out).mono ?_; rintro e w9 ⟨yk, yna, ynn, ync, yra, yrn, yrc, yka, ykn, ykc, rfl, hx9, hb9, _⟩; have HC9 : Hid (RdC wm.drew.heap.size w9.heap.size w9 d (.agg #[.int .i64 yk, .slice yna ynn ync, .slice yra yrn yrc, .slice yka ykn ykc]) c) := hx9; have Hm9 : Hid (Below wm.heap.size wm w9) := (Below.refl _ _).drew.trans hb9; have H9 : Hid (Below Wb.heap.size Wb w9) := Hbd.out.trans (hb9.mono Hbd.out.size); clear hx9 hb9 z0 z1 z2 z3 z4 z5 z6 k0 k1 k2 k3; obtain ⟨⟨z0, z1, z2, z3, z4, z5, z6⟩, k0, k1, k2, k3⟩ := And.intro (HAt.out _ H9.out).1.cells (HAt.out _ H9.out).2.cells))
              | (go_at_call 10; obtain ⟨_, _, hxx, hxs⟩ := HXx.out; obtain ⟨_, _, hcx, hcs⟩ := HCx.out; refine (implExt_any hxx hcx HK.out hxs hcs HBk.out).mono ?_; rintro e wi ⟨vS, rfl, hS, hbi⟩; rw [← HL.out] at hS; have HSi : Hid (OwnI wm.heap.size wi vS L) := hS.mono Hm2.out.size; have Hmi : Hid (Below wm.heap.size wm wi) := Hm2.out.trans (hbi.mono Hm2.out.size); clear hbi hS hxx hxs hcx hcs)) | fail
            all_goals
              go_wp2_with fail
              go_meet
              case rel => exact ⟨HSi.out, Hmi.out⟩
          case rest =>
            obtain ⟨hS, hmr⟩ := hcut
            obtain ⟨ra', rc', _, hb13, hSr, _, _, _⟩ := hS.form
            rw [← HLen.out] at hb13 hSr
            rename World => wr
            subst hb13
            have HRr : Hid (RI wm.heap.size wr.heap.size wr ra' len rc' L) := hSr
            have Hmr : Hid (Below wm.heap.size wm wr) := hmr
            have HSr' : Hid (RI Wb.heap.size w3.heap.size wr pa len pc L) := HSm.out.below hmr (by omega)
            clear hS hmr hSr z0 z1 z2 z3 z4 z5 z6 k0 k1 k2 k3
            go_wp2_with fail
            refine (eqIntS_any ra' pa len rc' pc L wr HRr.out HSr'.out).mono ?_
            rintro e ws ⟨rfl, nds, hws⟩
            have Hrs : Hid (Below wr.heap.size wr ws) := by unfold Hid; rw [hws]; exact below_drewN (Below.refl _ _) nds
            have Hms : Hid (Below wm.heap.size wm ws) := Hmr.out.trans (Hrs.out.mono Hmr.out.size)
            have HCs : Hid (∀ j, j < len → ws.cell? ⟨qb, 0 + j, none⟩ = some (.int .i64 (1 + j))) := fun j hj => by
              rcases HIb.out with h0 | hb
              · omega
              · exact (Hms.out.cell (p := ⟨qb, 0 + j, none⟩) (show qb < wm.heap.size by omega)).trans (HCm.out j hj)
            clear hws
            go_wp2_with fail
            refine (heldIntS_any qa len qc 1 ws qb 0 HIa.out HCs.out (by omega) (by omega)).mono ?_
            rintro e ws2 ⟨rfl, hws2⟩
            rw [hws2, ← HQq.out]
            clear hws2
            go_wp2_with fail
            go_ret
            exact ⟨rfl, HBB.out.trans ((Hbm.out.trans (Hms.out.mono (by omega))).mono (by omega))⟩

set_option maxRecDepth 100000 in
theorem lifted (os : Os) (started : os.Started) (H : Type) (enc : TypeId × Value → H) :
    ReturnsInHanded {} Try.checked os 3 .any (Rows.fnExactExtensionSpec.pre6 enc Try.prog Try.f3 Rows.fnExactExtensionRow.domain false) (Rows.fnExactExtensionSpec.post enc Try.prog Try.f3 false true false false) := by
  refine returnsInHanded_of_change (C := Try.checked) own started (by kernel_rfl) Try.func3
    (ChangeSpec.witness6 (enc := enc) (C := Try.checked) false ⟨#[], #[.agg #[.int .i64 0, .slice none 0 0, .slice none 0 0, .slice none 0 0, .slice none 0 0, .slice none 0 0, .slice none 0 0], .agg #[.int .i64 0, .slice none 0 0, .slice none 0 0, .slice none 0 0]], []⟩ 8 (by kernel_rfl) (by kernel_rfl) (by kernel_rfl) (by kernel_rfl)) ?_
  intro W base args ds gs before hval0 hW hcnd _
  have hval : ∀ (j : Nat) t v, Try.f3.params[j]? = some t → args[j]? = some v → Value.okWide Try.prog W .any base t v := hval0
  have hW' := hW
  obtain ⟨p, q, hA0, hV, rfl, hfz, hnd⟩ := hW
  have hA : DataW.TrodAll enc Try.prog W 0 (fun _ => true) true Try.f3.params.toList args.toList ds p := hA0
  rw [Try.params3] at hA hval
  obtain ⟨v0, vs0, d0, ds0, p0, q0, hargs, rfl, rfl, h0, r0⟩ := trodAll_cons hA
  obtain ⟨v1, vs1, d1, ds1, p1, q1, hargs1, rfl, rfl, h1, r1⟩ := trodAll_cons r0
  obtain ⟨rfl, rfl, rfl⟩ := trodAll_nil r1
  obtain rfl : args = #[v0, v1] := by cases args; simp_all
  obtain ⟨rfl, rfl⟩ := trodVars_none hV
  obtain ⟨cs0, rfl, _⟩ := okWide_struct Try.underlying26 (hval 0 26 v0 rfl rfl)
  obtain ⟨cs1, rfl, _⟩ := okWide_struct Try.underlying30 (hval 1 30 v1 rfl rfl)
  have k0 := h0
  have k1 := h1
  have lt0 : ∀ x ∈ p0, x.block < W.heap.size := by obtain ⟨m, hm⟩ := k0; exact DataW.trod_lt m _ _ _ hm
  have lt1 : ∀ x ∈ p1, x.block < W.heap.size := by obtain ⟨m, hm⟩ := k1; exact DataW.trod_lt m _ _ _ hm
  obtain ⟨k, na, nn, nc, sa, sn, sc, ra, rn, rc, la, ln, lc, ia, im, ic, ta, tn, tc, x, hcs, hk, w0⟩ : ∃ k na nn nc sa sn sc ra rn rc la ln lc ia im ic ta tn tc x, cs0 = #[.int .i64 k, .slice na nn nc, .slice sa sn sc, .slice ra rn rc, .slice la ln lc, .slice ia im ic, .slice ta tn tc] ∧ WD.n x = k ∧ RdW 0 W.heap.size W na nn nc sa sn sc ra rn rc la ln lc ia im ic ta tn tc x := by
    obtain ⟨fuel, hf⟩ := h0
    obtain ⟨k, na, nn, nc, sa, sn, sc, ra, rn, rc, la, ln, lc, ia, im, ic, ta, tn, tc, x, hv, hk, hr⟩ := open_world (cs := cs0.toList) (by simpa [Value.cells] using hf)
    exact ⟨k, na, nn, nc, sa, sn, sc, ra, rn, rc, la, ln, lc, ia, im, ic, ta, tn, tc, x, by cases cs0; simp_all, hk, hr⟩
  subst hcs
  obtain ⟨dd, y0, y1, y2, y3, c, hcs1, w1⟩ : ∃ dd x0 x1 x2 x3 c, cs1 = #[x0, x1, x2, x3] ∧ RdC 0 W.heap.size W dd (.agg #[x0, x1, x2, x3]) c := by
    obtain ⟨fuel, hf⟩ := h1
    obtain ⟨x0, x1, x2, x3, c, hv, hr⟩ := open_con fuel fuel cs1.toList _ (Nat.le_refl _) (by simpa [Value.cells] using hf)
    exact ⟨fuel, x0, x1, x2, x3, c, by cases cs1; simp_all, hr⟩
  subst hcs1
  clear hA0 hval0
  refine (walk k hk W w0 w1).mono fun e W' ⟨he, bel⟩ => ?_
  subst he
  exact ⟨_, rfl, _, _, _, [], _, [], hW', trodAll_mk1 (shut_bool Try.underlying4 _), (trodAll_cons_mk (Below.trod laidOut (by kernel_rfl) (of_decide_eq_true (by kernel_rfl)) k0 bel lt0) (trodAll_cons_mk (Below.trod laidOut (by kernel_rfl) (of_decide_eq_true (by kernel_rfl)) k1 bel lt1) trodAll_mk0)), rfl, bel.frame _, fun h => by cases h⟩

theorem over : Rows.fnExactExtensionRow.holds Try.pinned (OpenSpec.ofChange Rows.fnExactExtensionSpec) :=
  OpenClaim.holds_of_wide 3 Try.f3 rfl rfl rfl rfl rfl rfl rfl ⟨rfl, rfl, rfl, rfl, rfl⟩ rfl rfl rfl rfl rfl (by kernel_rfl) Try.func3 (by kernel_rfl)
    (of_decide_eq_true (by kernel_rfl)) (by unfold Func.isWrapper; first | (rw [if_pos (by decide +kernel)]; kernel_rfl) | (rw [if_neg (by decide +kernel)]; exact ⟨rfl, rfl⟩))
    (fun os started H enc _ => lifted os started H enc)

theorem proved : Rows.FnExactExtensionSaid := over
#print axioms proved
end Go.Proofs.Ytfbokljbmihlbaa.fnExactExtension
namespace Go.Proofs.Ytfbokljbmihlbaa
theorem fnExactExtension_holds : Rows.FnExactExtensionSaid := fnExactExtension.proved
end Go.Proofs.Ytfbokljbmihlbaa
