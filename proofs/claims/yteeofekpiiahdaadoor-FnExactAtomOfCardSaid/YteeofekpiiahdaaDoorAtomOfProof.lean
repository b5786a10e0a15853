/- For every Cls and every concept the law FnExactAtomOf answers true and both read behind the call as they did before, the library's tables lying as the program's text lays them (a tied card): no other condition. -/
import Derived.Test.YteeofekpiiahdaaDoorRows
import Derived.Test.YteeofekpiiahdaaDoorCards
import Derived.Test.YteeofekpiiahdaaDoorTie
import Derived.Test.YteeofekpiiahdaaDoorClsTab
import Derived.Test.YteeofekpiiahdaaDoorNOpen
import Derived.Test.YteeofekpiiahdaaDoorNLaw
import Derived.Test.YteeofekpiiahdaaDoorClsAt
import Derived.WalkKit
import Derived.ProofKit
import Derived.OpenShut
import Derived.ShutString
import Derived.ChangeOld
import Derived.Below
import Derived.Deep.RegionHeld3
import Derived.SevenTiedAt
namespace Go.Proofs.YteeofekpiiahdaaDoor.fnExactAtomOf
open Go.ChangeShapes Go.WideShapes Go.ChangeAt Go.RowKit Go.Deep
set_option linter.unusedVariables false

theorem own : ownKnob Tryd.prog.godebug = none := by kernel_rfl
theorem laidOut : laidOutB Tryd.prog = true := by kernel_rfl

set_option maxRecDepth 100000 in
set_option maxHeartbeats 8000000 in
theorem walk {d : Nat} {aa : Option Addr} {an ac : Nat} {ra : Option Addr} {rn rc : Nat} {wa : Option Addr} {wn wc : Nat} {la : Option Addr} {ln lc : Nat} {s : CS} {d' : Nat} {ck : Int} {cna : Option Addr} {cnn cnc : Nat} {cra : Option Addr} {crn crc : Nat} {cka : Option Addr} {ckn ckc : Nat} {c : CN} (w : World) (hR : RdS 0 w.heap.size w d aa an ac ra rn rc wa wn wc la ln lc s) (hC : RdC 0 w.heap.size w d' (.agg #[.int .i64 ck, .slice cna cnn cnc, .slice cra crn crc, .slice cka ckn ckc]) c) (hT : TabD w) (hg : 2 < w.heap.size) :
    Calls Tryd.prog 4 #[.agg #[.slice aa an ac, .slice ra rn rc, .slice wa wn wc, .slice la ln lc], .agg #[.int .i64 ck, .slice cna cnn cnc, .slice cra crn crc, .slice cka ckn ckc]] w fun e w' => e = .returned (.bool true) ∧ Below w.heap.size w w' := by
  obtain ⟨Wb, hWb⟩ : ∃ Wb, Wb = (w.alloc (.cells #[.slice aa an ac, .slice ra rn rc, .slice wa wn wc, .slice la ln lc] 26)).alloc (.cells #[.int .i64 ck, .slice cna cnn cnc, .slice cra crn crc, .slice cka ckn ckc] 38) := ⟨_, rfl⟩
  have HWb : Hid (Wb = (w.alloc (.cells #[.slice aa an ac, .slice ra rn rc, .slice wa wn wc, .slice la ln lc] 26)).alloc (.cells #[.int .i64 ck, .slice cna cnn cnc, .slice cra crn crc, .slice cka ckn ckc] 38)) := hWb
  have hbb : Below w.heap.size w Wb := by rw [hWb]; exact ((Below.refl _ _).alloc (Nat.le_refl _) _).alloc (by simp) _
  have HBB : Hid (Below w.heap.size w Wb) := hbb
  have hsb : w.heap.size + 2 ≤ Wb.heap.size := by rw [hWb]; simp
  have HRb : Hid (∀ W, Below Wb.heap.size Wb W → RdS 0 w.heap.size W d aa an ac ra rn rc wa wn wc la ln lc s ∧ w.heap.size ≤ W.heap.size) := fun W hW => ⟨(hR.below hbb (Nat.le_refl _)).below hW (by omega), by have := hW.size; omega⟩
  have HCb : Hid (∀ W, Below Wb.heap.size Wb W → RdC 0 w.heap.size W d' (.agg #[.int .i64 ck, .slice cna cnn cnc, .slice cra crn crc, .slice cka ckn ckc]) c) := fun W hW => (hC.below hbb (Nat.le_refl _)).below hW (by omega)
  have HTb : Hid (∀ W, Below Wb.heap.size Wb W → TabD W ∧ 2 < W.heap.size) := fun W hW => ⟨(hT.below hbb hg).below hW (by omega), by have := hW.size; omega⟩
  have hbx : Blk Wb w.heap.size 26 (.slice aa an ac) (.slice ra rn rc) (.slice wa wn wc) (.slice la ln lc) := by rw [hWb]; exact (Blk.alloc_new w _ _ _ _ _ _ rfl).alloc _
  have hby : Blk Wb (w.heap.size + 1) 38 (.int .i64 ck) (.slice cna cnn cnc) (.slice cra crn crc) (.slice cka ckn ckc) := by rw [hWb]; exact Blk.alloc_new _ _ _ _ _ _ _ (by simp)
  have HAt : Hid (∀ W, Below Wb.heap.size Wb W → Blk W w.heap.size 26 (.slice aa an ac) (.slice ra rn rc) (.slice wa wn wc) (.slice la ln lc) ∧ Blk W (w.heap.size + 1) 38 (.int .i64 ck) (.slice cna cnn cnc) (.slice cra crn crc) (.slice cka ckn ckc)) := fun W hW => ⟨hbx.below hW hbx.lt, hby.below hW hby.lt⟩
  have Hf : Hid (Below Wb.heap.size Wb Wb) := Below.refl _ _
  obtain ⟨ok, hok⟩ : ∃ ok, ok = atomN s c := ⟨_, rfl⟩
  have HOk : Hid (ok = atomN s c) := hok
  have hokk : (ok != ok) = false := by simp
  obtain ⟨⟨z0, z1, z2, z3, _⟩, y0, y1, y2, y3, _⟩ := And.intro (HAt.out _ Hf.out).1.cells (HAt.out _ Hf.out).2.cells
  clear hR hC hbb hWb hbx hby hok hT
  go_enter Tryd.func4, Tryd.ntmps4
  go_upto_region 1 with fail
  rw [← HWb.out]
  go_wp2_with fail
  refine (szS_any (HRb.out _ Hf.out).1 (HRb.out _ Hf.out).2).mono ?_
  rintro e wz ⟨r, rfl, hr1, hq, hb⟩
  have HQ : Hid (¬ r < 0 → FitS s an rn wn ln) := hq
  have Hz : Hid (Below Wb.heap.size Wb wz) := hb
  have sz := hb.size
  clear hb hq
  clear z0 z1 z2 z3 y0 y1 y2 y3
  obtain ⟨⟨z0, z1, z2, z3, _⟩, y0, y1, y2, y3, _⟩ := And.intro (HAt.out _ Hz.out).1.cells (HAt.out _ Hz.out).2.cells
  by_cases hneg : r < 0
  · go_wp2_with fail
    go_ret
    exact ⟨rfl, HBB.out.trans (Hz.out.mono (by omega))⟩
  have HFit : Hid (FitS s an rn wn ln) := HQ.out hneg
  go_wp2_with fail
  refine (szC_any d' _ c r wz 0 w.heap.size (HCb.out _ Hz.out) (HRb.out _ Hz.out).2 (by omega) hr1).mono ?_
  rintro e w0 ⟨rfl, hb⟩
  obtain ⟨r2, hr2⟩ : ∃ r2, r2 = szRes r c.bulk := ⟨_, rfl⟩
  rw [← hr2]
  have HR2 : Hid (r2 = szRes r c.bulk) := hr2
  have H0 : Hid (Below Wb.heap.size Wb w0) := Hz.out.trans (hb.mono sz)
  have s0 := H0.out.size
  clear hb hr2
  clear z0 z1 z2 z3 y0 y1 y2 y3
  obtain ⟨⟨z0, z1, z2, z3, _⟩, y0, y1, y2, y3, _⟩ := And.intro (HAt.out _ H0.out).1.cells (HAt.out _ H0.out).2.cells
  by_cases hneg2 : r2 < 0
  · go_wp2_with fail
    go_ret
    exact ⟨rfl, HBB.out.trans (H0.out.mono (by omega))⟩
  · have HBk : Hid (c.bulk ≤ 1048576) := by
      have h1 := HR2.out
      rw [h1] at hneg2
      have := (szRes_pos hneg2).1
      unfold Hid
      omega
    have HTo : Hid (∀ W, Below Wb.heap.size Wb W → Calls Tryd.prog 7 #[.agg #[.slice aa an ac, .slice ra rn rc, .slice wa wn wc, .slice la ln lc]] W fun e w' => ∃ g0 g1 g2 g3, e = .returned (.agg #[.slice (some ⟨g0, 0, none⟩) an an, .slice (some ⟨g1, 0, none⟩) rn rn, .slice (some ⟨g2, 0, none⟩) wn wn, .slice (some ⟨g3, 0, none⟩) ln ln]) ∧ RdS W.heap.size w'.heap.size w' d (some ⟨g0, 0, none⟩) an an (some ⟨g1, 0, none⟩) rn rn (some ⟨g2, 0, none⟩) wn wn (some ⟨g3, 0, none⟩) ln ln s ∧ Below W.heap.size W w') := fun W hW => toS_any (HRb.out _ hW).1 (HRb.out _ hW).2 HFit.out
    have HTc : Hid (∀ W, Below Wb.heap.size Wb W → Calls Tryd.prog 12 #[.agg #[.int .i64 ck, .slice cna cnn cnc, .slice cra crn crc, .slice cka ckn ckc]] W fun e w' => ∃ xk xna xnn xnc xra xrn xrc xka xkn xkc, e = .returned (.agg #[.int .i64 xk, .slice xna xnn xnc, .slice xra xrn xrc, .slice xka xkn xkc]) ∧ RdC W.heap.size w'.heap.size w' d' (.agg #[.int .i64 xk, .slice xna xnn xnc, .slice xra xrn xrc, .slice xka xkn xkc]) c ∧ Below W.heap.size W w') := fun W hW => (toC_any d' _ c W 0 w.heap.size (HCb.out _ hW) (HRb.out _ hW).2 HBk.out).mono (fun e w' ⟨v', he, hr, _, hb⟩ => by
      obtain ⟨xk, xna, xnn, xnc, xra, xrn, xrc, xka, xkn, xkc, rfl⟩ := hr.shape
      exact ⟨xk, xna, xnn, xnc, xra, xrn, xrc, xka, xkn, xkc, he, hr, hb⟩)
    have H0d : Hid (Below Wb.heap.size Wb w0.drew) := H0.out.drew
    go_upto_region 8 with fail
    clear hneg hneg2
    go_cut [6] (fun b W => b = .int .i64 ok ∧ Below Wb.heap.size Wb W)
    case first =>
      first | go_region_with (first
        | (go_at_call 7; first | (refine (HTo.out w0.drew H0d.out).mono ?_; rintro e w1 ⟨ag0, ag1, ag2, ag3, rfl, hx1, hb1⟩; have HX1 : Hid (RdS w0.drew.heap.size w1.heap.size w1 d (some ⟨ag0, 0, none⟩) an an (some ⟨ag1, 0, none⟩) rn rn (some ⟨ag2, 0, none⟩) wn wn (some ⟨ag3, 0, none⟩) ln ln s) := hx1; have H1 : Hid (Below Wb.heap.size Wb w1) := H0d.out.trans (hb1.mono H0d.out.size); clear hx1 hb1; clear z0 z1 z2 z3 y0 y1 y2 y3; obtain ⟨⟨z0, z1, z2, z3, _⟩, y0, y1, y2, y3, _⟩ := And.intro (HAt.out _ H1.out).1.cells (HAt.out _ H1.out).2.cells) | (refine (HTo.out w3 H3.out).mono ?_; rintro e w2 ⟨ag0, ag1, ag2, ag3, rfl, hx2, hb2⟩; have HXx : Hid (∃ lo hi, RdS lo hi w2 d (some ⟨ag0, 0, none⟩) an an (some ⟨ag1, 0, none⟩) rn rn (some ⟨ag2, 0, none⟩) wn wn (some ⟨ag3, 0, none⟩) ln ln s ∧ hi ≤ w2.heap.size) := ⟨_, _, hx2, Nat.le_refl _⟩; have HCx : Hid (∃ lo hi, RdC lo hi w2 d' (.agg #[.int .i64 xk, .slice xna xnn xnc, .slice xra xrn xrc, .slice xka xkn xkc]) c ∧ hi ≤ w2.heap.size) := ⟨_, _, HC3.out.below hb2 (Nat.le_refl _), hb2.size⟩; have H2 : Hid (Below Wb.heap.size Wb w2) := H3.out.trans (hb2.mono H3.out.size); clear hx2 hb2))
        | (go_at_call 12; first | (refine (HTc.out w1 H1.out).mono ?_; rintro e w2 ⟨xk, xna, xnn, xnc, xra, xrn, xrc, xka, xkn, xkc, rfl, hx2, hb2⟩; have HXx : Hid (∃ lo hi, RdS lo hi w2 d (some ⟨ag0, 0, none⟩) an an (some ⟨ag1, 0, none⟩) rn rn (some ⟨ag2, 0, none⟩) wn wn (some ⟨ag3, 0, none⟩) ln ln s ∧ hi ≤ w2.heap.size) := ⟨_, _, HX1.out.below hb2 (Nat.le_refl _), hb2.size⟩; have HCx : Hid (∃ lo hi, RdC lo hi w2 d' (.agg #[.int .i64 xk, .slice xna xnn xnc, .slice xra xrn xrc, .slice xka xkn xkc]) c ∧ hi ≤ w2.heap.size) := ⟨_, _, hx2, Nat.le_refl _⟩; have H2 : Hid (Below Wb.heap.size Wb w2) := H1.out.trans (hb2.mono H1.out.size); clear hx2 hb2) | (refine (HTc.out w0.drew H0d.out).mono ?_; rintro e w3 ⟨xk, xna, xnn, xnc, xra, xrn, xrc, xka, xkn, xkc, rfl, hx3, hb3⟩; have HC3 : Hid (RdC w0.drew.heap.size w3.heap.size w3 d' (.agg #[.int .i64 xk, .slice xna xnn xnc, .slice xra xrn xrc, .slice xka xkn xkc]) c) := hx3; have H3 : Hid (Below Wb.heap.size Wb w3) := H0d.out.trans (hb3.mono H0d.out.size); clear hx3 hb3; clear z0 z1 z2 z3 y0 y1 y2 y3; obtain ⟨⟨z0, z1, z2, z3, _⟩, y0, y1, y2, y3, _⟩ := And.intro (HAt.out _ H3.out).1.cells (HAt.out _ H3.out).2.cells))
        | (go_at_call 11; obtain ⟨_, _, hxx, hxs⟩ := HXx.out; obtain ⟨_, _, hcx, hcs⟩ := HCx.out; refine (specAtomOf_any hxx hcx hxs hcs HFit.out.1 HBk.out).mono ?_; rintro e w5 ⟨rfl, hb5⟩; rw [← HOk.out]; have H5 : Hid (Below Wb.heap.size Wb w5) := H2.out.trans (hb5.mono H2.out.size); clear hb5 hxx hxs hcx hcs)) | fail
      all_goals
        go_wp2_with fail
        go_meet
        case rel => exact ⟨rfl, H5.out⟩
    case rest =>
      obtain ⟨hb8, h3c⟩ := hcut
      subst hb8
      obtain ⟨w3, hw3⟩ : ∃ V, V = wc := ⟨_, rfl⟩
      rw [← hw3] at h3c ⊢
      clear hw3
      have H3 : Hid (Below Wb.heap.size Wb w3) := h3c
      have s3 := h3c.size
      clear h3c
      clear z0 z1 z2 z3 y0 y1 y2 y3
      obtain ⟨⟨z0, z1, z2, z3, _⟩, y0, y1, y2, y3, _⟩ := And.intro (HAt.out _ H3.out).1.cells (HAt.out _ H3.out).2.cells
      go_wp2_with fail
      refine (HTo.out w3 H3.out).mono ?_
      rintro e w4 ⟨bg0, bg1, bg2, bg3, rfl, hx4, hb4⟩
      have s4 := hb4.size
      obtain ⟨w5, hw5⟩ : ∃ w5, w5 = w4.alloc (.cells #[.slice (some ⟨bg0, 0, none⟩) an an, .slice (some ⟨bg1, 0, none⟩) rn rn, .slice (some ⟨bg2, 0, none⟩) wn wn, .slice (some ⟨bg3, 0, none⟩) ln ln] 32) := ⟨_, rfl⟩
      have HW5 : Hid (w5 = w4.alloc (.cells #[.slice (some ⟨bg0, 0, none⟩) an an, .slice (some ⟨bg1, 0, none⟩) rn rn, .slice (some ⟨bg2, 0, none⟩) wn wn, .slice (some ⟨bg3, 0, none⟩) ln ln] 32)) := hw5
      have hb5 : Below w4.heap.size w4 w5 := by rw [hw5]; exact (Below.refl _ _).alloc (Nat.le_refl _) _
      have s5 : w4.heap.size < w5.heap.size := by rw [hw5]; simp
      have H5 : Hid (Below Wb.heap.size Wb w5) := (H3.out.trans (hb4.mono (by omega))).trans (hb5.mono (by omega))
      have HX5 : Hid (RdS w3.heap.size w4.heap.size w5 d (some ⟨bg0, 0, none⟩) an an (some ⟨bg1, 0, none⟩) rn rn (some ⟨bg2, 0, none⟩) wn wn (some ⟨bg3, 0, none⟩) ln ln s) := hx4.below hb5 (Nat.le_refl _)
      have HBX : Hid (Blk w5 w4.heap.size 32 (.slice (some ⟨bg0, 0, none⟩) an an) (.slice (some ⟨bg1, 0, none⟩) rn rn) (.slice (some ⟨bg2, 0, none⟩) wn wn) (.slice (some ⟨bg3, 0, none⟩) ln ln)) := by unfold Hid; rw [hw5]; exact Blk.alloc_new w4 _ _ _ _ _ _ rfl
      clear hx4 hb4 hb5 hw5
      clear z0 z1 z2 z3 y0 y1 y2 y3
      obtain ⟨⟨z0, z1, z2, z3, _⟩, y0, y1, y2, y3, _⟩ := And.intro (HAt.out _ H5.out).1.cells (HAt.out _ H5.out).2.cells
      go_upto_region 10 with fail
      rw [← HW5.out]
      go_wp2_with fail
      refine (HTc.out w5 H5.out).mono ?_
      rintro e w6 ⟨vk, vna, vnn, vnc, vra, vrn, vrc, vka, vkn, vkc, rfl, hx6, hb6⟩
      have s6 := hb6.size
      obtain ⟨w7, hw7⟩ : ∃ w7, w7 = w6.alloc (.cells #[.int .i64 vk, .slice vna vnn vnc, .slice vra vrn vrc, .slice vka vkn vkc] 42) := ⟨_, rfl⟩
      have HW7 : Hid (w7 = w6.alloc (.cells #[.int .i64 vk, .slice vna vnn vnc, .slice vra vrn vrc, .slice vka vkn vkc] 42)) := hw7
      have hb7 : Below w6.heap.size w6 w7 := by rw [hw7]; exact (Below.refl _ _).alloc (Nat.le_refl _) _
      have s7 : w6.heap.size < w7.heap.size := by rw [hw7]; simp
      have h57 : Below w5.heap.size w5 w7 := hb6.trans (hb7.mono (by omega))
      have H7 : Hid (Below Wb.heap.size Wb w7) := H5.out.trans (h57.mono (by omega))
      have HX7 : Hid (RdS w3.heap.size w4.heap.size w7 d (some ⟨bg0, 0, none⟩) an an (some ⟨bg1, 0, none⟩) rn rn (some ⟨bg2, 0, none⟩) wn wn (some ⟨bg3, 0, none⟩) ln ln s) := HX5.out.below h57 (by omega)
      have HC7 : Hid (RdC w5.heap.size w6.heap.size w7 d' (.agg #[.int .i64 vk, .slice vna vnn vnc, .slice vra vrn vrc, .slice vka vkn vkc]) c) := hx6.below hb7 (Nat.le_refl _)
      have HB7 : Hid (Blk w7 w4.heap.size 32 (.slice (some ⟨bg0, 0, none⟩) an an) (.slice (some ⟨bg1, 0, none⟩) rn rn) (.slice (some ⟨bg2, 0, none⟩) wn wn) (.slice (some ⟨bg3, 0, none⟩) ln ln)) := HBX.out.below h57 (by omega)
      have HBC7 : Hid (Blk w7 w6.heap.size 42 (.int .i64 vk) (.slice vna vnn vnc) (.slice vra vrn vrc) (.slice vka vkn vkc)) := by unfold Hid; rw [hw7]; exact Blk.alloc_new w6 _ _ _ _ _ _ rfl
      obtain ⟨m0, m1, m2, m3, _⟩ := HB7.out.cells
      obtain ⟨n0, n1, n2, n3, _⟩ := HBC7.out.cells
      clear hx6 hb6 hb7 hw7 h57
      clear z0 z1 z2 z3 y0 y1 y2 y3
      go_upto_region 11 with fail
      rw [← HW7.out]
      go_wp2_with fail
      refine (implAtomOf_any HX7.out HC7.out (by omega) (by omega) HFit.out.1 HBk.out (HTb.out _ H7.out).1 (HTb.out _ H7.out).2).mono ?_
      rintro e w8 ⟨rfl, hb8⟩
      rw [← HOk.out]
      have s8 := hb8.size
      have H8 : Hid (Below Wb.heap.size Wb w8) := H7.out.trans (hb8.mono (by omega))
      have HV : Hid (∀ V, Below w8.heap.size w8 V → RdS w3.heap.size w4.heap.size V d (some ⟨bg0, 0, none⟩) an an (some ⟨bg1, 0, none⟩) rn rn (some ⟨bg2, 0, none⟩) wn wn (some ⟨bg3, 0, none⟩) ln ln s ∧ RdC w5.heap.size w6.heap.size V d' (.agg #[.int .i64 vk, .slice vna vnn vnc, .slice vra vrn vrc, .slice vka vkn vkc]) c ∧ Blk V w4.heap.size 32 (.slice (some ⟨bg0, 0, none⟩) an an) (.slice (some ⟨bg1, 0, none⟩) rn rn) (.slice (some ⟨bg2, 0, none⟩) wn wn) (.slice (some ⟨bg3, 0, none⟩) ln ln) ∧ Blk V w6.heap.size 42 (.int .i64 vk) (.slice vna vnn vnc) (.slice vra vrn vrc) (.slice vka vkn vkc) ∧ w8.heap.size ≤ V.heap.size) := fun V hV => by
        have h7V := hb8.trans (hV.mono hb8.size)
        exact ⟨HX7.out.below h7V (by omega), HC7.out.below h7V (by omega), HB7.out.below h7V (by omega), HBC7.out.below h7V (by omega), hV.size⟩
      clear hb8 m0 m1 m2 m3 n0 n1 n2 n3
      obtain ⟨m0, m1, m2, m3, _⟩ := (HV.out w8 (Below.refl _ _)).2.2.1.cells
      obtain ⟨n0, n1, n2, n3, _⟩ := (HV.out w8 (Below.refl _ _)).2.2.2.1.cells
      obtain ⟨⟨z0, z1, z2, z3, _⟩, y0, y1, y2, y3, _⟩ := And.intro (HAt.out _ H8.out).1.cells (HAt.out _ H8.out).2.cells
      have H8d : Hid (Below w8.heap.size w8 w8.drew) := (Below.refl _ _).drew
      have HWV : Hid (∀ {V : World}, Below w8.heap.size w8 V → Below Wb.heap.size Wb V) := fun {V} hV => H8.out.trans (hV.mono H8.out.size)
      go_upto_region 14 with fail
      go_cut [39] (fun b W => b = .bool false ∧ Below w8.heap.size w8 W)
      case first =>
        first | go_region_with (first
          | (go_at_call 7; refine (HTo.out w8.drew (HWV.out H8d.out)).mono ?_; rintro e w9 ⟨qg0, qg1, qg2, qg3, rfl, hx9, hb9⟩; have HX9 : Hid (RdS w8.drew.heap.size w9.heap.size w9 d (some ⟨qg0, 0, none⟩) an an (some ⟨qg1, 0, none⟩) rn rn (some ⟨qg2, 0, none⟩) wn wn (some ⟨qg3, 0, none⟩) ln ln s) := hx9; have H9 : Hid (Below w8.heap.size w8 w9) := H8d.out.trans (hb9.mono H8d.out.size); clear hx9 hb9 m0 m1 m2 m3; obtain ⟨m0, m1, m2, m3, _⟩ := (HV.out w9 H9.out).2.2.1.cells)
          | (go_at_call 9; refine (eqS_any (HV.out w9 H9.out).1 HX9.out (by have := H9.out.size; omega) (Nat.le_refl _)).mono ?_; rintro e wt ⟨rfl, hbt⟩; have Ht : Hid (Below w8.heap.size w8 wt) := H9.out.trans (hbt.mono H9.out.size); clear hbt)) | fail
        all_goals
          go_wp2_with fail
          go_meet
          case rel => exact ⟨rfl, Ht.out⟩
      case rest =>
        obtain ⟨hb39, h8c⟩ := hcut
        subst hb39
        have Hc : Hid (Below w8.heap.size w8 wc) := h8c
        clear m0 m1 m2 m3 n0 n1 n2 n3 h8c
        clear z0 z1 z2 z3 y0 y1 y2 y3
        obtain ⟨n0, n1, n2, n3, _⟩ := (HV.out wc Hc.out).2.2.2.1.cells
        obtain ⟨y0, y1, y2, y3, _⟩ := (HAt.out _ (HWV.out Hc.out)).2.cells
        have Hcd : Hid (Below w8.heap.size w8 wc.drew) := Hc.out.drew
        go_upto_region 16 with fail
        go_cut [44] (fun b W => b = .bool false ∧ Below w8.heap.size w8 W)
        case first =>
          first | go_region_with (first
            | (go_at_call 12; refine (HTc.out wc.drew (HWV.out Hcd.out)).mono ?_; rintro e w9 ⟨uk, una, unn, unc, ura, urn, urc, uka, ukn, ukc, rfl, hx9, hb9⟩; have HC9 : Hid (RdC wc.drew.heap.size w9.heap.size w9 d' (.agg #[.int .i64 uk, .slice una unn unc, .slice ura urn urc, .slice uka ukn ukc]) c) := hx9; have H9 : Hid (Below w8.heap.size w8 w9) := Hcd.out.trans (hb9.mono Hcd.out.size); clear hx9 hb9 n0 n1 n2 n3; obtain ⟨n0, n1, n2, n3, _⟩ := (HV.out w9 H9.out).2.2.2.1.cells)
            | (go_at_call 14; refine (eqC_any d' _ _ c d' w9 _ _ _ _ (HV.out w9 H9.out).2.1 HC9.out (by have := H9.out.size; omega) (Nat.le_refl _)).mono ?_; rintro e wt ⟨rfl, hbt⟩; have Ht : Hid (Below w8.heap.size w8 wt) := H9.out.trans (hbt.mono H9.out.size); clear hbt)) | fail
          all_goals
            go_wp2_with fail
            go_meet
            case rel => exact ⟨rfl, Ht.out⟩
        case rest =>
          obtain ⟨hb44x, h8e⟩ := hcut
          subst hb44x
          have He : Hid (Below w8.heap.size w8 _) := h8e
          clear h8e
          go_wp2_with fail
          go_ret
          exact ⟨rfl, HBB.out.trans ((HWV.out He.out).mono (by omega))⟩

set_option maxRecDepth 100000 in
theorem lifted (os : Os) (started : os.Started) (H : Type) (enc : TypeId × Value → H) :
    ReturnsInHanded {} Tryd.checked os 4 .any (fun w args => (Rows.fnExactAtomOfSpec.pre enc Tryd.prog Tryd.f4 [] false w args ∧ laidMetH Tryd.prog laid2 w) ∧ sizedMet enc Tryd.prog Tryd.f4 (OpenSpec.ofChange Rows.fnExactAtomOfSpec) false w args)
      (Rows.fnExactAtomOfSpec.post enc Tryd.prog Tryd.f4 false true false false) := by
  refine returnsInHanded_of_change_and (C := Tryd.checked) (X := fun w _ => laidMetH Tryd.prog laid2 w) (fun _ _ _ hh h => h.of_heap hh) own started (by kernel_rfl) Tryd.func4
    (ChangeSpec.witness_shaped (enc := enc) (C := Tryd.checked) (os := os) (X := fun w _ => laidMetH Tryd.prog laid2 w) false (World.doorLaid Tryd.prog 400 os) #[.agg #[.slice none 0 0, .slice none 0 0, .slice none 0 0, .slice none 0 0], .agg #[.int .i64 0, .slice none 0 0, .slice none 0 0, .slice none 0 0]] 8 rfl (World.shaped_of_RefB (by kernel_rfl) (by kernel_rfl)) (by kernel_rfl) (by kernel_rfl) (by kernel_rfl) (door_met os _)) ?_
  intro W base args ds gs before hval0 hW _ _ hL _
  have hval : ∀ (j : Nat) t v, Tryd.f4.params[j]? = some t → args[j]? = some v → Value.okWide Tryd.prog W .any base t v := hval0
  have hW' := hW
  obtain ⟨p, q, hA0, hV, rfl, hfz, hnd⟩ := hW
  have hA : DataW.TrodAll enc Tryd.prog W 0 (fun _ => true) true Tryd.f4.params.toList args.toList ds p := hA0
  rw [Tryd.params4] at hA hval
  obtain ⟨v0, vs0, d0, ds0, p0, q0, hargs, rfl, rfl, h0, r0⟩ := trodAll_cons hA
  obtain ⟨v1, vs1, d1, ds1, p1, q1, hargs1, rfl, rfl, h1, r1⟩ := trodAll_cons r0
  obtain ⟨rfl, rfl, rfl⟩ := trodAll_nil r1
  obtain rfl : args = #[v0, v1] := by cases args; simp_all
  obtain ⟨rfl, rfl⟩ := trodVars_none hV
  obtain ⟨cs0, rfl, _⟩ := okWide_struct Tryd.underlying26 (hval 0 26 v0 rfl rfl)
  obtain ⟨cs1, rfl, _⟩ := okWide_struct Tryd.underlying38 (hval 1 38 v1 rfl rfl)
  have k0 := h0
  have k1 := h1
  have lt0 : ∀ x ∈ p0, x.block < W.heap.size := by obtain ⟨m, hm⟩ := k0; exact DataW.trod_lt m _ _ _ hm
  have lt1 : ∀ x ∈ p1, x.block < W.heap.size := by obtain ⟨m, hm⟩ := k1; exact DataW.trod_lt m _ _ _ hm
  obtain ⟨d, aa, an, ac, ra, rn, rc, wa, wn, wc, la, ln, lc, s, hcs, w0⟩ : ∃ d aa an ac ra rn rc wa wn wc la ln lc s, cs0 = #[.slice aa an ac, .slice ra rn rc, .slice wa wn wc, .slice la ln lc] ∧ RdS 0 W.heap.size W d aa an ac ra rn rc wa wn wc la ln lc s := by
    obtain ⟨fuel, hf⟩ := h0
    obtain ⟨d, aa, an, ac, ra, rn, rc, wa, wn, wc, la, ln, lc, s, hv, hr⟩ := open_cls (cs := cs0.toList) (by simpa [Value.cells] using hf)
    exact ⟨d, aa, an, ac, ra, rn, rc, wa, wn, wc, la, ln, lc, s, by cases cs0; simp_all, hr⟩
  obtain ⟨d', xk, xna, xnn, xnc, xra, xrn, xrc, xka, xkn, xkc, c, hcc, w1⟩ : ∃ d' xk xna xnn xnc xra xrn xrc xka xkn xkc c, cs1 = #[.int .i64 xk, .slice xna xnn xnc, .slice xra xrn xrc, .slice xka xkn xkc] ∧ RdC 0 W.heap.size W d' (.agg #[.int .i64 xk, .slice xna xnn xnc, .slice xra xrn xrc, .slice xka xkn xkc]) c := by
    obtain ⟨fuel, hf⟩ := h1
    obtain ⟨u0, u1, u2, u3, c, hv, hr⟩ := open_con fuel fuel cs1.toList _ (Nat.le_refl _) (by simpa [Value.cells] using hf)
    obtain ⟨xk, xna, xnn, xnc, xra, xrn, xrc, xka, xkn, xkc, e0, e1, e2, e3⟩ := hr.form4S
    subst e0 e1 e2 e3
    exact ⟨fuel, xk, xna, xnn, xnc, xra, xrn, xrc, xka, xkn, xkc, c, by cases cs1; simp_all, hr⟩
  subst hcs hcc
  obtain ⟨hT, hg⟩ := of_laid hL
  clear hA0 hval0
  refine (walk W w0 w1 hT hg).mono fun e W' ⟨he, bel⟩ => ?_
  subst he
  exact ⟨_, rfl, _, _, _, [], _, [], hW', trodAll_mk1 (shut_bool Tryd.underlying4 _), (trodAll_cons_mk (Below.trod laidOut (by kernel_rfl) (of_decide_eq_true (by kernel_rfl)) k0 bel lt0) (trodAll_cons_mk (Below.trod laidOut (by kernel_rfl) (of_decide_eq_true (by kernel_rfl)) k1 bel lt1) trodAll_mk0)), rfl, bel.frame _, fun h => by cases h⟩

theorem over : Rows.fnExactAtomOfRow.holds Tryd.pinned (OpenSpec.ofChange Rows.fnExactAtomOfSpec) :=
  OpenClaim.holds_of_wide 4 Tryd.f4 rfl rfl rfl rfl rfl rfl rfl ⟨rfl, rfl, rfl, rfl, rfl⟩ rfl rfl rfl rfl rfl (by kernel_rfl) Tryd.func4 (by kernel_rfl)
    (of_decide_eq_true (by kernel_rfl)) (by unfold Func.isWrapper; first | (rw [if_pos (by decide +kernel)]; kernel_rfl) | (rw [if_neg (by decide +kernel)]; exact ⟨rfl, rfl⟩))
    (fun os started H enc _ => lifted os started H enc)

theorem proved : Rows.FnExactAtomOfCardSaid :=
  Claim7.holds_tied_plain_at .later [] [.data, .data] true Rows.fnExactAtomOfCard.stood.harness false
    over (fun _ h => by cases h) (by kernel_rfl) (fun _ h => by cases h) fnExactAtomOf_row_tie rfl ⟨rfl, rfl⟩ (by kernel_rfl) rfl
    (fun f fn hf hfn => by
      obtain rfl : f = 4 := Option.some.inj ((show Tryd.prog.funcNamed "loop.example/g00534/laws.FnExactAtomOf" = some 4 by kernel_rfl).symm.trans hf) |>.symm
      obtain rfl : fn = Tryd.f4 := (Option.some.inj (Tryd.func4.symm.trans hfn)).symm
      exact ⟨by kernel_rfl, fun j t ht => by
        rw [Tryd.params4] at ht
        have hm : t ∈ [26, 38] := by simpa using Array.mem_of_getElem? ht
        have hall : ([26, 38].all fun u => !Tryd.prog.wantsStandIn u) = true := by kernel_rfl
        exact (show Tryd.prog.wantsStandIn t = false by simpa using List.all_eq_true.1 hall t hm)⟩)
    (by kernel_rfl)
#print axioms proved
end Go.Proofs.YteeofekpiiahdaaDoor.fnExactAtomOf
namespace Go.Proofs.YteeofekpiiahdaaDoor
theorem fnExactAtomOfCard_holds : Rows.FnExactAtomOfCardSaid := fnExactAtomOf.proved
end Go.Proofs.YteeofekpiiahdaaDoor
