/- For every two concepts the law FnExactConCmp answers true and both read behind the call as they did before: no condition. -/
import Derived.Test.YtbjkokndnfmcpagRows
import Derived.Test.YtbjkokndnfmcpagConCmpFn
import Derived.Test.YtbjkokndnfmcpagConSz
import Derived.Test.YtbjkokndnfmcpagConEq
import Derived.Test.YtbjkokndnfmcpagConTo
import Derived.Test.YtbjkokndnfmcpagConOpen
import Derived.Test.YtbjkokndnfmcpagLawBox
import Derived.WalkKit
import Derived.ProofKit
import Derived.OpenShut
import Derived.ShutString
import Derived.ChangeOld
import Derived.Below
import Derived.Deep.DeepCutAuto
namespace Go.Proofs.Ytbjkokndnfmcpag.fnExactConCmp
open Go.ChangeShapes Go.WideShapes Go.ChangeAt Go.RowKit
set_option linter.unusedVariables false

theorem own : ownKnob Try.prog.godebug = none := by kernel_rfl
theorem laidOut : laidOutB Try.prog = true := by kernel_rfl

set_option maxRecDepth 100000 in
set_option maxHeartbeats 4000000 in
theorem walk (dA dB : Nat) (a0 a1 a2 a3 b0 b1 b2 b3 : Value) (a b : CN) (w : World) (hA : RdC 0 w.heap.size w dA (.agg #[a0, a1, a2, a3]) a) (hB : RdC 0 w.heap.size w dB (.agg #[b0, b1, b2, b3]) b) :
    Calls Try.prog 8 #[.agg #[a0, a1, a2, a3], .agg #[b0, b1, b2, b3]] w fun e w' => e = .returned (.bool true) ∧ Below w.heap.size w w' := by
  obtain ⟨Wb, hWb⟩ : ∃ Wb, Wb = (w.alloc (.cells #[a0, a1, a2, a3] 39)).alloc (.cells #[b0, b1, b2, b3] 39) := ⟨_, rfl⟩
  have HWb : Hid (Wb = (w.alloc (.cells #[a0, a1, a2, a3] 39)).alloc (.cells #[b0, b1, b2, b3] 39)) := hWb
  have hbb : Below w.heap.size w Wb := by rw [hWb]; exact ((Below.refl _ _).alloc (Nat.le_refl _) _).alloc (by simp) _
  have HBB : Hid (Below w.heap.size w Wb) := hbb
  have hsb : Wb.heap.size = w.heap.size + 1 + 1 := by rw [hWb]; simp
  have HRA : Hid (RdC 0 w.heap.size Wb dA (.agg #[a0, a1, a2, a3]) a) := hA.below hbb (Nat.le_refl _)
  have HRB : Hid (RdC 0 w.heap.size Wb dB (.agg #[b0, b1, b2, b3]) b) := hB.below hbb (Nat.le_refl _)
  have hxA : BoxL Wb w.heap.size a0 a1 a2 a3 := by rw [hWb]; exact (Below.heap_alloc _ _ _ (by simp)).trans (World.alloc_heap_new w _)
  have hxB : BoxL Wb (w.heap.size + 1) b0 b1 b2 b3 := by rw [hWb]; have := BoxL.new (w.alloc (.cells #[a0, a1, a2, a3] 39)) b0 b1 b2 b3; rwa [World.size_alloc] at this
  have HBx : Hid (BoxL Wb w.heap.size a0 a1 a2 a3 ∧ BoxL Wb (w.heap.size + 1) b0 b1 b2 b3) := ⟨hxA, hxB⟩
  have HAt : Hid (∀ W, Below Wb.heap.size Wb W → BoxL W w.heap.size a0 a1 a2 a3 ∧ BoxL W (w.heap.size + 1) b0 b1 b2 b3) := fun W h => ⟨hxA.below h (by omega), hxB.below h (by omega)⟩
  obtain ⟨z, hz⟩ : ∃ z, z = conCmpZ a b := ⟨_, rfl⟩
  have HZ : Hid (z = conCmpZ a b) := hz
  have hzz : (z != z) = false := by simp
  obtain ⟨r, hr⟩ : ∃ r, r = szRes 1048576 a.bulk := ⟨_, rfl⟩
  have HSz : Hid (r = szRes 1048576 a.bulk) := hr
  obtain ⟨k0, k1, k2, k3⟩ := hxA.cells
  obtain ⟨l0, l1, l2, l3⟩ := hxB.cells
  clear hA hB hbb hWb hxA hxB hz hr
  go_enter Try.func8, Try.ntmps8
  go_wp2_with fail
  rw [← HWb.out]
  refine (szC_any dA _ a 1048576 Wb 0 w.heap.size HRA.out (by omega) (by omega) (by omega)).mono ?_
  rintro e w0 ⟨rfl, hb⟩
  rw [← HSz.out]
  have H0 : Hid (Below Wb.heap.size Wb w0) := hb
  have s0 := hb.size
  clear hb k0 k1 k2 k3 l0 l1 l2 l3
  obtain ⟨xA, xB⟩ := HAt.out w0 H0.out
  obtain ⟨k0, k1, k2, k3⟩ := xA.cells
  obtain ⟨l0, l1, l2, l3⟩ := xB.cells
  clear xA xB
  by_cases hneg : r < 0
  · go_wp2_with fail
    go_ret
    exact ⟨rfl, HBB.out.trans (H0.out.mono (by omega))⟩
  · have hpos := szRes_pos (by rw [← HSz.out]; exact hneg)
    have HBkA : Hid (a.bulk ≤ 1048576) := by unfold Hid; omega
    have hr1 : r ≤ 1048576 := by have := hpos.2; rw [← HSz.out] at this; omega
    obtain ⟨r2, hr2⟩ : ∃ r2, r2 = szRes r b.bulk := ⟨_, rfl⟩
    have HSz2 : Hid (r2 = szRes r b.bulk) := hr2
    clear hpos hr2
    go_wp2_with fail
    refine (szC_any dB _ b r w0 0 w.heap.size (HRB.out.below H0.out (by omega)) (by omega) (by omega) hr1).mono ?_
    rintro e w1 ⟨rfl, hb⟩
    rw [← HSz2.out]
    have H1 : Hid (Below Wb.heap.size Wb w1) := H0.out.trans (hb.mono s0)
    have s1 := hb.size
    clear hb k0 k1 k2 k3 l0 l1 l2 l3
    obtain ⟨xA, xB⟩ := HAt.out w1 H1.out
    obtain ⟨k0, k1, k2, k3⟩ := xA.cells
    obtain ⟨l0, l1, l2, l3⟩ := xB.cells
    clear xA xB
    by_cases hneg2 : r2 < 0
    · go_wp2_with fail
      go_ret
      exact ⟨rfl, HBB.out.trans (H1.out.mono (by omega))⟩
    · have hpos := szRes_pos (by rw [← HSz2.out]; exact hneg2)
      have HBkB : Hid (b.bulk ≤ 1048576) := by unfold Hid; omega
      clear hpos
      have H1d : Hid (Below Wb.heap.size Wb w1.drew) := H1.out.drew
      have s1d : Wb.heap.size ≤ w1.drew.heap.size := H1d.out.size
      go_upto_region 8 with fail
      go_cut [6] (fun v W => v = .int .i64 z ∧ Below Wb.heap.size Wb W)
      case first =>
        first | go_region_with (first
          | (go_at_call_of 24 a1; first | (refine (toC_any dA _ a w1.drew 0 w.heap.size (HRA.out.below H1d.out (by omega)) (by omega) HBkA.out).mono ?_; rintro e w2 ⟨x2, rfl, hx2, _, hb2⟩; have HX2 : Hid (RdC w1.drew.heap.size w2.heap.size w2 dA x2 a) := hx2; have H2 : Hid (Below Wb.heap.size Wb w2) := H1d.out.trans (hb2.mono s1d); obtain ⟨_, yB⟩ := HAt.out w2 H2.out; obtain ⟨y0, y1, y2, y3⟩ := yB.cells; clear hx2 hb2 yB) | (refine (toC_any dA _ a w4 0 w.heap.size (HRA.out.below H4.out (by omega)) (Nat.le_trans (by omega) H4.out.size) HBkA.out).mono ?_; rintro e w5 ⟨x5, rfl, hx5, _, hb5⟩; have HQA : Hid (∃ d lo hi, hi ≤ w5.heap.size ∧ RdC lo hi w5 d x5 a) := ⟨_, _, _, Nat.le_refl _, hx5⟩; have HQB : Hid (∃ d lo hi, hi ≤ w5.heap.size ∧ RdC lo hi w5 d x4 b) := ⟨_, _, _, hb5.size, HX4.out.below hb5 (Nat.le_refl _)⟩; have HQ : Hid (Below Wb.heap.size Wb w5) := H4.out.trans (hb5.mono H4.out.size); clear hx5 hb5))
          | (go_at_call_of 24 b1; first | (refine (toC_any dB _ b w2 0 w.heap.size (HRB.out.below H2.out (by omega)) (Nat.le_trans (by omega) H2.out.size) HBkB.out).mono ?_; rintro e w3 ⟨x3, rfl, hx3, _, hb3⟩; have HQB : Hid (∃ d lo hi, hi ≤ w3.heap.size ∧ RdC lo hi w3 d x3 b) := ⟨_, _, _, Nat.le_refl _, hx3⟩; have HQA : Hid (∃ d lo hi, hi ≤ w3.heap.size ∧ RdC lo hi w3 d x2 a) := ⟨_, _, _, hb3.size, HX2.out.below hb3 (Nat.le_refl _)⟩; have HQ : Hid (Below Wb.heap.size Wb w3) := H2.out.trans (hb3.mono H2.out.size); clear hx3 hb3) | (refine (toC_any dB _ b w1.drew 0 w.heap.size (HRB.out.below H1d.out (by omega)) (by omega) HBkB.out).mono ?_; rintro e w4 ⟨x4, rfl, hx4, _, hb4⟩; have HX4 : Hid (RdC w1.drew.heap.size w4.heap.size w4 dB x4 b) := hx4; have H4 : Hid (Below Wb.heap.size Wb w4) := H1d.out.trans (hb4.mono s1d); obtain ⟨yA, _⟩ := HAt.out w4 H4.out; obtain ⟨y0, y1, y2, y3⟩ := yA.cells; clear hx4 hb4 yA))
          | (go_at_call 33; obtain ⟨_, _, _, hqa, hra⟩ := HQA.out; obtain ⟨_, _, _, hqb, hrb⟩ := HQB.out; refine (specConCmp_any hra hrb hqa hqb HBkA.out HBkB.out).mono ?_; rintro e w6 ⟨rfl, hb6⟩; rw [← HZ.out]; have HQ6 : Hid (Below Wb.heap.size Wb w6) := HQ.out.trans (hb6.mono HQ.out.size); clear hb6 hqa hra hqb hrb)) | fail
        all_goals
          go_wp2_with fail
          go_meet
          case rel => exact ⟨rfl, HQ6.out⟩
      case rest =>
        obtain ⟨hv6, h6⟩ := hcut
        subst hv6
        obtain ⟨W6, hW6⟩ : ∃ W, W = wc := ⟨_, rfl⟩
        subst hW6
        have H6 : Hid (Below Wb.heap.size Wb W6) := h6
        have s6 := h6.size
        clear h6 k0 k1 k2 k3 l0 l1 l2 l3
        obtain ⟨xA, xB⟩ := HAt.out W6 H6.out
        obtain ⟨k0, k1, k2, k3⟩ := xA.cells
        obtain ⟨l0, l1, l2, l3⟩ := xB.cells
        clear xA xB
        go_wp2_with fail
        refine (toC_any dA _ a W6 0 w.heap.size (HRA.out.below H6.out (by omega)) (by omega) HBkA.out).mono ?_
        rintro e w7 ⟨x7, rfl, hx7, _, hb7⟩
        obtain ⟨pk, pna, pnn, pnc, pra, prn, prc, pka, pkn, pkc, rfl⟩ := hx7.shape
        obtain ⟨w8, hw8⟩ : ∃ w8, w8 = w7.alloc (.cells #[.int .i64 pk, .slice pna pnn pnc, .slice pra prn prc, .slice pka pkn pkc] 44) := ⟨_, rfl⟩
        have HW8 : Hid (w8 = w7.alloc (.cells #[.int .i64 pk, .slice pna pnn pnc, .slice pra prn prc, .slice pka pkn pkc] 44)) := hw8
        have hb8 : Below w7.heap.size w7 w8 := by rw [hw8]; exact (Below.refl _ _).alloc (Nat.le_refl _) _
        have s7 := hb7.size
        have s8 : w8.heap.size = w7.heap.size + 1 := by rw [hw8]; simp
        have H8 : Hid (Below Wb.heap.size Wb w8) := (H6.out.trans (hb7.mono s6)).trans (hb8.mono (by omega))
        have H7 : Hid (Below Wb.heap.size Wb w7) := H6.out.trans (hb7.mono s6)
        have HP8 : Hid (RdC W6.heap.size w7.heap.size w8 dA (.agg #[.int .i64 pk, .slice pna pnn pnc, .slice pra prn prc, .slice pka pkn pkc]) a) := hx7.below hb8 (Nat.le_refl _)
        have HXP8 : Hid (BoxC w8 w7.heap.size (.int .i64 pk) (.slice pna pnn pnc) (.slice pra prn prc) (.slice pka pkn pkc)) := by unfold Hid; rw [hw8]; exact BoxC.new w7 _ _ _ _
        clear hx7 hb7 hb8 hw8 k0 k1 k2 k3 l0 l1 l2 l3
        obtain ⟨xA, xB⟩ := HAt.out w7 H7.out
        obtain ⟨l0, l1, l2, l3⟩ := xB.cells
        clear xA xB
        have hlt7 : w.heap.size + 1 < w7.heap.size := by omega
        go_wp2_with fail
        rw [← HW8.out]
        refine (toC_any dB _ b w8 0 w.heap.size (HRB.out.below H8.out (by omega)) (by omega) HBkB.out).mono ?_
        rintro e w9 ⟨x9, rfl, hx9, _, hb9⟩
        obtain ⟨qk, qna, qnn, qnc, qra, qrn, qrc, qka, qkn, qkc, rfl⟩ := hx9.shape
        obtain ⟨w10, hw10⟩ : ∃ w10, w10 = w9.alloc (.cells #[.int .i64 qk, .slice qna qnn qnc, .slice qra qrn qrc, .slice qka qkn qkc] 44) := ⟨_, rfl⟩
        have HW10 : Hid (w10 = w9.alloc (.cells #[.int .i64 qk, .slice qna qnn qnc, .slice qra qrn qrc, .slice qka qkn qkc] 44)) := hw10
        have hb10 : Below w9.heap.size w9 w10 := by rw [hw10]; exact (Below.refl _ _).alloc (Nat.le_refl _) _
        have s9 := hb9.size
        have s10 : w10.heap.size = w9.heap.size + 1 := by rw [hw10]; simp
        have h810 : Below w8.heap.size w8 w10 := hb9.trans (hb10.mono s9)
        have H10 : Hid (Below Wb.heap.size Wb w10) := H8.out.trans (h810.mono (by omega))
        have HP10 : Hid (RdC W6.heap.size w7.heap.size w10 dA (.agg #[.int .i64 pk, .slice pna pnn pnc, .slice pra prn prc, .slice pka pkn pkc]) a) := HP8.out.below h810 (by omega)
        have HQ10 : Hid (RdC w8.heap.size w9.heap.size w10 dB (.agg #[.int .i64 qk, .slice qna qnn qnc, .slice qra qrn qrc, .slice qka qkn qkc]) b) := hx9.below hb10 (Nat.le_refl _)
        have HXP10 : Hid (BoxC w10 w7.heap.size (.int .i64 pk) (.slice pna pnn pnc) (.slice pra prn prc) (.slice pka pkn pkc)) := HXP8.out.below h810 (by omega)
        have HXQ10 : Hid (BoxC w10 w9.heap.size (.int .i64 qk) (.slice qna qnn qnc) (.slice qra qrn qrc) (.slice qka qkn qkc)) := by unfold Hid; rw [hw10]; exact BoxC.new w9 _ _ _ _
        have HXP9 : Hid (BoxC w9 w7.heap.size (.int .i64 pk) (.slice pna pnn pnc) (.slice pra prn prc) (.slice pka pkn pkc)) := HXP8.out.below hb9 (by omega)
        obtain ⟨m0, m1, m2, m3⟩ := HXP9.out.cells
        have hne : w7.heap.size < w9.heap.size := by omega
        clear hx9 hb9 hb10 hw10 h810 l0 l1 l2 l3
        go_wp2_with fail
        rw [← HW10.out]
        refine (implConCmp_any HP10.out HQ10.out (by omega) (by omega) HBkA.out HBkB.out).mono ?_
        rintro e w11 ⟨rfl, hb11⟩
        rw [← HZ.out]
        have H11 : Hid (Below Wb.heap.size Wb w11) := H10.out.trans (hb11.mono (by omega))
        have s11 := hb11.size
        have HP11 : Hid (RdC W6.heap.size w7.heap.size w11 dA (.agg #[.int .i64 pk, .slice pna pnn pnc, .slice pra prn prc, .slice pka pkn pkc]) a) := HP10.out.below hb11 (by omega)
        have HQ11 : Hid (RdC w8.heap.size w9.heap.size w11 dB (.agg #[.int .i64 qk, .slice qna qnn qnc, .slice qra qrn qrc, .slice qka qkn qkc]) b) := HQ10.out.below hb11 (by omega)
        have HXP11 : Hid (BoxC w11 w7.heap.size (.int .i64 pk) (.slice pna pnn pnc) (.slice pra prn prc) (.slice pka pkn pkc)) := HXP10.out.below hb11 (by omega)
        have HXQ11 : Hid (BoxC w11 w9.heap.size (.int .i64 qk) (.slice qna qnn qnc) (.slice qra qrn qrc) (.slice qka qkn qkc)) := HXQ10.out.below hb11 (by omega)
        clear hb11 m0 m1 m2 m3
        obtain ⟨m0, m1, m2, m3⟩ := HXP11.out.cells
        obtain ⟨xA, xB⟩ := HAt.out w11 H11.out
        obtain ⟨k0, k1, k2, k3⟩ := xA.cells
        clear xA xB
        have H11d : Hid (Below Wb.heap.size Wb w11.drew) := H11.out.drew
        have s11d : w11.drew.heap.size = w11.heap.size := rfl
        have HP11d : Hid (RdC W6.heap.size w7.heap.size w11.drew dA (.agg #[.int .i64 pk, .slice pna pnn pnc, .slice pra prn prc, .slice pka pkn pkc]) a) := RdC.same (w := w11) (w' := w11.drew) (fun _ _ _ => rfl) HP11.out
        have HXP11d : Hid (BoxC w11.drew w7.heap.size (.int .i64 pk) (.slice pna pnn pnc) (.slice pra prn prc) (.slice pka pkn pkc)) := HXP11.out
        have H1111 : Hid (Below w11.heap.size w11 w11.drew) := (Below.refl _ _).drew
        go_upto_region 14 with fail
        go_cut [39] (fun v W => v = .bool false ∧ Below w11.heap.size w11 W)
        case first =>
          first | go_region_with (first | (go_at_call 24; refine (toC_any dA _ a w11.drew 0 w.heap.size (HRA.out.below H11d.out (by omega)) (by omega) HBkA.out).mono ?_; rintro e w12 ⟨x12, rfl, hx12, _, hb12⟩; have HX12 : Hid (RdC w11.drew.heap.size w12.heap.size w12 dA x12 a) := hx12; have HY12 : Hid (RdC W6.heap.size w7.heap.size w12 dA (.agg #[.int .i64 pk, .slice pna pnn pnc, .slice pra prn prc, .slice pka pkn pkc]) a) := HP11d.out.below hb12 (by omega); have H12 : Hid (Below w11.heap.size w11 w12) := H1111.out.trans (hb12.mono (by omega)); have HS12 : Hid (w11.heap.size ≤ w12.heap.size) := H12.out.size; have HXP12 : Hid (BoxC w12 w7.heap.size (.int .i64 pk) (.slice pna pnn pnc) (.slice pra prn prc) (.slice pka pkn pkc)) := HXP11d.out.below hb12 (by omega); obtain ⟨y0, y1, y2, y3⟩ := HXP12.out.cells; clear hx12 hb12) | (go_at_call 26; refine (eqC_any dA _ _ a dA w12 W6.heap.size w7.heap.size w11.drew.heap.size w12.heap.size HY12.out HX12.out (by have := HS12.out; omega) (Nat.le_refl _)).mono ?_; rintro e w13 ⟨rfl, hb13⟩; have H13 : Hid (Below w11.heap.size w11 w13) := H12.out.trans (hb13.mono H12.out.size); clear hb13)) | fail
          all_goals
            go_wp2_with fail
            go_meet
            case rel => exact ⟨rfl, H13.out⟩
        case rest =>
          obtain ⟨hv, h13⟩ := hcut
          subst hv
          obtain ⟨W13, hW13⟩ : ∃ W, W = wc := ⟨_, rfl⟩
          subst hW13
          have H13 : Hid (Below w11.heap.size w11 W13) := h13
          have s13 := h13.size
          have H13b : Hid (Below Wb.heap.size Wb W13) := H11.out.trans (h13.mono (by omega))
          have HQ13 : Hid (RdC w8.heap.size w9.heap.size W13 dB (.agg #[.int .i64 qk, .slice qna qnn qnc, .slice qra qrn qrc, .slice qka qkn qkc]) b) := HQ11.out.below h13 (by omega)
          have HXQ13 : Hid (BoxC W13 w9.heap.size (.int .i64 qk) (.slice qna qnn qnc) (.slice qra qrn qrc) (.slice qka qkn qkc)) := HXQ11.out.below h13 (by omega)
          clear h13 m0 m1 m2 m3 k0 k1 k2 k3
          obtain ⟨m0, m1, m2, m3⟩ := HXQ13.out.cells
          obtain ⟨xA, xB⟩ := HAt.out W13 H13b.out
          obtain ⟨l0, l1, l2, l3⟩ := xB.cells
          clear xA xB
          have H13d : Hid (Below Wb.heap.size Wb W13.drew) := H13b.out.drew
          have s13d : W13.drew.heap.size = W13.heap.size := rfl
          have HQ13d : Hid (RdC w8.heap.size w9.heap.size W13.drew dB (.agg #[.int .i64 qk, .slice qna qnn qnc, .slice qra qrn qrc, .slice qka qkn qkc]) b) := RdC.same (w := W13) (w' := W13.drew) (fun _ _ _ => rfl) HQ13.out
          have HXQ13d : Hid (BoxC W13.drew w9.heap.size (.int .i64 qk) (.slice qna qnn qnc) (.slice qra qrn qrc) (.slice qka qkn qkc)) := HXQ13.out
          go_wp2_with fail
          first | go_region_with (first | (go_at_call 24; refine (toC_any dB _ b W13.drew 0 w.heap.size (HRB.out.below H13d.out (by omega)) (by omega) HBkB.out).mono ?_; rintro e w14 ⟨x14, rfl, hx14, _, hb14⟩; have HX14 : Hid (RdC W13.drew.heap.size w14.heap.size w14 dB x14 b) := hx14; have HY14 : Hid (RdC w8.heap.size w9.heap.size w14 dB (.agg #[.int .i64 qk, .slice qna qnn qnc, .slice qra qrn qrc, .slice qka qkn qkc]) b) := HQ13d.out.below hb14 (by omega); have H14 : Hid (Below Wb.heap.size Wb w14) := H13d.out.trans (hb14.mono (by omega)); have HS14 : Hid (W13.heap.size ≤ w14.heap.size) := hb14.size; have HXQ14 : Hid (BoxC w14 w9.heap.size (.int .i64 qk) (.slice qna qnn qnc) (.slice qra qrn qrc) (.slice qka qkn qkc)) := HXQ13d.out.below hb14 (by omega); obtain ⟨y0, y1, y2, y3⟩ := HXQ14.out.cells; clear hx14 hb14) | (go_at_call 26; refine (eqC_any dB _ _ b dB w14 w8.heap.size w9.heap.size W13.drew.heap.size w14.heap.size HY14.out HX14.out (by have := HS14.out; omega) (Nat.le_refl _)).mono ?_; rintro e w15 ⟨rfl, hb15⟩; have H15 : Hid (Below Wb.heap.size Wb w15) := H14.out.trans (hb15.mono H14.out.size); clear hb15)) | fail
          all_goals
            go_wp2_with fail
            go_ret
            exact ⟨rfl, HBB.out.trans (H15.out.mono (by omega))⟩

set_option maxRecDepth 100000 in
theorem lifted (os : Os) (started : os.Started) (H : Type) (enc : TypeId × Value → H) :
    ReturnsInHanded {} Try.checked os 8 .any (Rows.fnExactConCmpSpec.pre6 enc Try.prog Try.f8 Rows.fnExactConCmpRow.domain false) (Rows.fnExactConCmpSpec.post enc Try.prog Try.f8 false true false false) := by
  refine returnsInHanded_of_change (C := Try.checked) own started (by kernel_rfl) Try.func8
    (ChangeSpec.witness6 (enc := enc) (C := Try.checked) false ⟨#[], #[.agg #[.int .i64 0, .slice none 0 0, .slice none 0 0, .slice none 0 0], .agg #[.int .i64 0, .slice none 0 0, .slice none 0 0, .slice none 0 0]], []⟩ 8 (by kernel_rfl) (by kernel_rfl) (by kernel_rfl) (by kernel_rfl)) ?_
  intro W base args ds gs before hval0 hW hcnd _
  have hval : ∀ (j : Nat) t v, Try.f8.params[j]? = some t → args[j]? = some v → Value.okWide Try.prog W .any base t v := hval0
  have hW' := hW
  obtain ⟨p, q, hA0, hV, rfl, hfz, hnd⟩ := hW
  have hA : DataW.TrodAll enc Try.prog W 0 (fun _ => true) true Try.f8.params.toList args.toList ds p := hA0
  rw [Try.params8] at hA hval
  obtain ⟨v0, vs0, d0, ds0, p0, q0, hargs, rfl, rfl, h0, r0⟩ := trodAll_cons hA
  obtain ⟨v1, vs1, d1, ds1, p1, q1, hargs1, rfl, rfl, h1, r1⟩ := trodAll_cons r0
  obtain ⟨rfl, rfl, rfl⟩ := trodAll_nil r1
  obtain rfl : args = #[v0, v1] := by cases args; simp_all
  obtain ⟨rfl, rfl⟩ := trodVars_none hV
  obtain ⟨cs0, rfl, _⟩ := okWide_struct Try.underlying39 (hval 0 39 v0 rfl rfl)
  obtain ⟨cs1, rfl, _⟩ := okWide_struct Try.underlying39 (hval 1 39 v1 rfl rfl)
  have k0 := h0
  have k1 := h1
  have lt0 : ∀ x ∈ p0, x.block < W.heap.size := by obtain ⟨m, hm⟩ := k0; exact DataW.trod_lt m _ _ _ hm
  have lt1 : ∀ x ∈ p1, x.block < W.heap.size := by obtain ⟨m, hm⟩ := k1; exact DataW.trod_lt m _ _ _ hm
  obtain ⟨dd, x0, x1, x2, x3, c, hcs, w0⟩ : ∃ dd x0 x1 x2 x3 c, cs0 = #[x0, x1, x2, x3] ∧ RdC 0 W.heap.size W dd (.agg #[x0, x1, x2, x3]) c := by
    obtain ⟨fuel, hf⟩ := h0
    obtain ⟨x0, x1, x2, x3, c, hv, hr⟩ := open_con fuel fuel cs0.toList _ (Nat.le_refl _) (by simpa [Value.cells] using hf)
    exact ⟨fuel, x0, x1, x2, x3, c, by cases cs0; simp_all, hr⟩
  obtain ⟨dd1, y0, y1, y2, y3, c1, hcs1, w1⟩ : ∃ dd x0 x1 x2 x3 c, cs1 = #[x0, x1, x2, x3] ∧ RdC 0 W.heap.size W dd (.agg #[x0, x1, x2, x3]) c := by
    obtain ⟨fuel, hf⟩ := h1
    obtain ⟨x0, x1, x2, x3, c, hv, hr⟩ := open_con fuel fuel cs1.toList _ (Nat.le_refl _) (by simpa [Value.cells] using hf)
    exact ⟨fuel, x0, x1, x2, x3, c, by cases cs1; simp_all, hr⟩
  subst hcs hcs1
  clear hA0 hval0
  refine (walk dd dd1 x0 x1 x2 x3 y0 y1 y2 y3 c c1 W w0 w1).mono fun e W' ⟨he, bel⟩ => ?_
  subst he
  exact ⟨_, rfl, _, _, _, [], _, [], hW', trodAll_mk1 (shut_bool Try.underlying4 _), (trodAll_cons_mk (Below.trod laidOut (by kernel_rfl) (of_decide_eq_true (by kernel_rfl)) k0 bel lt0) (trodAll_cons_mk (Below.trod laidOut (by kernel_rfl) (of_decide_eq_true (by kernel_rfl)) k1 bel lt1) trodAll_mk0)), rfl, bel.frame _, fun h => by cases h⟩

theorem over : Rows.fnExactConCmpRow.holds Try.pinned (OpenSpec.ofChange Rows.fnExactConCmpSpec) :=
  OpenClaim.holds_of_wide 8 Try.f8 rfl rfl rfl rfl rfl rfl rfl ⟨rfl, rfl, rfl, rfl, rfl⟩ rfl rfl rfl rfl rfl (by kernel_rfl) Try.func8 (by kernel_rfl)
    (of_decide_eq_true (by kernel_rfl)) (by unfold Func.isWrapper; first | (rw [if_pos (by decide +kernel)]; kernel_rfl) | (rw [if_neg (by decide +kernel)]; exact ⟨rfl, rfl⟩))
    (fun os started H enc _ => lifted os started H enc)

theorem proved : Rows.FnExactConCmpSaid := over
#print axioms proved
end Go.Proofs.Ytbjkokndnfmcpag.fnExactConCmp
namespace Go.Proofs.Ytbjkokndnfmcpag
theorem fnExactConCmp_holds : Rows.FnExactConCmpSaid := fnExactConCmp.proved
end Go.Proofs.Ytbjkokndnfmcpag
