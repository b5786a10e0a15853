/- For every two clauses the law FnExactClauseCmp answers true and they read behind the call as they did before: no condition. -/
import Derived.Test.YtbnhdhdldcbokaaRows
import Derived.Test.YtbnhdhdldcbokaaClOpen
import Derived.Test.YtbnhdhdldcbokaaClLaw
import Derived.Test.YtbnhdhdldcbokaaCmpKey4
import Derived.WalkKit
import Derived.ProofKit
import Derived.OpenShut
import Derived.ShutString
import Derived.ChangeOld
import Derived.Below
import Derived.Deep.RegionHeld3
import Derived.Deep.DeepCutAuto
namespace Go.Proofs.Ytbnhdhdldcbokaa.fnExactClauseCmp
open Go.ChangeShapes Go.WideShapes Go.ChangeAt Go.RowKit Go.Deep
set_option linter.unusedVariables false

theorem own : ownKnob Try.prog.godebug = none := by kernel_rfl
theorem laidOut : laidOutB Try.prog = true := by kernel_rfl

set_option maxRecDepth 100000 in
set_option maxHeartbeats 16000000 in
theorem walk {k1 f1 r1 u1 xp1 xn1 yp1 yn1 a1 b1 : Int} {ia1 : Option Addr} {im1 ic1 : Nat} {xs1 : List (Int × Int)} {k2 f2 r2 u2 xp2 xn2 yp2 yn2 a2 b2 : Int} {ia2 : Option Addr} {im2 ic2 : Nat} {xs2 : List (Int × Int)} (w : World) (hA : RP 0 w.heap.size w ia1 im1 ic1 xs1) (hB : RP 0 w.heap.size w ia2 im2 ic2 xs2) :
    Calls Try.prog 6 #[.agg #[.int .i64 k1, .int .i64 f1, .int .i64 r1, .int .i64 u1, .int .i64 xp1, .int .i64 xn1, .int .i64 yp1, .int .i64 yn1, .slice ia1 im1 ic1, .int .i64 a1, .int .i64 b1], .agg #[.int .i64 k2, .int .i64 f2, .int .i64 r2, .int .i64 u2, .int .i64 xp2, .int .i64 xn2, .int .i64 yp2, .int .i64 yn2, .slice ia2 im2 ic2, .int .i64 a2, .int .i64 b2]] w fun e w' => e = .returned (.bool true) ∧ Below w.heap.size w w' := by
  obtain ⟨Wb, hWb⟩ : ∃ Wb, Wb = (w.alloc (.cells #[.int .i64 k1, .int .i64 f1, .int .i64 r1, .int .i64 u1, .int .i64 xp1, .int .i64 xn1, .int .i64 yp1, .int .i64 yn1, .slice ia1 im1 ic1, .int .i64 a1, .int .i64 b1] 32)).alloc (.cells #[.int .i64 k2, .int .i64 f2, .int .i64 r2, .int .i64 u2, .int .i64 xp2, .int .i64 xn2, .int .i64 yp2, .int .i64 yn2, .slice ia2 im2 ic2, .int .i64 a2, .int .i64 b2] 32) := ⟨_, rfl⟩
  have HWb : Hid (Wb = (w.alloc (.cells #[.int .i64 k1, .int .i64 f1, .int .i64 r1, .int .i64 u1, .int .i64 xp1, .int .i64 xn1, .int .i64 yp1, .int .i64 yn1, .slice ia1 im1 ic1, .int .i64 a1, .int .i64 b1] 32)).alloc (.cells #[.int .i64 k2, .int .i64 f2, .int .i64 r2, .int .i64 u2, .int .i64 xp2, .int .i64 xn2, .int .i64 yp2, .int .i64 yn2, .slice ia2 im2 ic2, .int .i64 a2, .int .i64 b2] 32)) := hWb
  have hbb : Below w.heap.size w Wb := by rw [hWb]; exact ((Below.refl _ _).alloc (Nat.le_refl _) _).alloc (by simp) _
  have HBB : Hid (Below w.heap.size w Wb) := hbb
  have hsb : w.heap.size ≤ Wb.heap.size := hbb.size
  have hbx : BoxK 32 Wb w.heap.size k1 f1 r1 u1 xp1 xn1 yp1 yn1 (.slice ia1 im1 ic1) a1 b1 := by rw [hWb]; exact (BoxK.new _ w _ _ _ _ _ _ _ _ _ _ _).below ((Below.refl _ _).alloc (Nat.le_refl _) _) (by simp)
  have hby : BoxK 32 Wb (w.heap.size + 1) k2 f2 r2 u2 xp2 xn2 yp2 yn2 (.slice ia2 im2 ic2) a2 b2 := by
    have e := BoxK.new 32 (w.alloc (.cells #[.int .i64 k1, .int .i64 f1, .int .i64 r1, .int .i64 u1, .int .i64 xp1, .int .i64 xn1, .int .i64 yp1, .int .i64 yn1, .slice ia1 im1 ic1, .int .i64 a1, .int .i64 b1] 32)) k2 f2 r2 u2 xp2 xn2 yp2 yn2 (.slice ia2 im2 ic2) a2 b2
    rw [World.size_alloc] at e
    rw [hWb]; exact e
  have hl1 : w.heap.size + 1 < Wb.heap.size := hby.lt
  have HX : Hid (∀ V, Below Wb.heap.size Wb V → BoxK 32 V w.heap.size k1 f1 r1 u1 xp1 xn1 yp1 yn1 (.slice ia1 im1 ic1) a1 b1) := fun V hV => hbx.below hV hbx.lt
  have HY : Hid (∀ V, Below Wb.heap.size Wb V → BoxK 32 V (w.heap.size + 1) k2 f2 r2 u2 xp2 xn2 yp2 yn2 (.slice ia2 im2 ic2) a2 b2) := fun V hV => hby.below hV hby.lt
  have HR1 : Hid (∀ V, Below Wb.heap.size Wb V → RP 0 w.heap.size V ia1 im1 ic1 xs1) := fun V hV => (hA.below hbb (Nat.le_refl _)).below hV hsb
  have HR2 : Hid (∀ V, Below Wb.heap.size Wb V → RP 0 w.heap.size V ia2 im2 ic2 xs2) := fun V hV => (hB.below hbb (Nat.le_refl _)).below hV hsb
  have HSat : Hid (∀ V, Below Wb.heap.size Wb V → V.cell? ⟨w.heap.size, 0, none⟩ = some (.int .i64 k1) ∧ V.cell? ⟨w.heap.size, 1, none⟩ = some (.int .i64 f1) ∧ V.cell? ⟨w.heap.size, 2, none⟩ = some (.int .i64 r1) ∧ V.cell? ⟨w.heap.size, 3, none⟩ = some (.int .i64 u1) ∧ V.cell? ⟨w.heap.size, 4, none⟩ = some (.int .i64 xp1) ∧ V.cell? ⟨w.heap.size, 5, none⟩ = some (.int .i64 xn1) ∧ V.cell? ⟨w.heap.size, 6, none⟩ = some (.int .i64 yp1) ∧ V.cell? ⟨w.heap.size, 7, none⟩ = some (.int .i64 yn1) ∧ V.cell? ⟨w.heap.size, 8, none⟩ = some (.slice ia1 im1 ic1) ∧ V.cell? ⟨w.heap.size, 9, none⟩ = some (.int .i64 a1) ∧ V.cell? ⟨w.heap.size, 10, none⟩ = some (.int .i64 b1) ∧ V.cell? ⟨w.heap.size + 1, 0, none⟩ = some (.int .i64 k2) ∧ V.cell? ⟨w.heap.size + 1, 1, none⟩ = some (.int .i64 f2) ∧ V.cell? ⟨w.heap.size + 1, 2, none⟩ = some (.int .i64 r2) ∧ V.cell? ⟨w.heap.size + 1, 3, none⟩ = some (.int .i64 u2) ∧ V.cell? ⟨w.heap.size + 1, 4, none⟩ = some (.int .i64 xp2) ∧ V.cell? ⟨w.heap.size + 1, 5, none⟩ = some (.int .i64 xn2) ∧ V.cell? ⟨w.heap.size + 1, 6, none⟩ = some (.int .i64 yp2) ∧ V.cell? ⟨w.heap.size + 1, 7, none⟩ = some (.int .i64 yn2) ∧ V.cell? ⟨w.heap.size + 1, 8, none⟩ = some (.slice ia2 im2 ic2) ∧ V.cell? ⟨w.heap.size + 1, 9, none⟩ = some (.int .i64 a2) ∧ V.cell? ⟨w.heap.size + 1, 10, none⟩ = some (.int .i64 b2)) := fun V hV => by
    obtain ⟨z0, z1, z2, z3, z4, z5, z6, z7, z8, z9, z10⟩ := (hbx.below hV hbx.lt).cells
    obtain ⟨y0, y1, y2, y3, y4, y5, y6, y7, y8, y9, y10⟩ := (hby.below hV hby.lt).cells
    exact ⟨z0, z1, z2, z3, z4, z5, z6, z7, z8, z9, z10, y0, y1, y2, y3, y4, y5, y6, y7, y8, y9, y10⟩
  have HRf : Hid (Below Wb.heap.size Wb Wb) := Below.refl _ _
  obtain ⟨z, hz⟩ : ∃ z, z = cmpC ⟨k1, f1, r1, u1, xp1, xn1, yp1, yn1, xs1, a1, b1⟩ ⟨k2, f2, r2, u2, xp2, xn2, yp2, yn2, xs2, a2, b2⟩ := ⟨_, rfl⟩
  have HZ : Hid (cmpC ⟨k1, f1, r1, u1, xp1, xn1, yp1, yn1, xs1, a1, b1⟩ ⟨k2, f2, r2, u2, xp2, xn2, yp2, yn2, xs2, a2, b2⟩ = z) := hz.symm
  have hzz : (z != z) = false := by simp
  obtain ⟨z0, z1, z2, z3, z4, z5, z6, z7, z8, z9, z10⟩ := hbx.cells
  obtain ⟨y0, y1, y2, y3, y4, y5, y6, y7, y8, y9, y10⟩ := hby.cells
  clear hA hB hbb hWb hbx hby hz
  go_enter Try.func6, Try.ntmps6
  go_wp2_with fail
  rw [← HWb.out]
  refine (szK_any (HR1.out _ HRf.out) 1048576 ⟨by omega, by omega⟩).mono ?_
  rintro e w0 ⟨rfl, hb⟩
  obtain ⟨q, hq⟩ : ∃ q, q = szRes 1048576 im1 := ⟨_, rfl⟩
  rw [← hq]
  have HQ : Hid (¬ q < 0 → im1 ≤ 1048576 ∧ q ≤ 1048576) := by
    unfold szRes at hq
    unfold Hid
    split at hq <;> omega
  have H0 : Hid (Below Wb.heap.size Wb w0) := hb
  clear hb hq
  clear z0 z1 z2 z3 z4 z5 z6 z7 z8 z9 z10 y0 y1 y2 y3 y4 y5 y6 y7 y8 y9 y10
  obtain ⟨z0, z1, z2, z3, z4, z5, z6, z7, z8, z9, z10⟩ := (HX.out _ H0.out).cells
  obtain ⟨y0, y1, y2, y3, y4, y5, y6, y7, y8, y9, y10⟩ := (HY.out _ H0.out).cells
  by_cases hneg : q < 0
  · go_wp2_with fail
    go_ret
    exact ⟨rfl, HBB.out.trans (H0.out.mono hsb)⟩
  · have him1 : im1 ≤ 1048576 := (HQ.out hneg).1
    have hq1 : q ≤ 1048576 := (HQ.out hneg).2
    go_wp2_with fail
    refine (szK_any (HR2.out _ H0.out) q ⟨by omega, hq1⟩).mono ?_
    rintro e w1 ⟨rfl, hb⟩
    obtain ⟨q2, hq⟩ : ∃ q2, q2 = szRes q im2 := ⟨_, rfl⟩
    rw [← hq]
    have HQ2 : Hid (¬ q2 < 0 → im2 ≤ 1048576) := by
      unfold szRes at hq
      unfold Hid
      split at hq <;> omega
    have H1 : Hid (Below Wb.heap.size Wb w1) := H0.out.trans (hb.mono H0.out.size)
    clear hb hq
    clear z0 z1 z2 z3 z4 z5 z6 z7 z8 z9 z10 y0 y1 y2 y3 y4 y5 y6 y7 y8 y9 y10
    obtain ⟨z0, z1, z2, z3, z4, z5, z6, z7, z8, z9, z10⟩ := (HX.out _ H1.out).cells
    obtain ⟨y0, y1, y2, y3, y4, y5, y6, y7, y8, y9, y10⟩ := (HY.out _ H1.out).cells
    by_cases hneg2 : q2 < 0
    · go_wp2_with fail
      go_ret
      exact ⟨rfl, HBB.out.trans (H1.out.mono hsb)⟩
    · have him2 : im2 ≤ 1048576 := HQ2.out hneg2
      have HT1 : Hid (∀ W, Below Wb.heap.size Wb W → Calls Try.prog 12 #[.agg #[.int .i64 k1, .int .i64 f1, .int .i64 r1, .int .i64 u1, .int .i64 xp1, .int .i64 xn1, .int .i64 yp1, .int .i64 yn1, .slice ia1 im1 ic1, .int .i64 a1, .int .i64 b1]] W fun e w' => ∃ g, e = .returned (.agg #[.int .i64 k1, .int .i64 f1, .int .i64 r1, .int .i64 u1, .int .i64 xp1, .int .i64 xn1, .int .i64 yp1, .int .i64 yn1, .slice (some ⟨g, 0, none⟩) im1 im1, .int .i64 a1, .int .i64 b1]) ∧ RP W.heap.size w'.heap.size w' (some ⟨g, 0, none⟩) im1 im1 xs1 ∧ w'.rowIs g 24 (im1 * 2) (cellP xs1 im1) ∧ Below W.heap.size W w') := fun W hW => toK_any (HR1.out W hW) (Nat.le_trans hsb hW.size) him1
      have HT2 : Hid (∀ W, Below Wb.heap.size Wb W → Calls Try.prog 12 #[.agg #[.int .i64 k2, .int .i64 f2, .int .i64 r2, .int .i64 u2, .int .i64 xp2, .int .i64 xn2, .int .i64 yp2, .int .i64 yn2, .slice ia2 im2 ic2, .int .i64 a2, .int .i64 b2]] W fun e w' => ∃ g, e = .returned (.agg #[.int .i64 k2, .int .i64 f2, .int .i64 r2, .int .i64 u2, .int .i64 xp2, .int .i64 xn2, .int .i64 yp2, .int .i64 yn2, .slice (some ⟨g, 0, none⟩) im2 im2, .int .i64 a2, .int .i64 b2]) ∧ RP W.heap.size w'.heap.size w' (some ⟨g, 0, none⟩) im2 im2 xs2 ∧ w'.rowIs g 24 (im2 * 2) (cellP xs2 im2) ∧ Below W.heap.size W w') := fun W hW => toK_any (HR2.out W hW) (Nat.le_trans hsb hW.size) him2
      have H1d : Hid (Below Wb.heap.size Wb w1.drew) := H1.out.drew
      go_upto_region 8 with fail
      go_cut [6] (fun v W => v = .int .i64 z ∧ Below Wb.heap.size Wb W)
      case first =>
        first | go_region_held3 (fun V => V.cell? ⟨w.heap.size, 0, none⟩ = some (.int .i64 k1) ∧ V.cell? ⟨w.heap.size, 1, none⟩ = some (.int .i64 f1) ∧ V.cell? ⟨w.heap.size, 2, none⟩ = some (.int .i64 r1) ∧ V.cell? ⟨w.heap.size, 3, none⟩ = some (.int .i64 u1) ∧ V.cell? ⟨w.heap.size, 4, none⟩ = some (.int .i64 xp1) ∧ V.cell? ⟨w.heap.size, 5, none⟩ = some (.int .i64 xn1) ∧ V.cell? ⟨w.heap.size, 6, none⟩ = some (.int .i64 yp1) ∧ V.cell? ⟨w.heap.size, 7, none⟩ = some (.int .i64 yn1) ∧ V.cell? ⟨w.heap.size, 8, none⟩ = some (.slice ia1 im1 ic1) ∧ V.cell? ⟨w.heap.size, 9, none⟩ = some (.int .i64 a1) ∧ V.cell? ⟨w.heap.size, 10, none⟩ = some (.int .i64 b1) ∧ V.cell? ⟨w.heap.size + 1, 0, none⟩ = some (.int .i64 k2) ∧ V.cell? ⟨w.heap.size + 1, 1, none⟩ = some (.int .i64 f2) ∧ V.cell? ⟨w.heap.size + 1, 2, none⟩ = some (.int .i64 r2) ∧ V.cell? ⟨w.heap.size + 1, 3, none⟩ = some (.int .i64 u2) ∧ V.cell? ⟨w.heap.size + 1, 4, none⟩ = some (.int .i64 xp2) ∧ V.cell? ⟨w.heap.size + 1, 5, none⟩ = some (.int .i64 xn2) ∧ V.cell? ⟨w.heap.size + 1, 6, none⟩ = some (.int .i64 yp2) ∧ V.cell? ⟨w.heap.size + 1, 7, none⟩ = some (.int .i64 yn2) ∧ V.cell? ⟨w.heap.size + 1, 8, none⟩ = some (.slice ia2 im2 ic2) ∧ V.cell? ⟨w.heap.size + 1, 9, none⟩ = some (.int .i64 a2) ∧ V.cell? ⟨w.heap.size + 1, 10, none⟩ = some (.int .i64 b2)) (first | with_reducible exact HSat.out _ H4.out | with_reducible exact HSat.out _ H3.out | with_reducible exact HSat.out _ H2.out | with_reducible exact HSat.out _ H1d.out) (first
          | (go_at_call_of 12 k1; refine (HT1.out w1.drew H1d.out).mono ?_; rintro e w2 ⟨g2, rfl, hx, _, hb⟩; have H2 : Hid (Below Wb.heap.size Wb w2) := H1d.out.trans (hb.mono H1d.out.size); have HX2 : Hid (RP w1.drew.heap.size w2.heap.size w2 (some ⟨g2, 0, none⟩) im1 im1 xs1) := hx; clear hx hb)
          | (go_at_call_of 12 k2; refine (HT2.out w2 H2.out).mono ?_; rintro e w3 ⟨g3, rfl, hx, _, hb⟩; have H3 : Hid (Below Wb.heap.size Wb w3) := H2.out.trans (hb.mono H2.out.size); have HY3 : Hid (RP w2.heap.size w3.heap.size w3 (some ⟨g3, 0, none⟩) im2 im2 xs2) := hx; have HX3 : Hid (RP w1.drew.heap.size w2.heap.size w3 (some ⟨g2, 0, none⟩) im1 im1 xs1) := HX2.out.below hb (Nat.le_refl _); have HS3 : Hid (w2.heap.size ≤ w3.heap.size) := hb.size; clear hx hb)
          | (go_at_call 17; refine (specClauseCmp_any HX3.out HS3.out HY3.out (Nat.le_refl _)).mono ?_; rintro e w4 ⟨rfl, hb⟩; rw [HZ.out]; have H4 : Hid (Below Wb.heap.size Wb w4) := H3.out.trans (hb.mono H3.out.size); clear hb)) | fail
        all_goals
          go_wp2_with fail
          go_meet
          case rel => exact ⟨rfl, H4.out⟩
      case rest =>
        obtain ⟨hv6, h6⟩ := hcut
        subst hv6
        obtain ⟨W6, hW6⟩ : ∃ W, W = wc := ⟨_, rfl⟩
        subst hW6
        have H6 : Hid (Below Wb.heap.size Wb W6) := h6
        have s6 := h6.size
        clear h6
        clear z0 z1 z2 z3 z4 z5 z6 z7 z8 z9 z10 y0 y1 y2 y3 y4 y5 y6 y7 y8 y9 y10
        obtain ⟨z0, z1, z2, z3, z4, z5, z6, z7, z8, z9, z10⟩ := (HX.out _ H6.out).cells
        obtain ⟨y0, y1, y2, y3, y4, y5, y6, y7, y8, y9, y10⟩ := (HY.out _ H6.out).cells
        go_wp2_with fail
        refine (HT1.out W6 H6.out).mono ?_
        rintro e w7 ⟨g7, rfl, hx7, _, hb7⟩
        have H7 : Hid (Below Wb.heap.size Wb w7) := H6.out.trans (hb7.mono s6)
        have s7 := hb7.size
        obtain ⟨w8, hw8⟩ : ∃ w8, w8 = w7.alloc (.cells #[.int .i64 k1, .int .i64 f1, .int .i64 r1, .int .i64 u1, .int .i64 xp1, .int .i64 xn1, .int .i64 yp1, .int .i64 yn1, .slice (some ⟨g7, 0, none⟩) im1 im1, .int .i64 a1, .int .i64 b1] 37) := ⟨_, rfl⟩
        have HW8 : Hid (w8 = w7.alloc (.cells #[.int .i64 k1, .int .i64 f1, .int .i64 r1, .int .i64 u1, .int .i64 xp1, .int .i64 xn1, .int .i64 yp1, .int .i64 yn1, .slice (some ⟨g7, 0, none⟩) im1 im1, .int .i64 a1, .int .i64 b1] 37)) := hw8
        have hb8 : Below w7.heap.size w7 w8 := by rw [hw8]; exact (Below.refl _ _).alloc (Nat.le_refl _) _
        have s8 : w7.heap.size < w8.heap.size := by rw [hw8]; simp
        have H8 : Hid (Below Wb.heap.size Wb w8) := H7.out.trans (hb8.mono H7.out.size)
        have HP8 : Hid (RP W6.heap.size w7.heap.size w8 (some ⟨g7, 0, none⟩) im1 im1 xs1) := hx7.below hb8 (Nat.le_refl _)
        have HXP8 : Hid (BoxK 37 w8 w7.heap.size k1 f1 r1 u1 xp1 xn1 yp1 yn1 (.slice (some ⟨g7, 0, none⟩) im1 im1) a1 b1) := by unfold Hid; rw [hw8]; exact BoxK.new _ w7 _ _ _ _ _ _ _ _ _ _ _
        clear hx7 hb7 hb8 hw8
        clear z0 z1 z2 z3 z4 z5 z6 z7 z8 z9 z10 y0 y1 y2 y3 y4 y5 y6 y7 y8 y9 y10
        obtain ⟨z0, z1, z2, z3, z4, z5, z6, z7, z8, z9, z10⟩ := (HX.out _ H7.out).cells
        obtain ⟨y0, y1, y2, y3, y4, y5, y6, y7, y8, y9, y10⟩ := (HY.out _ H7.out).cells
        have hlt7 : w.heap.size + 1 < w7.heap.size := Nat.lt_of_lt_of_le hl1 H7.out.size
        go_wp2_with fail
        rw [← HW8.out]
        refine (HT2.out w8 H8.out).mono ?_
        rintro e w9 ⟨g9, rfl, hx9, _, hb9⟩
        have s9 := hb9.size
        obtain ⟨w10, hw10⟩ : ∃ w10, w10 = w9.alloc (.cells #[.int .i64 k2, .int .i64 f2, .int .i64 r2, .int .i64 u2, .int .i64 xp2, .int .i64 xn2, .int .i64 yp2, .int .i64 yn2, .slice (some ⟨g9, 0, none⟩) im2 im2, .int .i64 a2, .int .i64 b2] 37) := ⟨_, rfl⟩
        have HW10 : Hid (w10 = w9.alloc (.cells #[.int .i64 k2, .int .i64 f2, .int .i64 r2, .int .i64 u2, .int .i64 xp2, .int .i64 xn2, .int .i64 yp2, .int .i64 yn2, .slice (some ⟨g9, 0, none⟩) im2 im2, .int .i64 a2, .int .i64 b2] 37)) := hw10
        have hb10 : Below w9.heap.size w9 w10 := by rw [hw10]; exact (Below.refl _ _).alloc (Nat.le_refl _) _
        have s10 : w9.heap.size < w10.heap.size := by rw [hw10]; simp
        have h810 : Below w8.heap.size w8 w10 := hb9.trans (hb10.mono s9)
        have H10 : Hid (Below Wb.heap.size Wb w10) := H8.out.trans (h810.mono H8.out.size)
        have HP10 : Hid (RP W6.heap.size w7.heap.size w10 (some ⟨g7, 0, none⟩) im1 im1 xs1) := HP8.out.below h810 (by omega)
        have HQ10 : Hid (RP w8.heap.size w9.heap.size w10 (some ⟨g9, 0, none⟩) im2 im2 xs2) := hx9.below hb10 (Nat.le_refl _)
        have HXP10 : Hid (BoxK 37 w10 w7.heap.size k1 f1 r1 u1 xp1 xn1 yp1 yn1 (.slice (some ⟨g7, 0, none⟩) im1 im1) a1 b1) := HXP8.out.below h810 s8
        have HXQ10 : Hid (BoxK 37 w10 w9.heap.size k2 f2 r2 u2 xp2 xn2 yp2 yn2 (.slice (some ⟨g9, 0, none⟩) im2 im2) a2 b2) := by unfold Hid; rw [hw10]; exact BoxK.new _ w9 _ _ _ _ _ _ _ _ _ _ _
        have hxp9 : BoxK 37 w9 w7.heap.size k1 f1 r1 u1 xp1 xn1 yp1 yn1 (.slice (some ⟨g7, 0, none⟩) im1 im1) a1 b1 := HXP8.out.below hb9 s8
        obtain ⟨m0, m1, m2, m3, m4, m5, m6, m7, m8, m9, m10⟩ := hxp9.cells
        have hne : w7.heap.size < w9.heap.size := by omega
        clear hx9 hb9 hb10 hw10 h810 hxp9 z0 z1 z2 z3 z4 z5 z6 z7 z8 z9 z10 y0 y1 y2 y3 y4 y5 y6 y7 y8 y9 y10
        go_wp2_with fail
        rw [← HW10.out]
        refine (implClauseCmp_any HP10.out (by omega) HQ10.out (by omega)).mono ?_
        rintro e w11 ⟨rfl, hb11⟩
        rw [HZ.out]
        have H11 : Hid (Below Wb.heap.size Wb w11) := H10.out.trans (hb11.mono H10.out.size)
        have s11 := hb11.size
        have HP11 : Hid (RP W6.heap.size w7.heap.size w11 (some ⟨g7, 0, none⟩) im1 im1 xs1) := HP10.out.below hb11 (by omega)
        have HQ11 : Hid (RP w8.heap.size w9.heap.size w11 (some ⟨g9, 0, none⟩) im2 im2 xs2) := HQ10.out.below hb11 (by omega)
        have HXP11 : Hid (BoxK 37 w11 w7.heap.size k1 f1 r1 u1 xp1 xn1 yp1 yn1 (.slice (some ⟨g7, 0, none⟩) im1 im1) a1 b1) := HXP10.out.below hb11 (by omega)
        have HXQ11 : Hid (BoxK 37 w11 w9.heap.size k2 f2 r2 u2 xp2 xn2 yp2 yn2 (.slice (some ⟨g9, 0, none⟩) im2 im2) a2 b2) := HXQ10.out.below hb11 (by omega)
        clear hb11 m0 m1 m2 m3 m4 m5 m6 m7 m8 m9 m10
        have H11d : Hid (Below w11.heap.size w11 w11.drew) := (Below.refl _ _).drew
        have HSP : Hid (∀ V, Below w11.heap.size w11 V → V.cell? ⟨w.heap.size, 0, none⟩ = some (.int .i64 k1) ∧ V.cell? ⟨w.heap.size, 1, none⟩ = some (.int .i64 f1) ∧ V.cell? ⟨w.heap.size, 2, none⟩ = some (.int .i64 r1) ∧ V.cell? ⟨w.heap.size, 3, none⟩ = some (.int .i64 u1) ∧ V.cell? ⟨w.heap.size, 4, none⟩ = some (.int .i64 xp1) ∧ V.cell? ⟨w.heap.size, 5, none⟩ = some (.int .i64 xn1) ∧ V.cell? ⟨w.heap.size, 6, none⟩ = some (.int .i64 yp1) ∧ V.cell? ⟨w.heap.size, 7, none⟩ = some (.int .i64 yn1) ∧ V.cell? ⟨w.heap.size, 8, none⟩ = some (.slice ia1 im1 ic1) ∧ V.cell? ⟨w.heap.size, 9, none⟩ = some (.int .i64 a1) ∧ V.cell? ⟨w.heap.size, 10, none⟩ = some (.int .i64 b1) ∧ V.cell? ⟨w7.heap.size, 0, none⟩ = some (.int .i64 k1) ∧ V.cell? ⟨w7.heap.size, 1, none⟩ = some (.int .i64 f1) ∧ V.cell? ⟨w7.heap.size, 2, none⟩ = some (.int .i64 r1) ∧ V.cell? ⟨w7.heap.size, 3, none⟩ = some (.int .i64 u1) ∧ V.cell? ⟨w7.heap.size, 4, none⟩ = some (.int .i64 xp1) ∧ V.cell? ⟨w7.heap.size, 5, none⟩ = some (.int .i64 xn1) ∧ V.cell? ⟨w7.heap.size, 6, none⟩ = some (.int .i64 yp1) ∧ V.cell? ⟨w7.heap.size, 7, none⟩ = some (.int .i64 yn1) ∧ V.cell? ⟨w7.heap.size, 8, none⟩ = some (.slice (some ⟨g7, 0, none⟩) im1 im1) ∧ V.cell? ⟨w7.heap.size, 9, none⟩ = some (.int .i64 a1) ∧ V.cell? ⟨w7.heap.size, 10, none⟩ = some (.int .i64 b1)) := fun V hV => by
          obtain ⟨z0, z1, z2, z3, z4, z5, z6, z7, z8, z9, z10⟩ := (HX.out V (H11.out.trans (hV.mono H11.out.size))).cells
          obtain ⟨m0, m1, m2, m3, m4, m5, m6, m7, m8, m9, m10⟩ := (HXP11.out.below hV (by omega)).cells
          exact ⟨z0, z1, z2, z3, z4, z5, z6, z7, z8, z9, z10, m0, m1, m2, m3, m4, m5, m6, m7, m8, m9, m10⟩
        go_upto_region 14 with fail
        go_cut [39] (fun v W => v = .bool false ∧ Below w11.heap.size w11 W)
        case first =>
          first | go_region_held3 (fun V => V.cell? ⟨w.heap.size, 0, none⟩ = some (.int .i64 k1) ∧ V.cell? ⟨w.heap.size, 1, none⟩ = some (.int .i64 f1) ∧ V.cell? ⟨w.heap.size, 2, none⟩ = some (.int .i64 r1) ∧ V.cell? ⟨w.heap.size, 3, none⟩ = some (.int .i64 u1) ∧ V.cell? ⟨w.heap.size, 4, none⟩ = some (.int .i64 xp1) ∧ V.cell? ⟨w.heap.size, 5, none⟩ = some (.int .i64 xn1) ∧ V.cell? ⟨w.heap.size, 6, none⟩ = some (.int .i64 yp1) ∧ V.cell? ⟨w.heap.size, 7, none⟩ = some (.int .i64 yn1) ∧ V.cell? ⟨w.heap.size, 8, none⟩ = some (.slice ia1 im1 ic1) ∧ V.cell? ⟨w.heap.size, 9, none⟩ = some (.int .i64 a1) ∧ V.cell? ⟨w.heap.size, 10, none⟩ = some (.int .i64 b1) ∧ V.cell? ⟨w7.heap.size, 0, none⟩ = some (.int .i64 k1) ∧ V.cell? ⟨w7.heap.size, 1, none⟩ = some (.int .i64 f1) ∧ V.cell? ⟨w7.heap.size, 2, none⟩ = some (.int .i64 r1) ∧ V.cell? ⟨w7.heap.size, 3, none⟩ = some (.int .i64 u1) ∧ V.cell? ⟨w7.heap.size, 4, none⟩ = some (.int .i64 xp1) ∧ V.cell? ⟨w7.heap.size, 5, none⟩ = some (.int .i64 xn1) ∧ V.cell? ⟨w7.heap.size, 6, none⟩ = some (.int .i64 yp1) ∧ V.cell? ⟨w7.heap.size, 7, none⟩ = some (.int .i64 yn1) ∧ V.cell? ⟨w7.heap.size, 8, none⟩ = some (.slice (some ⟨g7, 0, none⟩) im1 im1) ∧ V.cell? ⟨w7.heap.size, 9, none⟩ = some (.int .i64 a1) ∧ V.cell? ⟨w7.heap.size, 10, none⟩ = some (.int .i64 b1)) (first | with_reducible exact HSP.out _ H13.out | with_reducible exact HSP.out _ H12.out | with_reducible exact HSP.out _ H11d.out) (first
            | (go_at_call 12; refine (HT1.out w11.drew H11.out.drew).mono ?_; rintro e w12 ⟨g12, rfl, hx, _, hb⟩; have H12 : Hid (Below w11.heap.size w11 w12) := H11d.out.trans (hb.mono H11d.out.size); have HX12 : Hid (RP w11.drew.heap.size w12.heap.size w12 (some ⟨g12, 0, none⟩) im1 im1 xs1) := hx; have HP12 : Hid (RP W6.heap.size w7.heap.size w12 (some ⟨g7, 0, none⟩) im1 im1 xs1) := HP11.out.below H12.out (by omega); have HS12 : Hid (w11.heap.size ≤ w12.heap.size) := H12.out.size; clear hx hb)
            | (go_at_call 14; refine (eqK_any HP12.out HX12.out (by have := HS12.out; omega) (Nat.le_refl _)).mono ?_; rintro e w13 ⟨rfl, hb⟩; have H13 : Hid (Below w11.heap.size w11 w13) := H12.out.trans (hb.mono H12.out.size); clear hb)) | fail
          all_goals
            go_wp2_with fail
            go_meet
            case rel => exact ⟨rfl, H13.out⟩
        case rest =>
          obtain ⟨hv, h13⟩ := hcut
          subst hv
          obtain ⟨W13, hW13⟩ : ∃ W, W = wc := ⟨_, rfl⟩
          subst hW13
          have H13 : Hid (Below w11.heap.size w11 W13) := h13
          have s13 := h13.size
          have H13b : Hid (Below Wb.heap.size Wb W13) := H11.out.trans (h13.mono H11.out.size)
          have HQ13 : Hid (RP w8.heap.size w9.heap.size W13 (some ⟨g9, 0, none⟩) im2 im2 xs2) := HQ11.out.below h13 (by omega)
          have HXQ13 : Hid (BoxK 37 W13 w9.heap.size k2 f2 r2 u2 xp2 xn2 yp2 yn2 (.slice (some ⟨g9, 0, none⟩) im2 im2) a2 b2) := HXQ11.out.below h13 (by omega)
          clear h13
          have H13d : Hid (Below W13.heap.size W13 W13.drew) := (Below.refl _ _).drew
          have HSQ : Hid (∀ V, Below W13.heap.size W13 V → V.cell? ⟨w.heap.size + 1, 0, none⟩ = some (.int .i64 k2) ∧ V.cell? ⟨w.heap.size + 1, 1, none⟩ = some (.int .i64 f2) ∧ V.cell? ⟨w.heap.size + 1, 2, none⟩ = some (.int .i64 r2) ∧ V.cell? ⟨w.heap.size + 1, 3, none⟩ = some (.int .i64 u2) ∧ V.cell? ⟨w.heap.size + 1, 4, none⟩ = some (.int .i64 xp2) ∧ V.cell? ⟨w.heap.size + 1, 5, none⟩ = some (.int .i64 xn2) ∧ V.cell? ⟨w.heap.size + 1, 6, none⟩ = some (.int .i64 yp2) ∧ V.cell? ⟨w.heap.size + 1, 7, none⟩ = some (.int .i64 yn2) ∧ V.cell? ⟨w.heap.size + 1, 8, none⟩ = some (.slice ia2 im2 ic2) ∧ V.cell? ⟨w.heap.size + 1, 9, none⟩ = some (.int .i64 a2) ∧ V.cell? ⟨w.heap.size + 1, 10, none⟩ = some (.int .i64 b2) ∧ V.cell? ⟨w9.heap.size, 0, none⟩ = some (.int .i64 k2) ∧ V.cell? ⟨w9.heap.size, 1, none⟩ = some (.int .i64 f2) ∧ V.cell? ⟨w9.heap.size, 2, none⟩ = some (.int .i64 r2) ∧ V.cell? ⟨w9.heap.size, 3, none⟩ = some (.int .i64 u2) ∧ V.cell? ⟨w9.heap.size, 4, none⟩ = some (.int .i64 xp2) ∧ V.cell? ⟨w9.heap.size, 5, none⟩ = some (.int .i64 xn2) ∧ V.cell? ⟨w9.heap.size, 6, none⟩ = some (.int .i64 yp2) ∧ V.cell? ⟨w9.heap.size, 7, none⟩ = some (.int .i64 yn2) ∧ V.cell? ⟨w9.heap.size, 8, none⟩ = some (.slice (some ⟨g9, 0, none⟩) im2 im2) ∧ V.cell? ⟨w9.heap.size, 9, none⟩ = some (.int .i64 a2) ∧ V.cell? ⟨w9.heap.size, 10, none⟩ = some (.int .i64 b2)) := fun V hV => by
            obtain ⟨y0, y1, y2, y3, y4, y5, y6, y7, y8, y9, y10⟩ := (HY.out V (H13b.out.trans (hV.mono H13b.out.size))).cells
            obtain ⟨m0, m1, m2, m3, m4, m5, m6, m7, m8, m9, m10⟩ := (HXQ13.out.below hV (by omega)).cells
            exact ⟨y0, y1, y2, y3, y4, y5, y6, y7, y8, y9, y10, m0, m1, m2, m3, m4, m5, m6, m7, m8, m9, m10⟩
          go_wp2_with fail
          first | go_region_held3 (fun V => V.cell? ⟨w.heap.size + 1, 0, none⟩ = some (.int .i64 k2) ∧ V.cell? ⟨w.heap.size + 1, 1, none⟩ = some (.int .i64 f2) ∧ V.cell? ⟨w.heap.size + 1, 2, none⟩ = some (.int .i64 r2) ∧ V.cell? ⟨w.heap.size + 1, 3, none⟩ = some (.int .i64 u2) ∧ V.cell? ⟨w.heap.size + 1, 4, none⟩ = some (.int .i64 xp2) ∧ V.cell? ⟨w.heap.size + 1, 5, none⟩ = some (.int .i64 xn2) ∧ V.cell? ⟨w.heap.size + 1, 6, none⟩ = some (.int .i64 yp2) ∧ V.cell? ⟨w.heap.size + 1, 7, none⟩ = some (.int .i64 yn2) ∧ V.cell? ⟨w.heap.size + 1, 8, none⟩ = some (.slice ia2 im2 ic2) ∧ V.cell? ⟨w.heap.size + 1, 9, none⟩ = some (.int .i64 a2) ∧ V.cell? ⟨w.heap.size + 1, 10, none⟩ = some (.int .i64 b2) ∧ V.cell? ⟨w9.heap.size, 0, none⟩ = some (.int .i64 k2) ∧ V.cell? ⟨w9.heap.size, 1, none⟩ = some (.int .i64 f2) ∧ V.cell? ⟨w9.heap.size, 2, none⟩ = some (.int .i64 r2) ∧ V.cell? ⟨w9.heap.size, 3, none⟩ = some (.int .i64 u2) ∧ V.cell? ⟨w9.heap.size, 4, none⟩ = some (.int .i64 xp2) ∧ V.cell? ⟨w9.heap.size, 5, none⟩ = some (.int .i64 xn2) ∧ V.cell? ⟨w9.heap.size, 6, none⟩ = some (.int .i64 yp2) ∧ V.cell? ⟨w9.heap.size, 7, none⟩ = some (.int .i64 yn2) ∧ V.cell? ⟨w9.heap.size, 8, none⟩ = some (.slice (some ⟨g9, 0, none⟩) im2 im2) ∧ V.cell? ⟨w9.heap.size, 9, none⟩ = some (.int .i64 a2) ∧ V.cell? ⟨w9.heap.size, 10, none⟩ = some (.int .i64 b2)) (first | with_reducible exact HSQ.out _ H15.out | with_reducible exact HSQ.out _ H14.out | with_reducible exact HSQ.out _ H13d.out) (first
            | (go_at_call 12; refine (HT2.out W13.drew H13b.out.drew).mono ?_; rintro e w14 ⟨g14, rfl, hx, _, hb⟩; have H14 : Hid (Below W13.heap.size W13 w14) := H13d.out.trans (hb.mono H13d.out.size); have HX14 : Hid (RP W13.drew.heap.size w14.heap.size w14 (some ⟨g14, 0, none⟩) im2 im2 xs2) := hx; have HQ14 : Hid (RP w8.heap.size w9.heap.size w14 (some ⟨g9, 0, none⟩) im2 im2 xs2) := HQ13.out.below H14.out (by omega); have HS14 : Hid (W13.heap.size ≤ w14.heap.size) := H14.out.size; clear hx hb)
            | (go_at_call 14; refine (eqK_any HQ14.out HX14.out (by have := HS14.out; omega) (Nat.le_refl _)).mono ?_; rintro e w15 ⟨rfl, hb⟩; have H15 : Hid (Below W13.heap.size W13 w15) := H14.out.trans (hb.mono H14.out.size); clear hb)) | fail
          all_goals
            go_wp2_with fail
            go_ret
            exact ⟨rfl, HBB.out.trans ((H13b.out.trans (H15.out.mono H13b.out.size)).mono hsb)⟩

set_option maxRecDepth 100000 in
theorem lifted (os : Os) (started : os.Started) (H : Type) (enc : TypeId × Value → H) :
    ReturnsInHanded {} Try.checked os 6 .any (Rows.fnExactClauseCmpSpec.pre6 enc Try.prog Try.f6 Rows.fnExactClauseCmpRow.domain false) (Rows.fnExactClauseCmpSpec.post enc Try.prog Try.f6 false true false false) := by
  refine returnsInHanded_of_change (C := Try.checked) own started (by kernel_rfl) Try.func6
    (ChangeSpec.witness6 (enc := enc) (C := Try.checked) false ⟨#[], #[.agg #[.int .i64 0, .int .i64 0, .int .i64 0, .int .i64 0, .int .i64 0, .int .i64 0, .int .i64 0, .int .i64 0, .slice none 0 0, .int .i64 0, .int .i64 0], .agg #[.int .i64 0, .int .i64 0, .int .i64 0, .int .i64 0, .int .i64 0, .int .i64 0, .int .i64 0, .int .i64 0, .slice none 0 0, .int .i64 0, .int .i64 0]], []⟩ 8 (by kernel_rfl) (by kernel_rfl) (by kernel_rfl) (by kernel_rfl)) ?_
  intro W base args ds gs before hval0 hW hcnd _
  have hval : ∀ (j : Nat) t v, Try.f6.params[j]? = some t → args[j]? = some v → Value.okWide Try.prog W .any base t v := hval0
  have hW' := hW
  obtain ⟨p, q, hA0, hV, rfl, hfz, hnd⟩ := hW
  have hA : DataW.TrodAll enc Try.prog W 0 (fun _ => true) true Try.f6.params.toList args.toList ds p := hA0
  rw [Try.params6] at hA hval
  obtain ⟨v0, vs0, d0, ds0, p0, q0, hargs, rfl, rfl, h0, r0⟩ := trodAll_cons hA
  obtain ⟨v1, vs1, d1, ds1, p1, q1, hargs1, rfl, rfl, h1, r1⟩ := trodAll_cons r0
  obtain ⟨rfl, rfl, rfl⟩ := trodAll_nil r1
  obtain rfl : args = #[v0, v1] := by cases args; simp_all
  obtain ⟨rfl, rfl⟩ := trodVars_none hV
  obtain ⟨cs0, rfl, _⟩ := okWide_struct Try.underlying32 (hval 0 32 v0 rfl rfl)
  obtain ⟨cs1, rfl, _⟩ := okWide_struct Try.underlying32 (hval 1 32 v1 rfl rfl)
  have k0 := h0
  have k1 := h1
  have lt0 : ∀ x ∈ p0, x.block < W.heap.size := by obtain ⟨m, hm⟩ := k0; exact DataW.trod_lt m _ _ _ hm
  have lt1 : ∀ x ∈ p1, x.block < W.heap.size := by obtain ⟨m, hm⟩ := k1; exact DataW.trod_lt m _ _ _ hm
  obtain ⟨x0, ia0, im0, ic0, hcs0, w0⟩ : ∃ (x : CL) (ia : Option Addr) (im ic : Nat), cs0 = #[.int .i64 x.kind, .int .i64 x.fn, .int .i64 x.role, .int .i64 x.above, .int .i64 x.xp, .int .i64 x.xn, .int .i64 x.yp, .int .i64 x.yn, .slice ia im ic, .int .i64 x.a, .int .i64 x.b] ∧ RP 0 W.heap.size W ia im ic x.inds := by
    obtain ⟨fuel, hf⟩ := h0
    obtain ⟨x, ia, im, ic, hv, hr⟩ := open_clause (cs := cs0.toList) (by simpa [Value.cells] using hf)
    exact ⟨x, ia, im, ic, by cases cs0; simp_all, hr⟩
  subst hcs0
  obtain ⟨x1, ia1, im1, ic1, hcs1, w1⟩ : ∃ (x : CL) (ia : Option Addr) (im ic : Nat), cs1 = #[.int .i64 x.kind, .int .i64 x.fn, .int .i64 x.role, .int .i64 x.above, .int .i64 x.xp, .int .i64 x.xn, .int .i64 x.yp, .int .i64 x.yn, .slice ia im ic, .int .i64 x.a, .int .i64 x.b] ∧ RP 0 W.heap.size W ia im ic x.inds := by
    obtain ⟨fuel, hf⟩ := h1
    obtain ⟨x, ia, im, ic, hv, hr⟩ := open_clause (cs := cs1.toList) (by simpa [Value.cells] using hf)
    exact ⟨x, ia, im, ic, by cases cs1; simp_all, hr⟩
  subst hcs1
  clear hA0 hval0
  refine (walk W w0 w1).mono fun e W' ⟨he, bel⟩ => ?_
  subst he
  exact ⟨_, rfl, _, _, _, [], _, [], hW', trodAll_mk1 (shut_bool Try.underlying4 _), (trodAll_cons_mk (Below.trod laidOut (by kernel_rfl) (of_decide_eq_true (by kernel_rfl)) k0 bel lt0) (trodAll_cons_mk (Below.trod laidOut (by kernel_rfl) (of_decide_eq_true (by kernel_rfl)) k1 bel lt1) trodAll_mk0)), rfl, bel.frame _, fun h => by cases h⟩

theorem over : Rows.fnExactClauseCmpRow.holds Try.pinned (OpenSpec.ofChange Rows.fnExactClauseCmpSpec) :=
  OpenClaim.holds_of_wide 6 Try.f6 rfl rfl rfl rfl rfl rfl rfl ⟨rfl, rfl, rfl, rfl, rfl⟩ rfl rfl rfl rfl rfl (by kernel_rfl) Try.func6 (by kernel_rfl)
    (of_decide_eq_true (by kernel_rfl)) (by unfold Func.isWrapper; first | (rw [if_pos (by decide +kernel)]; kernel_rfl) | (rw [if_neg (by decide +kernel)]; exact ⟨rfl, rfl⟩))
    (fun os started H enc _ => lifted os started H enc)

theorem proved : Rows.FnExactClauseCmpSaid := over
#print axioms proved
end Go.Proofs.Ytbnhdhdldcbokaa.fnExactClauseCmp
namespace Go.Proofs.Ytbnhdhdldcbokaa
theorem fnExactClauseCmp_holds : Rows.FnExactClauseCmpSaid := fnExactClauseCmp.proved
end Go.Proofs.Ytbnhdhdldcbokaa
