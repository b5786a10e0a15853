/- For every world and every thing that may be told the law FnExactSatisfies answers true, and what was handed in reads behind the call as it did before: no condition. -/
import Derived.Test.YtfbokljbmihlbaaGreatRows
import Derived.Test.YtfbokljbmihlbaaGreatSatI4
import Derived.Test.YtfbokljbmihlbaaGreatWdLaw3
import Derived.Test.YtfbokljbmihlbaaGreatNConLaw
import Derived.Test.YtfbokljbmihlbaaGreatConTo
import Derived.Test.YtfbokljbmihlbaaGreatNSz
import Derived.Test.YtfbokljbmihlbaaGreatNAxLaw
import Derived.Test.YtfbokljbmihlbaaGreatNKbLaw
import Derived.WalkKit
import Derived.ProofKit
import Derived.OpenShut
import Derived.ShutString
import Derived.ChangeOld
import Derived.Below
import Derived.Deep.DeepCutAuto
namespace Go.Proofs.YtfbokljbmihlbaaGreat.fnExactSatisfies
open Go.ChangeShapes Go.WideShapes Go.ChangeAt Go.RowKit Go.Deep
set_option linter.unusedVariables false

theorem own : ownKnob Tryz.prog.godebug = none := by kernel_rfl
theorem laidOut : laidOutB Tryz.prog = true := by kernel_rfl

set_option maxRecDepth 100000 in
set_option maxHeartbeats 8000000 in
theorem walk {na : Option Addr} {nn nc : Nat} {sa : Option Addr} {sn sc : Nat} {ra : Option Addr} {rn rc : Nat} {la : Option Addr} {ln lc : Nat} {ia : Option Addr} {im ic : Nat} {ta : Option Addr} {tn tc : Nat} {dp : Nat} {c0 c1 c2 c3 d0 d1 d2 d3 : Value} {ea : Option Addr} {en ec : Nat} {fa : Option Addr} {fn fc : Nat} {aa : Option Addr} {an ac : Nat} {ba : Option Addr} {bn bc : Nat} {y : AX} {x : WD} (k k2 : Int) (hk : x.n = k) (hk2 : k2 = y.kind) (w : World) (hR : RdW 0 w.heap.size w na nn nc sa sn sc ra rn rc la ln lc ia im ic ta tn tc x) (hC : RdA 0 w.heap.size w dp c0 c1 c2 c3 d0 d1 d2 d3 ea en ec fa fn fc aa an ac ba bn bc y) :
    Calls Tryz.prog 3 #[.agg #[.int .i64 k, .slice na nn nc, .slice sa sn sc, .slice ra rn rc, .slice la ln lc, .slice ia im ic, .slice ta tn tc], .agg #[.int .i64 k2, c0, c1, c2, c3, d0, d1, d2, d3, .slice ea en ec, .slice fa fn fc, .slice aa an ac, .slice ba bn bc]] w fun e w' => e = .returned (.bool true) ∧ Below w.heap.size w w' := by
  obtain ⟨Wb, hWb⟩ : ∃ Wb, Wb = (w.alloc (.cells #[.int .i64 k, .slice na nn nc, .slice sa sn sc, .slice ra rn rc, .slice la ln lc, .slice ia im ic, .slice ta tn tc] 26)).alloc (.cells #[.int .i64 k2, c0, c1, c2, c3, d0, d1, d2, d3, .slice ea en ec, .slice fa fn fc, .slice aa an ac, .slice ba bn bc] 32) := ⟨_, rfl⟩
  have HWb : Hid (Wb = (w.alloc (.cells #[.int .i64 k, .slice na nn nc, .slice sa sn sc, .slice ra rn rc, .slice la ln lc, .slice ia im ic, .slice ta tn tc] 26)).alloc (.cells #[.int .i64 k2, c0, c1, c2, c3, d0, d1, d2, d3, .slice ea en ec, .slice fa fn fc, .slice aa an ac, .slice ba bn bc] 32)) := hWb
  have hbb : Below w.heap.size w Wb := by rw [hWb]; exact ((Below.refl _ _).alloc (Nat.le_refl _) _).alloc (by simp) _
  have HBB : Hid (Below w.heap.size w Wb) := hbb
  have hsb : Wb.heap.size = w.heap.size + 2 := by rw [hWb]; simp
  have HRb : Hid (RdW 0 w.heap.size Wb na nn nc sa sn sc ra rn rc la ln lc ia im ic ta tn tc x) := hR.below hbb (Nat.le_refl _)
  have HCb : Hid (RdA 0 w.heap.size Wb dp c0 c1 c2 c3 d0 d1 d2 d3 ea en ec fa fn fc aa an ac ba bn bc y) := hC.below hbb (Nat.le_refl _)
  have hbx : BoxW 26 Wb w.heap.size k (.slice na nn nc) (.slice sa sn sc) (.slice ra rn rc) (.slice la ln lc) (.slice ia im ic) (.slice ta tn tc) := by rw [hWb]; exact (BoxW.new _ w _ _ _ _ _ _ _).below ((Below.refl _ _).alloc (Nat.le_refl _) _) (by simp)
  have hby : BoxA 32 Wb (w.heap.size + 1) k2 c0 c1 c2 c3 d0 d1 d2 d3 (.slice ea en ec) (.slice fa fn fc) (.slice aa an ac) (.slice ba bn bc) := by
    rw [hWb]
    have := BoxA.new 32 (w.alloc (.cells #[.int .i64 k, .slice na nn nc, .slice sa sn sc, .slice ra rn rc, .slice la ln lc, .slice ia im ic, .slice ta tn tc] 26)) k2 c0 c1 c2 c3 d0 d1 d2 d3 (.slice ea en ec) (.slice fa fn fc) (.slice aa an ac) (.slice ba bn bc)
    rwa [World.size_alloc] at this
  have HAt : Hid (∀ W, Below Wb.heap.size Wb W → BoxW 26 W w.heap.size k (.slice na nn nc) (.slice sa sn sc) (.slice ra rn rc) (.slice la ln lc) (.slice ia im ic) (.slice ta tn tc) ∧ BoxA 32 W (w.heap.size + 1) k2 c0 c1 c2 c3 d0 d1 d2 d3 (.slice ea en ec) (.slice fa fn fc) (.slice aa an ac) (.slice ba bn bc)) := fun W hW => ⟨hbx.below hW (by omega), hby.below hW (by omega)⟩
  have HK : Hid (x.n = k) := hk
  have HK2 : Hid (k2 = y.kind) := hk2
  obtain ⟨ok, hok⟩ : ∃ ok, ok = satisB x y := ⟨_, rfl⟩
  have HOk : Hid (ok = satisB x y) := hok
  have hokk : (ok != ok) = false := by simp
  obtain ⟨z0, z1, z2, z3, z4, z5, z6⟩ := hbx.cells
  obtain ⟨j0, j1, j2, j3, j4, j5, j6, j7, j8, j9, j10, j11, j12⟩ := hby.cells
  have hsb' : w.heap.size + 2 ≤ Wb.heap.size := by omega
  clear hR hC hbb hWb hbx hby hk hk2 hok hsb
  go_enter Tryz.func3, Tryz.ntmps3
  go_upto_region 1 with fail
  rw [← HWb.out]
  go_wp2_with fail
  refine (szW_any HRb.out (by omega) k).mono ?_
  rintro e wz ⟨r, rfl, hbounds, hb⟩
  have HBo : Hid (¬ r < 0 → BdW x nn sn rn ln im tn ∧ r ≤ 1048576) := hbounds
  have Hz : Hid (Below Wb.heap.size Wb wz) := hb
  have sz := hb.size
  clear z0 z1 z2 z3 z4 z5 z6 j0 j1 j2 j3 j4 j5 j6 j7 j8 j9 j10 j11 j12 hb hbounds
  obtain ⟨⟨z0, z1, z2, z3, z4, z5, z6⟩, j0, j1, j2, j3, j4, j5, j6, j7, j8, j9, j10, j11, j12⟩ := And.intro (HAt.out _ Hz.out).1.cells (HAt.out _ Hz.out).2.cells
  by_cases hneg : r < 0
  · go_wp2_with fail
    go_ret
    exact ⟨rfl, HBB.out.trans (Hz.out.mono (by omega))⟩
  have HBd : Hid (BdW x nn sn rn ln im tn) := (HBo.out hneg).1
  have hr1 : r ≤ 1048576 := (HBo.out hneg).2
  go_wp2_with fail
  refine (szAxG_any (HCb.out.below Hz.out (by omega)) (by omega) k2 r (by omega) hr1).mono ?_
  rintro e w0 ⟨r2, rfl, hr2, hb⟩
  have HSz : Hid (¬ r2 < 0 → r2 + (y.bulk : Nat) ≤ r) := hr2
  clear hr2
  have H0 : Hid (Below Wb.heap.size Wb w0) := Hz.out.trans (hb.mono sz)
  have s0 := H0.out.size
  clear hb z0 z1 z2 z3 z4 z5 z6 j0 j1 j2 j3 j4 j5 j6 j7 j8 j9 j10 j11 j12
  obtain ⟨⟨z0, z1, z2, z3, z4, z5, z6⟩, j0, j1, j2, j3, j4, j5, j6, j7, j8, j9, j10, j11, j12⟩ := And.intro (HAt.out _ H0.out).1.cells (HAt.out _ H0.out).2.cells
  by_cases hneg2 : r2 < 0
  · go_wp2_with fail
    go_ret
    exact ⟨rfl, HBB.out.trans (H0.out.mono (by omega))⟩
  · have HBk : Hid (y.c.bulk ≤ 1048576 ∧ y.d.bulk ≤ 1048576 ∧ en ≤ 1048576 ∧ fn ≤ 1048576 ∧ an ≤ 1048576 ∧ bn ≤ 1048576) := by
      have h1 := HSz.out hneg2
      have h2 := HCb.out.r.len
      have h3 := HCb.out.s.len
      have h4 := HCb.out.a.len
      have h5 := HCb.out.b.len
      have h6 : y.bulk = y.c.bulk + y.d.bulk + y.r.length + y.s.length + y.a.length + y.b.length := rfl
      unfold Hid
      omega
    have HTo : Hid (∀ W, Below Wb.heap.size Wb W → Calls Tryz.prog 8 #[.agg #[.int .i64 k, .slice na nn nc, .slice sa sn sc, .slice ra rn rc, .slice la ln lc, .slice ia im ic, .slice ta tn tc]] W fun e w' => ∃ g0 g1 g2 g3 g4 g5, e = .returned (.agg #[.int .i64 k, .slice (some ⟨g0, 0, none⟩) nn nn, .slice (some ⟨g1, 0, none⟩) sn sn, .slice (some ⟨g2, 0, none⟩) rn rn, .slice (some ⟨g3, 0, none⟩) ln ln, .slice (some ⟨g4, 0, none⟩) im im, .slice (some ⟨g5, 0, none⟩) tn tn]) ∧ RdW W.heap.size w'.heap.size w' (some ⟨g0, 0, none⟩) nn nn (some ⟨g1, 0, none⟩) sn sn (some ⟨g2, 0, none⟩) rn rn (some ⟨g3, 0, none⟩) ln ln (some ⟨g4, 0, none⟩) im im (some ⟨g5, 0, none⟩) tn tn x ∧ Below W.heap.size W w') := fun W hW => toW_any (HRb.out.below hW (by omega)) (Nat.le_trans (by omega) hW.size) HBd.out k
    have HTc : Hid (∀ W, Below Wb.heap.size Wb W → Calls Tryz.prog 9 #[.agg #[.int .i64 k2, c0, c1, c2, c3, d0, d1, d2, d3, .slice ea en ec, .slice fa fn fc, .slice aa an ac, .slice ba bn bc]] W fun e w' => ∃ yk yna ynn ync yra yrn yrc yka ykn ykc vk vna vnn vnc vra vrn vrc vka vkn vkc h0 h1 h2 h3, e = .returned (.agg #[.int .i64 k2, .int .i64 yk, .slice yna ynn ync, .slice yra yrn yrc, .slice yka ykn ykc, .int .i64 vk, .slice vna vnn vnc, .slice vra vrn vrc, .slice vka vkn vkc, .slice (some ⟨h0, 0, none⟩) en en, .slice (some ⟨h1, 0, none⟩) fn fn, .slice (some ⟨h2, 0, none⟩) an an, .slice (some ⟨h3, 0, none⟩) bn bn]) ∧ RdA W.heap.size w'.heap.size w' dp (.int .i64 yk) (.slice yna ynn ync) (.slice yra yrn yrc) (.slice yka ykn ykc) (.int .i64 vk) (.slice vna vnn vnc) (.slice vra vrn vrc) (.slice vka vkn vkc) (some ⟨h0, 0, none⟩) en en (some ⟨h1, 0, none⟩) fn fn (some ⟨h2, 0, none⟩) an an (some ⟨h3, 0, none⟩) bn bn y ∧ Below W.heap.size W w') := fun W hW => (toAxF_any (HCb.out.below hW (by omega)) (Nat.le_trans (by omega) hW.size) HBk.out.1 HBk.out.2.1 HBk.out.2.2.1 HBk.out.2.2.2.1 HBk.out.2.2.2.2.1 HBk.out.2.2.2.2.2 k2).mono fun e w' ⟨u0, u1, u2, u3, t0, t1, t2, t3, g0, g1, g2, g3, he, hr, hb, _⟩ => by
      obtain ⟨zk, zna, znn, znc, zra, zrn, zrc, zka, zkn, zkc, rfl, rfl, rfl, rfl⟩ := hr.c.sh.form
      obtain ⟨ok_, ona, onn, onc, ora, orn, orc, oka, okn, okc, rfl, rfl, rfl, rfl⟩ := hr.d.sh.form
      exact ⟨_, _, _, _, _, _, _, _, _, _, _, _, _, _, _, _, _, _, _, _, g0, g1, g2, g3, he, hr, hb⟩
    have H0d : Hid (Below Wb.heap.size Wb w0.drew) := H0.out.drew
    go_upto_region 8 with fail
    clear hneg hneg2
    go_cut [6] (fun b W => b = .bool ok ∧ Below Wb.heap.size Wb W)
    case first =>
      first | go_region_with (first
        | (go_at_call 8; first | (refine (HTo.out w0.drew H0d.out).mono ?_; rintro e w1 ⟨ag0, ag1, ag2, ag3, ag4, ag5, rfl, hx1, hb1⟩; have HX1 : Hid (RdW w0.drew.heap.size w1.heap.size w1 (some ⟨ag0, 0, none⟩) nn nn (some ⟨ag1, 0, none⟩) sn sn (some ⟨ag2, 0, none⟩) rn rn (some ⟨ag3, 0, none⟩) ln ln (some ⟨ag4, 0, none⟩) im im (some ⟨ag5, 0, none⟩) tn tn x) := hx1; have H1 : Hid (Below Wb.heap.size Wb w1) := H0d.out.trans (hb1.mono H0d.out.size); clear hx1 hb1 z0 z1 z2 z3 z4 z5 z6 j0 j1 j2 j3 j4 j5 j6 j7 j8 j9 j10 j11 j12; obtain ⟨⟨z0, z1, z2, z3, z4, z5, z6⟩, j0, j1, j2, j3, j4, j5, j6, j7, j8, j9, j10, j11, j12⟩ := And.intro (HAt.out _ H1.out).1.cells (HAt.out _ H1.out).2.cells) | (refine (HTo.out w3 H3.out).mono ?_; rintro e w2 ⟨ag0, ag1, ag2, ag3, ag4, ag5, rfl, hx2, hb2⟩; have HXx : Hid (∃ lo hi, RdW lo hi w2 (some ⟨ag0, 0, none⟩) nn nn (some ⟨ag1, 0, none⟩) sn sn (some ⟨ag2, 0, none⟩) rn rn (some ⟨ag3, 0, none⟩) ln ln (some ⟨ag4, 0, none⟩) im im (some ⟨ag5, 0, none⟩) tn tn x ∧ hi ≤ w2.heap.size) := ⟨_, _, hx2, Nat.le_refl _⟩; have HCx : Hid (∃ lo hi, RdA lo hi w2 dp (.int .i64 yk) (.slice yna ynn ync) (.slice yra yrn yrc) (.slice yka ykn ykc) (.int .i64 vk) (.slice vna vnn vnc) (.slice vra vrn vrc) (.slice vka vkn vkc) (some ⟨h0, 0, none⟩) en en (some ⟨h1, 0, none⟩) fn fn (some ⟨h2, 0, none⟩) an an (some ⟨h3, 0, none⟩) bn bn y ∧ hi ≤ w2.heap.size) := ⟨_, _, HC3.out.below hb2 (Nat.le_refl _), hb2.size⟩; have H2 : Hid (Below Wb.heap.size Wb w2) := H3.out.trans (hb2.mono H3.out.size); clear hx2 hb2))
        | (go_at_call 9; first | (refine (HTc.out w1 H1.out).mono ?_; rintro e w2 ⟨yk, yna, ynn, ync, yra, yrn, yrc, yka, ykn, ykc, vk, vna, vnn, vnc, vra, vrn, vrc, vka, vkn, vkc, h0, h1, h2, h3, rfl, hx2, hb2⟩; have HXx : Hid (∃ lo hi, RdW lo hi w2 (some ⟨ag0, 0, none⟩) nn nn (some ⟨ag1, 0, none⟩) sn sn (some ⟨ag2, 0, none⟩) rn rn (some ⟨ag3, 0, none⟩) ln ln (some ⟨ag4, 0, none⟩) im im (some ⟨ag5, 0, none⟩) tn tn x ∧ hi ≤ w2.heap.size) := ⟨_, _, HX1.out.below hb2 (Nat.le_refl _), hb2.size⟩; have HCx : Hid (∃ lo hi, RdA lo hi w2 dp (.int .i64 yk) (.slice yna ynn ync) (.slice yra yrn yrc) (.slice yka ykn ykc) (.int .i64 vk) (.slice vna vnn vnc) (.slice vra vrn vrc) (.slice vka vkn vkc) (some ⟨h0, 0, none⟩) en en (some ⟨h1, 0, none⟩) fn fn (some ⟨h2, 0, none⟩) an an (some ⟨h3, 0, none⟩) bn bn y ∧ hi ≤ w2.heap.size) := ⟨_, _, hx2, Nat.le_refl _⟩; have H2 : Hid (Below Wb.heap.size Wb w2) := H1.out.trans (hb2.mono H1.out.size); clear hx2 hb2) | (refine (HTc.out w0.drew H0d.out).mono ?_; rintro e w3 ⟨yk, yna, ynn, ync, yra, yrn, yrc, yka, ykn, ykc, vk, vna, vnn, vnc, vra, vrn, vrc, vka, vkn, vkc, h0, h1, h2, h3, rfl, hx3, hb3⟩; have HC3 : Hid (RdA w0.drew.heap.size w3.heap.size w3 dp (.int .i64 yk) (.slice yna ynn ync) (.slice yra yrn yrc) (.slice yka ykn ykc) (.int .i64 vk) (.slice vna vnn vnc) (.slice vra vrn vrc) (.slice vka vkn vkc) (some ⟨h0, 0, none⟩) en en (some ⟨h1, 0, none⟩) fn fn (some ⟨h2, 0, none⟩) an an (some ⟨h3, 0, none⟩) bn bn y) := hx3; have H3 : Hid (Below Wb.heap.size Wb w3) := H0d.out.trans (hb3.mono H0d.out.size); clear hx3 hb3 z0 z1 z2 z3 z4 z5 z6 j0 j1 j2 j3 j4 j5 j6 j7 j8 j9 j10 j11 j12; obtain ⟨⟨z0, z1, z2, z3, z4, z5, z6⟩, j0, j1, j2, j3, j4, j5, j6, j7, j8, j9, j10, j11, j12⟩ := And.intro (HAt.out _ H3.out).1.cells (HAt.out _ H3.out).2.cells))
        | (go_at_call 7; obtain ⟨_, _, hxx, hxs⟩ := HXx.out; obtain ⟨_, _, hcx, hcs⟩ := HCx.out; refine (specSatisfies_any hxx hcx HK.out hxs hcs k2 HK2.out).mono ?_; rintro e w5 ⟨rfl, hb5⟩; rw [← HOk.out]; have H5 : Hid (Below Wb.heap.size Wb w5) := H2.out.trans (hb5.mono H2.out.size); clear hb5 hxx hxs hcx hcs)) | fail
      all_goals
        go_wp2_with fail
        go_meet
        case rel => exact ⟨rfl, H5.out⟩
    case rest =>
      obtain ⟨hb8, h3c⟩ := hcut
      subst hb8
      obtain ⟨w3, hw3⟩ : ∃ V, V = wc := ⟨_, rfl⟩
      rw [← hw3] at h3c ⊢
      clear hw3
      have H3 : Hid (Below Wb.heap.size Wb w3) := h3c
      have s3 := h3c.size
      clear z0 z1 z2 z3 z4 z5 z6 j0 j1 j2 j3 j4 j5 j6 j7 j8 j9 j10 j11 j12 h3c
      obtain ⟨⟨z0, z1, z2, z3, z4, z5, z6⟩, j0, j1, j2, j3, j4, j5, j6, j7, j8, j9, j10, j11, j12⟩ := And.intro (HAt.out _ H3.out).1.cells (HAt.out _ H3.out).2.cells
      go_wp2_with fail
      refine (HTo.out w3 H3.out).mono ?_
      rintro e w4 ⟨bg0, bg1, bg2, bg3, bg4, bg5, rfl, hx4, hb4⟩
      have s4 := hb4.size
      obtain ⟨w5, hw5⟩ : ∃ w5, w5 = w4.alloc (.cells #[.int .i64 k, .slice (some ⟨bg0, 0, none⟩) nn nn, .slice (some ⟨bg1, 0, none⟩) sn sn, .slice (some ⟨bg2, 0, none⟩) rn rn, .slice (some ⟨bg3, 0, none⟩) ln ln, .slice (some ⟨bg4, 0, none⟩) im im, .slice (some ⟨bg5, 0, none⟩) tn tn] 36) := ⟨_, rfl⟩
      have HW5 : Hid (w5 = w4.alloc (.cells #[.int .i64 k, .slice (some ⟨bg0, 0, none⟩) nn nn, .slice (some ⟨bg1, 0, none⟩) sn sn, .slice (some ⟨bg2, 0, none⟩) rn rn, .slice (some ⟨bg3, 0, none⟩) ln ln, .slice (some ⟨bg4, 0, none⟩) im im, .slice (some ⟨bg5, 0, none⟩) tn tn] 36)) := hw5
      have hb5 : Below w4.heap.size w4 w5 := by rw [hw5]; exact (Below.refl _ _).alloc (Nat.le_refl _) _
      have s5 : w4.heap.size < w5.heap.size := by rw [hw5]; simp
      have H5 : Hid (Below Wb.heap.size Wb w5) := (H3.out.trans (hb4.mono (by omega))).trans (hb5.mono (by omega))
      have HX5 : Hid (RdW w3.heap.size w4.heap.size w5 (some ⟨bg0, 0, none⟩) nn nn (some ⟨bg1, 0, none⟩) sn sn (some ⟨bg2, 0, none⟩) rn rn (some ⟨bg3, 0, none⟩) ln ln (some ⟨bg4, 0, none⟩) im im (some ⟨bg5, 0, none⟩) tn tn x) := hx4.below hb5 (Nat.le_refl _)
      have HBX : Hid (BoxW 36 w5 w4.heap.size k (.slice (some ⟨bg0, 0, none⟩) nn nn) (.slice (some ⟨bg1, 0, none⟩) sn sn) (.slice (some ⟨bg2, 0, none⟩) rn rn) (.slice (some ⟨bg3, 0, none⟩) ln ln) (.slice (some ⟨bg4, 0, none⟩) im im) (.slice (some ⟨bg5, 0, none⟩) tn tn)) := by unfold Hid; rw [hw5]; exact BoxW.new _ w4 _ _ _ _ _ _ _
      clear hx4 hb4 hb5 hw5 z0 z1 z2 z3 z4 z5 z6 j0 j1 j2 j3 j4 j5 j6 j7 j8 j9 j10 j11 j12
      obtain ⟨⟨z0, z1, z2, z3, z4, z5, z6⟩, j0, j1, j2, j3, j4, j5, j6, j7, j8, j9, j10, j11, j12⟩ := And.intro (HAt.out _ H5.out).1.cells (HAt.out _ H5.out).2.cells
      go_upto_region 10 with fail
      rw [← HW5.out]
      go_wp2_with fail
      refine (HTc.out w5 H5.out).mono ?_
      rintro e w6 ⟨xk, xna, xnn, xnc, xra, xrn, xrc, xka, xkn, xkc, uk, una, unn, unc, ura, urn, urc, uka, ukn, ukc, l0, l1, l2, l3, rfl, hx6, hb6⟩
      have s6 := hb6.size
      obtain ⟨w7, hw7⟩ : ∃ w7, w7 = w6.alloc (.cells #[.int .i64 k2, .int .i64 xk, .slice xna xnn xnc, .slice xra xrn xrc, .slice xka xkn xkc, .int .i64 uk, .slice una unn unc, .slice ura urn urc, .slice uka ukn ukc, .slice (some ⟨l0, 0, none⟩) en en, .slice (some ⟨l1, 0, none⟩) fn fn, .slice (some ⟨l2, 0, none⟩) an an, .slice (some ⟨l3, 0, none⟩) bn bn] 42) := ⟨_, rfl⟩
      have HW7 : Hid (w7 = w6.alloc (.cells #[.int .i64 k2, .int .i64 xk, .slice xna xnn xnc, .slice xra xrn xrc, .slice xka xkn xkc, .int .i64 uk, .slice una unn unc, .slice ura urn urc, .slice uka ukn ukc, .slice (some ⟨l0, 0, none⟩) en en, .slice (some ⟨l1, 0, none⟩) fn fn, .slice (some ⟨l2, 0, none⟩) an an, .slice (some ⟨l3, 0, none⟩) bn bn] 42)) := hw7
      have hb7 : Below w6.heap.size w6 w7 := by rw [hw7]; exact (Below.refl _ _).alloc (Nat.le_refl _) _
      have s7 : w6.heap.size < w7.heap.size := by rw [hw7]; simp
      have h57 : Below w5.heap.size w5 w7 := hb6.trans (hb7.mono (by omega))
      have H7 : Hid (Below Wb.heap.size Wb w7) := H5.out.trans (h57.mono (by omega))
      have HX7 : Hid (RdW w3.heap.size w4.heap.size w7 (some ⟨bg0, 0, none⟩) nn nn (some ⟨bg1, 0, none⟩) sn sn (some ⟨bg2, 0, none⟩) rn rn (some ⟨bg3, 0, none⟩) ln ln (some ⟨bg4, 0, none⟩) im im (some ⟨bg5, 0, none⟩) tn tn x) := HX5.out.below h57 (by omega)
      have HC7 : Hid (RdA w5.heap.size w6.heap.size w7 dp (.int .i64 xk) (.slice xna xnn xnc) (.slice xra xrn xrc) (.slice xka xkn xkc) (.int .i64 uk) (.slice una unn unc) (.slice ura urn urc) (.slice uka ukn ukc) (some ⟨l0, 0, none⟩) en en (some ⟨l1, 0, none⟩) fn fn (some ⟨l2, 0, none⟩) an an (some ⟨l3, 0, none⟩) bn bn y) := hx6.below hb7 (Nat.le_refl _)
      have HB7 : Hid (BoxW 36 w7 w4.heap.size k (.slice (some ⟨bg0, 0, none⟩) nn nn) (.slice (some ⟨bg1, 0, none⟩) sn sn) (.slice (some ⟨bg2, 0, none⟩) rn rn) (.slice (some ⟨bg3, 0, none⟩) ln ln) (.slice (some ⟨bg4, 0, none⟩) im im) (.slice (some ⟨bg5, 0, none⟩) tn tn)) := HBX.out.below h57 (by omega)
      have HBC7 : Hid (BoxA 42 w7 w6.heap.size k2 (.int .i64 xk) (.slice xna xnn xnc) (.slice xra xrn xrc) (.slice xka xkn xkc) (.int .i64 uk) (.slice una unn unc) (.slice ura urn urc) (.slice uka ukn ukc) (.slice (some ⟨l0, 0, none⟩) en en) (.slice (some ⟨l1, 0, none⟩) fn fn) (.slice (some ⟨l2, 0, none⟩) an an) (.slice (some ⟨l3, 0, none⟩) bn bn)) := by unfold Hid; rw [hw7]; exact BoxA.new _ w6 _ _ _ _ _ _ _ _ _ _ _ _ _
      obtain ⟨m0, m1, m2, m3, m4, m5, m6⟩ := HB7.out.cells
      obtain ⟨n0, n1, n2, n3, n4, n5, n6, n7, n8, n9, n10, n11, n12⟩ := HBC7.out.cells
      clear hx6 hb6 hb7 hw7 h57 z0 z1 z2 z3 z4 z5 z6 j0 j1 j2 j3 j4 j5 j6 j7 j8 j9 j10 j11 j12
      go_upto_region 11 with fail
      rw [← HW7.out]
      go_wp2_with fail
      refine (implSatisfies_any HX7.out HC7.out HK.out (by omega) (by omega) HBk.out.1 HBk.out.2.1 k2 HK2.out).mono ?_
      rintro e w8 ⟨rfl, hb8⟩
      rw [← HOk.out]
      have s8 := hb8.size
      have H78 : Hid (Below w7.heap.size w7 w8) := hb8
      have H8 : Hid (Below Wb.heap.size Wb w8) := H7.out.trans (hb8.mono (by omega))
      have HV : Hid (∀ V, Below w8.heap.size w8 V → RdW w3.heap.size w4.heap.size V (some ⟨bg0, 0, none⟩) nn nn (some ⟨bg1, 0, none⟩) sn sn (some ⟨bg2, 0, none⟩) rn rn (some ⟨bg3, 0, none⟩) ln ln (some ⟨bg4, 0, none⟩) im im (some ⟨bg5, 0, none⟩) tn tn x ∧ RdA w5.heap.size w6.heap.size V dp (.int .i64 xk) (.slice xna xnn xnc) (.slice xra xrn xrc) (.slice xka xkn xkc) (.int .i64 uk) (.slice una unn unc) (.slice ura urn urc) (.slice uka ukn ukc) (some ⟨l0, 0, none⟩) en en (some ⟨l1, 0, none⟩) fn fn (some ⟨l2, 0, none⟩) an an (some ⟨l3, 0, none⟩) bn bn y ∧ BoxW 36 V w4.heap.size k (.slice (some ⟨bg0, 0, none⟩) nn nn) (.slice (some ⟨bg1, 0, none⟩) sn sn) (.slice (some ⟨bg2, 0, none⟩) rn rn) (.slice (some ⟨bg3, 0, none⟩) ln ln) (.slice (some ⟨bg4, 0, none⟩) im im) (.slice (some ⟨bg5, 0, none⟩) tn tn) ∧ BoxA 42 V w6.heap.size k2 (.int .i64 xk) (.slice xna xnn xnc) (.slice xra xrn xrc) (.slice xka xkn xkc) (.int .i64 uk) (.slice una unn unc) (.slice ura urn urc) (.slice uka ukn ukc) (.slice (some ⟨l0, 0, none⟩) en en) (.slice (some ⟨l1, 0, none⟩) fn fn) (.slice (some ⟨l2, 0, none⟩) an an) (.slice (some ⟨l3, 0, none⟩) bn bn) ∧ w8.heap.size ≤ V.heap.size) := fun V hV => by
        have h7V := hb8.trans (hV.mono hb8.size)
        exact ⟨HX7.out.below h7V (by omega), HC7.out.below h7V (by omega), HB7.out.below h7V (by omega), HBC7.out.below h7V (by omega), hV.size⟩
      clear hb8 m0 m1 m2 m3 m4 m5 m6 n0 n1 n2 n3 n4 n5 n6 n7 n8 n9 n10 n11 n12
      obtain ⟨m0, m1, m2, m3, m4, m5, m6⟩ := (HV.out w8 (Below.refl _ _)).2.2.1.cells
      obtain ⟨n0, n1, n2, n3, n4, n5, n6, n7, n8, n9, n10, n11, n12⟩ := (HV.out w8 (Below.refl _ _)).2.2.2.1.cells
      obtain ⟨⟨z0, z1, z2, z3, z4, z5, z6⟩, j0, j1, j2, j3, j4, j5, j6, j7, j8, j9, j10, j11, j12⟩ := And.intro (HAt.out _ H8.out).1.cells (HAt.out _ H8.out).2.cells
      have H8d : Hid (Below w8.heap.size w8 w8.drew) := (Below.refl _ _).drew
      have HWV : Hid (∀ {V : World}, Below w8.heap.size w8 V → Below Wb.heap.size Wb V) := fun {V} hV => H8.out.trans (hV.mono H8.out.size)
      go_upto_region 14 with fail
      go_cut [39] (fun b W => b = .bool false ∧ Below w8.heap.size w8 W)
      case first =>
        first | go_region_with (first
          | (go_at_call 8; refine (HTo.out w8.drew (HWV.out H8d.out)).mono ?_; rintro e w9 ⟨qg0, qg1, qg2, qg3, qg4, qg5, rfl, hx9, hb9⟩; have HX9 : Hid (RdW w8.drew.heap.size w9.heap.size w9 (some ⟨qg0, 0, none⟩) nn nn (some ⟨qg1, 0, none⟩) sn sn (some ⟨qg2, 0, none⟩) rn rn (some ⟨qg3, 0, none⟩) ln ln (some ⟨qg4, 0, none⟩) im im (some ⟨qg5, 0, none⟩) tn tn x) := hx9; have H9 : Hid (Below w8.heap.size w8 w9) := H8d.out.trans (hb9.mono H8d.out.size); clear hx9 hb9 m0 m1 m2 m3 m4 m5 m6; obtain ⟨m0, m1, m2, m3, m4, m5, m6⟩ := (HV.out w9 H9.out).2.2.1.cells)
          | (go_at_call 11; refine (eqW_any (HV.out w9 H9.out).1 HX9.out (by have := H9.out.size; omega) (Nat.le_refl _) k).mono ?_; rintro e wt ⟨rfl, hbt⟩; have Ht : Hid (Below w8.heap.size w8 wt) := H9.out.trans (hbt.mono H9.out.size); clear hbt)) | fail
        all_goals
          go_wp2_with fail
          go_meet
          case rel => exact ⟨rfl, Ht.out⟩
      case rest =>
        obtain ⟨hb39, h8c⟩ := hcut
        subst hb39
        have Hc : Hid (Below w8.heap.size w8 wc) := h8c
        clear m0 m1 m2 m3 m4 m5 m6 n0 n1 n2 n3 n4 n5 n6 n7 n8 n9 n10 n11 n12 z0 z1 z2 z3 z4 z5 z6 j0 j1 j2 j3 j4 j5 j6 j7 j8 j9 j10 j11 j12 h8c
        obtain ⟨n0, n1, n2, n3, n4, n5, n6, n7, n8, n9, n10, n11, n12⟩ := (HV.out wc Hc.out).2.2.2.1.cells
        obtain ⟨j0, j1, j2, j3, j4, j5, j6, j7, j8, j9, j10, j11, j12⟩ := (HAt.out _ (HWV.out Hc.out)).2.cells
        have Hcd : Hid (Below w8.heap.size w8 wc.drew) := Hc.out.drew
        go_upto_region 16 with fail
        go_cut [44] (fun b W => b = .bool false ∧ Below w8.heap.size w8 W)
        case first =>
          first | go_region_with (first
            | (go_at_call 9; refine (HTc.out wc.drew (HWV.out Hcd.out)).mono ?_; rintro e w9 ⟨yk, yna, ynn, ync, yra, yrn, yrc, yka, ykn, ykc, vk, vna, vnn, vnc, vra, vrn, vrc, vka, vkn, vkc, h0, h1, h2, h3, rfl, hx9, hb9⟩; have HC9 : Hid (RdA wc.drew.heap.size w9.heap.size w9 dp (.int .i64 yk) (.slice yna ynn ync) (.slice yra yrn yrc) (.slice yka ykn ykc) (.int .i64 vk) (.slice vna vnn vnc) (.slice vra vrn vrc) (.slice vka vkn vkc) (some ⟨h0, 0, none⟩) en en (some ⟨h1, 0, none⟩) fn fn (some ⟨h2, 0, none⟩) an an (some ⟨h3, 0, none⟩) bn bn y) := hx9; have H9 : Hid (Below w8.heap.size w8 w9) := Hcd.out.trans (hb9.mono Hcd.out.size); clear hx9 hb9 n0 n1 n2 n3 n4 n5 n6 n7 n8 n9 n10 n11 n12; obtain ⟨n0, n1, n2, n3, n4, n5, n6, n7, n8, n9, n10, n11, n12⟩ := (HV.out w9 H9.out).2.2.2.1.cells)
            | (go_at_call 12; refine (eqAx_any (HV.out w9 H9.out).2.1 HC9.out (by have := H9.out.size; omega) (Nat.le_refl _) k2).mono ?_; rintro e wt ⟨rfl, hbt⟩; have Ht : Hid (Below w8.heap.size w8 wt) := H9.out.trans (hbt.mono H9.out.size); clear hbt)) | fail
          all_goals
            go_wp2_with fail
            go_meet
            case rel => exact ⟨rfl, Ht.out⟩
        case rest =>
          obtain ⟨hb44x, h8e⟩ := hcut
          subst hb44x
          have He : Hid (Below w8.heap.size w8 _) := h8e
          clear h8e
          go_wp2_with fail
          go_ret
          exact ⟨rfl, HBB.out.trans ((HWV.out He.out).mono (by omega))⟩

set_option maxRecDepth 100000 in
theorem lifted (os : Os) (started : os.Started) (H : Type) (enc : TypeId × Value → H) :
    ReturnsInHanded {} Tryz.checked os 3 .any (Rows.fnExactSatisfiesSpec.pre6 enc Tryz.prog Tryz.f3 Rows.fnExactSatisfiesRow.domain false) (Rows.fnExactSatisfiesSpec.post enc Tryz.prog Tryz.f3 false true false false) := by
  refine returnsInHanded_of_change (C := Tryz.checked) own started (by kernel_rfl) Tryz.func3
    (ChangeSpec.witness6 (enc := enc) (C := Tryz.checked) false ⟨#[], #[.agg #[.int .i64 0, .slice none 0 0, .slice none 0 0, .slice none 0 0, .slice none 0 0, .slice none 0 0, .slice none 0 0], .agg #[.int .i64 0, .int .i64 0, .slice none 0 0, .slice none 0 0, .slice none 0 0, .int .i64 0, .slice none 0 0, .slice none 0 0, .slice none 0 0, .slice none 0 0, .slice none 0 0, .slice none 0 0, .slice none 0 0]], []⟩ 8 (by kernel_rfl) (by kernel_rfl) (by kernel_rfl) (by kernel_rfl)) ?_
  intro W base args ds gs before hval0 hW hcnd _
  have hval : ∀ (j : Nat) t v, Tryz.f3.params[j]? = some t → args[j]? = some v → Value.okWide Tryz.prog W .any base t v := hval0
  have hW' := hW
  obtain ⟨p, q, hA0, hV, rfl, hfz, hnd⟩ := hW
  have hA : DataW.TrodAll enc Tryz.prog W 0 (fun _ => true) true Tryz.f3.params.toList args.toList ds p := hA0
  rw [Tryz.params3] at hA hval
  obtain ⟨v0, vs0, d0, ds0, p0, q0, hargs, rfl, rfl, h0, r0⟩ := trodAll_cons hA
  obtain ⟨v1, vs1, d1, ds1, p1, q1, hargs1, rfl, rfl, h1, r1⟩ := trodAll_cons r0
  obtain ⟨rfl, rfl, rfl⟩ := trodAll_nil r1
  obtain rfl : args = #[v0, v1] := by cases args; simp_all
  obtain ⟨rfl, rfl⟩ := trodVars_none hV
  obtain ⟨cs0, rfl, _⟩ := okWide_struct Tryz.underlying26 (hval 0 26 v0 rfl rfl)
  obtain ⟨cs1, rfl, _⟩ := okWide_struct Tryz.underlying32 (hval 1 32 v1 rfl rfl)
  have k0 := h0
  have k1 := h1
  have lt0 : ∀ x ∈ p0, x.block < W.heap.size := by obtain ⟨m, hm⟩ := k0; exact DataW.trod_lt m _ _ _ hm
  have lt1 : ∀ x ∈ p1, x.block < W.heap.size := by obtain ⟨m, hm⟩ := k1; exact DataW.trod_lt m _ _ _ hm
  obtain ⟨k, na, nn, nc, sa, sn, sc, ra, rn, rc, la, ln, lc, ia, im, ic, ta, tn, tc, x, hcs, hk, w0⟩ : ∃ k na nn nc sa sn sc ra rn rc la ln lc ia im ic ta tn tc x, cs0 = #[.int .i64 k, .slice na nn nc, .slice sa sn sc, .slice ra rn rc, .slice la ln lc, .slice ia im ic, .slice ta tn tc] ∧ WD.n x = k ∧ RdW 0 W.heap.size W na nn nc sa sn sc ra rn rc la ln lc ia im ic ta tn tc x := by
    obtain ⟨fuel, hf⟩ := h0
    obtain ⟨k, na, nn, nc, sa, sn, sc, ra, rn, rc, la, ln, lc, ia, im, ic, ta, tn, tc, x, hv, hk, hr⟩ := open_world (cs := cs0.toList) (by simpa [Value.cells] using hf)
    exact ⟨k, na, nn, nc, sa, sn, sc, ra, rn, rc, la, ln, lc, ia, im, ic, ta, tn, tc, x, by cases cs0; simp_all, hk, hr⟩
  subst hcs
  obtain ⟨dd, c0, c1, c2, c3, d0, d1, d2, d3, ea, en, ec, fa, fn, fc, aa, an, ac, ba, bn, bc, y, hcs1, w1⟩ : ∃ dd c0 c1 c2 c3 d0 d1 d2 d3 ea en ec fa fn fc aa an ac ba bn bc y, cs1 = #[.int .i64 (AX.kind y), c0, c1, c2, c3, d0, d1, d2, d3, .slice ea en ec, .slice fa fn fc, .slice aa an ac, .slice ba bn bc] ∧ RdA 0 W.heap.size W dd c0 c1 c2 c3 d0 d1 d2 d3 ea en ec fa fn fc aa an ac ba bn bc y := by
    obtain ⟨fuel, hf⟩ := h1
    obtain ⟨c0, c1, c2, c3, d0, d1, d2, d3, ea, en, ec, fa, fn, fc, aa, an, ac, ba, bn, bc, y, hv, hr⟩ := open_ax (cs := cs1.toList) (by simpa [Value.cells] using hf)
    exact ⟨fuel, c0, c1, c2, c3, d0, d1, d2, d3, ea, en, ec, fa, fn, fc, aa, an, ac, ba, bn, bc, y, by cases cs1; simp_all, hr⟩
  subst hcs1
  clear hA0 hval0
  refine (walk k _ hk rfl W w0 w1).mono fun e W' ⟨he, bel⟩ => ?_
  subst he
  exact ⟨_, rfl, _, _, _, [], _, [], hW', trodAll_mk1 (shut_bool Tryz.underlying4 _), (trodAll_cons_mk (Below.trod laidOut (by kernel_rfl) (of_decide_eq_true (by kernel_rfl)) k0 bel lt0) (trodAll_cons_mk (Below.trod laidOut (by kernel_rfl) (of_decide_eq_true (by kernel_rfl)) k1 bel lt1) trodAll_mk0)), rfl, bel.frame _, fun h => by cases h⟩

theorem over : Rows.fnExactSatisfiesRow.holds Tryz.pinned (OpenSpec.ofChange Rows.fnExactSatisfiesSpec) :=
  OpenClaim.holds_of_wide 3 Tryz.f3 rfl rfl rfl rfl rfl rfl rfl ⟨rfl, rfl, rfl, rfl, rfl⟩ rfl rfl rfl rfl rfl (by kernel_rfl) Tryz.func3 (by kernel_rfl)
    (of_decide_eq_true (by kernel_rfl)) (by unfold Func.isWrapper; first | (rw [if_pos (by decide +kernel)]; kernel_rfl) | (rw [if_neg (by decide +kernel)]; exact ⟨rfl, rfl⟩))
    (fun os started H enc _ => lifted os started H enc)

theorem proved : Rows.FnExactSatisfiesSaid := over
#print axioms proved
end Go.Proofs.YtfbokljbmihlbaaGreat.fnExactSatisfies
namespace Go.Proofs.YtfbokljbmihlbaaGreat
theorem fnExactSatisfies_holds : Rows.FnExactSatisfiesSaid := fnExactSatisfies.proved
end Go.Proofs.YtfbokljbmihlbaaGreat
