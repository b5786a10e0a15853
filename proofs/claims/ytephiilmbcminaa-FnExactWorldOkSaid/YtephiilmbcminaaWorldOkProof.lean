/- For every world the law FnExactWorldOk answers true and the world reads behind the call as it did before: no condition. -/
import Derived.Test.YtephiilmbcminaaRows
import Derived.Test.YtephiilmbcminaaWdOpen
import Derived.Test.YtephiilmbcminaaWdSpec
import Derived.Test.YtephiilmbcminaaWdImpl4
import Derived.Test.YtephiilmbcminaaWdLaw3
import Derived.WalkKit
import Derived.ProofKit
import Derived.OpenShut
import Derived.ShutString
import Derived.ChangeOld
import Derived.Below
import Derived.Deep.RegionHeld
namespace Go.Proofs.Ytephiilmbcminaa.fnExactWorldOk
open Go.ChangeShapes Go.WideShapes Go.ChangeAt Go.RowKit Go.Deep
set_option linter.unusedVariables false

theorem own : ownKnob Try.prog.godebug = none := by kernel_rfl
theorem laidOut : laidOutB Try.prog = true := by kernel_rfl

set_option maxRecDepth 100000 in
set_option maxHeartbeats 8000000 in
theorem walk {na : Option Addr} {nn nc : Nat} {sa : Option Addr} {sn sc : Nat} {ra : Option Addr} {rn rc : Nat} {la : Option Addr} {ln lc : Nat} {ia : Option Addr} {im ic : Nat} {ta : Option Addr} {tn tc : Nat} {x : WD} (k : Int) (hk : x.n = k) (w : World) (hR : RdW 0 w.heap.size w na nn nc sa sn sc ra rn rc la ln lc ia im ic ta tn tc x) :
    Calls Try.prog 11 #[.agg #[.int .i64 k, .slice na nn nc, .slice sa sn sc, .slice ra rn rc, .slice la ln lc, .slice ia im ic, .slice ta tn tc]] w fun e w' => e = .returned (.bool true) ∧ Below w.heap.size w w' := by
  obtain ⟨Wb, hWb⟩ : ∃ Wb, Wb = w.alloc (.cells #[.int .i64 k, .slice na nn nc, .slice sa sn sc, .slice ra rn rc, .slice la ln lc, .slice ia im ic, .slice ta tn tc] 61) := ⟨_, rfl⟩
  have HWb : Hid (Wb = w.alloc (.cells #[.int .i64 k, .slice na nn nc, .slice sa sn sc, .slice ra rn rc, .slice la ln lc, .slice ia im ic, .slice ta tn tc] 61)) := hWb
  have hbb : Below w.heap.size w Wb := by rw [hWb]; exact (Below.refl _ _).alloc (Nat.le_refl _) _
  have HBB : Hid (Below w.heap.size w Wb) := hbb
  have hsb : Wb.heap.size = w.heap.size + 1 := by rw [hWb]; simp
  have HRb : Hid (RdW 0 w.heap.size Wb na nn nc sa sn sc ra rn rc la ln lc ia im ic ta tn tc x) := hR.below hbb (Nat.le_refl _)
  have hbx : BoxW 61 Wb w.heap.size k (.slice na nn nc) (.slice sa sn sc) (.slice ra rn rc) (.slice la ln lc) (.slice ia im ic) (.slice ta tn tc) := by rw [hWb]; exact BoxW.new _ w _ _ _ _ _ _ _
  have HAt : Hid (∀ W, Below Wb.heap.size Wb W → BoxW 61 W w.heap.size k (.slice na nn nc) (.slice sa sn sc) (.slice ra rn rc) (.slice la ln lc) (.slice ia im ic) (.slice ta tn tc)) := fun W hW => hbx.below hW (by omega)
  have HK : Hid (x.n = k) := hk
  obtain ⟨ok, hok⟩ : ∃ ok, ok = worldB x := ⟨_, rfl⟩
  have HOk : Hid (ok = worldB x) := hok
  have hokk : (ok != ok) = false := by simp
  obtain ⟨z0, z1, z2, z3, z4, z5, z6⟩ := hbx.cells
  clear hR hbb hWb hbx hk hok
  go_enter Try.func11, Try.ntmps11
  go_wp2_with fail
  rw [← HWb.out]
  refine (szW_any HRb.out (by omega) k).mono ?_
  rintro e w0 ⟨r, rfl, hbounds, hb⟩
  have HBo : Hid (¬ r < 0 → BdW x nn sn rn ln im tn) := hbounds
  have H0 : Hid (Below Wb.heap.size Wb w0) := hb
  have s0 := hb.size
  clear z0 z1 z2 z3 z4 z5 z6 hb hbounds
  obtain ⟨z0, z1, z2, z3, z4, z5, z6⟩ := (HAt.out _ H0.out).cells
  by_cases hneg : r < 0
  · go_wp2_with fail
    go_ret
    exact ⟨rfl, HBB.out.trans (H0.out.mono (by omega))⟩
  · have HBd : Hid (BdW x nn sn rn ln im tn) := HBo.out hneg
    have HTo : Hid (∀ W, Below Wb.heap.size Wb W → Calls Try.prog 50 #[.agg #[.int .i64 k, .slice na nn nc, .slice sa sn sc, .slice ra rn rc, .slice la ln lc, .slice ia im ic, .slice ta tn tc]] W fun e w' => ∃ g0 g1 g2 g3 g4 g5, e = .returned (.agg #[.int .i64 k, .slice (some ⟨g0, 0, none⟩) nn nn, .slice (some ⟨g1, 0, none⟩) sn sn, .slice (some ⟨g2, 0, none⟩) rn rn, .slice (some ⟨g3, 0, none⟩) ln ln, .slice (some ⟨g4, 0, none⟩) im im, .slice (some ⟨g5, 0, none⟩) tn tn]) ∧ RdW W.heap.size w'.heap.size w' (some ⟨g0, 0, none⟩) nn nn (some ⟨g1, 0, none⟩) sn sn (some ⟨g2, 0, none⟩) rn rn (some ⟨g3, 0, none⟩) ln ln (some ⟨g4, 0, none⟩) im im (some ⟨g5, 0, none⟩) tn tn x ∧ Below W.heap.size W w') := fun W hW => toW_any (HRb.out.below hW (by omega)) (Nat.le_trans (by omega) hW.size) HBd.out k
    go_wp2_with fail
    refine (HTo.out w0 H0.out).mono ?_
    rintro e w1 ⟨ag0, ag1, ag2, ag3, ag4, ag5, rfl, hx1, hb1⟩
    have H1 : Hid (Below Wb.heap.size Wb w1) := H0.out.trans (hb1.mono s0)
    have HX1 : Hid (RdW w0.heap.size w1.heap.size w1 (some ⟨ag0, 0, none⟩) nn nn (some ⟨ag1, 0, none⟩) sn sn (some ⟨ag2, 0, none⟩) rn rn (some ⟨ag3, 0, none⟩) ln ln (some ⟨ag4, 0, none⟩) im im (some ⟨ag5, 0, none⟩) tn tn x) := hx1
    have s1 := hb1.size
    clear hx1 hb1 z0 z1 z2 z3 z4 z5 z6
    go_wp2_with fail
    refine (specWorldOk_any HX1.out HK.out (Nat.le_refl _)).mono ?_
    rintro e w2 ⟨rfl, hb2⟩
    rw [← HOk.out]
    have H2 : Hid (Below Wb.heap.size Wb w2) := H1.out.trans (hb2.mono (by omega))
    have s2 := hb2.size
    clear hb2
    obtain ⟨z0, z1, z2, z3, z4, z5, z6⟩ := (HAt.out _ H2.out).cells
    go_wp2_with fail
    refine (HTo.out w2 H2.out).mono ?_
    rintro e w3 ⟨bg0, bg1, bg2, bg3, bg4, bg5, rfl, hx3, hb3⟩
    have s3 := hb3.size
    obtain ⟨w4, hw4⟩ : ∃ w4, w4 = w3.alloc (.cells #[.int .i64 k, .slice (some ⟨bg0, 0, none⟩) nn nn, .slice (some ⟨bg1, 0, none⟩) sn sn, .slice (some ⟨bg2, 0, none⟩) rn rn, .slice (some ⟨bg3, 0, none⟩) ln ln, .slice (some ⟨bg4, 0, none⟩) im im, .slice (some ⟨bg5, 0, none⟩) tn tn] 64) := ⟨_, rfl⟩
    have HW4 : Hid (w4 = w3.alloc (.cells #[.int .i64 k, .slice (some ⟨bg0, 0, none⟩) nn nn, .slice (some ⟨bg1, 0, none⟩) sn sn, .slice (some ⟨bg2, 0, none⟩) rn rn, .slice (some ⟨bg3, 0, none⟩) ln ln, .slice (some ⟨bg4, 0, none⟩) im im, .slice (some ⟨bg5, 0, none⟩) tn tn] 64)) := hw4
    have hb4 : Below w3.heap.size w3 w4 := by rw [hw4]; exact (Below.refl _ _).alloc (Nat.le_refl _) _
    have s4 : w4.heap.size = w3.heap.size + 1 := by rw [hw4]; simp
    have H4 : Hid (Below Wb.heap.size Wb w4) := (H2.out.trans (hb3.mono (by omega))).trans (hb4.mono (by omega))
    have HX4 : Hid (RdW w2.heap.size w3.heap.size w4 (some ⟨bg0, 0, none⟩) nn nn (some ⟨bg1, 0, none⟩) sn sn (some ⟨bg2, 0, none⟩) rn rn (some ⟨bg3, 0, none⟩) ln ln (some ⟨bg4, 0, none⟩) im im (some ⟨bg5, 0, none⟩) tn tn x) := hx3.below hb4 (Nat.le_refl _)
    have hbX : BoxW 64 w4 w3.heap.size k (.slice (some ⟨bg0, 0, none⟩) nn nn) (.slice (some ⟨bg1, 0, none⟩) sn sn) (.slice (some ⟨bg2, 0, none⟩) rn rn) (.slice (some ⟨bg3, 0, none⟩) ln ln) (.slice (some ⟨bg4, 0, none⟩) im im) (.slice (some ⟨bg5, 0, none⟩) tn tn) := by rw [hw4]; exact BoxW.new _ w3 _ _ _ _ _ _ _
    have HBX : Hid (BoxW 64 w4 w3.heap.size k (.slice (some ⟨bg0, 0, none⟩) nn nn) (.slice (some ⟨bg1, 0, none⟩) sn sn) (.slice (some ⟨bg2, 0, none⟩) rn rn) (.slice (some ⟨bg3, 0, none⟩) ln ln) (.slice (some ⟨bg4, 0, none⟩) im im) (.slice (some ⟨bg5, 0, none⟩) tn tn)) := hbX
    clear hx3 hb3 hb4 hw4 z0 z1 z2 z3 z4 z5 z6 hbX
    go_wp2_with fail
    rw [← HW4.out]
    refine (implWorldOk_any HX4.out HK.out (by omega)).mono ?_
    rintro e w5 ⟨rfl, hb5⟩
    rw [← HOk.out]
    have s5 := hb5.size
    have H5 : Hid (Below Wb.heap.size Wb w5) := H4.out.trans (hb5.mono (by omega))
    have HX5 : Hid (RdW w2.heap.size w3.heap.size w5 (some ⟨bg0, 0, none⟩) nn nn (some ⟨bg1, 0, none⟩) sn sn (some ⟨bg2, 0, none⟩) rn rn (some ⟨bg3, 0, none⟩) ln ln (some ⟨bg4, 0, none⟩) im im (some ⟨bg5, 0, none⟩) tn tn x) := HX4.out.below hb5 (by omega)
    have HBX5 : Hid (BoxW 64 w5 w3.heap.size k (.slice (some ⟨bg0, 0, none⟩) nn nn) (.slice (some ⟨bg1, 0, none⟩) sn sn) (.slice (some ⟨bg2, 0, none⟩) rn rn) (.slice (some ⟨bg3, 0, none⟩) ln ln) (.slice (some ⟨bg4, 0, none⟩) im im) (.slice (some ⟨bg5, 0, none⟩) tn tn)) := HBX.out.below hb5 (by omega)
    obtain ⟨z0, z1, z2, z3, z4, z5, z6⟩ := (HAt.out _ H5.out).cells
    obtain ⟨m0, m1, m2, m3, m4, m5, m6⟩ := HBX5.out.cells
    have H5d : Hid (Below Wb.heap.size Wb w5.drew) := H5.out.drew
    have HX5d : Hid (RdW w2.heap.size w3.heap.size w5.drew (some ⟨bg0, 0, none⟩) nn nn (some ⟨bg1, 0, none⟩) sn sn (some ⟨bg2, 0, none⟩) rn rn (some ⟨bg3, 0, none⟩) ln ln (some ⟨bg4, 0, none⟩) im im (some ⟨bg5, 0, none⟩) tn tn x) := HX5.out.below (Below.refl w5.heap.size w5).drew (by omega)
    have HBX5d : Hid (BoxW 64 w5.drew w3.heap.size k (.slice (some ⟨bg0, 0, none⟩) nn nn) (.slice (some ⟨bg1, 0, none⟩) sn sn) (.slice (some ⟨bg2, 0, none⟩) rn rn) (.slice (some ⟨bg3, 0, none⟩) ln ln) (.slice (some ⟨bg4, 0, none⟩) im im) (.slice (some ⟨bg5, 0, none⟩) tn tn)) := HBX5.out
    have s5d : w5.drew.heap.size = w5.heap.size := rfl
    clear hb5
    go_upto_region 10 with fail
    first | go_region_with (first
      | (go_at_call 50; refine (HTo.out w5.drew H5d.out).mono ?_; rintro e w6 ⟨qg0, qg1, qg2, qg3, qg4, qg5, rfl, hx6, hb6⟩; have HX6 : Hid (RdW w5.drew.heap.size w6.heap.size w6 (some ⟨qg0, 0, none⟩) nn nn (some ⟨qg1, 0, none⟩) sn sn (some ⟨qg2, 0, none⟩) rn rn (some ⟨qg3, 0, none⟩) ln ln (some ⟨qg4, 0, none⟩) im im (some ⟨qg5, 0, none⟩) tn tn x) := hx6; have H6 : Hid (Below Wb.heap.size Wb w6) := H5d.out.trans (hb6.mono H5d.out.size); have HY6 : Hid (RdW w2.heap.size w3.heap.size w6 (some ⟨bg0, 0, none⟩) nn nn (some ⟨bg1, 0, none⟩) sn sn (some ⟨bg2, 0, none⟩) rn rn (some ⟨bg3, 0, none⟩) ln ln (some ⟨bg4, 0, none⟩) im im (some ⟨bg5, 0, none⟩) tn tn x) := HX5d.out.below hb6 (by omega); have HS6 : Hid (w5.heap.size ≤ w6.heap.size) := hb6.size; have HBX6 := HBX5d.out.below hb6 (by omega); clear m0 m1 m2 m3 m4 m5 m6; obtain ⟨m0, m1, m2, m3, m4, m5, m6⟩ := HBX6.cells; clear hx6 hb6 HBX6)
      | (go_at_call 52; refine (eqW_any HY6.out HX6.out (by have := HS6.out; omega) (Nat.le_refl _) k).mono ?_; rintro e w7 ⟨rfl, hb7⟩; have H7 : Hid (Below Wb.heap.size Wb w7) := H6.out.trans (hb7.mono H6.out.size); clear hb7)) | fail
    all_goals
      go_wp2_with fail
      go_ret
      exact ⟨rfl, HBB.out.trans (H7.out.mono (by omega))⟩

set_option maxRecDepth 100000 in
theorem lifted (os : Os) (started : os.Started) (H : Type) (enc : TypeId × Value → H) :
    ReturnsInHanded {} Try.checked os 11 .any (Rows.fnExactWorldOkSpec.pre6 enc Try.prog Try.f11 Rows.fnExactWorldOkRow.domain false) (Rows.fnExactWorldOkSpec.post enc Try.prog Try.f11 false true false false) := by
  refine returnsInHanded_of_change (C := Try.checked) own started (by kernel_rfl) Try.func11
    (ChangeSpec.witness6 (enc := enc) (C := Try.checked) false ⟨#[], #[.agg #[.int .i64 0, .slice none 0 0, .slice none 0 0, .slice none 0 0, .slice none 0 0, .slice none 0 0, .slice none 0 0]], []⟩ 8 (by kernel_rfl) (by kernel_rfl) (by kernel_rfl) (by kernel_rfl)) ?_
  intro W base args ds gs before hval0 hW hcnd _
  have hval : ∀ (j : Nat) t v, Try.f11.params[j]? = some t → args[j]? = some v → Value.okWide Try.prog W .any base t v := hval0
  have hW' := hW
  obtain ⟨p, q, hA0, hV, rfl, hfz, hnd⟩ := hW
  have hA : DataW.TrodAll enc Try.prog W 0 (fun _ => true) true Try.f11.params.toList args.toList ds p := hA0
  rw [Try.params11] at hA hval
  obtain ⟨v0, vs0, d0, ds0, p0, q0, hargs, rfl, rfl, h0, r0⟩ := trodAll_cons hA
  obtain ⟨rfl, rfl, rfl⟩ := trodAll_nil r0
  obtain rfl : args = #[v0] := by cases args; simp_all
  obtain ⟨rfl, rfl⟩ := trodVars_none hV
  obtain ⟨cs0, rfl, _⟩ := okWide_struct Try.underlying61 (hval 0 61 v0 rfl rfl)
  have k0 := h0
  have lt0 : ∀ x ∈ p0, x.block < W.heap.size := by obtain ⟨m, hm⟩ := k0; exact DataW.trod_lt m _ _ _ hm
  obtain ⟨k, na, nn, nc, sa, sn, sc, ra, rn, rc, la, ln, lc, ia, im, ic, ta, tn, tc, x, hcs, hk, w0⟩ : ∃ k na nn nc sa sn sc ra rn rc la ln lc ia im ic ta tn tc x, cs0 = #[.int .i64 k, .slice na nn nc, .slice sa sn sc, .slice ra rn rc, .slice la ln lc, .slice ia im ic, .slice ta tn tc] ∧ WD.n x = k ∧ RdW 0 W.heap.size W na nn nc sa sn sc ra rn rc la ln lc ia im ic ta tn tc x := by
    obtain ⟨fuel, hf⟩ := h0
    obtain ⟨k, na, nn, nc, sa, sn, sc, ra, rn, rc, la, ln, lc, ia, im, ic, ta, tn, tc, x, hv, hk, hr⟩ := open_world (cs := cs0.toList) (by simpa [Value.cells] using hf)
    exact ⟨k, na, nn, nc, sa, sn, sc, ra, rn, rc, la, ln, lc, ia, im, ic, ta, tn, tc, x, by cases cs0; simp_all, hk, hr⟩
  subst hcs
  clear hA0 hval0
  refine (walk k hk W w0).mono fun e W' ⟨he, bel⟩ => ?_
  subst he
  exact ⟨_, rfl, _, _, _, [], _, [], hW', trodAll_mk1 (shut_bool Try.underlying4 _), (trodAll_cons_mk (Below.trod laidOut (by kernel_rfl) (of_decide_eq_true (by kernel_rfl)) k0 bel lt0) trodAll_mk0), rfl, bel.frame _, fun h => by cases h⟩

theorem over : Rows.fnExactWorldOkRow.holds Try.pinned (OpenSpec.ofChange Rows.fnExactWorldOkSpec) :=
  OpenClaim.holds_of_wide 11 Try.f11 rfl rfl rfl rfl rfl rfl rfl ⟨rfl, rfl, rfl, rfl, rfl⟩ rfl rfl rfl rfl rfl (by kernel_rfl) Try.func11 (by kernel_rfl)
    (of_decide_eq_true (by kernel_rfl)) (by unfold Func.isWrapper; first | (rw [if_pos (by decide +kernel)]; kernel_rfl) | (rw [if_neg (by decide +kernel)]; exact ⟨rfl, rfl⟩))
    (fun os started H enc _ => lifted os started H enc)

theorem proved : Rows.FnExactWorldOkSaid := over
#print axioms proved
end Go.Proofs.Ytephiilmbcminaa.fnExactWorldOk
namespace Go.Proofs.Ytephiilmbcminaa
theorem fnExactWorldOk_holds : Rows.FnExactWorldOkSaid := fnExactWorldOk.proved
end Go.Proofs.Ytephiilmbcminaa
