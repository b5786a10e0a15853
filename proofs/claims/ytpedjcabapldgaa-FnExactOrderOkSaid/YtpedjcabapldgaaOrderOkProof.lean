/- For every order the law FnExactOrderOk answers true and the order reads behind the call as it did before: no condition. -/
import Derived.Test.YtpedjcabapldgaaRows
import Derived.Test.YtpedjcabapldgaaOrdOpen
import Derived.Test.YtpedjcabapldgaaOrdLaw2
import Derived.Test.YtpedjcabapldgaaOrdS
import Derived.Test.YtpedjcabapldgaaOrdI4
import Derived.WalkKit
import Derived.ProofKit
import Derived.OpenShut
import Derived.ShutString
import Derived.ChangeOld
import Derived.Below
import Derived.Deep.RegionHeld
namespace Go.Proofs.Ytpedjcabapldgaa.fnExactOrderOk
open Go.ChangeShapes Go.WideShapes Go.ChangeAt Go.RowKit Go.Deep
set_option linter.unusedVariables false

theorem own : ownKnob Try.prog.godebug = none := by kernel_rfl
theorem laidOut : laidOutB Try.prog = true := by kernel_rfl

set_option maxRecDepth 100000 in
set_option maxHeartbeats 8000000 in
theorem walk {ca : Option Addr} {cn cc : Nat} {ea : Option Addr} {en ec : Nat} {x : OD} (kx : Int) (hk : x.code = kx) (w : World) (hR : RdO 0 w.heap.size w ca cn cc ea en ec x) :
    Calls Try.prog 3 #[.agg #[.slice ca cn cc, .slice ea en ec, .int .i64 kx]] w fun e w' => e = .returned (.bool true) ∧ Below w.heap.size w w' := by
  obtain ⟨Wb, hWb⟩ : ∃ Wb, Wb = w.alloc (.cells #[.slice ca cn cc, .slice ea en ec, .int .i64 kx] 25) := ⟨_, rfl⟩
  have HWb : Hid (Wb = w.alloc (.cells #[.slice ca cn cc, .slice ea en ec, .int .i64 kx] 25)) := hWb
  have hbb : Below w.heap.size w Wb := by rw [hWb]; exact (Below.refl _ _).alloc (Nat.le_refl _) _
  have HBB : Hid (Below w.heap.size w Wb) := hbb
  have hsb : w.heap.size < Wb.heap.size := by rw [hWb]; simp
  have HRb : Hid (∀ W, Below Wb.heap.size Wb W → RdO 0 w.heap.size W ca cn cc ea en ec x) := fun W hW => (hR.below hbb (Nat.le_refl _)).below hW (by omega)
  have HRf : Hid (Below Wb.heap.size Wb Wb) := Below.refl _ _
  have hbx : BoxO 25 Wb w.heap.size (.slice ca cn cc) (.slice ea en ec) kx := by rw [hWb]; exact BoxO.new _ w _ _ _
  have HAt : Hid (∀ W, Below Wb.heap.size Wb W → BoxO 25 W w.heap.size (.slice ca cn cc) (.slice ea en ec) kx) := fun W hW => hbx.below hW (by omega)
  have HK : Hid (x.code = kx) := hk
  obtain ⟨ok, hok⟩ : ∃ ok, ok = orderB x := ⟨_, rfl⟩
  have HOk : Hid (ok = orderB x) := hok
  have hokk : (ok != ok) = false := by simp
  obtain ⟨z0, z1, z2⟩ := hbx.cells
  clear hR hbb hWb hbx hk hok
  go_enter Try.func3, Try.ntmps3
  go_wp2_with fail
  rw [← HWb.out]
  refine (szO_any (HRb.out _ HRf.out) (by omega) kx).mono ?_
  rintro e w0 ⟨r, rfl, hbounds, hb⟩
  have HBo : Hid (¬ r < 0 → BdO x cn en) := hbounds
  have H0 : Hid (Below Wb.heap.size Wb w0) := hb
  have s0 := hb.size
  clear z0 z1 z2 hb hbounds
  obtain ⟨z0, z1, z2⟩ := (HAt.out _ H0.out).cells
  by_cases hneg : r < 0
  · go_wp2_with fail
    go_ret
    exact ⟨rfl, HBB.out.trans (H0.out.mono (by omega))⟩
  · have HBd : Hid (BdO x cn en) := HBo.out hneg
    have HTo : Hid (∀ W, Below Wb.heap.size Wb W → Calls Try.prog 8 #[.agg #[.slice ca cn cc, .slice ea en ec, .int .i64 kx]] W fun e w' => ∃ g0 g1, e = .returned (.agg #[.slice (some ⟨g0, 0, none⟩) cn cn, .slice (some ⟨g1, 0, none⟩) en en, .int .i64 kx]) ∧ RdO W.heap.size w'.heap.size w' (some ⟨g0, 0, none⟩) cn cn (some ⟨g1, 0, none⟩) en en x ∧ Below W.heap.size W w') := fun W hW => toO_any (HRb.out W hW) (Nat.le_trans (by omega) hW.size) HBd.out kx
    go_wp2_with fail
    refine (HTo.out w0 H0.out).mono ?_
    rintro e w1 ⟨ag0, ag1, rfl, hx1, hb1⟩
    have H1 : Hid (Below Wb.heap.size Wb w1) := H0.out.trans (hb1.mono s0)
    have HX1 : Hid (RdO w0.heap.size w1.heap.size w1 (some ⟨ag0, 0, none⟩) cn cn (some ⟨ag1, 0, none⟩) en en x) := hx1
    have s1 := hb1.size
    clear hx1 hb1 z0 z1 z2
    go_wp2_with fail
    refine (specOrderOk_any HX1.out HK.out (Nat.le_refl _) s1 HBd.out).mono ?_
    rintro e w2 ⟨rfl, hb2⟩
    rw [← HOk.out]
    have H2 : Hid (Below Wb.heap.size Wb w2) := H1.out.trans (hb2.mono (by omega))
    have s2 := hb2.size
    clear hb2
    obtain ⟨z0, z1, z2⟩ := (HAt.out _ H2.out).cells
    go_wp2_with fail
    refine (HTo.out w2 H2.out).mono ?_
    rintro e w3 ⟨bg0, bg1, rfl, hx3, hb3⟩
    have s3 := hb3.size
    obtain ⟨w4, hw4⟩ : ∃ w4, w4 = w3.alloc (.cells #[.slice (some ⟨bg0, 0, none⟩) cn cn, .slice (some ⟨bg1, 0, none⟩) en en, .int .i64 kx] 30) := ⟨_, rfl⟩
    have HW4 : Hid (w4 = w3.alloc (.cells #[.slice (some ⟨bg0, 0, none⟩) cn cn, .slice (some ⟨bg1, 0, none⟩) en en, .int .i64 kx] 30)) := hw4
    have hb4 : Below w3.heap.size w3 w4 := by rw [hw4]; exact (Below.refl _ _).alloc (Nat.le_refl _) _
    have s4 : w3.heap.size < w4.heap.size := by rw [hw4]; simp
    have H4 : Hid (Below Wb.heap.size Wb w4) := (H2.out.trans (hb3.mono (by omega))).trans (hb4.mono (by omega))
    have HX4 : Hid (RdO w2.heap.size w3.heap.size w4 (some ⟨bg0, 0, none⟩) cn cn (some ⟨bg1, 0, none⟩) en en x) := hx3.below hb4 (Nat.le_refl _)
    have hbX : BoxO 30 w4 w3.heap.size (.slice (some ⟨bg0, 0, none⟩) cn cn) (.slice (some ⟨bg1, 0, none⟩) en en) kx := by rw [hw4]; exact BoxO.new _ w3 _ _ _
    have HBX : Hid (BoxO 30 w4 w3.heap.size (.slice (some ⟨bg0, 0, none⟩) cn cn) (.slice (some ⟨bg1, 0, none⟩) en en) kx) := hbX
    clear hx3 hb3 hb4 hw4 z0 z1 z2 hbX
    go_wp2_with fail
    rw [← HW4.out]
    refine (implOrderOk_any HX4.out HK.out (by omega) HBd.out).mono ?_
    rintro e w5 ⟨rfl, hb5⟩
    rw [← HOk.out]
    have s5 := hb5.size
    have H5 : Hid (Below Wb.heap.size Wb w5) := H4.out.trans (hb5.mono (by omega))
    have HX5 : Hid (RdO w2.heap.size w3.heap.size w5 (some ⟨bg0, 0, none⟩) cn cn (some ⟨bg1, 0, none⟩) en en x) := HX4.out.below hb5 (by omega)
    have HBX5 : Hid (BoxO 30 w5 w3.heap.size (.slice (some ⟨bg0, 0, none⟩) cn cn) (.slice (some ⟨bg1, 0, none⟩) en en) kx) := HBX.out.below hb5 (by omega)
    obtain ⟨z0, z1, z2⟩ := (HAt.out _ H5.out).cells
    obtain ⟨m0, m1, m2⟩ := HBX5.out.cells
    have H5d : Hid (Below Wb.heap.size Wb w5.drew) := H5.out.drew
    have HX5d : Hid (RdO w2.heap.size w3.heap.size w5.drew (some ⟨bg0, 0, none⟩) cn cn (some ⟨bg1, 0, none⟩) en en x) := HX5.out.below (Below.refl w5.heap.size w5).drew (by omega)
    have HBX5d : Hid (BoxO 30 w5.drew w3.heap.size (.slice (some ⟨bg0, 0, none⟩) cn cn) (.slice (some ⟨bg1, 0, none⟩) en en) kx) := HBX5.out
    have s5d : w5.heap.size ≤ w5.drew.heap.size := Nat.le_refl _
    clear hb5
    go_upto_region 10 with fail
    first | go_region_with (first
      | (go_at_call 8; refine (HTo.out w5.drew H5d.out).mono ?_; rintro e w6 ⟨qg0, qg1, rfl, hx6, hb6⟩; have HX6 : Hid (RdO w5.drew.heap.size w6.heap.size w6 (some ⟨qg0, 0, none⟩) cn cn (some ⟨qg1, 0, none⟩) en en x) := hx6; have H6 : Hid (Below Wb.heap.size Wb w6) := H5d.out.trans (hb6.mono H5d.out.size); have HY6 : Hid (RdO w2.heap.size w3.heap.size w6 (some ⟨bg0, 0, none⟩) cn cn (some ⟨bg1, 0, none⟩) en en x) := HX5d.out.below hb6 (by omega); have HS6 : Hid (w5.heap.size ≤ w6.heap.size) := hb6.size; have HBX6 := HBX5d.out.below hb6 (by omega); clear m0 m1 m2; obtain ⟨m0, m1, m2⟩ := HBX6.cells; clear hx6 hb6 HBX6)
      | (go_at_call 10; refine (eqO_any HY6.out HX6.out (by have := HS6.out; omega) (Nat.le_refl _) kx).mono ?_; rintro e w7 ⟨rfl, hb7⟩; have H7 : Hid (Below Wb.heap.size Wb w7) := H6.out.trans (hb7.mono H6.out.size); clear hb7)) | fail
    all_goals
      go_wp2_with fail
      go_ret
      exact ⟨rfl, HBB.out.trans (H7.out.mono (by omega))⟩

set_option maxRecDepth 100000 in
theorem lifted (os : Os) (started : os.Started) (H : Type) (enc : TypeId × Value → H) :
    ReturnsInHanded {} Try.checked os 3 .any (Rows.fnExactOrderOkSpec.pre6 enc Try.prog Try.f3 Rows.fnExactOrderOkRow.domain false) (Rows.fnExactOrderOkSpec.post enc Try.prog Try.f3 false true false false) := by
  refine returnsInHanded_of_change (C := Try.checked) own started (by kernel_rfl) Try.func3
    (ChangeSpec.witness6 (enc := enc) (C := Try.checked) false ⟨#[], #[.agg #[.slice none 0 0, .slice none 0 0, .int .i64 0]], []⟩ 8 (by kernel_rfl) (by kernel_rfl) (by kernel_rfl) (by kernel_rfl)) ?_
  intro W base args ds gs before hval0 hW hcnd _
  have hval : ∀ (j : Nat) t v, Try.f3.params[j]? = some t → args[j]? = some v → Value.okWide Try.prog W .any base t v := hval0
  have hW' := hW
  obtain ⟨p, q, hA0, hV, rfl, hfz, hnd⟩ := hW
  have hA : DataW.TrodAll enc Try.prog W 0 (fun _ => true) true Try.f3.params.toList args.toList ds p := hA0
  rw [Try.params3] at hA hval
  obtain ⟨v0, vs0, d0, ds0, p0, q0, hargs, rfl, rfl, h0, r0⟩ := trodAll_cons hA
  obtain ⟨rfl, rfl, rfl⟩ := trodAll_nil r0
  obtain rfl : args = #[v0] := by cases args; simp_all
  obtain ⟨rfl, rfl⟩ := trodVars_none hV
  obtain ⟨cs0, rfl, _⟩ := okWide_struct Try.underlying25 (hval 0 25 v0 rfl rfl)
  have k0 := h0
  have lt0 : ∀ x ∈ p0, x.block < W.heap.size := by obtain ⟨m, hm⟩ := k0; exact DataW.trod_lt m _ _ _ hm
  obtain ⟨ca, cn, cc, ea, en, ec, kx, x, hcs, hk, w0⟩ : ∃ ca cn cc ea en ec kx x, cs0 = #[.slice ca cn cc, .slice ea en ec, .int .i64 kx] ∧ OD.code x = kx ∧ RdO 0 W.heap.size W ca cn cc ea en ec x := by
    obtain ⟨fuel, hf⟩ := h0
    obtain ⟨ca, cn, cc, ea, en, ec, kx, x, hv, hk, hr⟩ := open_order (cs := cs0.toList) (by simpa [Value.cells] using hf)
    exact ⟨ca, cn, cc, ea, en, ec, kx, x, by cases cs0; simp_all, hk, hr⟩
  subst hcs
  clear hA0 hval0
  refine (walk kx hk W w0).mono fun e W' ⟨he, bel⟩ => ?_
  subst he
  exact ⟨_, rfl, _, _, _, [], _, [], hW', trodAll_mk1 (shut_bool Try.underlying4 _), (trodAll_cons_mk (Below.trod laidOut (by kernel_rfl) (of_decide_eq_true (by kernel_rfl)) k0 bel lt0) trodAll_mk0), rfl, bel.frame _, fun h => by cases h⟩

theorem over : Rows.fnExactOrderOkRow.holds Try.pinned (OpenSpec.ofChange Rows.fnExactOrderOkSpec) :=
  OpenClaim.holds_of_wide 3 Try.f3 rfl rfl rfl rfl rfl rfl rfl ⟨rfl, rfl, rfl, rfl, rfl⟩ rfl rfl rfl rfl rfl (by kernel_rfl) Try.func3 (by kernel_rfl)
    (of_decide_eq_true (by kernel_rfl)) (by unfold Func.isWrapper; first | (rw [if_pos (by decide +kernel)]; kernel_rfl) | (rw [if_neg (by decide +kernel)]; exact ⟨rfl, rfl⟩))
    (fun os started H enc _ => lifted os started H enc)

theorem proved : Rows.FnExactOrderOkSaid := over
#print axioms proved
end Go.Proofs.Ytpedjcabapldgaa.fnExactOrderOk
namespace Go.Proofs.Ytpedjcabapldgaa
theorem fnExactOrderOk_holds : Rows.FnExactOrderOkSaid := fnExactOrderOk.proved
end Go.Proofs.Ytpedjcabapldgaa
