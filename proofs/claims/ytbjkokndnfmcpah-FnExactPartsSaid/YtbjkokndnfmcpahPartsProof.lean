/- For every concept the law FnExactParts answers true and the concept reads behind the call as it did before: no condition. -/
import Derived.Test.YtbjkokndnfmcpahRows
import Derived.Test.YtbjkokndnfmcpahConParts
import Derived.Test.YtbjkokndnfmcpahConSz
import Derived.Test.YtbjkokndnfmcpahConEq
import Derived.Test.YtbjkokndnfmcpahConTo
import Derived.Test.YtbjkokndnfmcpahConOpen
import Derived.Test.YtbjkokndnfmcpahLawBox
import Derived.WalkKit
import Derived.ProofKit
import Derived.OpenShut
import Derived.ShutString
import Derived.ChangeOld
import Derived.Below
namespace Go.Proofs.Ytbjkokndnfmcpah.fnExactParts
open Go.ChangeShapes Go.WideShapes Go.ChangeAt Go.RowKit
set_option linter.unusedVariables false

theorem own : ownKnob Try.prog.godebug = none := by kernel_rfl
theorem laidOut : laidOutB Try.prog = true := by kernel_rfl

set_option maxRecDepth 100000 in
set_option maxHeartbeats 2000000 in
theorem walk (d : Nat) (v0 v1 v2 v3 : Value) (c : CN) (w : World) (hR : RdC 0 w.heap.size w d (.agg #[v0, v1, v2, v3]) c) :
    Calls Try.prog 5 #[.agg #[v0, v1, v2, v3]] w fun e w' => e = .returned (.bool true) ∧ Below w.heap.size w w' := by
  obtain ⟨Wb, hWb⟩ : ∃ Wb, Wb = w.alloc (.cells #[v0, v1, v2, v3] 25) := ⟨_, rfl⟩
  have HWb : Hid (Wb = w.alloc (.cells #[v0, v1, v2, v3] 25)) := hWb
  have hbb : Below w.heap.size w Wb := by rw [hWb]; exact (Below.refl _ _).alloc (Nat.le_refl _) _
  have HBB : Hid (Below w.heap.size w Wb) := hbb
  have hsb : Wb.heap.size = w.heap.size + 1 := by rw [hWb]; simp
  have HRb : Hid (RdC 0 w.heap.size Wb d (.agg #[v0, v1, v2, v3]) c) := hR.below hbb (Nat.le_refl _)
  have hbx : BoxL Wb w.heap.size v0 v1 v2 v3 := by rw [hWb]; exact BoxL.new w _ _ _ _
  have HBx : Hid (BoxL Wb w.heap.size v0 v1 v2 v3) := hbx
  obtain ⟨b0, hb0⟩ : ∃ b, b = partsN c := ⟨_, rfl⟩
  have HOk : Hid (b0 = partsN c) := hb0
  have hbb0 : (b0 != b0) = false := by simp
  obtain ⟨r, hr⟩ : ∃ r, r = szRes 1048576 c.bulk := ⟨_, rfl⟩
  have HSz : Hid (r = szRes 1048576 c.bulk) := hr
  obtain ⟨k0, k1, k2, k3⟩ := hbx.cells
  clear hR hbb hWb hbx hb0 hr
  go_enter Try.func5, Try.ntmps5
  go_wp2_with fail
  rw [← HWb.out]
  refine (szC_any d _ c 1048576 Wb 0 w.heap.size HRb.out (by omega) (by omega) (by omega)).mono ?_
  rintro e w0 ⟨rfl, hb⟩
  rw [← HSz.out]
  have H0 : Hid (Below Wb.heap.size Wb w0) := hb
  have HBx0 : Hid (BoxL w0 w.heap.size v0 v1 v2 v3) := HBx.out.below hb (by omega)
  clear k0 k1 k2 k3
  obtain ⟨k0, k1, k2, k3⟩ := HBx0.out.cells
  have s0 := hb.size
  clear hb
  by_cases hneg : r < 0
  · go_wp2_with fail
    go_ret
    exact ⟨rfl, HBB.out.trans (H0.out.mono (by omega))⟩
  · have HBk : Hid (c.bulk ≤ 1048576) := by have := szRes_pos (by rw [← HSz.out]; exact hneg); unfold Hid; omega
    go_wp2_with fail
    refine (toC_any d _ c w0 0 w.heap.size (HRb.out.below H0.out (by omega)) (by omega) HBk.out).mono ?_
    rintro e w1 ⟨x1, rfl, hx1, _, hb1⟩
    have H1 : Hid (Below Wb.heap.size Wb w1) := H0.out.trans (hb1.mono s0)
    have HX1 : Hid (RdC w0.heap.size w1.heap.size w1 d x1 c) := hx1
    have s1 := hb1.size
    clear hx1 hb1 k0 k1 k2 k3
    go_wp2_with fail
    refine (specParts_any HX1.out (Nat.le_refl _) HBk.out).mono ?_
    rintro e w2 ⟨rfl, hb2⟩
    rw [← HOk.out]
    have H2 : Hid (Below Wb.heap.size Wb w2) := H1.out.trans (hb2.mono (by omega))
    have HBx2 : Hid (BoxL w2 w.heap.size v0 v1 v2 v3) := HBx.out.below H2.out (by omega)
    obtain ⟨k0, k1, k2, k3⟩ := HBx2.out.cells
    have s2 := hb2.size
    clear hb2
    go_wp2_with fail
    refine (toC_any d _ c w2 0 w.heap.size (HRb.out.below H2.out (by omega)) (by omega) HBk.out).mono ?_
    rintro e w3 ⟨x3, rfl, hx3, _, hb3⟩
    obtain ⟨xk, xna, xnn, xnc, xra, xrn, xrc, xka, xkn, xkc, rfl⟩ := hx3.shape
    obtain ⟨w4, hw4⟩ : ∃ w4, w4 = w3.alloc (.cells #[.int .i64 xk, .slice xna xnn xnc, .slice xra xrn xrc, .slice xka xkn xkc] 29) := ⟨_, rfl⟩
    have HW4 : Hid (w4 = w3.alloc (.cells #[.int .i64 xk, .slice xna xnn xnc, .slice xra xrn xrc, .slice xka xkn xkc] 29)) := hw4
    have hb4 : Below w3.heap.size w3 w4 := by rw [hw4]; exact (Below.refl _ _).alloc (Nat.le_refl _) _
    have s3 := hb3.size
    have s4 : w4.heap.size = w3.heap.size + 1 := by rw [hw4]; simp
    have H4 : Hid (Below Wb.heap.size Wb w4) := (H2.out.trans (hb3.mono (by omega))).trans (hb4.mono (by omega))
    have HX4 : Hid (RdC w2.heap.size w3.heap.size w4 d (.agg #[.int .i64 xk, .slice xna xnn xnc, .slice xra xrn xrc, .slice xka xkn xkc]) c) := hx3.below hb4 (Nat.le_refl _)
    have HBX : Hid (BoxC w4 w3.heap.size (.int .i64 xk) (.slice xna xnn xnc) (.slice xra xrn xrc) (.slice xka xkn xkc)) := by unfold Hid; rw [hw4]; exact BoxC.new w3 _ _ _ _
    obtain ⟨m0, m1, m2, m3⟩ := HBX.out.cells
    clear hx3 hb3 hb4 hw4 k0 k1 k2 k3
    go_wp2_with fail
    rw [← HW4.out]
    refine (implParts_any HX4.out (by omega) HBk.out).mono ?_
    rintro e w5 ⟨rfl, hb5⟩
    rw [← HOk.out]
    have H5 : Hid (Below Wb.heap.size Wb w5) := H4.out.trans (hb5.mono (by omega))
    have HX5 : Hid (RdC w2.heap.size w3.heap.size w5 d (.agg #[.int .i64 xk, .slice xna xnn xnc, .slice xra xrn xrc, .slice xka xkn xkc]) c) := HX4.out.below hb5 (by omega)
    have HBX5 : Hid (BoxC w5 w3.heap.size (.int .i64 xk) (.slice xna xnn xnc) (.slice xra xrn xrc) (.slice xka xkn xkc)) := HBX.out.below hb5 (by omega)
    have HBx5 : Hid (BoxL w5 w.heap.size v0 v1 v2 v3) := HBx.out.below H5.out (by omega)
    clear m0 m1 m2 m3
    obtain ⟨k0, k1, k2, k3⟩ := HBx5.out.cells
    obtain ⟨m0, m1, m2, m3⟩ := HBX5.out.cells
    have s5 := hb5.size
    clear hb5
    go_wp2_with fail
    have H5d : Hid (Below Wb.heap.size Wb w5.drew) := H5.out.drew
    have HX5d : Hid (RdC w2.heap.size w3.heap.size w5.drew d (.agg #[.int .i64 xk, .slice xna xnn xnc, .slice xra xrn xrc, .slice xka xkn xkc]) c) := RdC.same (w := w5) (w' := w5.drew) (fun _ _ _ => rfl) HX5.out
    first | go_region_with (first | (go_at_call 11; refine (toC_any d _ c w5.drew 0 w.heap.size (HRb.out.below H5d.out (by omega)) (Nat.le_trans (Nat.le_of_lt (by omega)) H5d.out.size) HBk.out).mono ?_; rintro e w6 ⟨x6, rfl, hx6, _, hb6⟩; have HX6 : Hid (RdC w5.drew.heap.size w6.heap.size w6 d x6 c) := hx6; have H6 : Hid (Below Wb.heap.size Wb w6) := H5d.out.trans (hb6.mono H5d.out.size); have HY6 : Hid (RdC w2.heap.size w3.heap.size w6 d (.agg #[.int .i64 xk, .slice xna xnn xnc, .slice xra xrn xrc, .slice xka xkn xkc]) c) := HX5d.out.below hb6 (show w3.heap.size ≤ w5.heap.size by omega); have HS6 : Hid (w5.heap.size ≤ w6.heap.size) := hb6.size; have HBX6 : Hid (BoxC w6 w3.heap.size (.int .i64 xk) (.slice xna xnn xnc) (.slice xra xrn xrc) (.slice xka xkn xkc)) := HBX5.out.below (W := w5.drew) hb6 (show w3.heap.size < w5.heap.size by omega); obtain ⟨n0, n1, n2, n3⟩ := HBX6.out.cells; clear hx6 hb6) | (go_at_call 13; refine (eqC_any d _ _ c d w6 w2.heap.size w3.heap.size w5.drew.heap.size w6.heap.size HY6.out HX6.out (by have := HS6.out; omega) (Nat.le_refl _)).mono ?_; rintro e w7 ⟨rfl, hb7⟩; have H7 : Hid (Below Wb.heap.size Wb w7) := H6.out.trans (hb7.mono H6.out.size); clear hb7)) | fail
    all_goals
      go_wp2_with fail
      go_ret
      exact ⟨rfl, HBB.out.trans (H7.out.mono (by omega))⟩

set_option maxRecDepth 100000 in
theorem lifted (os : Os) (started : os.Started) (H : Type) (enc : TypeId × Value → H) :
    ReturnsInHanded {} Try.checked os 5 .any (Rows.fnExactPartsSpec.pre6 enc Try.prog Try.f5 Rows.fnExactPartsRow.domain false) (Rows.fnExactPartsSpec.post enc Try.prog Try.f5 false true false false) := by
  refine returnsInHanded_of_change (C := Try.checked) own started (by kernel_rfl) Try.func5
    (ChangeSpec.witness6 (enc := enc) (C := Try.checked) false ⟨#[], #[.agg #[.int .i64 0, .slice none 0 0, .slice none 0 0, .slice none 0 0]], []⟩ 8 (by kernel_rfl) (by kernel_rfl) (by kernel_rfl) (by kernel_rfl)) ?_
  intro W base args ds gs before hval0 hW hcnd _
  have hval : ∀ (j : Nat) t v, Try.f5.params[j]? = some t → args[j]? = some v → Value.okWide Try.prog W .any base t v := hval0
  have hW' := hW
  obtain ⟨p, q, hA0, hV, rfl, hfz, hnd⟩ := hW
  have hA : DataW.TrodAll enc Try.prog W 0 (fun _ => true) true Try.f5.params.toList args.toList ds p := hA0
  rw [Try.params5] at hA hval
  obtain ⟨v0, vs0, d0, ds0, p0, q0, hargs, rfl, rfl, h0, r0⟩ := trodAll_cons hA
  obtain ⟨rfl, rfl, rfl⟩ := trodAll_nil r0
  obtain rfl : args = #[v0] := by cases args; simp_all
  obtain ⟨rfl, rfl⟩ := trodVars_none hV
  obtain ⟨cs0, rfl, _⟩ := okWide_struct Try.underlying25 (hval 0 25 v0 rfl rfl)
  have k0 := h0
  have lt0 : ∀ x ∈ p0, x.block < W.heap.size := by obtain ⟨m, hm⟩ := k0; exact DataW.trod_lt m _ _ _ hm
  obtain ⟨dd, x0, x1, x2, x3, c, hcs, w0⟩ : ∃ dd x0 x1 x2 x3 c, cs0 = #[x0, x1, x2, x3] ∧ RdC 0 W.heap.size W dd (.agg #[x0, x1, x2, x3]) c := by
    obtain ⟨fuel, hf⟩ := h0
    obtain ⟨x0, x1, x2, x3, c, hv, hr⟩ := open_con fuel fuel cs0.toList _ (Nat.le_refl _) (by simpa [Value.cells] using hf)
    exact ⟨fuel, x0, x1, x2, x3, c, by cases cs0; simp_all, hr⟩
  subst hcs
  clear hA0 hval0
  refine (walk dd x0 x1 x2 x3 c W w0).mono fun e W' ⟨he, bel⟩ => ?_
  subst he
  exact ⟨_, rfl, _, _, _, [], _, [], hW', trodAll_mk1 (shut_bool Try.underlying4 _), (trodAll_cons_mk (Below.trod laidOut (by kernel_rfl) (of_decide_eq_true (by kernel_rfl)) k0 bel lt0) trodAll_mk0), rfl, bel.frame _, fun h => by cases h⟩

theorem over : Rows.fnExactPartsRow.holds Try.pinned (OpenSpec.ofChange Rows.fnExactPartsSpec) :=
  OpenClaim.holds_of_wide 5 Try.f5 rfl rfl rfl rfl rfl rfl rfl ⟨rfl, rfl, rfl, rfl, rfl⟩ rfl rfl rfl rfl rfl (by kernel_rfl) Try.func5 (by kernel_rfl)
    (of_decide_eq_true (by kernel_rfl)) (by unfold Func.isWrapper; first | (rw [if_pos (by decide +kernel)]; kernel_rfl) | (rw [if_neg (by decide +kernel)]; exact ⟨rfl, rfl⟩))
    (fun os started H enc _ => lifted os started H enc)

theorem proved : Rows.FnExactPartsSaid := over
#print axioms proved
end Go.Proofs.Ytbjkokndnfmcpah.fnExactParts
namespace Go.Proofs.Ytbjkokndnfmcpah
theorem fnExactParts_holds : Rows.FnExactPartsSaid := fnExactParts.proved
end Go.Proofs.Ytbjkokndnfmcpah
