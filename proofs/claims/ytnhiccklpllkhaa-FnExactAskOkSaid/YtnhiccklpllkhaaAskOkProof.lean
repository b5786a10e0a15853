/- For every question the law FnExactAskOk answers true and the question reads behind the call as it did before: no condition. -/
import Derived.Test.YtnhiccklpllkhaaRows
import Derived.Test.YtnhiccklpllkhaaAskS
import Derived.Test.YtnhiccklpllkhaaAskI
import Derived.Test.YtnhiccklpllkhaaAskLaw1
import Derived.Test.YtnhiccklpllkhaaAskLaw2
import Derived.Test.YtnhiccklpllkhaaAskOpen
import Derived.WalkKit
import Derived.ProofKit
import Derived.OpenShut
import Derived.ShutString
import Derived.ChangeOld
import Derived.Below
import Derived.Deep.RegionHeld
namespace Go.Proofs.Ytnhiccklpllkhaa.fnExactAskOk
open Go.ChangeShapes Go.WideShapes Go.ChangeAt Go.RowKit Go.Deep
set_option linter.unusedVariables false

theorem own : ownKnob Try.prog.godebug = none := by kernel_rfl
theorem laidOut : laidOutB Try.prog = true := by kernel_rfl

set_option maxRecDepth 100000 in
set_option maxHeartbeats 8000000 in
theorem walk {dp : Nat} {c0 c1 c2 c3 d0 d1 d2 d3 : Value} {ra : Option Addr} {rn rc : Nat} {x : AK} (k : Int) (hk : k = x.kind) (w : World) (hR : RdAk 0 w.heap.size w dp c0 c1 c2 c3 d0 d1 d2 d3 ra rn rc x) :
    Calls Try.prog 7 #[.agg #[.int .i64 k, c0, c1, c2, c3, d0, d1, d2, d3, .slice ra rn rc]] w fun e w' => e = .returned (.bool true) ∧ Below w.heap.size w w' := by
  obtain ⟨Wb, hWb⟩ : ∃ Wb, Wb = w.alloc (.cells #[.int .i64 k, c0, c1, c2, c3, d0, d1, d2, d3, .slice ra rn rc] 52) := ⟨_, rfl⟩
  have HWb : Hid (Wb = w.alloc (.cells #[.int .i64 k, c0, c1, c2, c3, d0, d1, d2, d3, .slice ra rn rc] 52)) := hWb
  have hbb : Below w.heap.size w Wb := by rw [hWb]; exact (Below.refl _ _).alloc (Nat.le_refl _) _
  have HBB : Hid (Below w.heap.size w Wb) := hbb
  have hsb : Wb.heap.size = w.heap.size + 1 := by rw [hWb]; simp
  have HRb : Hid (RdAk 0 w.heap.size Wb dp c0 c1 c2 c3 d0 d1 d2 d3 ra rn rc x) := hR.below hbb (Nat.le_refl _)
  have hbx : BoxAk 52 Wb w.heap.size k c0 c1 c2 c3 d0 d1 d2 d3 (.slice ra rn rc) := by rw [hWb]; exact BoxAk.new _ w _ _ _ _ _ _ _ _ _ _
  have HAt : Hid (∀ W, Below Wb.heap.size Wb W → BoxAk 52 W w.heap.size k c0 c1 c2 c3 d0 d1 d2 d3 (.slice ra rn rc)) := fun W hW => hbx.below hW (by omega)
  have HK : Hid (k = x.kind) := hk
  obtain ⟨ok, hok⟩ : ∃ ok, ok = askOk x := ⟨_, rfl⟩
  have HOk : Hid (ok = askOk x) := hok
  have hokk : (ok != ok) = false := by simp
  obtain ⟨z0, z1, z2, z3, z4, z5, z6, z7, z8, z9⟩ := hbx.cells
  clear hR hbb hWb hbx hk hok
  go_enter Try.func7, Try.ntmps7
  go_wp2_with fail
  rw [← HWb.out]
  refine (szAk_any HRb.out (by omega) k).mono ?_
  rintro e w0 ⟨r, rfl, hbounds, hb⟩
  have HBo : Hid (¬ r < 0 → x.c.bulk ≤ 1048576 ∧ x.d.bulk ≤ 1048576 ∧ rn ≤ 1048576) := hbounds
  have H0 : Hid (Below Wb.heap.size Wb w0) := hb
  have s0 := hb.size
  clear z0 z1 z2 z3 z4 z5 z6 z7 z8 z9 hb hbounds
  obtain ⟨z0, z1, z2, z3, z4, z5, z6, z7, z8, z9⟩ := (HAt.out _ H0.out).cells
  by_cases hneg : r < 0
  · go_wp2_with fail
    go_ret
    exact ⟨rfl, HBB.out.trans (H0.out.mono (by omega))⟩
  · have HBd : Hid (x.c.bulk ≤ 1048576 ∧ x.d.bulk ≤ 1048576 ∧ rn ≤ 1048576) := HBo.out hneg
    have HTo : Hid (∀ W, Below Wb.heap.size Wb W → Calls Try.prog 32 #[.agg #[.int .i64 k, c0, c1, c2, c3, d0, d1, d2, d3, .slice ra rn rc]] W fun e w' => ∃ u0 u1 u2 u3 y0 y1 y2 y3 g0, e = .returned (.agg #[.int .i64 k, u0, u1, u2, u3, y0, y1, y2, y3, .slice (some ⟨g0, 0, none⟩) rn rn]) ∧
      RdAk W.heap.size w'.heap.size w' dp u0 u1 u2 u3 y0 y1 y2 y3 (some ⟨g0, 0, none⟩) rn rn x ∧ Below W.heap.size W w') := fun W hW => toAk_any (HRb.out.below hW (by omega)) (Nat.le_trans (by omega) hW.size) HBd.out.1 HBd.out.2.1 HBd.out.2.2 k
    go_wp2_with fail
    refine (HTo.out w0 H0.out).mono ?_
    rintro e w1 ⟨au0, au1, au2, au3, ay0, ay1, ay2, ay3, ag0, rfl, hx1, hb1⟩
    have H1 : Hid (Below Wb.heap.size Wb w1) := H0.out.trans (hb1.mono s0)
    have HX1 : Hid (RdAk w0.heap.size w1.heap.size w1 dp au0 au1 au2 au3 ay0 ay1 ay2 ay3 (some ⟨ag0, 0, none⟩) rn rn x) := hx1
    have s1 := hb1.size
    clear hx1 hb1 z0 z1 z2 z3 z4 z5 z6 z7 z8 z9
    go_wp2_with fail
    refine (specAskOk_any HX1.out (Nat.le_refl _) k HK.out).mono ?_
    rintro e w2 ⟨rfl, hb2⟩
    rw [← HOk.out]
    have H2 : Hid (Below Wb.heap.size Wb w2) := H1.out.trans (hb2.mono (by omega))
    have s2 := hb2.size
    clear hb2
    obtain ⟨z0, z1, z2, z3, z4, z5, z6, z7, z8, z9⟩ := (HAt.out _ H2.out).cells
    go_wp2_with fail
    refine (HTo.out w2 H2.out).mono ?_
    rintro e w3 ⟨bu0, bu1, bu2, bu3, by0, by1, by2, by3, bg0, rfl, hx3, hb3⟩
    obtain ⟨e0k, e1a, e1n, e1c, e2a, e2n, e2c, e3a, e3n, e3c, rfl, rfl, rfl, rfl⟩ := hx3.c.sh.form
    obtain ⟨f0k, f1a, f1n, f1c, f2a, f2n, f2c, f3a, f3n, f3c, rfl, rfl, rfl, rfl⟩ := hx3.d.sh.form
    have s3 := hb3.size
    obtain ⟨w4, hw4⟩ : ∃ w4, w4 = w3.alloc (.cells #[.int .i64 k, .int .i64 e0k, .slice e1a e1n e1c, .slice e2a e2n e2c, .slice e3a e3n e3c, .int .i64 f0k, .slice f1a f1n f1c, .slice f2a f2n f2c, .slice f3a f3n f3c, .slice (some ⟨bg0, 0, none⟩) rn rn] 56) := ⟨_, rfl⟩
    have HW4 : Hid (w4 = w3.alloc (.cells #[.int .i64 k, .int .i64 e0k, .slice e1a e1n e1c, .slice e2a e2n e2c, .slice e3a e3n e3c, .int .i64 f0k, .slice f1a f1n f1c, .slice f2a f2n f2c, .slice f3a f3n f3c, .slice (some ⟨bg0, 0, none⟩) rn rn] 56)) := hw4
    have hb4 : Below w3.heap.size w3 w4 := by rw [hw4]; exact (Below.refl _ _).alloc (Nat.le_refl _) _
    have s4 : w4.heap.size = w3.heap.size + 1 := by rw [hw4]; simp
    have H4 : Hid (Below Wb.heap.size Wb w4) := (H2.out.trans (hb3.mono (by omega))).trans (hb4.mono (by omega))
    have HX4 : Hid (RdAk w2.heap.size w3.heap.size w4 dp (.int .i64 e0k) (.slice e1a e1n e1c) (.slice e2a e2n e2c) (.slice e3a e3n e3c) (.int .i64 f0k) (.slice f1a f1n f1c) (.slice f2a f2n f2c) (.slice f3a f3n f3c) (some ⟨bg0, 0, none⟩) rn rn x) := hx3.below hb4 (Nat.le_refl _)
    have hbX : BoxAk 56 w4 w3.heap.size k (.int .i64 e0k) (.slice e1a e1n e1c) (.slice e2a e2n e2c) (.slice e3a e3n e3c) (.int .i64 f0k) (.slice f1a f1n f1c) (.slice f2a f2n f2c) (.slice f3a f3n f3c) (.slice (some ⟨bg0, 0, none⟩) rn rn) := by rw [hw4]; exact BoxAk.new _ w3 _ _ _ _ _ _ _ _ _ _
    have HBX : Hid (BoxAk 56 w4 w3.heap.size k (.int .i64 e0k) (.slice e1a e1n e1c) (.slice e2a e2n e2c) (.slice e3a e3n e3c) (.int .i64 f0k) (.slice f1a f1n f1c) (.slice f2a f2n f2c) (.slice f3a f3n f3c) (.slice (some ⟨bg0, 0, none⟩) rn rn)) := hbX
    clear hx3 hb3 hb4 hw4 z0 z1 z2 z3 z4 z5 z6 z7 z8 z9 hbX
    go_wp2_with fail
    rw [← HW4.out]
    refine (implAskOk_any HX4.out (by omega) HBd.out.1 HBd.out.2.1 k HK.out).mono ?_
    rintro e w5 ⟨rfl, hb5⟩
    rw [← HOk.out]
    have s5 := hb5.size
    have H5 : Hid (Below Wb.heap.size Wb w5) := H4.out.trans (hb5.mono (by omega))
    have HX5 : Hid (RdAk w2.heap.size w3.heap.size w5 dp (.int .i64 e0k) (.slice e1a e1n e1c) (.slice e2a e2n e2c) (.slice e3a e3n e3c) (.int .i64 f0k) (.slice f1a f1n f1c) (.slice f2a f2n f2c) (.slice f3a f3n f3c) (some ⟨bg0, 0, none⟩) rn rn x) := HX4.out.below hb5 (by omega)
    have HBX5 : Hid (BoxAk 56 w5 w3.heap.size k (.int .i64 e0k) (.slice e1a e1n e1c) (.slice e2a e2n e2c) (.slice e3a e3n e3c) (.int .i64 f0k) (.slice f1a f1n f1c) (.slice f2a f2n f2c) (.slice f3a f3n f3c) (.slice (some ⟨bg0, 0, none⟩) rn rn)) := HBX.out.below hb5 (by omega)
    obtain ⟨z0, z1, z2, z3, z4, z5, z6, z7, z8, z9⟩ := (HAt.out _ H5.out).cells
    obtain ⟨m0, m1, m2, m3, m4, m5, m6, m7, m8, m9⟩ := HBX5.out.cells
    have H5d : Hid (Below Wb.heap.size Wb w5.drew) := H5.out.drew
    have HX5d : Hid (RdAk w2.heap.size w3.heap.size w5.drew dp (.int .i64 e0k) (.slice e1a e1n e1c) (.slice e2a e2n e2c) (.slice e3a e3n e3c) (.int .i64 f0k) (.slice f1a f1n f1c) (.slice f2a f2n f2c) (.slice f3a f3n f3c) (some ⟨bg0, 0, none⟩) rn rn x) := HX5.out.below (Below.refl w5.heap.size w5).drew (by omega)
    have HBX5d : Hid (BoxAk 56 w5.drew w3.heap.size k (.int .i64 e0k) (.slice e1a e1n e1c) (.slice e2a e2n e2c) (.slice e3a e3n e3c) (.int .i64 f0k) (.slice f1a f1n f1c) (.slice f2a f2n f2c) (.slice f3a f3n f3c) (.slice (some ⟨bg0, 0, none⟩) rn rn)) := HBX5.out
    have s5d : w5.drew.heap.size = w5.heap.size := rfl
    clear hb5
    go_upto_region 10 with fail
    first | go_region_with (first
      | (go_at_call 32; refine (HTo.out w5.drew H5d.out).mono ?_; rintro e w6 ⟨qu0, qu1, qu2, qu3, qy0, qy1, qy2, qy3, qg0, rfl, hx6, hb6⟩; have HX6 : Hid (RdAk w5.drew.heap.size w6.heap.size w6 dp qu0 qu1 qu2 qu3 qy0 qy1 qy2 qy3 (some ⟨qg0, 0, none⟩) rn rn x) := hx6; have H6 : Hid (Below Wb.heap.size Wb w6) := H5d.out.trans (hb6.mono H5d.out.size); have HY6 : Hid (RdAk w2.heap.size w3.heap.size w6 dp (.int .i64 e0k) (.slice e1a e1n e1c) (.slice e2a e2n e2c) (.slice e3a e3n e3c) (.int .i64 f0k) (.slice f1a f1n f1c) (.slice f2a f2n f2c) (.slice f3a f3n f3c) (some ⟨bg0, 0, none⟩) rn rn x) := HX5d.out.below hb6 (by omega); have HS6 : Hid (w5.heap.size ≤ w6.heap.size) := hb6.size; have HBX6 := HBX5d.out.below hb6 (by omega); clear m0 m1 m2 m3 m4 m5 m6 m7 m8 m9; obtain ⟨m0, m1, m2, m3, m4, m5, m6, m7, m8, m9⟩ := HBX6.cells; clear hx6 hb6 HBX6)
      | (go_at_call 34; refine (eqAk_any HY6.out HX6.out (by have := HS6.out; omega) (Nat.le_refl _) k).mono ?_; rintro e w7 ⟨rfl, hb7⟩; have H7 : Hid (Below Wb.heap.size Wb w7) := H6.out.trans (hb7.mono H6.out.size); clear hb7)) | fail
    all_goals
      go_wp2_with fail
      go_ret
      exact ⟨rfl, HBB.out.trans (H7.out.mono (by omega))⟩

set_option maxRecDepth 100000 in
theorem lifted (os : Os) (started : os.Started) (H : Type) (enc : TypeId × Value → H) :
    ReturnsInHanded {} Try.checked os 7 .any (Rows.fnExactAskOkSpec.pre6 enc Try.prog Try.f7 Rows.fnExactAskOkRow.domain false) (Rows.fnExactAskOkSpec.post enc Try.prog Try.f7 false true false false) := by
  refine returnsInHanded_of_change (C := Try.checked) own started (by kernel_rfl) Try.func7
    (ChangeSpec.witness6 (enc := enc) (C := Try.checked) false ⟨#[], #[.agg #[.int .i64 0, .int .i64 0, .slice none 0 0, .slice none 0 0, .slice none 0 0, .int .i64 0, .slice none 0 0, .slice none 0 0, .slice none 0 0, .slice none 0 0]], []⟩ 8 (by kernel_rfl) (by kernel_rfl) (by kernel_rfl) (by kernel_rfl)) ?_
  intro W base args ds gs before hval0 hW hcnd _
  have hval : ∀ (j : Nat) t v, Try.f7.params[j]? = some t → args[j]? = some v → Value.okWide Try.prog W .any base t v := hval0
  have hW' := hW
  obtain ⟨p, q, hA0, hV, rfl, hfz, hnd⟩ := hW
  have hA : DataW.TrodAll enc Try.prog W 0 (fun _ => true) true Try.f7.params.toList args.toList ds p := hA0
  rw [Try.params7] at hA hval
  obtain ⟨v0, vs0, d0, ds0, p0, q0, hargs, rfl, rfl, h0, r0⟩ := trodAll_cons hA
  obtain ⟨rfl, rfl, rfl⟩ := trodAll_nil r0
  obtain rfl : args = #[v0] := by cases args; simp_all
  obtain ⟨rfl, rfl⟩ := trodVars_none hV
  obtain ⟨cs0, rfl, _⟩ := okWide_struct Try.underlying52 (hval 0 52 v0 rfl rfl)
  have k0 := h0
  have lt0 : ∀ x ∈ p0, x.block < W.heap.size := by obtain ⟨m, hm⟩ := k0; exact DataW.trod_lt m _ _ _ hm
  obtain ⟨dp, k, c0, c1, c2, c3, d0, d1, d2, d3, ra, rn, rc, x, hcs, hk, w0⟩ : ∃ dp k c0 c1 c2 c3 d0 d1 d2 d3 ra rn rc x, cs0 = #[.int .i64 k, c0, c1, c2, c3, d0, d1, d2, d3, .slice ra rn rc] ∧ k = AK.kind x ∧ RdAk 0 W.heap.size W dp c0 c1 c2 c3 d0 d1 d2 d3 ra rn rc x := by
    obtain ⟨fuel, hf⟩ := h0
    obtain ⟨dp, k, c0, c1, c2, c3, d0, d1, d2, d3, ra, rn, rc, x, hv, hk, hr⟩ := open_ask (cs := cs0.toList) (by simpa [Value.cells] using hf)
    exact ⟨dp, k, c0, c1, c2, c3, d0, d1, d2, d3, ra, rn, rc, x, by cases cs0; simp_all, hk, hr⟩
  subst hcs
  clear hA0 hval0
  refine (walk k hk W w0).mono fun e W' ⟨he, bel⟩ => ?_
  subst he
  exact ⟨_, rfl, _, _, _, [], _, [], hW', trodAll_mk1 (shut_bool Try.underlying4 _), (trodAll_cons_mk (Below.trod laidOut (by kernel_rfl) (of_decide_eq_true (by kernel_rfl)) k0 bel lt0) trodAll_mk0), rfl, bel.frame _, fun h => by cases h⟩

theorem over : Rows.fnExactAskOkRow.holds Try.pinned (OpenSpec.ofChange Rows.fnExactAskOkSpec) :=
  OpenClaim.holds_of_wide 7 Try.f7 rfl rfl rfl rfl rfl rfl rfl ⟨rfl, rfl, rfl, rfl, rfl⟩ rfl rfl rfl rfl rfl (by kernel_rfl) Try.func7 (by kernel_rfl)
    (of_decide_eq_true (by kernel_rfl)) (by unfold Func.isWrapper; first | (rw [if_pos (by decide +kernel)]; kernel_rfl) | (rw [if_neg (by decide +kernel)]; exact ⟨rfl, rfl⟩))
    (fun os started H enc _ => lifted os started H enc)

theorem proved : Rows.FnExactAskOkSaid := over
#print axioms proved
end Go.Proofs.Ytnhiccklpllkhaa.fnExactAskOk
namespace Go.Proofs.Ytnhiccklpllkhaa
theorem fnExactAskOk_holds : Rows.FnExactAskOkSaid := fnExactAskOk.proved
end Go.Proofs.Ytnhiccklpllkhaa
