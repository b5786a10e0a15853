/- For every Cls the law FnExactClsOk answers true and the Cls reads behind the call as it did before, the library's tables lying as the program's text lays them (a tied card): no other condition. -/
import Derived.Test.YteeofekpiiahdaaDoorRows
import Derived.Test.YteeofekpiiahdaaDoorCards
import Derived.Test.YteeofekpiiahdaaDoorTie
import Derived.Test.YteeofekpiiahdaaDoorClsTab
import Derived.Test.YteeofekpiiahdaaDoorNOpen
import Derived.Test.YteeofekpiiahdaaDoorNLaw
import Derived.Test.YteeofekpiiahdaaDoorClsS3
import Derived.Test.YteeofekpiiahdaaDoorClsI3
import Derived.WalkKit
import Derived.ProofKit
import Derived.OpenShut
import Derived.ShutString
import Derived.ChangeOld
import Derived.Below
import Derived.Deep.RegionHeld3
import Derived.SevenTiedAt
namespace Go.Proofs.YteeofekpiiahdaaDoor.fnExactClsOk
open Go.ChangeShapes Go.WideShapes Go.ChangeAt Go.RowKit Go.Deep
set_option linter.unusedVariables false

theorem own : ownKnob Tryd.prog.godebug = none := by kernel_rfl
theorem laidOut : laidOutB Tryd.prog = true := by kernel_rfl

set_option maxRecDepth 100000 in
set_option maxHeartbeats 8000000 in
theorem walk {d : Nat} {aa : Option Addr} {an ac : Nat} {ra : Option Addr} {rn rc : Nat} {wa : Option Addr} {wn wc : Nat} {la : Option Addr} {ln lc : Nat} {s : CS} (w : World) (hR : RdS 0 w.heap.size w d aa an ac ra rn rc wa wn wc la ln lc s) (hT : TabD w) (hg : 2 < w.heap.size) :
    Calls Tryd.prog 3 #[.agg #[.slice aa an ac, .slice ra rn rc, .slice wa wn wc, .slice la ln lc]] w fun e w' => e = .returned (.bool true) ∧ Below w.heap.size w w' := by
  obtain ⟨Wb, hWb⟩ : ∃ Wb, Wb = w.alloc (.cells #[.slice aa an ac, .slice ra rn rc, .slice wa wn wc, .slice la ln lc] 26) := ⟨_, rfl⟩
  have HWb : Hid (Wb = w.alloc (.cells #[.slice aa an ac, .slice ra rn rc, .slice wa wn wc, .slice la ln lc] 26)) := hWb
  have hbb : Below w.heap.size w Wb := by rw [hWb]; exact (Below.refl _ _).alloc (Nat.le_refl _) _
  have HBB : Hid (Below w.heap.size w Wb) := hbb
  have hsb : w.heap.size ≤ Wb.heap.size := hbb.size
  have HRb : Hid (∀ W, Below Wb.heap.size Wb W → RdS 0 w.heap.size W d aa an ac ra rn rc wa wn wc la ln lc s ∧ w.heap.size ≤ W.heap.size) := fun W hW => ⟨(hR.below hbb (Nat.le_refl _)).below hW hsb, Nat.le_trans hsb hW.size⟩
  have HTb : Hid (∀ W, Below Wb.heap.size Wb W → TabD W ∧ 2 < W.heap.size) := fun W hW => ⟨(hT.below hbb hg).below hW (by omega), by have := hW.size; omega⟩
  have HRf : Hid (Below Wb.heap.size Wb Wb) := Below.refl _ _
  have hbx : Blk Wb w.heap.size 26 (.slice aa an ac) (.slice ra rn rc) (.slice wa wn wc) (.slice la ln lc) := by rw [hWb]; exact Blk.alloc_new w _ _ _ _ _ _ rfl
  have HAt : Hid (∀ W, Below Wb.heap.size Wb W → Blk W w.heap.size 26 (.slice aa an ac) (.slice ra rn rc) (.slice wa wn wc) (.slice la ln lc)) := fun W hW => hbx.below hW hbx.lt
  obtain ⟨ok, hok⟩ : ∃ ok, ok = clsB s := ⟨_, rfl⟩
  have HOk : Hid (ok = clsB s) := hok
  have hokk : (ok != ok) = false := by simp
  obtain ⟨z0, z1, z2, z3, _⟩ := hbx.cells
  clear hR hbb hWb hbx hok hT
  go_enter Tryd.func3, Tryd.ntmps3
  go_wp2_with fail
  rw [← HWb.out]
  refine (szS_any (HRb.out _ HRf.out).1 (HRb.out _ HRf.out).2).mono ?_
  rintro e w0 ⟨q, rfl, hq1, hq, hb⟩
  have HQ : Hid (¬ q < 0 → FitS s an rn wn ln) := hq
  have H0 : Hid (Below Wb.heap.size Wb w0) := hb
  have s0 := hb.size
  clear z0 z1 z2 z3 hb hq
  obtain ⟨z0, z1, z2, z3, _⟩ := (HAt.out _ H0.out).cells
  by_cases hneg : q < 0
  · go_wp2_with fail
    go_ret
    exact ⟨rfl, HBB.out.trans (H0.out.mono hsb)⟩
  · have hfit : FitS s an rn wn ln := HQ.out hneg
    have HFit : Hid (FitS s an rn wn ln) := hfit
    have HTo : Hid (∀ W, Below Wb.heap.size Wb W → Calls Tryd.prog 7 #[.agg #[.slice aa an ac, .slice ra rn rc, .slice wa wn wc, .slice la ln lc]] W fun e w' => ∃ g0 g1 g2 g3, e = .returned (.agg #[.slice (some ⟨g0, 0, none⟩) an an, .slice (some ⟨g1, 0, none⟩) rn rn, .slice (some ⟨g2, 0, none⟩) wn wn, .slice (some ⟨g3, 0, none⟩) ln ln]) ∧ RdS W.heap.size w'.heap.size w' d (some ⟨g0, 0, none⟩) an an (some ⟨g1, 0, none⟩) rn rn (some ⟨g2, 0, none⟩) wn wn (some ⟨g3, 0, none⟩) ln ln s ∧ Below W.heap.size W w') := fun W hW => toS_any (HRb.out _ hW).1 (HRb.out _ hW).2 hfit
    clear hfit
    go_wp2_with fail
    refine (HTo.out w0 H0.out).mono ?_
    rintro e w1 ⟨g01, g11, g21, g31, rfl, hx1, hb1⟩
    have H1 : Hid (Below Wb.heap.size Wb w1) := H0.out.trans (hb1.mono s0)
    have HX1 : Hid (RdS w0.heap.size w1.heap.size w1 d (some ⟨g01, 0, none⟩) an an (some ⟨g11, 0, none⟩) rn rn (some ⟨g21, 0, none⟩) wn wn (some ⟨g31, 0, none⟩) ln ln s) := hx1
    have s1 := hb1.size
    clear hx1 hb1 z0 z1 z2 z3
    go_wp2_with fail
    refine (specClsOk_any HX1.out (Nat.le_refl _) HFit.out.1.1).mono ?_
    rintro e w2 ⟨rfl, hb2⟩
    rw [← HOk.out]
    have H2 : Hid (Below Wb.heap.size Wb w2) := H1.out.trans (hb2.mono (by omega))
    have s2 := hb2.size
    clear hb2
    obtain ⟨z0, z1, z2, z3, _⟩ := (HAt.out _ H2.out).cells
    go_wp2_with fail
    refine (HTo.out w2 H2.out).mono ?_
    rintro e w3 ⟨g03, g13, g23, g33, rfl, hx3, hb3⟩
    have s3 := hb3.size
    obtain ⟨w4, hw4⟩ : ∃ w4, w4 = w3.alloc (.cells #[.slice (some ⟨g03, 0, none⟩) an an, .slice (some ⟨g13, 0, none⟩) rn rn, .slice (some ⟨g23, 0, none⟩) wn wn, .slice (some ⟨g33, 0, none⟩) ln ln] 32) := ⟨_, rfl⟩
    have HW4 : Hid (w4 = w3.alloc (.cells #[.slice (some ⟨g03, 0, none⟩) an an, .slice (some ⟨g13, 0, none⟩) rn rn, .slice (some ⟨g23, 0, none⟩) wn wn, .slice (some ⟨g33, 0, none⟩) ln ln] 32)) := hw4
    have hb4 : Below w3.heap.size w3 w4 := by rw [hw4]; exact (Below.refl _ _).alloc (Nat.le_refl _) _
    have s4 := hb4.size
    have s4' : w3.heap.size < w4.heap.size := by rw [hw4]; simp
    have H4 : Hid (Below Wb.heap.size Wb w4) := (H2.out.trans (hb3.mono (by omega))).trans (hb4.mono (by omega))
    have HX4 : Hid (∀ V, Below w4.heap.size w4 V → RdS w2.heap.size w3.heap.size V d (some ⟨g03, 0, none⟩) an an (some ⟨g13, 0, none⟩) rn rn (some ⟨g23, 0, none⟩) wn wn (some ⟨g33, 0, none⟩) ln ln s) := fun V hV => (hx3.below hb4 (Nat.le_refl _)).below hV (by omega)
    have hbX : Blk w4 w3.heap.size 32 (.slice (some ⟨g03, 0, none⟩) an an) (.slice (some ⟨g13, 0, none⟩) rn rn) (.slice (some ⟨g23, 0, none⟩) wn wn) (.slice (some ⟨g33, 0, none⟩) ln ln) := by rw [hw4]; exact Blk.alloc_new w3 _ _ _ _ _ _ rfl
    have HBX : Hid (∀ V, Below w4.heap.size w4 V → Blk V w3.heap.size 32 (.slice (some ⟨g03, 0, none⟩) an an) (.slice (some ⟨g13, 0, none⟩) rn rn) (.slice (some ⟨g23, 0, none⟩) wn wn) (.slice (some ⟨g33, 0, none⟩) ln ln)) := fun V hV => hbX.below hV (by omega)
    have H44 : Hid (Below w4.heap.size w4 w4) := Below.refl _ _
    obtain ⟨m0, m1, m2, m3, _⟩ := hbX.cells
    clear hx3 hb3 hb4 hw4 hbX z0 z1 z2 z3
    go_wp2_with fail
    rw [← HW4.out]
    refine (implClsOk_any (HX4.out _ H44.out) (by omega) HFit.out.1 (HTb.out _ H4.out).1 (HTb.out _ H4.out).2).mono ?_
    rintro e w5 ⟨rfl, hb5⟩
    rw [← HOk.out]
    have s5 := hb5.size
    have H5 : Hid (Below Wb.heap.size Wb w5) := H4.out.trans (hb5.mono (by omega))
    have H45 : Hid (Below w4.heap.size w4 w5) := hb5
    have H5d : Hid (Below Wb.heap.size Wb w5.drew) := H5.out.drew
    have H45d : Hid (Below w4.heap.size w4 w5.drew) := hb5.drew
    have s5d : w5.heap.size ≤ w5.drew.heap.size := Nat.le_refl _
    have HSat : Hid (∀ V, Below w5.heap.size w5 V → (V.cell? ⟨w.heap.size, 0, none⟩ = some (.slice aa an ac) ∧ V.cell? ⟨w.heap.size, 1, none⟩ = some (.slice ra rn rc) ∧ V.cell? ⟨w.heap.size, 2, none⟩ = some (.slice wa wn wc) ∧ V.cell? ⟨w.heap.size, 3, none⟩ = some (.slice la ln lc)) ∧ (V.cell? ⟨w3.heap.size, 0, none⟩ = some (.slice (some ⟨g03, 0, none⟩) an an) ∧ V.cell? ⟨w3.heap.size, 1, none⟩ = some (.slice (some ⟨g13, 0, none⟩) rn rn) ∧ V.cell? ⟨w3.heap.size, 2, none⟩ = some (.slice (some ⟨g23, 0, none⟩) wn wn) ∧ V.cell? ⟨w3.heap.size, 3, none⟩ = some (.slice (some ⟨g33, 0, none⟩) ln ln))) := fun V hV => by
      obtain ⟨a0, a1, a2, a3, _⟩ := (HAt.out V (H5.out.trans (hV.mono H5.out.size))).cells
      obtain ⟨c0, c1, c2, c3, _⟩ := (HBX.out V (H45.out.trans (hV.mono H45.out.size))).cells
      exact ⟨⟨a0, a1, a2, a3⟩, c0, c1, c2, c3⟩
    have H55d : Hid (Below w5.heap.size w5 w5.drew) := (Below.refl _ _).drew
    obtain ⟨⟨z0, z1, z2, z3⟩, m0', m1', m2', m3'⟩ := HSat.out _ (Below.refl _ _)
    clear hb5 m0 m1 m2 m3
    go_upto_region 10 with fail
    go_region_held3 (fun V => (V.cell? ⟨w.heap.size, 0, none⟩ = some (.slice aa an ac) ∧ V.cell? ⟨w.heap.size, 1, none⟩ = some (.slice ra rn rc) ∧ V.cell? ⟨w.heap.size, 2, none⟩ = some (.slice wa wn wc) ∧ V.cell? ⟨w.heap.size, 3, none⟩ = some (.slice la ln lc)) ∧ (V.cell? ⟨w3.heap.size, 0, none⟩ = some (.slice (some ⟨g03, 0, none⟩) an an) ∧ V.cell? ⟨w3.heap.size, 1, none⟩ = some (.slice (some ⟨g13, 0, none⟩) rn rn) ∧ V.cell? ⟨w3.heap.size, 2, none⟩ = some (.slice (some ⟨g23, 0, none⟩) wn wn) ∧ V.cell? ⟨w3.heap.size, 3, none⟩ = some (.slice (some ⟨g33, 0, none⟩) ln ln))) (first | with_reducible exact HSat.out _ H67.out | with_reducible exact HSat.out _ H56.out | with_reducible exact HSat.out _ H55d.out) (first
      | (go_at_call 7; refine (HTo.out w5.drew H5d.out).mono ?_; rintro e w6 ⟨g06, g16, g26, g36, rfl, hx6, hb6⟩; have HX6 : Hid (RdS w5.drew.heap.size w6.heap.size w6 d (some ⟨g06, 0, none⟩) an an (some ⟨g16, 0, none⟩) rn rn (some ⟨g26, 0, none⟩) wn wn (some ⟨g36, 0, none⟩) ln ln s) := hx6; have H56 : Hid (Below w5.heap.size w5 w6) := H55d.out.trans hb6; have H6 : Hid (Below Wb.heap.size Wb w6) := H5d.out.trans (hb6.mono H5d.out.size); clear hx6 hb6)
      | (go_at_call 9; refine (eqS_any (HX4.out _ (H45.out.trans (H56.out.mono H45.out.size))) HX6.out (by have := H56.out.size; omega) (Nat.le_refl _)).mono ?_; rintro e w7 ⟨rfl, hb7⟩; have H67 : Hid (Below w5.heap.size w5 w7) := H56.out.trans (hb7.mono H56.out.size); have H7 : Hid (Below Wb.heap.size Wb w7) := H6.out.trans (hb7.mono H6.out.size); clear hb7))
    all_goals
      go_wp2_with fail
      go_ret
      exact ⟨rfl, HBB.out.trans (H7.out.mono (by omega))⟩

set_option maxRecDepth 100000 in
theorem lifted (os : Os) (started : os.Started) (H : Type) (enc : TypeId × Value → H) :
    ReturnsInHanded {} Tryd.checked os 3 .any (fun w args => (Rows.fnExactClsOkSpec.pre enc Tryd.prog Tryd.f3 [] false w args ∧ laidMetH Tryd.prog laid2 w) ∧ sizedMet enc Tryd.prog Tryd.f3 (OpenSpec.ofChange Rows.fnExactClsOkSpec) false w args)
      (Rows.fnExactClsOkSpec.post enc Tryd.prog Tryd.f3 false true false false) := by
  refine returnsInHanded_of_change_and (C := Tryd.checked) (X := fun w _ => laidMetH Tryd.prog laid2 w) (fun _ _ _ hh h => h.of_heap hh) own started (by kernel_rfl) Tryd.func3
    (ChangeSpec.witness_shaped (enc := enc) (C := Tryd.checked) (os := os) (X := fun w _ => laidMetH Tryd.prog laid2 w) false (World.doorLaid Tryd.prog 400 os) #[.agg #[.slice none 0 0, .slice none 0 0, .slice none 0 0, .slice none 0 0]] 8 rfl (World.shaped_of_RefB (by kernel_rfl) (by kernel_rfl)) (by kernel_rfl) (by kernel_rfl) (by kernel_rfl) (door_met os _)) ?_
  intro W base args ds gs before hval0 hW _ _ hL _
  have hval : ∀ (j : Nat) t v, Tryd.f3.params[j]? = some t → args[j]? = some v → Value.okWide Tryd.prog W .any base t v := hval0
  have hW' := hW
  obtain ⟨p, q, hA0, hV, rfl, hfz, hnd⟩ := hW
  have hA : DataW.TrodAll enc Tryd.prog W 0 (fun _ => true) true Tryd.f3.params.toList args.toList ds p := hA0
  rw [Tryd.params3] at hA hval
  obtain ⟨v0, vs0, d0, ds0, p0, q0, hargs, rfl, rfl, h0, r0⟩ := trodAll_cons hA
  obtain ⟨rfl, rfl, rfl⟩ := trodAll_nil r0
  obtain rfl : args = #[v0] := by cases args; simp_all
  obtain ⟨rfl, rfl⟩ := trodVars_none hV
  obtain ⟨cs0, rfl, _⟩ := okWide_struct Tryd.underlying26 (hval 0 26 v0 rfl rfl)
  have k0 := h0
  have lt0 : ∀ x ∈ p0, x.block < W.heap.size := by obtain ⟨m, hm⟩ := k0; exact DataW.trod_lt m _ _ _ hm
  obtain ⟨d, aa, an, ac, ra, rn, rc, wa, wn, wc, la, ln, lc, s, hcs, w0⟩ : ∃ d aa an ac ra rn rc wa wn wc la ln lc s, cs0 = #[.slice aa an ac, .slice ra rn rc, .slice wa wn wc, .slice la ln lc] ∧ RdS 0 W.heap.size W d aa an ac ra rn rc wa wn wc la ln lc s := by
    obtain ⟨fuel, hf⟩ := h0
    obtain ⟨d, aa, an, ac, ra, rn, rc, wa, wn, wc, la, ln, lc, s, hv, hr⟩ := open_cls (cs := cs0.toList) (by simpa [Value.cells] using hf)
    exact ⟨d, aa, an, ac, ra, rn, rc, wa, wn, wc, la, ln, lc, s, by cases cs0; simp_all, hr⟩
  subst hcs
  obtain ⟨hT, hg⟩ := of_laid hL
  clear hA0 hval0
  refine (walk W w0 hT hg).mono fun e W' ⟨he, bel⟩ => ?_
  subst he
  exact ⟨_, rfl, _, _, _, [], _, [], hW', trodAll_mk1 (shut_bool Tryd.underlying4 _), (trodAll_cons_mk (Below.trod laidOut (by kernel_rfl) (of_decide_eq_true (by kernel_rfl)) k0 bel lt0) trodAll_mk0), rfl, bel.frame _, fun h => by cases h⟩

theorem over : Rows.fnExactClsOkRow.holds Tryd.pinned (OpenSpec.ofChange Rows.fnExactClsOkSpec) :=
  OpenClaim.holds_of_wide 3 Tryd.f3 rfl rfl rfl rfl rfl rfl rfl ⟨rfl, rfl, rfl, rfl, rfl⟩ rfl rfl rfl rfl rfl (by kernel_rfl) Tryd.func3 (by kernel_rfl)
    (of_decide_eq_true (by kernel_rfl)) (by unfold Func.isWrapper; first | (rw [if_pos (by decide +kernel)]; kernel_rfl) | (rw [if_neg (by decide +kernel)]; exact ⟨rfl, rfl⟩))
    (fun os started H enc _ => lifted os started H enc)

theorem proved : Rows.FnExactClsOkCardSaid :=
  Claim7.holds_tied_plain_at .later [] [.data, .data] true Rows.fnExactClsOkCard.stood.harness false
    over (fun _ h => by cases h) (by kernel_rfl) (fun _ h => by cases h) fnExactClsOk_row_tie rfl ⟨rfl, rfl⟩ (by kernel_rfl) rfl
    (fun f fn hf hfn => by
      obtain rfl : f = 3 := Option.some.inj ((show Tryd.prog.funcNamed "loop.example/g00534/laws.FnExactClsOk" = some 3 by kernel_rfl).symm.trans hf) |>.symm
      obtain rfl : fn = Tryd.f3 := (Option.some.inj (Tryd.func3.symm.trans hfn)).symm
      exact ⟨by kernel_rfl, fun j t ht => by
        rw [Tryd.params3] at ht
        have hm : t ∈ [26] := by simpa using Array.mem_of_getElem? ht
        have hall : ([26].all fun u => !Tryd.prog.wantsStandIn u) = true := by kernel_rfl
        exact (show Tryd.prog.wantsStandIn t = false by simpa using List.all_eq_true.1 hall t hm)⟩)
    (by kernel_rfl)
#print axioms proved
end Go.Proofs.YteeofekpiiahdaaDoor.fnExactClsOk
namespace Go.Proofs.YteeofekpiiahdaaDoor
theorem fnExactClsOkCard_holds : Rows.FnExactClsOkCardSaid := fnExactClsOk.proved
end Go.Proofs.YteeofekpiiahdaaDoor
