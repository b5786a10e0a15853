/- For every clause the law FnExactTaut answers true and the clause reads behind the call as it did before, the library's tables lying as the program's text lays them (a tied card): no other condition. -/
import Derived.Test.YtcaljggnihinaaaDoorRows
import Derived.Test.YtcaljggnihinaaaDoorClOpen
import Derived.Test.YtcaljggnihinaaaDoorClLaw
import Derived.Test.YtcaljggnihinaaaDoorCards
import Derived.Test.YtcaljggnihinaaaDoorTie
import Derived.Test.YtcaljggnihinaaaDoorClsTab
import Derived.Test.YtcaljggnihinaaaDoorTautS
import Derived.Test.YtcaljggnihinaaaDoorTautI4
import Derived.WalkKit
import Derived.ProofKit
import Derived.OpenShut
import Derived.ShutString
import Derived.ChangeOld
import Derived.Below
import Derived.Deep.RegionHeld
import Derived.SevenTiedAt
namespace Go.Proofs.YtcaljggnihinaaaDoor.fnExactTaut
open Go.ChangeShapes Go.WideShapes Go.ChangeAt Go.RowKit Go.Deep
set_option linter.unusedVariables false

theorem own : ownKnob Tryd.prog.godebug = none := by kernel_rfl
theorem laidOut : laidOutB Tryd.prog = true := by kernel_rfl

set_option maxRecDepth 100000 in
set_option maxHeartbeats 8000000 in
theorem walk {k f r u xp xn yp yn : Int} {ia : Option Addr} {im ic : Nat} {a b : Int} {xs : List (Int × Int)} (w : World) (hR : RP 0 w.heap.size w ia im ic xs) (hT : TabD w) (hg : 1 < w.heap.size) :
    Calls Tryd.prog 3 #[.agg #[.int .i64 k, .int .i64 f, .int .i64 r, .int .i64 u, .int .i64 xp, .int .i64 xn, .int .i64 yp, .int .i64 yn, .slice ia im ic, .int .i64 a, .int .i64 b]] w fun e w' => e = .returned (.bool true) ∧ Below w.heap.size w w' := by
  obtain ⟨Wb, hWb⟩ : ∃ Wb, Wb = w.alloc (.cells #[.int .i64 k, .int .i64 f, .int .i64 r, .int .i64 u, .int .i64 xp, .int .i64 xn, .int .i64 yp, .int .i64 yn, .slice ia im ic, .int .i64 a, .int .i64 b] 26) := ⟨_, rfl⟩
  have HWb : Hid (Wb = w.alloc (.cells #[.int .i64 k, .int .i64 f, .int .i64 r, .int .i64 u, .int .i64 xp, .int .i64 xn, .int .i64 yp, .int .i64 yn, .slice ia im ic, .int .i64 a, .int .i64 b] 26)) := hWb
  have hbb : Below w.heap.size w Wb := by rw [hWb]; exact (Below.refl _ _).alloc (Nat.le_refl _) _
  have HBB : Hid (Below w.heap.size w Wb) := hbb
  have hsb : w.heap.size ≤ Wb.heap.size := hbb.size
  have HRb : Hid (∀ W, Below Wb.heap.size Wb W → RP 0 w.heap.size W ia im ic xs) := fun W hW => (hR.below hbb (Nat.le_refl _)).below hW hsb
  have HTb : Hid (∀ W, Below Wb.heap.size Wb W → TabD W ∧ 1 < W.heap.size) := fun W hW => ⟨(hT.below hbb hg).below hW (by omega), by have := hW.size; omega⟩
  have HRf : Hid (Below Wb.heap.size Wb Wb) := Below.refl _ _
  have hbx : BoxK 26 Wb w.heap.size k f r u xp xn yp yn (.slice ia im ic) a b := by rw [hWb]; exact BoxK.new _ w _ _ _ _ _ _ _ _ _ _ _
  have HAt : Hid (∀ W, Below Wb.heap.size Wb W → BoxK 26 W w.heap.size k f r u xp xn yp yn (.slice ia im ic) a b) := fun W hW => hbx.below hW hbx.lt
  obtain ⟨ok, hok⟩ : ∃ ok, ok = isTaut k f r u xp xn yp yn a b xs := ⟨_, rfl⟩
  have HOk : Hid (ok = isTaut k f r u xp xn yp yn a b xs) := hok
  have hokk : (ok != ok) = false := by simp
  obtain ⟨z0, z1, z2, z3, z4, z5, z6, z7, z8, z9, z10⟩ := hbx.cells
  clear hR hbb hWb hbx hok hT
  go_enter Tryd.func3, Tryd.ntmps3
  go_wp2_with fail
  rw [← HWb.out]
  refine (szK_any (HRb.out _ HRf.out) 1048576 ⟨by omega, by omega⟩).mono ?_
  rintro e w0 ⟨rfl, hb⟩
  obtain ⟨q, hq⟩ : ∃ q, q = szRes 1048576 im := ⟨_, rfl⟩
  rw [← hq]
  have HQ : Hid (¬ q < 0 → im ≤ 1048576) := by
    unfold szRes at hq
    unfold Hid
    split at hq <;> omega
  have H0 : Hid (Below Wb.heap.size Wb w0) := hb
  have s0 := hb.size
  clear z0 z1 z2 z3 z4 z5 z6 z7 z8 z9 z10 hb hq
  obtain ⟨z0, z1, z2, z3, z4, z5, z6, z7, z8, z9, z10⟩ := (HAt.out _ H0.out).cells
  by_cases hneg : q < 0
  · go_wp2_with fail
    go_ret
    exact ⟨rfl, HBB.out.trans (H0.out.mono hsb)⟩
  · have him : im ≤ 1048576 := HQ.out hneg
    have HTo : Hid (∀ W, Below Wb.heap.size Wb W → Calls Tryd.prog 7 #[.agg #[.int .i64 k, .int .i64 f, .int .i64 r, .int .i64 u, .int .i64 xp, .int .i64 xn, .int .i64 yp, .int .i64 yn, .slice ia im ic, .int .i64 a, .int .i64 b]] W fun e w' => ∃ g, e = .returned (.agg #[.int .i64 k, .int .i64 f, .int .i64 r, .int .i64 u, .int .i64 xp, .int .i64 xn, .int .i64 yp, .int .i64 yn, .slice (some ⟨g, 0, none⟩) im im, .int .i64 a, .int .i64 b]) ∧ RP W.heap.size w'.heap.size w' (some ⟨g, 0, none⟩) im im xs ∧ w'.rowIs g 29 (im * 2) (cellP xs im) ∧ Below W.heap.size W w') := fun W hW => toK_any (HRb.out W hW) (Nat.le_trans hsb hW.size) him
    go_wp2_with fail
    refine (HTo.out w0 H0.out).mono ?_
    rintro e w1 ⟨g1, rfl, hx1, _, hb1⟩
    have H1 : Hid (Below Wb.heap.size Wb w1) := H0.out.trans (hb1.mono s0)
    have HX1 : Hid (RP w0.heap.size w1.heap.size w1 (some ⟨g1, 0, none⟩) im im xs) := hx1
    have s1 := hb1.size
    clear hx1 hb1 z0 z1 z2 z3 z4 z5 z6 z7 z8 z9 z10
    go_wp2_with fail
    refine (specTaut_any HX1.out (Nat.le_refl _)).mono ?_
    rintro e w2 ⟨rfl, hb2⟩
    rw [← HOk.out]
    have H2 : Hid (Below Wb.heap.size Wb w2) := H1.out.trans (hb2.mono (by omega))
    have s2 := hb2.size
    clear hb2
    obtain ⟨z0, z1, z2, z3, z4, z5, z6, z7, z8, z9, z10⟩ := (HAt.out _ H2.out).cells
    go_wp2_with fail
    refine (HTo.out w2 H2.out).mono ?_
    rintro e w3 ⟨g3, rfl, hx3, _, hb3⟩
    have s3 := hb3.size
    obtain ⟨w4, hw4⟩ : ∃ w4, w4 = w3.alloc (.cells #[.int .i64 k, .int .i64 f, .int .i64 r, .int .i64 u, .int .i64 xp, .int .i64 xn, .int .i64 yp, .int .i64 yn, .slice (some ⟨g3, 0, none⟩) im im, .int .i64 a, .int .i64 b] 32) := ⟨_, rfl⟩
    have HW4 : Hid (w4 = w3.alloc (.cells #[.int .i64 k, .int .i64 f, .int .i64 r, .int .i64 u, .int .i64 xp, .int .i64 xn, .int .i64 yp, .int .i64 yn, .slice (some ⟨g3, 0, none⟩) im im, .int .i64 a, .int .i64 b] 32)) := hw4
    have hb4 : Below w3.heap.size w3 w4 := by rw [hw4]; exact (Below.refl _ _).alloc (Nat.le_refl _) _
    have s4 := hb4.size
    have s4' : w3.heap.size < w4.heap.size := by rw [hw4]; simp
    have H4 : Hid (Below Wb.heap.size Wb w4) := (H2.out.trans (hb3.mono (by omega))).trans (hb4.mono (by omega))
    have HX4 : Hid (RP w2.heap.size w3.heap.size w4 (some ⟨g3, 0, none⟩) im im xs) := hx3.below hb4 (Nat.le_refl _)
    have hbX : BoxK 32 w4 w3.heap.size k f r u xp xn yp yn (.slice (some ⟨g3, 0, none⟩) im im) a b := by rw [hw4]; exact BoxK.new _ w3 _ _ _ _ _ _ _ _ _ _ _
    have HBX : Hid (BoxK 32 w4 w3.heap.size k f r u xp xn yp yn (.slice (some ⟨g3, 0, none⟩) im im) a b) := hbX
    clear hx3 hb3 hb4 hw4 z0 z1 z2 z3 z4 z5 z6 z7 z8 z9 z10 hbX
    go_wp2_with fail
    rw [← HW4.out]
    refine (implTaut_any HX4.out (by omega) (HTb.out _ H4.out).1 (HTb.out _ H4.out).2).mono ?_
    rintro e w5 ⟨rfl, hb5⟩
    rw [← HOk.out]
    have s5 := hb5.size
    have H5 : Hid (Below Wb.heap.size Wb w5) := H4.out.trans (hb5.mono (by omega))
    have HX5 : Hid (RP w2.heap.size w3.heap.size w5 (some ⟨g3, 0, none⟩) im im xs) := HX4.out.below hb5 (by omega)
    have HBX5 : Hid (BoxK 32 w5 w3.heap.size k f r u xp xn yp yn (.slice (some ⟨g3, 0, none⟩) im im) a b) := HBX.out.below hb5 (by omega)
    obtain ⟨z0, z1, z2, z3, z4, z5, z6, z7, z8, z9, z10⟩ := (HAt.out _ H5.out).cells
    obtain ⟨m0, m1, m2, m3, m4, m5, m6, m7, m8, m9, m10⟩ := HBX5.out.cells
    have H5d : Hid (Below Wb.heap.size Wb w5.drew) := H5.out.drew
    have HX5d : Hid (RP w2.heap.size w3.heap.size w5.drew (some ⟨g3, 0, none⟩) im im xs) := HX5.out.below (Below.refl w5.heap.size w5).drew (by omega)
    have HBX5d : Hid (BoxK 32 w5.drew w3.heap.size k f r u xp xn yp yn (.slice (some ⟨g3, 0, none⟩) im im) a b) := HBX5.out
    have s5d : w5.heap.size ≤ w5.drew.heap.size := Nat.le_refl _
    clear hb5
    go_upto_region 10 with fail
    first | go_region_with (first
      | (go_at_call 7; refine (HTo.out w5.drew H5d.out).mono ?_; rintro e w6 ⟨g6, rfl, hx6, _, hb6⟩; have HX6 : Hid (RP w5.drew.heap.size w6.heap.size w6 (some ⟨g6, 0, none⟩) im im xs) := hx6; have H6 : Hid (Below Wb.heap.size Wb w6) := H5d.out.trans (hb6.mono H5d.out.size); have HY6 : Hid (RP w2.heap.size w3.heap.size w6 (some ⟨g3, 0, none⟩) im im xs) := HX5d.out.below hb6 (by omega); have HS6 : Hid (w5.heap.size ≤ w6.heap.size) := hb6.size; have HBX6 := HBX5d.out.below hb6 (by omega); clear m0 m1 m2 m3 m4 m5 m6 m7 m8 m9 m10; obtain ⟨m0, m1, m2, m3, m4, m5, m6, m7, m8, m9, m10⟩ := HBX6.cells; clear hx6 hb6 HBX6)
      | (go_at_call 9; refine (eqK_any HY6.out HX6.out (by have := HS6.out; omega) (Nat.le_refl _)).mono ?_; rintro e w7 ⟨rfl, hb7⟩; have H7 : Hid (Below Wb.heap.size Wb w7) := H6.out.trans (hb7.mono H6.out.size); clear hb7)) | fail
    all_goals
      go_wp2_with fail
      go_ret
      exact ⟨rfl, HBB.out.trans (H7.out.mono (by omega))⟩

set_option maxRecDepth 100000 in
theorem lifted (os : Os) (started : os.Started) (H : Type) (enc : TypeId × Value → H) :
    ReturnsInHanded {} Tryd.checked os 3 .any (fun w args => (Rows.fnExactTautSpec.pre enc Tryd.prog Tryd.f3 [] false w args ∧ laidMetH Tryd.prog laid2 w) ∧ sizedMet enc Tryd.prog Tryd.f3 (OpenSpec.ofChange Rows.fnExactTautSpec) false w args)
      (Rows.fnExactTautSpec.post enc Tryd.prog Tryd.f3 false true false false) := by
  refine returnsInHanded_of_change_and (C := Tryd.checked) (X := fun w _ => laidMetH Tryd.prog laid2 w) (fun _ _ _ hh h => h.of_heap hh) own started (by kernel_rfl) Tryd.func3
    (ChangeSpec.witness_shaped (enc := enc) (C := Tryd.checked) (os := os) (X := fun w _ => laidMetH Tryd.prog laid2 w) false (World.doorLaid Tryd.prog 400 os) #[.agg #[.int .i64 0, .int .i64 0, .int .i64 0, .int .i64 0, .int .i64 0, .int .i64 0, .int .i64 0, .int .i64 0, .slice none 0 0, .int .i64 0, .int .i64 0]] 8 rfl (World.shaped_of_RefB (by kernel_rfl) (by kernel_rfl)) (by kernel_rfl) (by kernel_rfl) (by kernel_rfl) (door_met os _)) ?_
  intro W base args ds gs before hval0 hW _ _ hL _
  have hval : ∀ (j : Nat) t v, Tryd.f3.params[j]? = some t → args[j]? = some v → Value.okWide Tryd.prog W .any base t v := hval0
  have hW' := hW
  obtain ⟨p, q, hA0, hV, rfl, hfz, hnd⟩ := hW
  have hA : DataW.TrodAll enc Tryd.prog W 0 (fun _ => true) true Tryd.f3.params.toList args.toList ds p := hA0
  rw [Tryd.params3] at hA hval
  obtain ⟨v0, vs0, d0, ds0, p0, q0, hargs, rfl, rfl, h0, r0⟩ := trodAll_cons hA
  obtain ⟨rfl, rfl, rfl⟩ := trodAll_nil r0
  obtain rfl : args = #[v0] := by cases args; simp_all
  obtain ⟨rfl, rfl⟩ := trodVars_none hV
  obtain ⟨cs0, rfl, _⟩ := okWide_struct Tryd.underlying26 (hval 0 26 v0 rfl rfl)
  have k0 := h0
  have lt0 : ∀ x ∈ p0, x.block < W.heap.size := by obtain ⟨m, hm⟩ := k0; exact DataW.trod_lt m _ _ _ hm
  obtain ⟨x, ia, im, ic, hcs, w0⟩ : ∃ (x : CL) (ia : Option Addr) (im ic : Nat), cs0 = #[.int .i64 x.kind, .int .i64 x.fn, .int .i64 x.role, .int .i64 x.above, .int .i64 x.xp, .int .i64 x.xn, .int .i64 x.yp, .int .i64 x.yn, .slice ia im ic, .int .i64 x.a, .int .i64 x.b] ∧ RP 0 W.heap.size W ia im ic x.inds := by
    obtain ⟨fuel, hf⟩ := h0
    obtain ⟨x, ia, im, ic, hv, hr⟩ := open_clause (cs := cs0.toList) (by simpa [Value.cells] using hf)
    exact ⟨x, ia, im, ic, by cases cs0; simp_all, hr⟩
  subst hcs
  obtain ⟨hT, hg⟩ := of_laid hL
  clear hA0 hval0
  refine (walk W w0 hT hg).mono fun e W' ⟨he, bel⟩ => ?_
  subst he
  exact ⟨_, rfl, _, _, _, [], _, [], hW', trodAll_mk1 (shut_bool Tryd.underlying4 _), (trodAll_cons_mk (Below.trod laidOut (by kernel_rfl) (of_decide_eq_true (by kernel_rfl)) k0 bel lt0) trodAll_mk0), rfl, bel.frame _, fun h => by cases h⟩

theorem over : Rows.fnExactTautRow.holds Tryd.pinned (OpenSpec.ofChange Rows.fnExactTautSpec) :=
  OpenClaim.holds_of_wide 3 Tryd.f3 rfl rfl rfl rfl rfl rfl rfl ⟨rfl, rfl, rfl, rfl, rfl⟩ rfl rfl rfl rfl rfl (by kernel_rfl) Tryd.func3 (by kernel_rfl)
    (of_decide_eq_true (by kernel_rfl)) (by unfold Func.isWrapper; first | (rw [if_pos (by decide +kernel)]; kernel_rfl) | (rw [if_neg (by decide +kernel)]; exact ⟨rfl, rfl⟩))
    (fun os started H enc _ => lifted os started H enc)

theorem proved : Rows.FnExactTautCardSaid :=
  Claim7.holds_tied_plain_at .later [] [.data, .data] true Rows.fnExactTautCard.stood.harness false
    over (fun _ h => by cases h) (by kernel_rfl) (fun _ h => by cases h) fnExactTaut_row_tie rfl ⟨rfl, rfl⟩ (by kernel_rfl) rfl
    (fun f fn hf hfn => by
      obtain rfl : f = 3 := Option.some.inj ((show Tryd.prog.funcNamed "loop.example/g00534/laws.FnExactTaut" = some 3 by kernel_rfl).symm.trans hf) |>.symm
      obtain rfl : fn = Tryd.f3 := (Option.some.inj (Tryd.func3.symm.trans hfn)).symm
      exact ⟨by kernel_rfl, fun j t ht => by
        rw [Tryd.params3] at ht
        have hm : t ∈ [26] := by simpa using Array.mem_of_getElem? ht
        have hall : ([26].all fun u => !Tryd.prog.wantsStandIn u) = true := by kernel_rfl
        exact (show Tryd.prog.wantsStandIn t = false by simpa using List.all_eq_true.1 hall t hm)⟩)
    (by kernel_rfl)
#print axioms proved
end Go.Proofs.YtcaljggnihinaaaDoor.fnExactTaut
namespace Go.Proofs.YtcaljggnihinaaaDoor
theorem fnExactTautCard_holds : Rows.FnExactTautCardSaid := fnExactTaut.proved
end Go.Proofs.YtcaljggnihinaaaDoor
