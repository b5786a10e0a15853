/- For all that may be told the law FnExactKbOk answers true, and what was handed in reads behind the call as it did before: no condition. -/
import Derived.Test.YtodpaihndpjbfaaRows
import Derived.Test.YtodpaihndpjbfaaKbOkFn
import Derived.Test.YtodpaihndpjbfaaKbLawM
import Derived.WalkKit
import Derived.ProofKit
import Derived.OpenShut
import Derived.ShutString
import Derived.ChangeOld
import Derived.Below
import Derived.Deep.RegionHeld
namespace Go.Proofs.Ytodpaihndpjbfaa.fnExactKbOk
open Go.ChangeShapes Go.WideShapes Go.ChangeAt Go.RowKit Go.Deep
set_option linter.unusedVariables false

theorem own : ownKnob Try.prog.godebug = none := by kernel_rfl
theorem laidOut : laidOutB Try.prog = true := by kernel_rfl

theorem bulks {xs : List AX} (h : bulkK xs ≤ 1048576) : ∀ x ∈ xs, x.c.bulk ≤ 1048576 ∧ x.d.bulk ≤ 1048576 := by
  intro x hx
  obtain ⟨i, hi, rfl⟩ := mem_getD hx
  have := bulkK_getD xs i hi
  unfold AX.bulk at this
  omega

set_option maxRecDepth 100000 in
set_option maxHeartbeats 8000000 in
theorem walk {dp : Nat} {a : Option Addr} {n cap : Nat} {xs : List AX} (w : World) (hR : RdK 0 w.heap.size w dp a n cap xs) :
    Calls Try.prog 6 #[.agg #[.slice a n cap]] w fun e w' => e = .returned (.bool true) ∧ Below w.heap.size w w' := by
  obtain ⟨Wb, hWb⟩ : ∃ Wb, Wb = w.alloc (.cells #[.slice a n cap] 61) := ⟨_, rfl⟩
  have HWb : Hid (Wb = w.alloc (.cells #[.slice a n cap] 61)) := hWb
  have hbb : Below w.heap.size w Wb := by rw [hWb]; exact (Below.refl _ _).alloc (Nat.le_refl _) _
  have HBB : Hid (Below w.heap.size w Wb) := hbb
  have hsb : w.heap.size < Wb.heap.size := by rw [hWb]; simp
  have HRb : Hid (RdK 0 w.heap.size Wb dp a n cap xs) := hR.below hbb (Nat.le_refl _)
  have hbx : Boxed Wb w.heap.size 61 (.slice a n cap) := by rw [hWb]; exact Boxed.new _ _ _
  have HAt : Hid (∀ W, Below Wb.heap.size Wb W → Boxed W w.heap.size 61 (.slice a n cap)) := fun W hW => (hW.block _ hsb).trans hbx
  obtain ⟨ok, hok⟩ : ∃ ok, ok = kbB xs := ⟨_, rfl⟩
  have HOk : Hid (ok = kbB xs) := hok
  have hokk : (ok != ok) = false := by simp
  have z0 := hbx.cell
  clear hR hbb hWb hbx hok
  go_enter Try.func6, Try.ntmps6
  go_wp2_with fail
  rw [← HWb.out]
  refine (szKb_any HRb.out (by omega)).mono ?_
  rintro e w0 ⟨r, rfl, hbounds, hb⟩
  have HBo : Hid (¬ r < 0 → bulkK xs ≤ 1048576) := hbounds
  have H0 : Hid (Below Wb.heap.size Wb w0) := hb
  have s0 := hb.size
  clear z0 hb hbounds
  have z0 := (HAt.out _ H0.out).cell
  by_cases hneg : r < 0
  · go_wp2_with fail
    go_ret
    exact ⟨rfl, HBB.out.trans (H0.out.mono (by omega))⟩
  · have HBd : Hid (bulkK xs ≤ 1048576) := HBo.out hneg
    have HTo : Hid (∀ W, Below Wb.heap.size Wb W → Calls Try.prog 37 #[.agg #[.slice a n cap]] W fun e w' => ∃ g, e = .returned (.agg #[.slice (some ⟨g, 0, none⟩) n n]) ∧ RdK W.heap.size w'.heap.size w' dp (some ⟨g, 0, none⟩) n n xs ∧ Below W.heap.size W w' ∧ Free W.heap.size w'.heap.size w') :=
      fun W hW => toKb_any (HRb.out.below hW (by omega)) (Nat.le_trans (by omega) hW.size) HBd.out
    go_wp2_with fail
    refine (HTo.out w0 H0.out).mono ?_
    rintro e w1 ⟨g1, rfl, hx1, hb1, _⟩
    have H1 : Hid (Below Wb.heap.size Wb w1) := H0.out.trans (hb1.mono s0)
    have HX1 : Hid (RdK w0.heap.size w1.heap.size w1 dp (some ⟨g1, 0, none⟩) n n xs) := hx1
    have s1 := hb1.size
    clear hx1 hb1 z0
    go_wp2_with fail
    refine (specKbOk_any HX1.out (Nat.le_refl _) (by omega)).mono ?_
    rintro e w2 ⟨rfl, hb2⟩
    rw [← HOk.out]
    have H2 : Hid (Below Wb.heap.size Wb w2) := H1.out.trans (hb2.mono (by omega))
    have s2 := hb2.size
    clear hb2
    have z0 := (HAt.out _ H2.out).cell
    go_wp2_with fail
    refine (HTo.out w2 H2.out).mono ?_
    rintro e w3 ⟨g3, rfl, hx3, hb3, _⟩
    have s3 := hb3.size
    obtain ⟨w4, hw4⟩ : ∃ w4, w4 = w3.alloc (.cells #[.slice (some ⟨g3, 0, none⟩) n n] 66) := ⟨_, rfl⟩
    have HW4 : Hid (w4 = w3.alloc (.cells #[.slice (some ⟨g3, 0, none⟩) n n] 66)) := hw4
    have hb4 : Below w3.heap.size w3 w4 := by rw [hw4]; exact (Below.refl _ _).alloc (Nat.le_refl _) _
    have s4 : w3.heap.size < w4.heap.size := by rw [hw4]; simp
    have H4 : Hid (Below Wb.heap.size Wb w4) := (H2.out.trans (hb3.mono (by omega))).trans (hb4.mono (by omega))
    have HX4 : Hid (RdK w2.heap.size w3.heap.size w4 dp (some ⟨g3, 0, none⟩) n n xs) := hx3.below hb4 (Nat.le_refl _)
    have HBX : Hid (Boxed w4 w3.heap.size 66 (.slice (some ⟨g3, 0, none⟩) n n)) := by unfold Hid; rw [hw4]; exact Boxed.new _ _ _
    clear hx3 hb3 hb4 hw4 z0
    go_wp2_with fail
    rw [← HW4.out]
    refine (implKbOk_any HX4.out (by omega) (bulks HBd.out)).mono ?_
    rintro e w5 ⟨rfl, hb5⟩
    rw [← HOk.out]
    have s5 := hb5.size
    have H5 : Hid (Below Wb.heap.size Wb w5) := H4.out.trans (hb5.mono (by omega))
    have HX5 : Hid (RdK w2.heap.size w3.heap.size w5 dp (some ⟨g3, 0, none⟩) n n xs) := HX4.out.below hb5 (by omega)
    have HBX5 : Hid (Boxed w5 w3.heap.size 66 (.slice (some ⟨g3, 0, none⟩) n n)) := (hb5.block _ s4).trans HBX.out
    have z0 := (HAt.out _ H5.out).cell
    have m0 := HBX5.out.cell
    have H5d : Hid (Below Wb.heap.size Wb w5.drew) := H5.out.drew
    have HX5d : Hid (RdK w2.heap.size w3.heap.size w5.drew dp (some ⟨g3, 0, none⟩) n n xs) := HX5.out.same (fun _ _ _ => rfl)
    have s5d : w5.drew.heap.size = w5.heap.size := rfl
    clear hb5
    have HSx : Hid (∀ V, Below w5.drew.heap.size w5.drew V → RdK w2.heap.size w3.heap.size V dp (some ⟨g3, 0, none⟩) n n xs ∧ V.cell? ⟨w3.heap.size, 0, none⟩ = some (.slice (some ⟨g3, 0, none⟩) n n) ∧ Below Wb.heap.size Wb V ∧ w3.heap.size ≤ V.heap.size) := by
      intro V hV
      have hlt : w3.heap.size < w5.drew.heap.size := by rw [s5d]; omega
      have hsV := hV.size
      exact ⟨HX5d.out.below hV (Nat.le_of_lt hlt), (hV.cell (p := ⟨w3.heap.size, 0, none⟩) hlt).trans HBX5.out.cell, H5d.out.trans (hV.mono H5d.out.size), by omega⟩
    clear s5d
    go_upto_region 10 with fail
    first | go_region_with (first
      | (go_at_call 37; refine (HTo.out w5.drew H5d.out).mono ?_; rintro e w6 ⟨g6, rfl, hx6, hb6, _⟩; obtain ⟨hy6, m6, hb6', hs6⟩ := HSx.out _ hb6; have HX6 : Hid (RdK w5.drew.heap.size w6.heap.size w6 dp (some ⟨g6, 0, none⟩) n n xs) := hx6; have HY6 : Hid (RdK w2.heap.size w3.heap.size w6 dp (some ⟨g3, 0, none⟩) n n xs) := hy6; have H6 : Hid (Below Wb.heap.size Wb w6) := hb6'; clear hx6 hy6 hb6 hb6')
      | (go_at_call 39; refine (eqKb_any HY6.out HX6.out hs6 (Nat.le_refl _)).mono ?_; rintro e w7 ⟨rfl, hb7⟩; have H7 : Hid (Below Wb.heap.size Wb w7) := H6.out.trans (hb7.mono H6.out.size); clear hb7)) | fail
    all_goals
      go_wp2_with fail
      go_ret
      exact ⟨rfl, HBB.out.trans (H7.out.mono (by omega))⟩

set_option maxRecDepth 100000 in
theorem lifted (os : Os) (started : os.Started) (H : Type) (enc : TypeId × Value → H) :
    ReturnsInHanded {} Try.checked os 6 .any (Rows.fnExactKbOkSpec.pre6 enc Try.prog Try.f6 Rows.fnExactKbOkRow.domain false) (Rows.fnExactKbOkSpec.post enc Try.prog Try.f6 false true false false) := by
  refine returnsInHanded_of_change (C := Try.checked) own started (by kernel_rfl) Try.func6
    (ChangeSpec.witness6 (enc := enc) (C := Try.checked) false ⟨#[], #[.agg #[.slice none 0 0]], []⟩ 8 (by kernel_rfl) (by kernel_rfl) (by kernel_rfl) (by kernel_rfl)) ?_
  intro W base args ds gs before hval0 hW hcnd _
  have hval : ∀ (j : Nat) t v, Try.f6.params[j]? = some t → args[j]? = some v → Value.okWide Try.prog W .any base t v := hval0
  have hW' := hW
  obtain ⟨p, q, hA0, hV, rfl, hfz, hnd⟩ := hW
  have hA : DataW.TrodAll enc Try.prog W 0 (fun _ => true) true Try.f6.params.toList args.toList ds p := hA0
  rw [Try.params6] at hA hval
  obtain ⟨v0, vs0, d0, ds0, p0, q0, hargs, rfl, rfl, h0, r0⟩ := trodAll_cons hA
  obtain ⟨rfl, rfl, rfl⟩ := trodAll_nil r0
  obtain rfl : args = #[v0] := by cases args; simp_all
  obtain ⟨rfl, rfl⟩ := trodVars_none hV
  obtain ⟨cs0, rfl, _⟩ := okWide_struct Try.underlying61 (hval 0 61 v0 rfl rfl)
  have k0 := h0
  have lt0 : ∀ x ∈ p0, x.block < W.heap.size := by obtain ⟨m, hm⟩ := k0; exact DataW.trod_lt m _ _ _ hm
  obtain ⟨dp, a, n, cap, xs, hcs, w0⟩ : ∃ dp a n cap xs, cs0 = #[.slice a n cap] ∧ RdK 0 W.heap.size W dp a n cap xs := by
    obtain ⟨fuel, hf⟩ := h0
    obtain ⟨dp, a, n, cap, xs, hv, hr⟩ := open_kb (cs := cs0.toList) (by simpa [Value.cells] using hf)
    exact ⟨dp, a, n, cap, xs, by cases cs0; simp_all, hr⟩
  subst hcs
  clear hA0 hval0
  refine (walk W w0).mono fun e W' ⟨he, bel⟩ => ?_
  subst he
  exact ⟨_, rfl, _, _, _, [], _, [], hW', trodAll_mk1 (shut_bool Try.underlying4 _), (trodAll_cons_mk (Below.trod laidOut (by kernel_rfl) (of_decide_eq_true (by kernel_rfl)) k0 bel lt0) trodAll_mk0), rfl, bel.frame _, fun h => by cases h⟩

theorem over : Rows.fnExactKbOkRow.holds Try.pinned (OpenSpec.ofChange Rows.fnExactKbOkSpec) :=
  OpenClaim.holds_of_wide 6 Try.f6 rfl rfl rfl rfl rfl rfl rfl ⟨rfl, rfl, rfl, rfl, rfl⟩ rfl rfl rfl rfl rfl (by kernel_rfl) Try.func6 (by kernel_rfl)
    (of_decide_eq_true (by kernel_rfl)) (by unfold Func.isWrapper; first | (rw [if_pos (by decide +kernel)]; kernel_rfl) | (rw [if_neg (by decide +kernel)]; exact ⟨rfl, rfl⟩))
    (fun os started H enc _ => lifted os started H enc)

theorem proved : Rows.FnExactKbOkSaid := over
#print axioms proved
end Go.Proofs.Ytodpaihndpjbfaa.fnExactKbOk
namespace Go.Proofs.Ytodpaihndpjbfaa
theorem fnExactKbOk_holds : Rows.FnExactKbOkSaid := fnExactKbOk.proved
end Go.Proofs.Ytodpaihndpjbfaa
