/- For every part the law FnExactGreatest answers true and the part reads behind the call as it did before: no condition. -/
import Derived.Test.YtjnmfjfikldiiaaRows
import Derived.Test.YtjnmfjfikldiiaaGrImpl
import Derived.Test.YtjnmfjfikldiiaaClOpen
import Derived.WalkKit
import Derived.ProofKit
import Derived.OpenShut
import Derived.ShutString
import Derived.ChangeOld
import Derived.Below
import Derived.Deep.Slices
namespace Go.Proofs.Ytjnmfjfikldiiaa.fnExactGreatest
open Go.ChangeShapes Go.WideShapes Go.ChangeAt Go.RowKit Go.Deep
set_option linter.unusedVariables false

theorem own : ownKnob Try.prog.godebug = none := by kernel_rfl
theorem laidOut : laidOutB Try.prog = true := by kernel_rfl

set_option maxRecDepth 100000 in
set_option maxHeartbeats 8000000 in
theorem walk (p n : Int) (w : World) : Calls Try.prog 13 #[.agg #[.int .i64 p, .int .i64 n]] w fun e w' => e = .returned (.bool true) ∧ Below w.heap.size w w' := by
  obtain ⟨W, hW⟩ : ∃ W, W = w.alloc (.cells #[.int .i64 p, .int .i64 n] 76) := ⟨_, rfl⟩
  have HW : Hid (W = w.alloc (.cells #[.int .i64 p, .int .i64 n] 76)) := hW
  have hb0 : Below w.heap.size w W := by rw [hW]; exact (Below.refl _ _).alloc (Nat.le_refl _) _
  have HB0 : Hid (Below w.heap.size w W) := hb0
  have hs0 : w.heap.size < W.heap.size := by rw [hW]; simp
  have hbx : BoxP 76 W w.heap.size p n := by rw [hW]; exact BoxP.new _ w _ _
  have HX : Hid (∀ V, Below W.heap.size W V → BoxP 76 V w.heap.size p n) := fun V hV => hbx.below hV hs0
  obtain ⟨z0, z1⟩ := hbx.cells
  obtain ⟨g, hg⟩ : ∃ g, g = greatest p n := ⟨_, rfl⟩
  obtain ⟨g0, g1, g2⟩ := g
  have HG : Hid (greatest p n = (g0, g1, g2)) := hg.symm
  have e0 : (g0 != g0) = false := by simp
  have e1 : (g1 != g1) = false := by simp
  have e2 : (g2 != g2) = false := by simp
  clear hW hbx hb0 hg
  go_enter Try.func13, Try.ntmps13
  go_upto_region 1 with fail
  rw [← HW.out]
  go_wp2_with fail
  refine (toPart_any p n W).mono ?_
  rintro e w1 ⟨rfl, hb1⟩
  have H1 : Hid (Below W.heap.size W w1) := hb1
  clear hb1 z0 z1
  go_wp2_with fail
  refine (specGreatest_any p n w1).mono ?_
  rintro e w2 ⟨rfl, hb2⟩
  rw [HG.out]
  have H2 : Hid (Below W.heap.size W w2) := H1.out.trans (hb2.mono H1.out.size)
  obtain ⟨z0, z1⟩ := (HX.out w2 H2.out).cells
  clear hb2
  simp only [litV]
  go_wp2_with fail
  refine (toPart_any p n w2).mono ?_
  rintro e w3 ⟨rfl, hb3⟩
  have H3 : Hid (Below W.heap.size W w3) := H2.out.trans (hb3.mono H2.out.size)
  clear hb3 z0 z1
  go_wp2_with fail
  refine (implGreatest_any p n w3).mono ?_
  rintro e w4 ⟨rfl, hb4⟩
  rw [HG.out]
  have H4 : Hid (Below W.heap.size W w4) := H3.out.trans (hb4.mono H3.out.size)
  clear hb4
  simp only [litV]
  go_wp2_with fail
  go_ret
  exact ⟨rfl, HB0.out.trans (H4.out.mono HB0.out.size)⟩

set_option maxRecDepth 100000 in
theorem lifted (os : Os) (started : os.Started) (H : Type) (enc : TypeId × Value → H) :
    ReturnsInHanded {} Try.checked os 13 .any (Rows.fnExactGreatestSpec.pre6 enc Try.prog Try.f13 Rows.fnExactGreatestRow.domain false) (Rows.fnExactGreatestSpec.post enc Try.prog Try.f13 false true false false) := by
  refine returnsInHanded_of_change (C := Try.checked) own started (by kernel_rfl) Try.func13
    (ChangeSpec.witness6 (enc := enc) (C := Try.checked) false ⟨#[], #[.agg #[.int .i64 0, .int .i64 0]], []⟩ 8 (by kernel_rfl) (by kernel_rfl) (by kernel_rfl) (by kernel_rfl)) ?_
  intro W base args ds gs before hval0 hW hcnd _
  have hval : ∀ (j : Nat) t v, Try.f13.params[j]? = some t → args[j]? = some v → Value.okWide Try.prog W .any base t v := hval0
  have hW' := hW
  obtain ⟨p, q, hA0, hV, rfl, hfz, hnd⟩ := hW
  have hA : DataW.TrodAll enc Try.prog W 0 (fun _ => true) true Try.f13.params.toList args.toList ds p := hA0
  rw [Try.params13] at hA hval
  obtain ⟨v0, vs0, d0, ds0, p0, q0, hargs, rfl, rfl, h0, r0⟩ := trodAll_cons hA
  obtain ⟨rfl, rfl, rfl⟩ := trodAll_nil r0
  obtain rfl : args = #[v0] := by cases args; simp_all
  obtain ⟨rfl, rfl⟩ := trodVars_none hV
  obtain ⟨cs0, rfl, _⟩ := okWide_struct Try.underlying76 (hval 0 76 v0 rfl rfl)
  have k0 := h0
  have lt0 : ∀ x ∈ p0, x.block < W.heap.size := by obtain ⟨m, hm⟩ := k0; exact DataW.trod_lt m _ _ _ hm
  obtain ⟨a, b, hcs⟩ : ∃ a b, cs0 = #[.int .i64 a, .int .i64 b] := by
    obtain ⟨fuel, hf⟩ := h0
    obtain ⟨a, b, hv⟩ := open_part (cs := cs0.toList) (by simpa [Value.cells] using hf)
    exact ⟨a, b, by cases cs0; simp_all⟩
  subst hcs
  clear hA0 hval0
  refine (walk a b W).mono fun e W' ⟨he, bel⟩ => ?_
  subst he
  exact ⟨_, rfl, _, _, _, [], _, [], hW', trodAll_mk1 (shut_bool Try.underlying4 _), (trodAll_cons_mk (Below.trod laidOut (by kernel_rfl) (of_decide_eq_true (by kernel_rfl)) k0 bel lt0) trodAll_mk0), rfl, bel.frame _, fun h => by cases h⟩

theorem over : Rows.fnExactGreatestRow.holds Try.pinned (OpenSpec.ofChange Rows.fnExactGreatestSpec) :=
  OpenClaim.holds_of_wide 13 Try.f13 rfl rfl rfl rfl rfl rfl rfl ⟨rfl, rfl, rfl, rfl, rfl⟩ rfl rfl rfl rfl rfl (by kernel_rfl) Try.func13 (by kernel_rfl)
    (of_decide_eq_true (by kernel_rfl)) (by unfold Func.isWrapper; first | (rw [if_pos (by decide +kernel)]; kernel_rfl) | (rw [if_neg (by decide +kernel)]; exact ⟨rfl, rfl⟩))
    (fun os started H enc _ => lifted os started H enc)

theorem proved : Rows.FnExactGreatestSaid := over
#print axioms proved
end Go.Proofs.Ytjnmfjfikldiiaa.fnExactGreatest
namespace Go.Proofs.Ytjnmfjfikldiiaa
theorem fnExactGreatest_holds : Rows.FnExactGreatestSaid := fnExactGreatest.proved
end Go.Proofs.Ytjnmfjfikldiiaa
