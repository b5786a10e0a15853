/- For every order and every name the law FnExactClassOf answers true and what came in reads behind the call as it did before: no condition. -/
import Derived.Test.YtpedjcabapldgaaRows
import Derived.Test.YtpedjcabapldgaaOrdOpen
import Derived.Test.YtpedjcabapldgaaOrdLaw2
import Derived.Test.YtpedjcabapldgaaOrdC
import Derived.WalkKit
import Derived.ProofKit
import Derived.OpenShut
import Derived.ShutString
import Derived.ChangeOld
import Derived.Below
import Derived.Deep.RegionHeld
namespace Go.Proofs.Ytpedjcabapldgaa.fnExactClassOf
open Go.ChangeShapes Go.WideShapes Go.ChangeAt Go.RowKit Go.Deep
set_option linter.unusedVariables false

theorem own : ownKnob Try.prog.godebug = none := by kernel_rfl
theorem laidOut : laidOutB Try.prog = true := by kernel_rfl

theorem rd_row {lo hi : Nat} {w w' : World} {a : Option Addr} {n cap g : Nat} {zs : List Int} (h : Rd lo hi w a n cap zs) (hr : Row w' g n zs) (hn : n ≤ 1048576) : Rd g (g + 1) w' (some ⟨g, 0, none⟩) n n zs :=
  Row.rd hr h.len h.byte (by omega) (Nat.le_refl _) (Nat.lt_succ_self _)

set_option maxRecDepth 100000 in
set_option maxHeartbeats 8000000 in
theorem walk {ca : Option Addr} {cn cc : Nat} {ea : Option Addr} {en ec : Nat} {ba : Option Addr} {bn bc : Nat} {zs : List Int} {x : OD} (k : Int) (hk : x.code = k) (w : World) (hR : RdO 0 w.heap.size w ca cn cc ea en ec x) (hB : Rd 0 w.heap.size w ba bn bc zs) :
    Calls Try.prog 4 #[.agg #[.slice ca cn cc, .slice ea en ec, .int .i64 k], .slice ba bn bc] w fun e w' => e = .returned (.bool true) ∧ Below w.heap.size w w' := by
  obtain ⟨Wb, hWb⟩ : ∃ Wb, Wb = w.alloc (.cells #[.slice ca cn cc, .slice ea en ec, .int .i64 k] 25) := ⟨_, rfl⟩
  have HWb : Hid (Wb = w.alloc (.cells #[.slice ca cn cc, .slice ea en ec, .int .i64 k] 25)) := hWb
  have hbb : Below w.heap.size w Wb := by rw [hWb]; exact (Below.refl _ _).alloc (Nat.le_refl _) _
  have HBB : Hid (Below w.heap.size w Wb) := hbb
  have hsb : Wb.heap.size = w.heap.size + 1 := by rw [hWb]; simp
  have HRb : Hid (RdO 0 w.heap.size Wb ca cn cc ea en ec x) := hR.below hbb (Nat.le_refl _)
  have HBb : Hid (∀ W, Below Wb.heap.size Wb W → Rd 0 w.heap.size W ba bn bc zs ∧ w.heap.size ≤ W.heap.size) := fun W hW => ⟨(hB.below hbb (Nat.le_refl _)).below hW (by omega), Nat.le_trans (by omega) hW.size⟩
  have hbx : BoxO 25 Wb w.heap.size (.slice ca cn cc) (.slice ea en ec) k := by rw [hWb]; exact BoxO.new _ w _ _ _
  have HAt : Hid (∀ W, Below Wb.heap.size Wb W → BoxO 25 W w.heap.size (.slice ca cn cc) (.slice ea en ec) k) := fun W hW => hbx.below hW (by omega)
  have HK : Hid (x.code = k) := hk
  obtain ⟨ok, hok⟩ : ∃ ok, ok = classZ x zs := ⟨_, rfl⟩
  have HOk : Hid (ok = classZ x zs) := hok
  have hokk : (ok != ok) = false := by simp
  have hbf := hB.fits
  obtain ⟨z0, z1, z2⟩ := hbx.cells
  clear hR hbb hWb hbx hk hok hB
  by_cases hbig : 1048576 < bn
  · have hbi : (1048576 : Int) < (bn : Int) := by omega
    go_enter Try.func4, Try.ntmps4
    go_upto_region 1 with fail
    rw [← HWb.out]
    go_wp2_with fail
    go_ret
    exact ⟨rfl, HBB.out⟩
  have hbn : bn ≤ 1048576 := by omega
  have hbd0 : decide ((1048576 : Int) < (bn : Int)) = false := by simp; omega
  have hbd1 : decide (1048576 < bn) = false := by simp; omega
  go_enter Try.func4, Try.ntmps4
  go_upto_region 3 with fail
  rw [← HWb.out]
  clear hbd0 hbd1 hbig
  go_wp2_with fail
  refine (szO_any HRb.out (by omega) k).mono ?_
  rintro e w0 ⟨r, rfl, hbounds, hb⟩
  have HBo : Hid (¬ r < 0 → BdO x cn en) := hbounds
  have H0 : Hid (Below Wb.heap.size Wb w0) := hb
  have s0 := hb.size
  clear z0 z1 z2 hb hbounds
  obtain ⟨z0, z1, z2⟩ := (HAt.out _ H0.out).cells
  by_cases hneg : r < 0
  · go_wp2_with fail
    go_ret
    exact ⟨rfl, HBB.out.trans (H0.out.mono (by omega))⟩
  · have HBd : Hid (BdO x cn en) := HBo.out hneg
    have HTo : Hid (∀ W, Below Wb.heap.size Wb W → Calls Try.prog 8 #[.agg #[.slice ca cn cc, .slice ea en ec, .int .i64 k]] W fun e w' => ∃ g0 g1, e = .returned (.agg #[.slice (some ⟨g0, 0, none⟩) cn cn, .slice (some ⟨g1, 0, none⟩) en en, .int .i64 k]) ∧ RdO W.heap.size w'.heap.size w' (some ⟨g0, 0, none⟩) cn cn (some ⟨g1, 0, none⟩) en en x ∧ Below W.heap.size W w') := fun W hW => toO_any (HRb.out.below hW (by omega)) (Nat.le_trans (by omega) hW.size) HBd.out k
    have HTb : Hid (∀ W, Below Wb.heap.size Wb W → Calls Try.prog 12 #[.slice ba bn bc] W fun e w' => e = .returned (.slice (some ⟨W.heap.size, 0, none⟩) bn bn) ∧ Rd W.heap.size (W.heap.size + 1) w' (some ⟨W.heap.size, 0, none⟩) bn bn zs ∧ W.heap.size + 1 ≤ w'.heap.size ∧ Below W.heap.size W w') := fun W hW => by
      refine (toByteS_any ba bn bc zs W (HBb.out W hW).1 (HBb.out W hW).2 hbn).mono ?_
      rintro e w' ⟨rfl, hrow, hb⟩
      exact ⟨rfl, rd_row (HBb.out W hW).1 hrow hbn, hrow.lt, hb⟩
    go_wp2_with fail
    refine (HTo.out w0 H0.out).mono ?_
    rintro e w1 ⟨ag0, ag1, rfl, hx1, hb1⟩
    have H1 : Hid (Below Wb.heap.size Wb w1) := H0.out.trans (hb1.mono s0)
    have HX1 : Hid (RdO w0.heap.size w1.heap.size w1 (some ⟨ag0, 0, none⟩) cn cn (some ⟨ag1, 0, none⟩) en en x) := hx1
    have s1 := hb1.size
    clear hx1 hb1 z0 z1 z2
    go_wp2_with fail
    refine (HTb.out w1 H1.out).mono ?_
    rintro e w2 ⟨rfl, hx2, hl2, hb2⟩
    have H2 : Hid (Below Wb.heap.size Wb w2) := H1.out.trans (hb2.mono (by omega))
    have HX2 : Hid (RdO w0.heap.size w1.heap.size w2 (some ⟨ag0, 0, none⟩) cn cn (some ⟨ag1, 0, none⟩) en en x) := HX1.out.below hb2 (Nat.le_refl _)
    have HB2 : Hid (Rd w1.heap.size (w1.heap.size + 1) w2 (some ⟨w1.heap.size, 0, none⟩) bn bn zs) := hx2
    have s2 := hb2.size
    clear hx2 hb2
    go_wp2_with fail
    refine (specClassOf_any HX2.out HK.out (by omega) (by omega) HBd.out HB2.out hl2).mono ?_
    rintro e w3 ⟨rfl, hb3⟩
    rw [← HOk.out]
    have H3 : Hid (Below Wb.heap.size Wb w3) := H2.out.trans (hb3.mono (by omega))
    have s3 := hb3.size
    clear hb3 hl2
    obtain ⟨z0, z1, z2⟩ := (HAt.out _ H3.out).cells
    go_wp2_with fail
    refine (HTo.out w3 H3.out).mono ?_
    rintro e w4 ⟨bg0, bg1, rfl, hx4, hb4⟩
    have s4 := hb4.size
    obtain ⟨w5, hw5⟩ : ∃ w5, w5 = w4.alloc (.cells #[.slice (some ⟨bg0, 0, none⟩) cn cn, .slice (some ⟨bg1, 0, none⟩) en en, .int .i64 k] 30) := ⟨_, rfl⟩
    have HW5 : Hid (w5 = w4.alloc (.cells #[.slice (some ⟨bg0, 0, none⟩) cn cn, .slice (some ⟨bg1, 0, none⟩) en en, .int .i64 k] 30)) := hw5
    have hb5 : Below w4.heap.size w4 w5 := by rw [hw5]; exact (Below.refl _ _).alloc (Nat.le_refl _) _
    have s5 : w4.heap.size < w5.heap.size := by rw [hw5]; simp
    have H5 : Hid (Below Wb.heap.size Wb w5) := (H3.out.trans (hb4.mono (by omega))).trans (hb5.mono (by omega))
    have HX5 : Hid (RdO w3.heap.size w4.heap.size w5 (some ⟨bg0, 0, none⟩) cn cn (some ⟨bg1, 0, none⟩) en en x) := hx4.below hb5 (Nat.le_refl _)
    have hbX : BoxO 30 w5 w4.heap.size (.slice (some ⟨bg0, 0, none⟩) cn cn) (.slice (some ⟨bg1, 0, none⟩) en en) k := by rw [hw5]; exact BoxO.new _ w4 _ _ _
    have HBX : Hid (BoxO 30 w5 w4.heap.size (.slice (some ⟨bg0, 0, none⟩) cn cn) (.slice (some ⟨bg1, 0, none⟩) en en) k) := hbX
    clear hx4 hb4 hb5 hw5 z0 z1 z2 hbX
    go_wp2_with fail
    rw [← HW5.out]
    refine (HTb.out w5 H5.out).mono ?_
    rintro e w6 ⟨rfl, hx6, hl6, hb6⟩
    have H6 : Hid (Below Wb.heap.size Wb w6) := H5.out.trans (hb6.mono (by omega))
    have HX6 : Hid (RdO w3.heap.size w4.heap.size w6 (some ⟨bg0, 0, none⟩) cn cn (some ⟨bg1, 0, none⟩) en en x) := HX5.out.below hb6 (by omega)
    have HB6 : Hid (Rd w5.heap.size (w5.heap.size + 1) w6 (some ⟨w5.heap.size, 0, none⟩) bn bn zs) := hx6
    have HBX6 : Hid (BoxO 30 w6 w4.heap.size (.slice (some ⟨bg0, 0, none⟩) cn cn) (.slice (some ⟨bg1, 0, none⟩) en en) k) := HBX.out.below hb6 (by omega)
    have s6 := hb6.size
    clear hx6 hb6
    obtain ⟨m0, m1, m2⟩ := HBX6.out.cells
    go_wp2_with fail
    refine (implClassOf_any HX6.out HK.out (by omega) HBd.out HB6.out hl6).mono ?_
    rintro e w7 ⟨rfl, hb7⟩
    rw [← HOk.out]
    have s7 := hb7.size
    have H7 : Hid (Below Wb.heap.size Wb w7) := H6.out.trans (hb7.mono (by omega))
    have HX7 : Hid (RdO w3.heap.size w4.heap.size w7 (some ⟨bg0, 0, none⟩) cn cn (some ⟨bg1, 0, none⟩) en en x) := HX6.out.below hb7 (by omega)
    have HB7 : Hid (Rd w5.heap.size (w5.heap.size + 1) w7 (some ⟨w5.heap.size, 0, none⟩) bn bn zs) := HB6.out.below hb7 hl6
    have HBX7 : Hid (BoxO 30 w7 w4.heap.size (.slice (some ⟨bg0, 0, none⟩) cn cn) (.slice (some ⟨bg1, 0, none⟩) en en) k) := HBX6.out.below hb7 (by omega)
    clear m0 m1 m2
    obtain ⟨z0, z1, z2⟩ := (HAt.out _ H7.out).cells
    obtain ⟨m0, m1, m2⟩ := HBX7.out.cells
    have H7d : Hid (Below Wb.heap.size Wb w7.drew) := H7.out.drew
    have HX7d : Hid (RdO w3.heap.size w4.heap.size w7.drew (some ⟨bg0, 0, none⟩) cn cn (some ⟨bg1, 0, none⟩) en en x) := HX7.out.below (Below.refl w7.heap.size w7).drew (by omega)
    have HB7d : Hid (Rd w5.heap.size (w5.heap.size + 1) w7.drew (some ⟨w5.heap.size, 0, none⟩) bn bn zs) := HB7.out.below (Below.refl w7.heap.size w7).drew (by omega)
    have HBX7d : Hid (BoxO 30 w7.drew w4.heap.size (.slice (some ⟨bg0, 0, none⟩) cn cn) (.slice (some ⟨bg1, 0, none⟩) en en) k) := HBX7.out
    have s7d : w7.drew.heap.size = w7.heap.size := rfl
    clear hb7
    go_upto_region 13 with fail
    first | go_region_with (first
      | (go_at_call 8; refine (HTo.out w7.drew H7d.out).mono ?_; rintro e w8 ⟨qg0, qg1, rfl, hx8, hb8⟩; have HX8 : Hid (RdO w7.drew.heap.size w8.heap.size w8 (some ⟨qg0, 0, none⟩) cn cn (some ⟨qg1, 0, none⟩) en en x) := hx8; have H8 : Hid (Below Wb.heap.size Wb w8) := H7d.out.trans (hb8.mono H7d.out.size); have HY8 : Hid (RdO w3.heap.size w4.heap.size w8 (some ⟨bg0, 0, none⟩) cn cn (some ⟨bg1, 0, none⟩) en en x) := HX7d.out.below hb8 (by omega); have HB8 : Hid (Rd w5.heap.size (w5.heap.size + 1) w8 (some ⟨w5.heap.size, 0, none⟩) bn bn zs) := HB7d.out.below hb8 (by omega); have HS8 : Hid (w7.heap.size ≤ w8.heap.size) := hb8.size; have HBX8 := HBX7d.out.below hb8 (by omega); clear m0 m1 m2; obtain ⟨m0, m1, m2⟩ := HBX8.cells; clear hx8 hb8 HBX8)
      | (go_at_call 10; refine (eqO_any HY8.out HX8.out (by have := HS8.out; omega) (Nat.le_refl _) k).mono ?_; rintro e w9 ⟨rfl, hb9⟩; have H9 : Hid (Below Wb.heap.size Wb w9) := H8.out.trans (hb9.mono H8.out.size); have HB9 : Hid (Rd w5.heap.size (w5.heap.size + 1) w9 (some ⟨w5.heap.size, 0, none⟩) bn bn zs) := HB8.out.below hb9 (by have := HS8.out; omega); have HS9 : Hid (w8.heap.size ≤ w9.heap.size) := hb9.size; clear hb9)) | fail
    all_goals
      clear m0 m1 m2 z0 z1 z2
      go_upto_region 15 with fail
      go_wp2_with fail
      refine (HTb.out w9 H9.out).mono ?_
      rintro e w10 ⟨rfl, hx10, hl10, hb10⟩
      have H10 : Hid (Below Wb.heap.size Wb w10) := H9.out.trans (hb10.mono H9.out.size)
      have HB10 : Hid (Rd w5.heap.size (w5.heap.size + 1) w10 (some ⟨w5.heap.size, 0, none⟩) bn bn zs) := HB9.out.below hb10 (by have := HS8.out; have := HS9.out; omega)
      have HC10 : Hid (Rd w9.heap.size (w9.heap.size + 1) w10 (some ⟨w9.heap.size, 0, none⟩) bn bn zs) := hx10
      clear hx10 hb10
      go_wp2_with fail
      refine (eqByteS_any _ _ bn bn bn bn zs zs w10 HB10.out HC10.out).mono ?_
      rintro e w11 ⟨rfl, nd, hw11⟩
      have H11 : Hid (Below Wb.heap.size Wb w11) := by unfold Hid; rw [hw11]; exact below_drewN H10.out nd
      rw [decide_eq_true (rfl : zs = zs)]
      clear hw11
      go_wp2_with fail
      go_ret
      exact ⟨rfl, HBB.out.trans (H11.out.mono (by omega))⟩

set_option maxRecDepth 100000 in
theorem lifted (os : Os) (started : os.Started) (H : Type) (enc : TypeId × Value → H) :
    ReturnsInHanded {} Try.checked os 4 .any (Rows.fnExactClassOfSpec.pre6 enc Try.prog Try.f4 Rows.fnExactClassOfRow.domain false) (Rows.fnExactClassOfSpec.post enc Try.prog Try.f4 false true false false) := by
  refine returnsInHanded_of_change (C := Try.checked) own started (by kernel_rfl) Try.func4
    (ChangeSpec.witness6 (enc := enc) (C := Try.checked) false ⟨#[], #[.agg #[.slice none 0 0, .slice none 0 0, .int .i64 0], .slice none 0 0], []⟩ 8 (by kernel_rfl) (by kernel_rfl) (by kernel_rfl) (by kernel_rfl)) ?_
  intro W base args ds gs before hval0 hW hcnd _
  have hval : ∀ (j : Nat) t v, Try.f4.params[j]? = some t → args[j]? = some v → Value.okWide Try.prog W .any base t v := hval0
  have hW' := hW
  obtain ⟨p, q, hA0, hV, rfl, hfz, hnd⟩ := hW
  have hA : DataW.TrodAll enc Try.prog W 0 (fun _ => true) true Try.f4.params.toList args.toList ds p := hA0
  rw [Try.params4] at hA hval
  obtain ⟨v0, vs0, d0, ds0, p0, q0, hargs, rfl, rfl, h0, r0⟩ := trodAll_cons hA
  obtain ⟨v1, vs1, d1, ds1, p1, q1, hargs1, rfl, rfl, h1, r1⟩ := trodAll_cons r0
  obtain ⟨rfl, rfl, rfl⟩ := trodAll_nil r1
  obtain rfl : args = #[v0, v1] := by cases args; simp_all
  obtain ⟨rfl, rfl⟩ := trodVars_none hV
  obtain ⟨cs0, rfl, _⟩ := okWide_struct Try.underlying25 (hval 0 25 v0 rfl rfl)
  obtain ⟨ba0, bn0, bc0, rfl⟩ := okWide_slice Try.underlying34 (hval 1 34 v1 rfl rfl)
  have k0 := h0
  have k1 := h1
  have lt0 : ∀ x ∈ p0, x.block < W.heap.size := by obtain ⟨m, hm⟩ := k0; exact DataW.trod_lt m _ _ _ hm
  have lt1 : ∀ x ∈ p1, x.block < W.heap.size := by obtain ⟨m, hm⟩ := k1; exact DataW.trod_lt m _ _ _ hm
  obtain ⟨ca, cn, cc, ea, en, ec, k, x, hcs, hk, w0⟩ : ∃ ca cn cc ea en ec k x, cs0 = #[.slice ca cn cc, .slice ea en ec, .int .i64 k] ∧ OD.code x = k ∧ RdO 0 W.heap.size W ca cn cc ea en ec x := by
    obtain ⟨fuel, hf⟩ := h0
    obtain ⟨ca, cn, cc, ea, en, ec, k, x, hv, hk, hr⟩ := open_order (cs := cs0.toList) (by simpa [Value.cells] using hf)
    exact ⟨ca, cn, cc, ea, en, ec, k, x, by cases cs0; simp_all, hk, hr⟩
  subst hcs
  obtain ⟨zs, w1⟩ : ∃ zs, Rd 0 W.heap.size W ba0 bn0 bc0 zs := by
    obtain ⟨fuel, hf⟩ := h1
    obtain ⟨a, l, c, zs, hv, hr⟩ := open_bytes (v := .slice ba0 bn0 bc0) (by simpa [Value.cells] using hf)
    simp only [Value.slice.injEq] at hv
    obtain ⟨rfl, rfl, rfl⟩ := hv
    exact ⟨zs, hr⟩
  clear hA0 hval0
  refine (walk k hk W w0 w1).mono fun e W' ⟨he, bel⟩ => ?_
  subst he
  exact ⟨_, rfl, _, _, _, [], _, [], hW', trodAll_mk1 (shut_bool Try.underlying4 _), (trodAll_cons_mk (Below.trod laidOut (by kernel_rfl) (of_decide_eq_true (by kernel_rfl)) k0 bel lt0) (trodAll_cons_mk (Below.trod laidOut (by kernel_rfl) (of_decide_eq_true (by kernel_rfl)) k1 bel lt1) trodAll_mk0)), rfl, bel.frame _, fun h => by cases h⟩

theorem over : Rows.fnExactClassOfRow.holds Try.pinned (OpenSpec.ofChange Rows.fnExactClassOfSpec) :=
  OpenClaim.holds_of_wide 4 Try.f4 rfl rfl rfl rfl rfl rfl rfl ⟨rfl, rfl, rfl, rfl, rfl⟩ rfl rfl rfl rfl rfl (by kernel_rfl) Try.func4 (by kernel_rfl)
    (of_decide_eq_true (by kernel_rfl)) (by unfold Func.isWrapper; first | (rw [if_pos (by decide +kernel)]; kernel_rfl) | (rw [if_neg (by decide +kernel)]; exact ⟨rfl, rfl⟩))
    (fun os started H enc _ => lifted os started H enc)

theorem proved : Rows.FnExactClassOfSaid := over
#print axioms proved
end Go.Proofs.Ytpedjcabapldgaa.fnExactClassOf
namespace Go.Proofs.Ytpedjcabapldgaa
theorem fnExactClassOf_holds : Rows.FnExactClassOfSaid := fnExactClassOf.proved
end Go.Proofs.Ytpedjcabapldgaa
