/- For every list of tokens the law FnExactTokenText answers true and the list reads behind the call as it did before: no condition. -/
import Derived.Test.YtghklkfcfaaadagRows
import Derived.Test.YtghklkfcfaaadagTTImpl
import Derived.Test.YtghklkfcfaaadagTTOpen
import Derived.WalkKit
import Derived.ProofKit
import Derived.OpenShut
import Derived.ShutString
import Derived.ChangeOld
import Derived.Below
namespace Go.Proofs.Ytghklkfcfaaadag.fnExactTokenText
open Go.ChangeShapes Go.WideShapes Go.ChangeAt Go.RowKit
set_option linter.unusedVariables false

theorem own : ownKnob Try.prog.godebug = none := by kernel_rfl
theorem laidOut : laidOutB Try.prog = true := by kernel_rfl

theorem LeafOk.same {lo hi : Nat} {w w' : World} {L : List (Addr × IntKind)} (h : LeafOk w L) (hs : Same lo hi w w') (hb : ∀ x ∈ L, lo ≤ x.1.block ∧ x.1.block < hi) : LeafOk w' L := by
  intro x hx
  obtain ⟨⟨n, hn⟩, hf⟩ := h x hx
  obtain ⟨h1, h2⟩ := hb x hx
  exact ⟨⟨n, (hs.cell h1 h2).trans hn⟩, (World.frozen?_of_block (w := w) (hs _ h1 h2)).trans hf⟩

theorem leafB_blk {g n : Nat} : ∀ x ∈ leafB g 0 n, x.1.block = g := by
  intro x hx
  simp only [leafB, List.mem_map] at hx
  obtain ⟨j, _, rfl⟩ := hx
  rfl

theorem leafB_in {g n lo hi : Nat} (h : n = 0 ∨ (lo ≤ g ∧ g < hi)) : ∀ x ∈ leafB g 0 n, lo ≤ x.1.block ∧ x.1.block < hi := by
  intro x hx
  rw [leafB_blk x hx]
  rcases h with h | h
  · subst h; simp [leafB] at hx
  · exact h

theorem head_same {w w' : World} {b off n lo hi : Nat} {tx : Nat → Nat × Nat × Nat} (h : HeadT w b off tx n) (hs : Same lo hi w w') (h1 : lo ≤ b) (h2 : b < hi) : HeadT w' b off tx n := by
  intro i hi'
  obtain ⟨ta, tc, hc, r⟩ := h i hi'
  exact ⟨ta, tc, (hs.cell (p := ⟨b, _, none⟩) h1 h2).trans hc, r⟩

set_option maxHeartbeats 2000000 in
theorem walk (a0 : Option Addr) (len0 cap0 : Nat) (ts : List Tok) (w : World) (hR : RdT 0 w.heap.size w a0 len0 cap0 ts) :
    Calls Try.prog 4 #[.slice a0 len0 cap0] w fun e w' => e = .returned (.bool true) ∧ Below w.heap.size w w' := by
  have HR : Hid (RdT 0 w.heap.size w a0 len0 cap0 ts) := hR
  have HTB : Hid (∀ i, 0 ≤ (tokText ts).getD i 0 ∧ (tokText ts).getD i 0 ≤ 255) := tokText_byte hR.byte
  have htl := tokText_len ts
  obtain ⟨zs, hzs⟩ : ∃ zs, zs = tokText ts := ⟨_, rfl⟩
  rw [← hzs] at htl
  have HZ : Hid (zs = tokText ts) := hzs
  obtain ⟨n, hn⟩ : ∃ n, n = zs.length := ⟨_, rfl⟩
  rw [← hn] at htl
  have HN : Hid (n = zs.length) := hn
  have hnn : ((1 + (n : Int)) != (1 + (n : Int))) = false := by simp
  clear hR hzs hn
  go_enter Try.func4, Try.ntmps4
  go_wp2_with fail
  refine (szTokenS_any _ _ _ ts _ HR.out (Nat.le_refl _)).mono ?_
  rintro e w0 ⟨r, rfl, hsz, hb0⟩
  have HB0 : Hid (Below w.heap.size w w0) := hb0
  clear hb0
  by_cases hneg : r < 0
  · go_wp2
    go_ret
    exact ⟨rfl, HB0.out⟩
  · have hsm := hsz (by omega)
    have HSm : Hid (len0 + sumT ts len0 ≤ 1048576) := hsm
    clear hsz hsm
    go_wp2_with fail
    refine (toTokenS_any _ _ _ ts _ (HR.out.same (Same.of_below HB0.out (Nat.le_refl _))) HB0.out.size HSm.out).mono ?_
    rintro e w1 ⟨f1, rfl, hm1, hb1⟩
    have HB1 : Hid (Below w.heap.size w w1) := HB0.out.trans (hb1.mono HB0.out.size)
    have HM1 : Hid (MadeT w0.heap.size w1 w0.heap.size len0 ts f1) := hm1
    have s01 := hb1.size
    clear hm1 hb1
    go_wp2_with fail
    refine (specTokenText_any _ _ _ ts _ HM1.out.rd (Nat.le_refl _)).mono ?_
    rintro e w2 ⟨vS, rfl, hS, hb2⟩
    have HB2 : Hid (Below w.heap.size w w2) := HB1.out.trans (hb2.mono HB1.out.size)
    have s12 := hb2.size
    rw [← HZ.out] at hS
    obtain ⟨aS, cS, bS, rfl, hrS, _, _, _⟩ := hS.form (by rw [HZ.out]; exact HTB.out)
    rw [← HN.out] at hrS ⊢
    have HS : Hid (Rd w1.heap.size w2.heap.size w2 aS n cS zs) := hrS
    clear hS hrS hb2
    go_wp2_with fail
    refine (toTokenS_any _ _ _ ts _ (HR.out.same (Same.of_below HB2.out (Nat.le_refl _))) HB2.out.size HSm.out).mono ?_
    rintro e w3 ⟨f3, rfl, hm3, hb3⟩
    have HB3 : Hid (Below w.heap.size w w3) := HB2.out.trans (hb3.mono HB2.out.size)
    have HM3 : Hid (MadeT w2.heap.size w3 w2.heap.size len0 ts f3) := hm3
    have HS3 : Hid (Rd w1.heap.size w2.heap.size w3 aS n cS zs) := HS.out.below hb3 (Nat.le_refl _)
    have s23 := hb3.size
    have s2lt := hm3.row.lt
    clear hm3 hb3
    go_wp2_with fail
    refine (implTokenText_any _ _ _ ts _ HM3.out.rd (Nat.le_refl _)).mono ?_
    rintro e w4 ⟨vI, rfl, hI, hb4⟩
    have HB4 : Hid (Below w.heap.size w w4) := HB3.out.trans (hb4.mono HB3.out.size)
    have s34 := hb4.size
    rw [← HZ.out] at hI
    obtain ⟨aI, cI, bI, rfl, hrI, haI, hlI, hbI⟩ := hI.form (by rw [HZ.out]; exact HTB.out)
    rw [← HN.out] at hrI haI hlI hbI ⊢
    have HI : Hid (Rd w3.heap.size w4.heap.size w4 aI n cI zs) := hrI
    have HLI : Hid (LeafOk w4 (leafB bI 0 n)) := hlI
    have HbI : Hid (n = 0 ∨ (w3.heap.size ≤ bI ∧ bI < w4.heap.size)) := hbI
    have HM4 : Hid (MadeT w2.heap.size w4 w2.heap.size len0 ts f3) := HM3.out.below hb4 (Nat.le_refl _)
    have HS4 : Hid (Rd w1.heap.size w2.heap.size w4 aS n cS zs) := HS3.out.below hb4 s23
    clear hI hrI hlI hbI hb4
    go_wp2_with fail
    refine (eqByteS_any _ _ _ _ _ _ zs zs _ HI.out HS4.out).mono ?_
    rintro e w5 ⟨rfl, nd5, hw5⟩
    rw [show decide (zs = zs) = true from by simp]
    have s45 : w4.heap.size = w5.heap.size := by rw [hw5]; rfl
    have HB5 : Hid (Below w.heap.size w w5) := by unfold Hid; rw [hw5]; exact below_drewN HB4.out nd5
    have H45 : Hid (Below w4.heap.size w4 w5) := by unfold Hid; rw [hw5]; exact below_drewN (Below.refl _ _) nd5
    clear hw5
    go_wp2_with fail
    refine (toTokenS_any _ _ _ ts _ (HR.out.same (Same.of_below HB5.out (Nat.le_refl _))) HB5.out.size HSm.out).mono ?_
    rintro e w6 ⟨f6, rfl, hm6, hb6⟩
    have HB6 : Hid (Below w.heap.size w w6) := HB5.out.trans (hb6.mono HB5.out.size)
    have H46 : Hid (Below w4.heap.size w4 w6) := H45.out.trans (hb6.mono (by omega))
    have HM6 : Hid (MadeT w5.heap.size w6 w5.heap.size len0 ts f6) := hm6
    have s56 := hb6.size
    clear hm6 hb6
    go_wp2_with fail
    refine (eqTokenS_same _ _ len0 _ _ ts w6 (HM4.out.rd.same (Same.of_below H46.out (Nat.le_refl _))) HM6.out.rd (by omega) (Nat.le_refl _)).mono ?_
    rintro e w7 ⟨rfl, hb7⟩
    have HB7 : Hid (Below w.heap.size w w7) := HB6.out.trans (hb7.mono HB6.out.size)
    have H47 : Hid (Below w4.heap.size w4 w7) := H46.out.trans (hb7.mono (by omega))
    have s67 := hb7.size
    clear hb7
    obtain ⟨hHd, hLf, hBk⟩ := (HM4.out.below H47.out (Nat.le_refl _)).leaf
    have HHd : Hid (HeadT w7 w2.heap.size 0 (txM ts f3) len0) := hHd
    have HLf : Hid (LeafOk w7 (leafT w2.heap.size 0 (txM ts f3) len0)) := hLf
    obtain ⟨_, _, hBk⟩ := HM3.out.leaf
    have HBk : Hid (∀ x ∈ leafT w2.heap.size 0 (txM ts f3) len0, w2.heap.size ≤ x.1.block ∧ x.1.block < w3.heap.size) := hBk
    have hlsum := leafT_sum w2.heap.size 0 ts f3 len0
    have HLs : Hid ((leafT w2.heap.size 0 (txM ts f3) len0).length = len0 * 2 + sumT ts len0) := hlsum
    clear hHd hLf hBk hlsum
    obtain ⟨q, hq⟩ : ∃ q : Int, q = 1 + ((leafT w2.heap.size 0 (txM ts f3) len0).length : Int) := ⟨_, rfl⟩
    have HQ : Hid (q = 1 + ((leafT w2.heap.size 0 (txM ts f3) len0).length : Int)) := hq
    have hq0 : (decide (q < 0)) = false := by simp; omega
    have hq1 : 0 ≤ q := by omega
    clear hq
    go_wp2_with fail
    refine (markTokenS_any _ len0 _ 1 w7 w2.heap.size 0 (txM ts f3) (.inr rfl) HHd.out HLf.out (by have := HSm.out; omega) (by omega) (by have := HSm.out; have := HLs.out; omega)).mono ?_
    rintro e w8 ⟨rfl, hw8⟩
    rw [← HQ.out]
    have s78 : w7.heap.size = w8.heap.size := by rw [hw8, size_marks]
    have sw2 := HB2.out.size
    have HB8 : Hid (Below w.heap.size w w8) := by unfold Hid; rw [hw8]; exact below_marks HB7.out (fun x hx => by have := HBk.out x hx; omega) 1
    have HS8 : Hid (Rd w1.heap.size w2.heap.size w8 aS n cS zs) := by
      refine HS4.out.same ((Same.of_below H47.out (by omega)).trans ?_)
      rw [hw8]; exact same_marks (fun x hx => by have := HBk.out x hx; omega) 1
    have H48 : Hid (Same w3.heap.size w4.heap.size w4 w8) := by
      refine (Same.of_below H47.out (Nat.le_refl _)).trans ?_
      rw [hw8]; exact same_marks (fun x hx => by have := HBk.out x hx; omega) 1
    clear hw8
    go_wp2_with fail
    refine (eqByteS_any _ _ _ _ _ _ zs zs _ (HI.out.same H48.out) HS8.out).mono ?_
    rintro e w9 ⟨rfl, nd9, hw9⟩
    rw [show decide (zs = zs) = true from by simp]
    have s89 : w8.heap.size = w9.heap.size := by rw [hw9]; rfl
    have HB9 : Hid (Below w.heap.size w w9) := by unfold Hid; rw [hw9]; exact below_drewN HB8.out nd9
    have H89 : Hid (Below w8.heap.size w8 w9) := by unfold Hid; rw [hw9]; exact below_drewN (Below.refl _ _) nd9
    have HS9 : Hid (Rd w1.heap.size w2.heap.size w9 aS n cS zs) := HS8.out.same (Same.of_below H89.out (by omega))
    have H49 : Hid (Same w3.heap.size w4.heap.size w4 w9) := H48.out.trans (Same.of_below H89.out (by omega))
    have HLI9 : Hid (LeafOk w9 (leafB bI 0 n)) := LeafOk.same HLI.out H49.out (leafB_in HbI.out)
    clear hw9
    go_wp2_with fail
    refine (markByteS_any aI n cI 1 w9 bI 0 haI HLI9.out (by omega) (by omega)).mono ?_
    rintro e w10 ⟨rfl, hw10⟩
    have s910 : w9.heap.size = w10.heap.size := by rw [hw10, size_marks]
    have HB10 : Hid (Below w.heap.size w w10) := by unfold Hid; rw [hw10]; exact below_marks HB9.out (fun x hx => by have := leafB_in HbI.out x hx; omega) 1
    have HS10 : Hid (Rd w1.heap.size w2.heap.size w10 aS n cS zs) := by
      refine HS9.out.same ?_
      rw [hw10]; exact same_marks (fun x hx => by have := leafB_in HbI.out x hx; omega) 1
    have HHe : Hid (Held w10 (leafB bI 0 n) 1) := by unfold Hid; rw [hw10]; exact held_marks HLI9.out (leafB_nodup _ _ _) 1
    clear hw10
    go_wp2_with fail
    refine (heldByteS_any aI n cI 1 w10 bI 0 haI (held_leafB HHe.out) (by omega) (by omega)).mono ?_
    rintro e w11 ⟨rfl, hw11⟩
    rw [hw11]
    clear hw11
    go_wp2_with fail
    refine (toTokenS_any _ _ _ ts _ (HR.out.same (Same.of_below HB10.out (Nat.le_refl _))) HB10.out.size HSm.out).mono ?_
    rintro e w12 ⟨f12, rfl, hm12, hb12⟩
    have HB12 : Hid (Below w.heap.size w w12) := HB10.out.trans (hb12.mono HB10.out.size)
    have H1012 : Hid (Below w10.heap.size w10 w12) := hb12
    have HM12 : Hid (MadeT w10.heap.size w12 w10.heap.size len0 ts f12) := hm12
    have s1012 := hb12.size
    clear hm12 hb12
    go_wp2_with fail
    refine (implTokenText_any _ _ _ ts _ HM12.out.rd (Nat.le_refl _)).mono ?_
    rintro e w13 ⟨vH, rfl, hH, hb13⟩
    have HB13 : Hid (Below w.heap.size w w13) := HB12.out.trans (hb13.mono HB12.out.size)
    have H1013 : Hid (Below w10.heap.size w10 w13) := H1012.out.trans (hb13.mono s1012)
    rw [← HZ.out] at hH
    obtain ⟨aH, cH, bH, rfl, hrH, _, _, _⟩ := hH.form (by rw [HZ.out]; exact HTB.out)
    rw [← HN.out] at hrH ⊢
    have HH : Hid (Rd w12.heap.size w13.heap.size w13 aH n cH zs) := hrH
    have HS13 : Hid (Rd w1.heap.size w2.heap.size w13 aS n cS zs) := HS10.out.same (Same.of_below H1013.out (by omega))
    clear hH hrH hb13
    go_wp2_with fail
    refine (eqByteS_any _ _ _ _ _ _ zs zs _ HH.out HS13.out).mono ?_
    rintro e w14 ⟨rfl, nd14, hw14⟩
    rw [show decide (zs = zs) = true from by simp]
    have HB14 : Hid (Below w.heap.size w w14) := by unfold Hid; rw [hw14]; exact below_drewN HB13.out nd14
    have H1014 : Hid (Below w10.heap.size w10 w14) := by unfold Hid; rw [hw14]; exact below_drewN H1013.out nd14
    have HHe14 : Hid (Held w14 (leafB bI 0 n) 1) := Held.same (Same.of_below (hi := w4.heap.size) H1014.out (by omega)) (leafB_in HbI.out) HHe.out
    clear hw14
    go_wp2_with fail
    refine (heldByteS_any aI n cI 1 w14 bI 0 haI (held_leafB HHe14.out) (by omega) (by omega)).mono ?_
    rintro e w15 ⟨rfl, hw15⟩
    rw [hw15]
    clear hw15
    go_wp2
    go_ret
    exact ⟨rfl, HB14.out⟩

set_option maxRecDepth 100000 in
theorem lifted (os : Os) (started : os.Started) (H : Type) (enc : TypeId × Value → H) :
    ReturnsInHanded {} Try.checked os 4 .any (Rows.fnExactTokenTextSpec.pre6 enc Try.prog Try.f4 Rows.fnExactTokenTextRow.domain false) (Rows.fnExactTokenTextSpec.post enc Try.prog Try.f4 false true false false) := by
  refine returnsInHanded_of_change (C := Try.checked) own started (by kernel_rfl) Try.func4
    (ChangeSpec.witness6 (enc := enc) (C := Try.checked) false ⟨#[], #[.slice none 0 0], []⟩ 8 (by kernel_rfl) (by kernel_rfl) (by kernel_rfl) (by kernel_rfl)) ?_
  intro W base args ds gs before hval0 hW hcnd _
  have hval : ∀ (j : Nat) t v, Try.f4.params[j]? = some t → args[j]? = some v → Value.okWide Try.prog W .any base t v := hval0
  have hW' := hW
  obtain ⟨p, q, hA0, hV, rfl, hfz, hnd⟩ := hW
  have hA : DataW.TrodAll enc Try.prog W 0 (fun _ => true) true Try.f4.params.toList args.toList ds p := hA0
  rw [Try.params4] at hA hval
  obtain ⟨v0, vs0, d0, ds0, p0, q0, hargs, rfl, rfl, h0, r0⟩ := trodAll_cons hA
  obtain ⟨rfl, rfl, rfl⟩ := trodAll_nil r0
  obtain rfl : args = #[v0] := by cases args; simp_all
  obtain ⟨rfl, rfl⟩ := trodVars_none hV
  obtain ⟨a0, len0, cap0, rfl⟩ := okWide_slice Try.underlying32 (hval 0 32 v0 rfl rfl)
  have k0 := h0
  have lt0 : ∀ x ∈ p0, x.block < W.heap.size := by obtain ⟨m, hm⟩ := k0; exact DataW.trod_lt m _ _ _ hm
  obtain ⟨ts, w0⟩ : ∃ ts, RdT 0 W.heap.size W a0 len0 cap0 ts := by
    obtain ⟨fuel, hf⟩ := h0
    obtain ⟨a, l, c, ts, hv, hr⟩ := open_toks (v := .slice a0 len0 cap0) (by simpa [Value.cells] using hf)
    simp only [Value.slice.injEq] at hv
    obtain ⟨rfl, rfl, rfl⟩ := hv
    exact ⟨ts, hr⟩
  clear hA0 hval0
  refine (walk a0 len0 cap0 ts W w0).mono fun e W' ⟨he, bel⟩ => ?_
  subst he
  exact ⟨_, rfl, _, _, _, [], _, [], hW', trodAll_mk1 (shut_bool Try.underlying4 _), (trodAll_cons_mk (Below.trod laidOut (by kernel_rfl) (of_decide_eq_true (by kernel_rfl)) k0 bel lt0) trodAll_mk0), rfl, bel.frame _, fun h => by cases h⟩

theorem over : Rows.fnExactTokenTextRow.holds Try.pinned (OpenSpec.ofChange Rows.fnExactTokenTextSpec) :=
  OpenClaim.holds_of_wide 4 Try.f4 rfl rfl rfl rfl rfl rfl rfl ⟨rfl, rfl, rfl, rfl, rfl⟩ rfl rfl rfl rfl rfl (by kernel_rfl) Try.func4 (by kernel_rfl)
    (of_decide_eq_true (by kernel_rfl)) (by unfold Func.isWrapper; first | (rw [if_pos (by decide +kernel)]; kernel_rfl) | (rw [if_neg (by decide +kernel)]; exact ⟨rfl, rfl⟩))
    (fun os started H enc _ => lifted os started H enc)

theorem proved : Rows.FnExactTokenTextSaid := over
#print axioms proved
end Go.Proofs.Ytghklkfcfaaadag.fnExactTokenText
namespace Go.Proofs.Ytghklkfcfaaadag
theorem fnExactTokenText_holds : Rows.FnExactTokenTextSaid := fnExactTokenText.proved
end Go.Proofs.Ytghklkfcfaaadag
