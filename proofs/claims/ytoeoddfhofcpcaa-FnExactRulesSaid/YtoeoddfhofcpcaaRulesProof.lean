/- For all that may be told the law FnExactRules answers true, and what was handed in reads behind the call as it did before: no condition. -/
import Derived.Test.YtoeoddfhofcpcaaRows
import Derived.Test.YtoeoddfhofcpcaaRulesAll
import Derived.Test.YtoeoddfhofcpcaaKbLawsR
import Derived.WalkKit
import Derived.ProofKit
import Derived.OpenShut
import Derived.ShutString
import Derived.ChangeOld
import Derived.Below
import Derived.Deep.RegionHeld
import Derived.Deep.DeepCutAuto
namespace Go.Proofs.Ytoeoddfhofcpcaa.fnExactRules
open Go.ChangeShapes Go.WideShapes Go.ChangeAt Go.RowKit Go.Deep
set_option linter.unusedVariables false

theorem own : ownKnob Try.prog.godebug = none := by kernel_rfl
theorem laidOut : laidOutB Try.prog = true := by kernel_rfl

theorem bulks' {xs : List AX} (h : bulkK xs ≤ 1048576) : ∀ x ∈ xs, x.c.bulk ≤ 1048576 ∧ x.d.bulk ≤ 1048576 := by
  intro x hx
  obtain ⟨i, hi, rfl⟩ := mem_getD hx
  have := bulkK_getD xs i hi
  unfold AX.bulk at this
  omega

set_option maxRecDepth 100000 in
set_option maxHeartbeats 8000000 in
theorem walk {dp : Nat} {a : Option Addr} {n cap : Nat} {xs : List AX} (w : World) (hR : RdK 0 w.heap.size w dp a n cap xs) :
    Calls Try.prog 3 #[.agg #[.slice a n cap]] w fun e w' => e = .returned (.bool true) ∧ Below w.heap.size w w' := by
  obtain ⟨Wb, hWb⟩ : ∃ Wb, Wb = w.alloc (.cells #[.slice a n cap] 24) := ⟨_, rfl⟩
  have HWb : Hid (Wb = w.alloc (.cells #[.slice a n cap] 24)) := hWb
  have hbb : Below w.heap.size w Wb := by rw [hWb]; exact (Below.refl _ _).alloc (Nat.le_refl _) _
  have HBB : Hid (Below w.heap.size w Wb) := hbb
  have hsb : w.heap.size < Wb.heap.size := by rw [hWb]; simp
  have HRb : Hid (RdK 0 w.heap.size Wb dp a n cap xs) := hR.below hbb (Nat.le_refl _)
  have hbx : Boxed Wb w.heap.size 24 (.slice a n cap) := by rw [hWb]; exact Boxed.new _ _ _
  have HAt : Hid (∀ W, Below Wb.heap.size Wb W → Boxed W w.heap.size 24 (.slice a n cap)) := fun W hW => (hW.block _ hsb).trans hbx
  obtain ⟨cs, hcs⟩ : ∃ a, a = rulesN xs := ⟨_, rfl⟩
  have HA : Hid (cs = rulesN xs) := hcs
  obtain ⟨nn, hnn0⟩ : ∃ n, n = cs.length := ⟨_, rfl⟩
  have HN : Hid (nn = cs.length) := hnn0
  have hn16 : nn ≤ 16 := by rw [hnn0, hcs]; exact rulesN_len _
  obtain ⟨mm, hmm⟩ : ∃ m, m = bulks cs := ⟨_, rfl⟩
  have HM : Hid (mm = bulks cs) := hmm
  have hm4 : mm ≤ 20000 := by rw [hmm, hcs]; exact rulesN_bulk _
  have hneq : ((1 + (mm : Int)) != (1 + (mm : Int))) = false := by simp
  have hnlt : ¬ (1 + (mm : Int) < 0) := by omega
  obtain ⟨ok, hok⟩ : ∃ ok, ok = kbB xs := ⟨_, rfl⟩
  have HOK : Hid (ok = kbB xs) := hok
  have hokk : (ok != ok) = false := by simp
  have z0 := hbx.cell
  clear hR hbb hWb hbx hcs hnn0 hmm hok
  go_enter Try.func3, Try.ntmps3
  go_wp2_with fail
  rw [← HWb.out]
  refine (szKb_any HRb.out (by omega)).mono ?_
  rintro e w0 ⟨r, rfl, hbounds, hb⟩
  have HBo : Hid (¬ r < 0 → bulkK xs ≤ 1048576) := hbounds
  have H0 : Hid (Below Wb.heap.size Wb w0) := hb
  have s0 := hb.size
  clear z0 hb hbounds
  have z0 := (HAt.out _ H0.out).cell
  by_cases hneg : r < 0
  · go_wp2_with fail
    go_ret
    exact ⟨rfl, HBB.out.trans (H0.out.mono (by omega))⟩
  · have HBd : Hid (bulkK xs ≤ 1048576) := HBo.out hneg
    have HTo : Hid (∀ W, Below Wb.heap.size Wb W → Calls Try.prog 8 #[.agg #[.slice a n cap]] W fun e w' => ∃ g, e = .returned (.agg #[.slice (some ⟨g, 0, none⟩) n n]) ∧ RdK W.heap.size w'.heap.size w' dp (some ⟨g, 0, none⟩) n n xs ∧ Below W.heap.size W w' ∧ Free W.heap.size w'.heap.size w') :=
      fun W hW => toKb_any (HRb.out.below hW (by omega)) (Nat.le_trans (by omega) hW.size) HBd.out
    go_wp2_with fail
    refine (HTo.out w0 H0.out).mono ?_
    rintro e w1 ⟨g1, rfl, hx1, hb1, _⟩
    have H1 : Hid (Below Wb.heap.size Wb w1) := H0.out.trans (hb1.mono s0)
    have HX1 : Hid (RdK w0.heap.size w1.heap.size w1 dp (some ⟨g1, 0, none⟩) n n xs) := hx1
    have s1 := hb1.size
    clear hx1 hb1 z0
    go_wp2_with fail
    refine (specRules_any HX1.out (Nat.le_refl _) (by omega)).mono ?_
    rintro e w2 ⟨Bs, vS, LS, XS, rfl, hBs, hrS, hgS, hb2⟩
    rw [← HOK.out]
    rw [← HA.out] at hrS
    obtain ⟨sa, scap, hvS, hS⟩ := rowK_rd hrS hgS
    rw [← HN.out] at hvS hS
    subst hvS
    have HS : Hid (RdL (RdC Bs w2.heap.size w2 (dp + 2)) Bs w2.heap.size w2 sa nn scap cs) := hS
    have H2 : Hid (Below Wb.heap.size Wb w2) := H1.out.trans (hb2.mono (by omega))
    have s2 := hb2.size
    clear hb2 hS hrS hgS
    have z0 := (HAt.out _ H2.out).cell
    go_wp2_with fail
    refine (HTo.out w2 H2.out).mono ?_
    rintro e w3 ⟨g3, rfl, hx3, hb3, hf3⟩
    have s3 := hb3.size
    obtain ⟨w4, hw4⟩ : ∃ w4, w4 = w3.alloc (.cells #[.slice (some ⟨g3, 0, none⟩) n n] 31) := ⟨_, rfl⟩
    have HW4 : Hid (w4 = w3.alloc (.cells #[.slice (some ⟨g3, 0, none⟩) n n] 31)) := hw4
    have hb4 : Below w3.heap.size w3 w4 := by rw [hw4]; exact (Below.refl _ _).alloc (Nat.le_refl _) _
    have s4 : w3.heap.size < w4.heap.size := by rw [hw4]; simp
    have H24 : Hid (Below w2.heap.size w2 w4) := hb3.trans (hb4.mono (by omega))
    have H4 : Hid (Below Wb.heap.size Wb w4) := H2.out.trans (H24.out.mono (by omega))
    have HX4 : Hid (RdK w2.heap.size w3.heap.size w4 dp (some ⟨g3, 0, none⟩) n n xs) := hx3.below hb4 (Nat.le_refl _)
    have HFr4 : Hid (Free w2.heap.size w3.heap.size w4) := hf3.same (Same.of_below hb4 (Nat.le_refl _))
    have HBX : Hid (Boxed w4 w3.heap.size 31 (.slice (some ⟨g3, 0, none⟩) n n)) := by unfold Hid; rw [hw4]; exact Boxed.new _ _ _
    clear hx3 hb3 hb4 hw4 hf3 z0
    go_wp2_with fail
    rw [← HW4.out]
    refine (implRules_any HX4.out (by omega) (bulks' HBd.out)).mono ?_
    rintro e w5 ⟨vG, LG, XG, rfl, hG, hb5⟩
    rw [← HOK.out]
    rw [← HA.out] at hG
    obtain ⟨ga, gcap, gb, hvG, hfG⟩ := FinL.of hG
    rw [← HN.out] at hvG hfG
    subst hvG
    have s5 := hb5.size
    have HG5 : Hid (AnsL w4.heap.size w5 (dp + 2) (.slice ga nn gcap) cs LG XG) := hG
    have HGr : Hid (RdL (RdC w4.heap.size w5.heap.size w5 (dp + 2)) w4.heap.size w5.heap.size w5 ga nn gcap cs) := hfG.rd
    have HS5 : Hid (RdL (RdC Bs w2.heap.size w5 (dp + 2)) Bs w2.heap.size w5 sa nn scap cs) := (HS.out.below H24.out (Nat.le_refl _)).below hb5 (by omega)
    have H25 : Hid (Below w2.heap.size w2 w5) := H24.out.trans (hb5.mono (by omega))
    have H5 : Hid (Below Wb.heap.size Wb w5) := H4.out.trans (hb5.mono (by omega))
    have HX5 : Hid (RdK w2.heap.size w3.heap.size w5 dp (some ⟨g3, 0, none⟩) n n xs) := HX4.out.below hb5 (by omega)
    have HFr5 : Hid (Free w2.heap.size w3.heap.size w5) := HFr4.out.same (Same.of_below hb5 (by omega))
    have HBX5 : Hid (Boxed w5 w3.heap.size 31 (.slice (some ⟨g3, 0, none⟩) n n)) := (hb5.block _ s4).trans HBX.out
    clear hb5 hG hfG
    go_wp2_with fail
    refine (eqL_of (eqC_any (dp + 2)) _ _ _ _ _ cs (dp + 2) w5 w4.heap.size w5.heap.size Bs w2.heap.size HGr.out HS5.out (Nat.le_refl _) (by omega)).mono ?_
    rintro e w6 ⟨rfl, h56⟩
    have s6 := h56.size
    have H6 : Hid (Below Wb.heap.size Wb w6) := H5.out.trans (h56.mono (by omega))
    have H56d : Hid (Below w5.heap.size w5 w6.drew) := h56.drew
    have H6d : Hid (Below Wb.heap.size Wb w6.drew) := H6.out.drew
    have HSx : Hid (∀ V, Below w6.drew.heap.size w6.drew V → RdK w2.heap.size w3.heap.size V dp (some ⟨g3, 0, none⟩) n n xs ∧ V.cell? ⟨w3.heap.size, 0, none⟩ = some (.slice (some ⟨g3, 0, none⟩) n n) ∧ Below w5.heap.size w5 V ∧ w3.heap.size ≤ V.heap.size) := by
      intro V hV
      have h5V : Below w5.heap.size w5 V := H56d.out.trans (hV.mono H56d.out.size)
      have hsV := h5V.size
      exact ⟨HX5.out.below h5V (by omega), (h5V.cell (p := ⟨w3.heap.size, 0, none⟩) (show w3.heap.size < w5.heap.size by omega)).trans HBX5.out.cell, h5V, by omega⟩
    have m0 : w6.cell? ⟨w3.heap.size, 0, none⟩ = some (.slice (some ⟨g3, 0, none⟩) n n) := (h56.cell (p := ⟨w3.heap.size, 0, none⟩) (show w3.heap.size < w5.heap.size by omega)).trans HBX5.out.cell
    have z0 := (HAt.out _ H6.out).cell
    clear h56
    go_upto_region 10 with fail
    go_cut [45] (fun b W => b = .bool false ∧ Below w5.heap.size w5 W)
    case first =>
      first | go_region_with (first
        | (go_at_call 8; refine (HTo.out w6.drew H6d.out).mono ?_; rintro e w7 ⟨g7, rfl, hx7, hb7, _⟩; obtain ⟨hy7, m7, hb7', hs7⟩ := HSx.out _ hb7; have HX7 : Hid (RdK w6.drew.heap.size w7.heap.size w7 dp (some ⟨g7, 0, none⟩) n n xs) := hx7; have HY7 : Hid (RdK w2.heap.size w3.heap.size w7 dp (some ⟨g3, 0, none⟩) n n xs) := hy7; have H57 : Hid (Below w5.heap.size w5 w7) := hb7'; clear hx7 hy7 hb7 hb7')
        | (go_at_call 11; refine (eqKb_any HY7.out HX7.out hs7 (Nat.le_refl _)).mono ?_; rintro e w8 ⟨rfl, hb8⟩; have H58 : Hid (Below w5.heap.size w5 w8) := H57.out.trans (hb8.mono H57.out.size); clear hb8)) | fail
      all_goals
        go_wp2_with fail
        go_meet
        case rel => exact ⟨rfl, H58.out⟩
    case rest =>
      obtain ⟨hb31, h5c⟩ := hcut
      subst hb31
      have H5c : Hid (Below w5.heap.size w5 wc) := h5c
      have hsc := h5c.size
      have HXc : Hid (RdK w2.heap.size w3.heap.size wc dp (some ⟨g3, 0, none⟩) n n xs) := HX5.out.below h5c (by omega)
      have HFrc : Hid (Free w2.heap.size w3.heap.size wc) := HFr5.out.same (Same.of_below h5c (by omega))
      have H2c : Hid (Below w2.heap.size w2 wc) := H25.out.trans (h5c.mono (by omega))
      have Hbc : Hid (Below Wb.heap.size Wb wc) := H5.out.trans (h5c.mono (by omega))
      clear m0 z0
      have m0 : wc.cell? ⟨w3.heap.size, 0, none⟩ = some (.slice (some ⟨g3, 0, none⟩) n n) := (h5c.cell (p := ⟨w3.heap.size, 0, none⟩) (show w3.heap.size < w5.heap.size by omega)).trans HBX5.out.cell
      clear h5c
      go_wp2_with fail
      refine (markKb_any HXc.out (by omega) HFrc.out HBd.out).mono ?_
      rintro e w9 ⟨q, rfl, hq1, hm9⟩
      have hq0 : (decide (q < 0)) = false := by simp; omega
      have s9 := hm9.size
      have hblk : ∀ b, b < w5.heap.size → (b < w2.heap.size ∨ w3.heap.size ≤ b) → w9.heap[b]? = w5.heap[b]? := fun b h1 h2 => (hm9.out b (by omega) h2).trans (H5c.out.block b h1)
      have HG9 : Hid (RdL (RdC w4.heap.size w5.heap.size w9 (dp + 2)) w4.heap.size w5.heap.size w9 ga nn gcap cs) := HGr.out.same (fun b h1 h2 => hblk b h2 (.inr (by omega)))
      have HS9 : Hid (RdL (RdC Bs w2.heap.size w9 (dp + 2)) Bs w2.heap.size w9 sa nn scap cs) := HS5.out.same (fun b h1 h2 => hblk b (by omega) (.inl h2))
      have HO9 : Hid (AnsL w4.heap.size w9 (dp + 2) (.slice ga nn gcap) cs LG XG) := HG5.out.same (fun b h1 h2 => hblk b h2 (.inr (by omega))) (by omega)
      have H9 : Hid (Below Wb.heap.size Wb w9) := ⟨hm9.os.trans Hbc.out.os, hm9.tape.trans Hbc.out.tape, hm9.output.trans Hbc.out.output, Nat.le_trans Hbc.out.size hm9.size, fun b hb => (hm9.out b (by omega) (.inl (by omega))).trans (Hbc.out.block b hb)⟩
      clear hm9 m0 hblk
      go_wp2_with fail
      refine (eqL_of (eqC_any (dp + 2)) _ _ _ _ _ cs (dp + 2) w9 w4.heap.size w5.heap.size Bs w2.heap.size HG9.out HS9.out (by omega) (by omega)).mono ?_
      rintro e w10 ⟨rfl, h910⟩
      have s10 := h910.size
      have H10 : Hid (Below Wb.heap.size Wb w10) := H9.out.trans (h910.mono (by omega))
      have HS10 : Hid (RdL (RdC Bs w2.heap.size w10 (dp + 2)) Bs w2.heap.size w10 sa nn scap cs) := HS9.out.below h910 (by omega)
      obtain ⟨ga', gcap', b0, hv10, hf10⟩ := FinL.of (HO9.out.below h910)
      rw [← HN.out] at hv10 hf10
      simp only [Value.slice.injEq] at hv10
      obtain ⟨rfl, hjunk, rfl⟩ := hv10
      clear hjunk
      obtain ⟨Lf, hLf⟩ : ∃ Lf : Nat → List (Addr × IntKind), Lf = fun i => LG.getD i [] := ⟨_, rfl⟩
      rw [← hLf] at hf10
      have HF10 : Hid (FinL w4.heap.size w10.heap.size w10 (dp + 2) ga nn gcap cs b0 Lf) := hf10
      have HNl : Hid ((leafK b0 0 Lf nn).length = mm) := by unfold Hid; rw [HM.out]; exact hf10.ln
      clear h910 hf10 hLf
      go_wp2_with fail
      refine (mxL_any (dp + 2) ga nn gcap b0 0 Lf 1 w10 HF10.out.lv HF10.out.ok (by omega) (by rw [HNl.out]; omega) (by omega) (by rw [HNl.out]; omega)).mono ?_
      rintro e w11 ⟨rfl, hw11⟩
      rw [HNl.out]
      have s11 : w10.heap.size ≤ w11.heap.size := by rw [hw11, size_marks]; exact Nat.le_refl _
      have hblk : ∀ b, b < w4.heap.size → w11.heap[b]? = w10.heap[b]? := fun b h1 => by
        rw [hw11]
        have h3 : Same b (b + 1) w10 (marks w10 (leafK b0 0 Lf nn) 1) := same_marks (fun x hx => by have := HF10.out.bl x hx; omega) 1
        exact h3 b (Nat.le_refl _) (by omega)
      have H11 : Hid (Below Wb.heap.size Wb w11) := by
        unfold Hid
        rw [hw11]
        exact below_marks H10.out (fun x hx => by have := HF10.out.bl x hx; omega) 1
      have HS11 : Hid (RdL (RdC Bs w2.heap.size w11 (dp + 2)) Bs w2.heap.size w11 sa nn scap cs) := HS10.out.same (fun b h1 h2 => hblk b (by omega))
      have HHe : Hid (Held w11 (leafK b0 0 Lf nn) 1) := by unfold Hid; rw [hw11]; exact held_marks HF10.out.ok HF10.out.nd 1
      have HLv : Hid (LvL (LvC w11 (dp + 2)) w11 ga nn b0 0 Lf) := by
        unfold Hid
        rw [hw11]
        exact HF10.out.lv.keep (keepS_marks HF10.out.ok 1)
      clear hw11 hblk
      go_wp2_with fail
      refine (hxL_any (dp + 2) ga nn gcap b0 0 Lf 1 w11 HLv.out HHe.out (by omega) (by rw [HNl.out]; omega) (by omega) (by rw [HNl.out]; omega)).mono ?_
      rintro e w12 ⟨rfl, hw12⟩
      rw [HNl.out]
      have H1112 : Hid (Below w11.heap.size w11 w12) := by unfold Hid; rw [hw12]; exact Below.refl _ _
      have s12 := H1112.out.size
      have H12 : Hid (Below Wb.heap.size Wb w12) := H11.out.trans (H1112.out.mono (by omega))
      have z0 := (HAt.out _ H12.out).cell
      clear hw12
      go_wp2_with fail
      refine (HTo.out w12 H12.out).mono ?_
      rintro e w13 ⟨g13, rfl, hx13, hb13, _⟩
      have HX13 : Hid (RdK w12.heap.size w13.heap.size w13 dp (some ⟨g13, 0, none⟩) n n xs) := hx13
      have H1113 : Hid (Below w11.heap.size w11 w13) := H1112.out.trans (hb13.mono (by omega))
      have s13 := hb13.size
      clear hx13 hb13 z0
      go_wp2_with fail
      refine (implRules_any HX13.out (Nat.le_refl _) (bulks' HBd.out)).mono ?_
      rintro e w14 ⟨vH, LH, XH, rfl, hH, hb14⟩
      rw [← HOK.out]
      rw [← HA.out] at hH
      obtain ⟨ha', hcap, hvH, hrH⟩ := rowK_rd hH.row hH.sep.ge
      rw [← HN.out] at hvH hrH
      subst hvH
      have s14 := hb14.size
      have H1114 : Hid (Below w11.heap.size w11 w14) := H1113.out.trans (hb14.mono (by omega))
      have HHr : Hid (RdL (RdC w13.heap.size w14.heap.size w14 (dp + 2)) w13.heap.size w14.heap.size w14 ha' nn hcap cs) := hrH
      have HS14 : Hid (RdL (RdC Bs w2.heap.size w14 (dp + 2)) Bs w2.heap.size w14 sa nn scap cs) := HS11.out.below H1114.out (by omega)
      clear hH hb14 hrH
      go_wp2_with fail
      refine (eqL_of (eqC_any (dp + 2)) _ _ _ _ _ cs (dp + 2) w14 w13.heap.size w14.heap.size Bs w2.heap.size HHr.out HS14.out (Nat.le_refl _) (by omega)).mono ?_
      rintro e w15 ⟨rfl, hb15⟩
      have H1115 : Hid (Below w11.heap.size w11 w15) := H1114.out.trans (hb15.mono (by omega))
      have H15 : Hid (Below Wb.heap.size Wb w15) := H11.out.trans (H1115.out.mono (by omega))
      have HHe15 : Hid (Held w15 (leafK b0 0 Lf nn) 1) := HHe.out.below H1115.out
      have HLv15 : Hid (LvL (LvC w15 (dp + 2)) w15 ga nn b0 0 Lf) := HLv.out.keep (KeepS.of_below H1115.out)
      clear hb15
      go_wp2_with fail
      refine (hxL_any (dp + 2) ga nn gcap b0 0 Lf 1 w15 HLv15.out HHe15.out (by omega) (by rw [HNl.out]; omega) (by omega) (by rw [HNl.out]; omega)).mono ?_
      rintro e w16 ⟨rfl, hw16⟩
      rw [HNl.out]
      have H16 : Hid (Below Wb.heap.size Wb w16) := by unfold Hid; rw [hw16]; exact H15.out
      clear hw16
      go_wp2_with fail
      go_ret
      exact ⟨rfl, HBB.out.trans (H16.out.mono (by omega))⟩

set_option maxRecDepth 100000 in
theorem lifted (os : Os) (started : os.Started) (H : Type) (enc : TypeId × Value → H) :
    ReturnsInHanded {} Try.checked os 3 .any (Rows.fnExactRulesSpec.pre6 enc Try.prog Try.f3 Rows.fnExactRulesRow.domain false) (Rows.fnExactRulesSpec.post enc Try.prog Try.f3 false true false false) := by
  refine returnsInHanded_of_change (C := Try.checked) own started (by kernel_rfl) Try.func3
    (ChangeSpec.witness6 (enc := enc) (C := Try.checked) false ⟨#[], #[.agg #[.slice none 0 0]], []⟩ 8 (by kernel_rfl) (by kernel_rfl) (by kernel_rfl) (by kernel_rfl)) ?_
  intro W base args ds gs before hval0 hW hcnd _
  have hval : ∀ (j : Nat) t v, Try.f3.params[j]? = some t → args[j]? = some v → Value.okWide Try.prog W .any base t v := hval0
  have hW' := hW
  obtain ⟨p, q, hA0, hV, rfl, hfz, hnd⟩ := hW
  have hA : DataW.TrodAll enc Try.prog W 0 (fun _ => true) true Try.f3.params.toList args.toList ds p := hA0
  rw [Try.params3] at hA hval
  obtain ⟨v0, vs0, d0, ds0, p0, q0, hargs, rfl, rfl, h0, r0⟩ := trodAll_cons hA
  obtain ⟨rfl, rfl, rfl⟩ := trodAll_nil r0
  obtain rfl : args = #[v0] := by cases args; simp_all
  obtain ⟨rfl, rfl⟩ := trodVars_none hV
  obtain ⟨cs0, rfl, _⟩ := okWide_struct Try.underlying24 (hval 0 24 v0 rfl rfl)
  have k0 := h0
  have lt0 : ∀ x ∈ p0, x.block < W.heap.size := by obtain ⟨m, hm⟩ := k0; exact DataW.trod_lt m _ _ _ hm
  obtain ⟨dp, a, n, cap, xs, hcs, w0⟩ : ∃ dp a n cap xs, cs0 = #[.slice a n cap] ∧ RdK 0 W.heap.size W dp a n cap xs := by
    obtain ⟨fuel, hf⟩ := h0
    obtain ⟨dp, a, n, cap, xs, hv, hr⟩ := open_kb (cs := cs0.toList) (by simpa [Value.cells] using hf)
    exact ⟨dp, a, n, cap, xs, by cases cs0; simp_all, hr⟩
  subst hcs
  clear hA0 hval0
  refine (walk W w0).mono fun e W' ⟨he, bel⟩ => ?_
  subst he
  exact ⟨_, rfl, _, _, _, [], _, [], hW', trodAll_mk1 (shut_bool Try.underlying4 _), (trodAll_cons_mk (Below.trod laidOut (by kernel_rfl) (of_decide_eq_true (by kernel_rfl)) k0 bel lt0) trodAll_mk0), rfl, bel.frame _, fun h => by cases h⟩

theorem over : Rows.fnExactRulesRow.holds Try.pinned (OpenSpec.ofChange Rows.fnExactRulesSpec) :=
  OpenClaim.holds_of_wide 3 Try.f3 rfl rfl rfl rfl rfl rfl rfl ⟨rfl, rfl, rfl, rfl, rfl⟩ rfl rfl rfl rfl rfl (by kernel_rfl) Try.func3 (by kernel_rfl)
    (of_decide_eq_true (by kernel_rfl)) (by unfold Func.isWrapper; first | (rw [if_pos (by decide +kernel)]; kernel_rfl) | (rw [if_neg (by decide +kernel)]; exact ⟨rfl, rfl⟩))
    (fun os started H enc _ => lifted os started H enc)

theorem proved : Rows.FnExactRulesSaid := over
#print axioms proved
end Go.Proofs.Ytoeoddfhofcpcaa.fnExactRules
namespace Go.Proofs.Ytoeoddfhofcpcaa
theorem fnExactRules_holds : Rows.FnExactRulesSaid := fnExactRules.proved
end Go.Proofs.Ytoeoddfhofcpcaa
