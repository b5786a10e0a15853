/- For all that may be told and every role the law FnExactAbove answers true, and what was handed in reads behind the call as it did before: no condition. -/
import Derived.Test.YtoeoddfhofcpcaaGreatRows
import Derived.Test.YtoeoddfhofcpcaaGreatAboveAll
import Derived.Test.YtoeoddfhofcpcaaGreatKbNmLaw
import Derived.Test.YtoeoddfhofcpcaaGreatKbLawsR
import Derived.WalkKit
import Derived.ProofKit
import Derived.OpenShut
import Derived.ShutString
import Derived.ChangeOld
import Derived.Below
import Derived.Deep.RegionHeld
import Derived.Deep.DeepCutAuto
namespace Go.Proofs.YtoeoddfhofcpcaaGreat.fnExactAbove
open Go.ChangeShapes Go.WideShapes Go.ChangeAt Go.RowKit Go.Deep
set_option linter.unusedVariables false

theorem own : ownKnob Tryz.prog.godebug = none := by kernel_rfl
theorem laidOut : laidOutB Tryz.prog = true := by kernel_rfl

theorem bulks {xs : List AX} (h : bulkK xs ≤ 1048576) : ∀ x ∈ xs, x.c.bulk ≤ 1048576 ∧ x.d.bulk ≤ 1048576 := by
  intro x hx
  obtain ⟨i, hi, rfl⟩ := mem_getD hx
  have := bulkK_getD xs i hi
  unfold AX.bulk at this
  omega

theorem leafB_at {g n : Nat} {x : Addr × IntKind} (hx : x ∈ leafB g 0 n) : x.1.block = g := by
  simp only [leafB, List.mem_map] at hx
  obtain ⟨j, _, rfl⟩ := hx
  rfl

theorem rd_row {lo hi : Nat} {w w' : World} {a : Option Addr} {n cap g : Nat} {zs : List Int} (h : Rd lo hi w a n cap zs) (hr : Row w' g n zs) (hn : n ≤ 1048576) : Rd g (g + 1) w' (some ⟨g, 0, none⟩) n n zs :=
  Row.rd hr h.len h.byte (by omega) (Nat.le_refl _) (Nat.lt_succ_self _)

theorem leafOk_row {w : World} {g n : Nat} {zs : List Int} (h : Row w g n zs) (hl : zs.length = n) : LeafOk w (leafB g 0 n) := by
  intro x hx
  simp only [leafB, List.mem_map, List.mem_range] at hx
  obtain ⟨j, hj, rfl⟩ := hx
  exact ⟨⟨_, by rw [Nat.zero_add]; exact h.cell (by omega)⟩, by rw [Nat.zero_add]; exact h.frozen j⟩

set_option maxRecDepth 100000 in
set_option maxHeartbeats 8000000 in
theorem walk {dp : Nat} {a : Option Addr} {n cap : Nat} {xs : List AX} {ba : Option Addr} {bn bc : Nat} {zs : List Int} (w : World) (hR : RdK 0 w.heap.size w dp a n cap xs) (hB : Rd 0 w.heap.size w ba bn bc zs) :
    Calls Tryz.prog 3 #[.agg #[.slice a n cap], .slice ba bn bc] w fun e w' => e = .returned (.bool true) ∧ Below w.heap.size w w' := by
  obtain ⟨Wb, hWb⟩ : ∃ Wb, Wb = w.alloc (.cells #[.slice a n cap] 24) := ⟨_, rfl⟩
  have HWb : Hid (Wb = w.alloc (.cells #[.slice a n cap] 24)) := hWb
  have hbb : Below w.heap.size w Wb := by rw [hWb]; exact (Below.refl _ _).alloc (Nat.le_refl _) _
  have HBB : Hid (Below w.heap.size w Wb) := hbb
  have hsb : w.heap.size < Wb.heap.size := by rw [hWb]; simp
  have HRb : Hid (RdK 0 w.heap.size Wb dp a n cap xs) := hR.below hbb (Nat.le_refl _)
  have hbx : Boxed Wb w.heap.size 24 (.slice a n cap) := by rw [hWb]; exact Boxed.new _ _ _
  have HAt : Hid (∀ W, Below Wb.heap.size Wb W → Boxed W w.heap.size 24 (.slice a n cap)) := fun W hW => (hW.block _ hsb).trans hbx
  have HBb : Hid (∀ W, Below Wb.heap.size Wb W → Rd 0 w.heap.size W ba bn bc zs ∧ w.heap.size ≤ W.heap.size) := fun W hW => ⟨(hB.below hbb (Nat.le_refl _)).below hW (by omega), Nat.le_trans (by omega) hW.size⟩
  have hbf := hB.fits
  obtain ⟨hl4, _, hwl⟩ := aboveN_facts hR (role := zs) hB.byte
  have hlA : (aboveN xs zs).length ≤ 1000 := by omega
  have hlB : ∀ i, ((aboveN xs zs).getD i []).length ≤ 1000 := fun i => wl_at hwl i
  obtain ⟨L, hL⟩ : ∃ L, L = aboveN xs zs := ⟨_, rfl⟩
  rw [← hL] at hlA hlB
  have HL : Hid (L = aboveN xs zs) := hL
  have HLA : Hid (L.length ≤ 1000) := hlA
  have HLB : Hid (∀ i, (L.getD i []).length ≤ 1000) := hlB
  have z0 := hbx.cell
  clear hR hbb hWb hbx hL hlA hlB hB hl4 hwl
  by_cases hbig : 1048576 < bn
  · have hbi : (1048576 : Int) < (bn : Int) := by omega
    go_enter Tryz.func3, Tryz.ntmps3
    go_upto_region 1 with fail
    rw [← HWb.out]
    go_wp2_with fail
    go_ret
    exact ⟨rfl, HBB.out⟩
  have hbn : bn ≤ 1048576 := by omega
  have hbd0 : decide ((1048576 : Int) < (bn : Int)) = false := by simp; omega
  have hbd1 : decide (1048576 < bn) = false := by simp; omega
  go_enter Tryz.func3, Tryz.ntmps3
  go_upto_region 3 with fail
  rw [← HWb.out]
  clear hbd0 hbd1 hbig
  go_wp2_with fail
  refine (szKb_any HRb.out (by omega)).mono ?_
  rintro e w0 ⟨r, rfl, hbounds, hb⟩
  have HBo : Hid (¬ r < 0 → bulkK xs ≤ 1048576) := hbounds
  have H0 : Hid (Below Wb.heap.size Wb w0) := hb
  have s0 := hb.size
  clear z0 hb hbounds
  have z0 := (HAt.out _ H0.out).cell
  by_cases hneg : r < 0
  · go_wp2_with fail
    go_ret
    exact ⟨rfl, HBB.out.trans (H0.out.mono (by omega))⟩
  · have HBd : Hid (bulkK xs ≤ 1048576) := HBo.out hneg
    have HTo : Hid (∀ W, Below Wb.heap.size Wb W → Calls Tryz.prog 8 #[.agg #[.slice a n cap]] W fun e w' => ∃ g, e = .returned (.agg #[.slice (some ⟨g, 0, none⟩) n n]) ∧ RdK W.heap.size w'.heap.size w' dp (some ⟨g, 0, none⟩) n n xs ∧ Below W.heap.size W w' ∧ Free W.heap.size w'.heap.size w') :=
      fun W hW => toKb_any (HRb.out.below hW (by omega)) (Nat.le_trans (by omega) hW.size) HBd.out
    have HTb : Hid (∀ W, Below Wb.heap.size Wb W → Calls Tryz.prog 9 #[.slice ba bn bc] W fun e w' => e = .returned (.slice (some ⟨W.heap.size, 0, none⟩) bn bn) ∧ Row w' W.heap.size bn zs ∧ Rd W.heap.size (W.heap.size + 1) w' (some ⟨W.heap.size, 0, none⟩) bn bn zs ∧ W.heap.size + 1 ≤ w'.heap.size ∧ Below W.heap.size W w') := fun W hW => by
      refine (toByteS_any ba bn bc zs W (HBb.out W hW).1 (HBb.out W hW).2 hbn).mono ?_
      rintro e w' ⟨rfl, hrow, hb⟩
      exact ⟨rfl, hrow, rd_row (HBb.out W hW).1 hrow hbn, hrow.lt, hb⟩
    go_wp2_with fail
    refine (HTo.out w0 H0.out).mono ?_
    rintro e w1 ⟨g1, rfl, hx1, hb1, _⟩
    have H1 : Hid (Below Wb.heap.size Wb w1) := H0.out.trans (hb1.mono s0)
    have HX1 : Hid (RdK w0.heap.size w1.heap.size w1 dp (some ⟨g1, 0, none⟩) n n xs) := hx1
    have s1 := hb1.size
    clear hx1 hb1 z0
    go_wp2_with fail
    refine (HTb.out w1 H1.out).mono ?_
    rintro e wa ⟨rfl, _, hya, hla, hba⟩
    have HYa : Hid (Rd w1.heap.size (w1.heap.size + 1) wa (some ⟨w1.heap.size, 0, none⟩) bn bn zs) := hya
    have H1a : Hid (Below w1.heap.size w1 wa) := hba
    have Ha : Hid (Below Wb.heap.size Wb wa) := H1.out.trans (hba.mono (by omega))
    have HXa : Hid (RdK w0.heap.size w1.heap.size wa dp (some ⟨g1, 0, none⟩) n n xs) := HX1.out.below hba (Nat.le_refl _)
    have sa := hba.size
    clear hya hba
    go_wp2_with fail
    refine (specAbove_any HXa.out HYa.out (by omega) (by omega) (by omega)).mono ?_
    rintro e w2 ⟨vS, gS, rfl, hS, hb2⟩
    rw [← HL.out] at hS
    have HS2 : Hid (OwnW w1.heap.size w2 vS L gS) := hS.base sa
    have H2 : Hid (Below Wb.heap.size Wb w2) := Ha.out.trans (hb2.mono (by omega))
    have s2 := hb2.size
    clear hb2 hS
    have z0 := (HAt.out _ H2.out).cell
    go_wp2_with fail
    refine (HTo.out w2 H2.out).mono ?_
    rintro e w3 ⟨g3, rfl, hx3, hb3, hf3⟩
    have s3 := hb3.size
    obtain ⟨w4, hw4⟩ : ∃ w4, w4 = w3.alloc (.cells #[.slice (some ⟨g3, 0, none⟩) n n] 31) := ⟨_, rfl⟩
    have HW4 : Hid (w4 = w3.alloc (.cells #[.slice (some ⟨g3, 0, none⟩) n n] 31)) := hw4
    have hb4 : Below w3.heap.size w3 w4 := by rw [hw4]; exact (Below.refl _ _).alloc (Nat.le_refl _) _
    have s4 : w3.heap.size < w4.heap.size := by rw [hw4]; simp
    have H24 : Hid (Below w2.heap.size w2 w4) := hb3.trans (hb4.mono (by omega))
    have H4 : Hid (Below Wb.heap.size Wb w4) := H2.out.trans (H24.out.mono (by omega))
    have HX4 : Hid (RdK w2.heap.size w3.heap.size w4 dp (some ⟨g3, 0, none⟩) n n xs) := hx3.below hb4 (Nat.le_refl _)
    have HFr4 : Hid (Free w2.heap.size w3.heap.size w4) := hf3.same (Same.of_below hb4 (Nat.le_refl _))
    have HBX : Hid (Boxed w4 w3.heap.size 31 (.slice (some ⟨g3, 0, none⟩) n n)) := by unfold Hid; rw [hw4]; exact Boxed.new _ _ _
    clear hx3 hb3 hb4 hw4 hf3 z0
    go_wp2_with fail
    rw [← HW4.out]
    refine (HTb.out w4 H4.out).mono ?_
    rintro e wq ⟨rfl, hrq, hyq, hlq, hbq⟩
    have HYq : Hid (Rd w4.heap.size (w4.heap.size + 1) wq (some ⟨w4.heap.size, 0, none⟩) bn bn zs) := hyq
    have HRq : Hid (Row wq w4.heap.size bn zs) := hrq
    have H4q : Hid (Below w4.heap.size w4 wq) := hbq
    have HXq : Hid (RdK w2.heap.size w3.heap.size wq dp (some ⟨g3, 0, none⟩) n n xs) := HX4.out.below hbq (by omega)
    have mq0 : wq.cell? ⟨w3.heap.size, 0, none⟩ = some (.slice (some ⟨g3, 0, none⟩) n n) := (hbq.cell (p := ⟨w3.heap.size, 0, none⟩) s4).trans HBX.out.cell
    have sq := hbq.size
    have H2q : Hid (Below w2.heap.size w2 wq) := H24.out.trans (hbq.mono (by omega))
    have Hq : Hid (Below Wb.heap.size Wb wq) := H4.out.trans (hbq.mono (by omega))
    clear hyq hrq hbq
    go_wp2_with fail
    refine (implAbove_any HXq.out HYq.out (by omega) (by omega) (bulks HBd.out)).mono ?_
    rintro e w5 ⟨vI, gI, rfl, hI, hb5⟩
    rw [← HL.out] at hI
    have s5 := hb5.size
    have HI5 : Hid (OwnW wq.heap.size w5 vI L gI) := hI
    have HGe : Hid (∀ x ∈ leafW L gI L.length, wq.heap.size ≤ x.1.block ∧ x.1.block < w5.heap.size) := hI.ge (Nat.le_refl _)
    have H25 : Hid (Below w2.heap.size w2 w5) := H2q.out.trans (hb5.mono (by omega))
    have H5 : Hid (Below Wb.heap.size Wb w5) := Hq.out.trans (hb5.mono (by omega))
    have HX5 : Hid (RdK w2.heap.size w3.heap.size w5 dp (some ⟨g3, 0, none⟩) n n xs) := HXq.out.below hb5 (by omega)
    have HYB5 : Hid (∀ V, Below w5.heap.size w5 V → Rd w4.heap.size (w4.heap.size + 1) V (some ⟨w4.heap.size, 0, none⟩) bn bn zs ∧ Row V w4.heap.size bn zs) := fun V hV => ⟨(HYq.out.below hb5 (by omega)).below hV (by omega), (HRq.out.below hb5 (by omega)).below hV (by omega)⟩
    have HFr5 : Hid (Free w2.heap.size w3.heap.size w5) := (HFr4.out.same (Same.of_below H4q.out (by omega))).same (Same.of_below hb5 (by omega))
    have HBX5 : Hid (Boxed w5 w3.heap.size 31 (.slice (some ⟨g3, 0, none⟩) n n)) := (hb5.block _ (by omega)).trans ((H4q.out.block _ s4).trans HBX.out)
    clear hb5 hI mq0
    go_wp2_with fail
    refine (eqOwn_any HI5.out (HS2.out.below H25.out)).mono ?_
    rintro e w6 ⟨rfl, h56⟩
    have s6 := h56.size
    have H6 : Hid (Below Wb.heap.size Wb w6) := H5.out.trans (h56.mono (by omega))
    have H56d : Hid (Below w5.heap.size w5 w6.drew) := h56.drew
    have H6d : Hid (Below Wb.heap.size Wb w6.drew) := H6.out.drew
    have HSx : Hid (∀ V, Below w6.drew.heap.size w6.drew V → RdK w2.heap.size w3.heap.size V dp (some ⟨g3, 0, none⟩) n n xs ∧ V.cell? ⟨w3.heap.size, 0, none⟩ = some (.slice (some ⟨g3, 0, none⟩) n n) ∧ Below w5.heap.size w5 V ∧ w3.heap.size ≤ V.heap.size) := by
      intro V hV
      have h5V : Below w5.heap.size w5 V := H56d.out.trans (hV.mono H56d.out.size)
      have hsV := h5V.size
      exact ⟨HX5.out.below h5V (by omega), (h5V.cell (p := ⟨w3.heap.size, 0, none⟩) (show w3.heap.size < w5.heap.size by omega)).trans HBX5.out.cell, h5V, by omega⟩
    have m0 : w6.cell? ⟨w3.heap.size, 0, none⟩ = some (.slice (some ⟨g3, 0, none⟩) n n) := (h56.cell (p := ⟨w3.heap.size, 0, none⟩) (show w3.heap.size < w5.heap.size by omega)).trans HBX5.out.cell
    have z0 := (HAt.out _ H6.out).cell
    clear h56
    go_upto_region 13 with fail
    go_cut [42] (fun b W => b = .bool false ∧ Below w5.heap.size w5 W)
    case first =>
      first | go_region_with (first
        | (go_at_call 8; refine (HTo.out w6.drew H6d.out).mono ?_; rintro e w7 ⟨g7, rfl, hx7, hb7, _⟩; obtain ⟨hy7, m7, hb7', hs7⟩ := HSx.out _ hb7; have HX7 : Hid (RdK w6.drew.heap.size w7.heap.size w7 dp (some ⟨g7, 0, none⟩) n n xs) := hx7; have HY7 : Hid (RdK w2.heap.size w3.heap.size w7 dp (some ⟨g3, 0, none⟩) n n xs) := hy7; have H57 : Hid (Below w5.heap.size w5 w7) := hb7'; clear hx7 hy7 hb7 hb7')
        | (go_at_call 12; refine (eqKb_any HY7.out HX7.out hs7 (Nat.le_refl _)).mono ?_; rintro e w8 ⟨rfl, hb8⟩; have H58 : Hid (Below w5.heap.size w5 w8) := H57.out.trans (hb8.mono H57.out.size); clear hb8)) | fail
      all_goals
        go_wp2_with fail
        go_meet
        case rel => exact ⟨rfl, H58.out⟩
    case rest =>
      obtain ⟨hb31, h5c⟩ := hcut
      subst hb31
      have H5c : Hid (Below w5.heap.size w5 wc) := h5c
      have hsc := h5c.size
      have HXc : Hid (RdK w2.heap.size w3.heap.size wc dp (some ⟨g3, 0, none⟩) n n xs) := HX5.out.below h5c (by omega)
      have HFrc : Hid (Free w2.heap.size w3.heap.size wc) := HFr5.out.same (Same.of_below h5c (by omega))
      have H2c : Hid (Below w2.heap.size w2 wc) := H25.out.trans (h5c.mono (by omega))
      have Hbc : Hid (Below Wb.heap.size Wb wc) := H5.out.trans (h5c.mono (by omega))
      clear m0 z0
      have m0 : wc.cell? ⟨w3.heap.size, 0, none⟩ = some (.slice (some ⟨g3, 0, none⟩) n n) := (h5c.cell (p := ⟨w3.heap.size, 0, none⟩) (show w3.heap.size < w5.heap.size by omega)).trans HBX5.out.cell
      obtain ⟨hyc, hrc⟩ := HYB5.out wc h5c
      have HYc : Hid (Rd w4.heap.size (w4.heap.size + 1) wc (some ⟨w4.heap.size, 0, none⟩) bn bn zs) := hyc
      clear h5c hyc hrc
      go_wp2_with fail
      refine (HTb.out wc Hbc.out).mono ?_
      rintro e wd ⟨rfl, _, hyd, hld, hbd⟩
      have HYd : Hid (Rd wc.heap.size (wc.heap.size + 1) wd (some ⟨wc.heap.size, 0, none⟩) bn bn zs) := hyd
      have HYe : Hid (Rd w4.heap.size (w4.heap.size + 1) wd (some ⟨w4.heap.size, 0, none⟩) bn bn zs) := HYc.out.below hbd (by omega)
      have Hcd : Hid (Below wc.heap.size wc wd) := hbd
      have sd := hbd.size
      clear hyd hbd
      go_wp2_with fail
      refine (eqByteS_any _ _ bn bn bn bn zs zs wd HYe.out HYd.out).mono ?_
      rintro e wf ⟨rfl, ndf, hwf⟩
      rw [decide_eq_true (rfl : zs = zs)]
      have Hdf : Hid (Below wd.heap.size wd wf) := by unfold Hid; rw [hwf]; exact below_drewN (Below.refl _ _) ndf
      have H5f : Hid (Below w5.heap.size w5 wf) := H5c.out.trans ((Hcd.out.trans (Hdf.out.mono sd)).mono hsc)
      have sf := H5f.out.size
      have HXf : Hid (RdK w2.heap.size w3.heap.size wf dp (some ⟨g3, 0, none⟩) n n xs) := HX5.out.below H5f.out (by omega)
      have HFrf : Hid (Free w2.heap.size w3.heap.size wf) := HFr5.out.same (Same.of_below H5f.out (by omega))
      have H2f : Hid (Below w2.heap.size w2 wf) := H25.out.trans (H5f.out.mono (by omega))
      have Hbf : Hid (Below Wb.heap.size Wb wf) := H5.out.trans (H5f.out.mono (by omega))
      have HRf : Hid (Row wf w4.heap.size bn zs) := (HYB5.out wf H5f.out).2
      clear hwf m0
      have m0 : wf.cell? ⟨w3.heap.size, 0, none⟩ = some (.slice (some ⟨g3, 0, none⟩) n n) := (H5f.out.cell (p := ⟨w3.heap.size, 0, none⟩) (show w3.heap.size < w5.heap.size by omega)).trans HBX5.out.cell
      go_wp2_with fail
      refine (markKb_any HXf.out (by omega) HFrf.out HBd.out).mono ?_
      rintro e wg ⟨q, rfl, hqb, hmg⟩
      have sg := hmg.size
      have HMg : Hid (MarkRel w2.heap.size w3.heap.size wf wg) := hmg
      have HRg : Hid (Row wg w4.heap.size bn zs) := HRf.out.of_block (hmg.out _ (by omega) (.inr (by omega)))
      have HLg : Hid (LeafOk wg (leafB w4.heap.size 0 bn)) := leafOk_row HRg.out HYc.out.len
      clear hmg m0
      go_wp2_with fail
      refine (markByteS_any (some ⟨w4.heap.size, 0, none⟩) bn bn q wg w4.heap.size 0 (.inr rfl) HLg.out hbn ⟨hqb.1, by omega⟩).mono ?_
      rintro e w9 ⟨rfl, hw9⟩
      have HSm9 : Hid (∀ b, b ≠ w4.heap.size → w9.heap[b]? = wg.heap[b]?) := fun b hb => by
        rw [hw9]
        exact (same_marks (lo := b) (hi := b + 1) (fun x hx => by have := leafB_at hx; omega) q) b (Nat.le_refl _) (by omega)
      have s9 : wg.heap.size ≤ w9.heap.size := by rw [hw9, size_marks]; exact Nat.le_refl _
      have Hg9 : Hid (w9.os = wg.os ∧ w9.tape = wg.tape ∧ w9.output = wg.output) := by
        have hbm : Below w4.heap.size wg w9 := by rw [hw9]; exact below_marks (Below.refl _ _) (fun x hx => by rw [leafB_at hx]; exact Nat.le_refl _) q
        exact ⟨hbm.os, hbm.tape, hbm.output⟩
      obtain ⟨qq, hqq⟩ : ∃ qq : Int, qq = q + bn := ⟨_, rfl⟩
      have hqq0 : 0 ≤ qq := by omega
      rw [← hqq]
      have hq0 : (decide (qq < 0)) = false := by simp; omega
      clear hw9 hqq
      have HI9 : Hid (OwnW wq.heap.size w9 vI L gI) := HI5.out.same (fun b h1 h2 => (HSm9.out b (by omega)).trans ((HMg.out.out b (by omega) (.inr (by omega))).trans (H5f.out.block b h2)))
      have HS9 : Hid (OwnW w1.heap.size w9 vS L gS) := HS2.out.same (fun b h1 h2 => (HSm9.out b (by omega)).trans ((HMg.out.out b (by omega) (.inl h2)).trans (H2f.out.block b h2)))
      have HSb : Hid (∀ b, b < w2.heap.size → w9.heap[b]? = w2.heap[b]?) := fun b h2 => (HSm9.out b (by omega)).trans ((HMg.out.out b (by omega) (.inl h2)).trans (H2f.out.block b h2))
      have H9 : Hid (Below Wb.heap.size Wb w9) := ⟨Hg9.out.1.trans (HMg.out.os.trans Hbf.out.os), Hg9.out.2.1.trans (HMg.out.tape.trans Hbf.out.tape), Hg9.out.2.2.trans (HMg.out.output.trans Hbf.out.output), Nat.le_trans Hbf.out.size (Nat.le_trans sg s9), fun b hb => (HSm9.out b (by omega)).trans ((HMg.out.out b (by omega) (.inl (by omega))).trans (Hbf.out.block b hb))⟩
      go_wp2_with fail
      refine (eqOwn_any HI9.out HS9.out).mono ?_
      rintro e w10 ⟨rfl, h910⟩
      have s10 := h910.size
      have H10 : Hid (Below Wb.heap.size Wb w10) := H9.out.trans (h910.mono (by omega))
      have HI10 : Hid (OwnW wq.heap.size w10 vI L gI) := HI9.out.below h910
      have HS10 : Hid (∀ b, b < w2.heap.size → w10.heap[b]? = w9.heap[b]?) := fun b hb => h910.block b (by omega)
      clear h910
      go_wp2_with fail
      refine (markSS_any HI10.out HLA.out HLB.out).mono ?_
      rintro e w11 ⟨rfl, hw11⟩
      have s11 : w10.heap.size ≤ w11.heap.size := by rw [hw11, size_marks]; exact Nat.le_refl _
      have H11 : Hid (Below Wb.heap.size Wb w11) := by unfold Hid; rw [hw11]; exact below_marks H10.out (fun x hx => by have := HGe.out x hx; omega) 1
      have HSm : Hid (Same w1.heap.size w2.heap.size w10 w11) := by unfold Hid; rw [hw11]; exact same_marks (fun x hx => by have := HGe.out x hx; omega) 1
      have HHe : Hid (Held w11 (leafW L gI L.length) 1) := by unfold Hid; rw [hw11]; exact held_marks (HI10.out.leaf (Nat.le_refl _)) (leafW_nodup HI10.out.dist _ (Nat.le_refl _)) 1
      have HRw : Hid (RowV w11 vI L gI) := by unfold Hid; rw [hw11]; exact HI10.out.rowV.marks 1
      clear hw11
      obtain ⟨m, hm⟩ : ∃ m, m = (leafW L gI L.length).length := ⟨_, rfl⟩
      have HM : Hid (m = (leafW L gI L.length).length) := hm
      have hml : m ≤ 1000000 := by have h1 := leafW_le HLB.out L.length (gs := gI); have h2 := HLA.out; omega
      rw [← hm]
      have hmm : ((1 + (m : Int)) != (1 + (m : Int))) = false := by simp
      clear hm
      go_wp2_with fail
      refine (heldSS_any HRw.out HHe.out HLA.out HLB.out).mono ?_
      rintro e w12 ⟨rfl, hw12⟩
      rw [hw12, ← HM.out]
      have z0 := (HAt.out _ H11.out).cell
      clear hw12
      go_wp2_with fail
      refine (HTo.out w11 H11.out).mono ?_
      rintro e w13 ⟨g13, rfl, hx13, hb13, _⟩
      have HX13 : Hid (RdK w11.heap.size w13.heap.size w13 dp (some ⟨g13, 0, none⟩) n n xs) := hx13
      have H1113 : Hid (Below w11.heap.size w11 w13) := hb13
      have s13 := hb13.size
      clear hx13 hb13 z0
      go_wp2_with fail
      refine (HTb.out w13 (H11.out.trans (H1113.out.mono (by omega)))).mono ?_
      rintro e we ⟨rfl, _, hye, hle, hbe⟩
      have HYee : Hid (Rd w13.heap.size (w13.heap.size + 1) we (some ⟨w13.heap.size, 0, none⟩) bn bn zs) := hye
      have HXe : Hid (RdK w11.heap.size w13.heap.size we dp (some ⟨g13, 0, none⟩) n n xs) := HX13.out.below hbe (Nat.le_refl _)
      have H11e : Hid (Below w11.heap.size w11 we) := H1113.out.trans (hbe.mono s13)
      have se := hbe.size
      clear hye hbe
      go_wp2_with fail
      refine (implAbove_any HXe.out HYee.out (by omega) (by omega) (bulks HBd.out)).mono ?_
      rintro e w14 ⟨vH, gH, rfl, hH, hb14⟩
      rw [← HL.out] at hH
      have HH : Hid (OwnW we.heap.size w14 vH L gH) := hH
      have H1114 : Hid (Below w11.heap.size w11 w14) := H11e.out.trans (hb14.mono (by omega))
      have HS14 : Hid (OwnW w1.heap.size w14 vS L gS) := HS2.out.same (fun b h1 h2 => (H1114.out.block b (by omega)).trans ((HSm.out b h1 h2).trans ((HS10.out b h2).trans (HSb.out b h2))))
      clear hH hb14
      go_wp2_with fail
      refine (eqOwn_any HH.out HS14.out).mono ?_
      rintro e w15 ⟨rfl, h1415⟩
      have H1115 : Hid (Below w11.heap.size w11 w15) := H1114.out.trans (h1415.mono H1114.out.size)
      have H15 : Hid (Below Wb.heap.size Wb w15) := H11.out.trans (H1115.out.mono (by omega))
      have HHe15 : Hid (Held w15 (leafW L gI L.length) 1) := Held.same (Same.of_below (lo := wq.heap.size) (hi := w5.heap.size) H1115.out (by omega)) HGe.out HHe.out
      have HRw15 : Hid (RowV w15 vI L gI) := HRw.out.below H1115.out
      clear h1415
      go_wp2_with fail
      refine (heldSS_any HRw15.out HHe15.out HLA.out HLB.out).mono ?_
      rintro e w16 ⟨rfl, hw16⟩
      rw [hw16, ← HM.out]
      clear hw16
      go_wp2_with fail
      go_ret
      exact ⟨rfl, HBB.out.trans (H15.out.mono (by omega))⟩

set_option maxRecDepth 100000 in
theorem lifted (os : Os) (started : os.Started) (H : Type) (enc : TypeId × Value → H) :
    ReturnsInHanded {} Tryz.checked os 3 .any (Rows.fnExactAboveSpec.pre6 enc Tryz.prog Tryz.f3 Rows.fnExactAboveRow.domain false) (Rows.fnExactAboveSpec.post enc Tryz.prog Tryz.f3 false true false false) := by
  refine returnsInHanded_of_change (C := Tryz.checked) own started (by kernel_rfl) Tryz.func3
    (ChangeSpec.witness6 (enc := enc) (C := Tryz.checked) false ⟨#[], #[.agg #[.slice none 0 0], .slice none 0 0], []⟩ 8 (by kernel_rfl) (by kernel_rfl) (by kernel_rfl) (by kernel_rfl)) ?_
  intro W base args ds gs before hval0 hW hcnd _
  have hval : ∀ (j : Nat) t v, Tryz.f3.params[j]? = some t → args[j]? = some v → Value.okWide Tryz.prog W .any base t v := hval0
  have hW' := hW
  obtain ⟨p, q, hA0, hV, rfl, hfz, hnd⟩ := hW
  have hA : DataW.TrodAll enc Tryz.prog W 0 (fun _ => true) true Tryz.f3.params.toList args.toList ds p := hA0
  rw [Tryz.params3] at hA hval
  obtain ⟨v0, vs0, d0, ds0, p0, q0, hargs, rfl, rfl, h0, r0⟩ := trodAll_cons hA
  obtain ⟨v1, vs1, d1, ds1, p1, q1, hargs1, rfl, rfl, h1, r1⟩ := trodAll_cons r0
  obtain ⟨rfl, rfl, rfl⟩ := trodAll_nil r1
  obtain rfl : args = #[v0, v1] := by cases args; simp_all
  obtain ⟨rfl, rfl⟩ := trodVars_none hV
  obtain ⟨cs0, rfl, _⟩ := okWide_struct Tryz.underlying24 (hval 0 24 v0 rfl rfl)
  obtain ⟨ba0, bn0, bc0, rfl⟩ := okWide_slice Tryz.underlying25 (hval 1 25 v1 rfl rfl)
  have k0 := h0
  have k1 := h1
  have lt0 : ∀ x ∈ p0, x.block < W.heap.size := by obtain ⟨m, hm⟩ := k0; exact DataW.trod_lt m _ _ _ hm
  have lt1 : ∀ x ∈ p1, x.block < W.heap.size := by obtain ⟨m, hm⟩ := k1; exact DataW.trod_lt m _ _ _ hm
  obtain ⟨dp, a, n, cap, xs, hcs, w0⟩ : ∃ dp a n cap xs, cs0 = #[.slice a n cap] ∧ RdK 0 W.heap.size W dp a n cap xs := by
    obtain ⟨fuel, hf⟩ := h0
    obtain ⟨dp, a, n, cap, xs, hv, hr⟩ := open_kb (cs := cs0.toList) (by simpa [Value.cells] using hf)
    exact ⟨dp, a, n, cap, xs, by cases cs0; simp_all, hr⟩
  subst hcs
  obtain ⟨zs, w1⟩ : ∃ zs, Rd 0 W.heap.size W ba0 bn0 bc0 zs := by
    obtain ⟨fuel, hf⟩ := h1
    obtain ⟨a, l, c, zs, hv, hr⟩ := open_bytes (v := .slice ba0 bn0 bc0) (by simpa [Value.cells] using hf)
    simp only [Value.slice.injEq] at hv
    obtain ⟨rfl, rfl, rfl⟩ := hv
    exact ⟨zs, hr⟩
  clear hA0 hval0
  refine (walk W w0 w1).mono fun e W' ⟨he, bel⟩ => ?_
  subst he
  exact ⟨_, rfl, _, _, _, [], _, [], hW', trodAll_mk1 (shut_bool Tryz.underlying4 _), (trodAll_cons_mk (Below.trod laidOut (by kernel_rfl) (of_decide_eq_true (by kernel_rfl)) k0 bel lt0) (trodAll_cons_mk (Below.trod laidOut (by kernel_rfl) (of_decide_eq_true (by kernel_rfl)) k1 bel lt1) trodAll_mk0)), rfl, bel.frame _, fun h => by cases h⟩

theorem over : Rows.fnExactAboveRow.holds Tryz.pinned (OpenSpec.ofChange Rows.fnExactAboveSpec) :=
  OpenClaim.holds_of_wide 3 Tryz.f3 rfl rfl rfl rfl rfl rfl rfl ⟨rfl, rfl, rfl, rfl, rfl⟩ rfl rfl rfl rfl rfl (by kernel_rfl) Tryz.func3 (by kernel_rfl)
    (of_decide_eq_true (by kernel_rfl)) (by unfold Func.isWrapper; first | (rw [if_pos (by decide +kernel)]; kernel_rfl) | (rw [if_neg (by decide +kernel)]; exact ⟨rfl, rfl⟩))
    (fun os started H enc _ => lifted os started H enc)

theorem proved : Rows.FnExactAboveSaid := over
#print axioms proved
end Go.Proofs.YtoeoddfhofcpcaaGreat.fnExactAbove
namespace Go.Proofs.YtoeoddfhofcpcaaGreat
theorem fnExactAbove_holds : Rows.FnExactAboveSaid := fnExactAbove.proved
end Go.Proofs.YtoeoddfhofcpcaaGreat
