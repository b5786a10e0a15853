/- For every concept the law FnExactSubs answers true and the concept reads behind the call as it did before: no condition. -/
import Derived.Test.YtfbokljbmihlbaaRows
import Derived.Test.YtfbokljbmihlbaaImplSubs
import Derived.Test.YtfbokljbmihlbaaListFin
import Derived.Test.YtfbokljbmihlbaaConSubs4
import Derived.Test.YtfbokljbmihlbaaConSz
import Derived.Test.YtfbokljbmihlbaaConEq
import Derived.Test.YtfbokljbmihlbaaConTo
import Derived.Test.YtfbokljbmihlbaaConOpen
import Derived.Test.YtfbokljbmihlbaaLawBox
import Derived.WalkKit
import Derived.ProofKit
import Derived.OpenShut
import Derived.ShutString
import Derived.ChangeOld
import Derived.Below
import Derived.Deep.DeepCutAuto
namespace Go.Proofs.Ytfbokljbmihlbaa.fnExactSubs
open Go.ChangeShapes Go.WideShapes Go.ChangeAt Go.RowKit
set_option linter.unusedVariables false

theorem own : ownKnob Try.prog.godebug = none := by kernel_rfl
theorem laidOut : laidOutB Try.prog = true := by kernel_rfl

set_option maxRecDepth 100000 in
set_option maxHeartbeats 8000000 in
theorem walk (d : Nat) (v0 v1 v2 v3 : Value) (c : CN) (w : World) (hR : RdC 0 w.heap.size w d (.agg #[v0, v1, v2, v3]) c) :
    Calls Try.prog 4 #[.agg #[v0, v1, v2, v3]] w fun e w' => e = .returned (.bool true) ∧ Below w.heap.size w w' := by
  obtain ⟨Wb, hWb⟩ : ∃ Wb, Wb = w.alloc (.cells #[v0, v1, v2, v3] 30) := ⟨_, rfl⟩
  have HWb : Hid (Wb = w.alloc (.cells #[v0, v1, v2, v3] 30)) := hWb
  have hbb : Below w.heap.size w Wb := by rw [hWb]; exact (Below.refl _ _).alloc (Nat.le_refl _) _
  have HBB : Hid (Below w.heap.size w Wb) := hbb
  have hsb : Wb.heap.size = w.heap.size + 1 := by rw [hWb]; simp
  have HRb : Hid (RdC 0 w.heap.size Wb d (.agg #[v0, v1, v2, v3]) c) := hR.below hbb (Nat.le_refl _)
  have hbx : BoxL Wb w.heap.size v0 v1 v2 v3 := by rw [hWb]; exact BoxL.new w _ _ _ _
  have HBx : Hid (BoxL Wb w.heap.size v0 v1 v2 v3) := hbx
  obtain ⟨r, hr⟩ : ∃ r, r = szRes 1048576 c.bulk := ⟨_, rfl⟩
  have HSz : Hid (r = szRes 1048576 c.bulk) := hr
  obtain ⟨a, ha⟩ : ∃ a, a = subsN c := ⟨_, rfl⟩
  have HA : Hid (a = subsN c) := ha
  have HAb : Hid (bulks a ≤ 4000) := by unfold Hid; rw [ha]; exact subsN_bulk _
  obtain ⟨n, hn⟩ : ∃ n, n = a.length := ⟨_, rfl⟩
  have HN : Hid (n = a.length) := hn
  have hn16 : n ≤ 16 := by rw [hn, ha]; exact subsN_len _
  obtain ⟨m, hm⟩ : ∃ m, m = bulks a := ⟨_, rfl⟩
  have HM : Hid (m = bulks a) := hm
  have hm4 : m ≤ 4000 := by have := HAb.out; omega
  have hneq : ((1 + (m : Int)) != (1 + (m : Int))) = false := by simp
  have hnlt : ¬ (1 + (m : Int) < 0) := by omega
  obtain ⟨k0, k1, k2, k3⟩ := hbx.cells
  clear hR hbb hWb hbx hr ha hn hm
  go_enter Try.func4, Try.ntmps4
  go_wp2_with fail
  rw [← HWb.out]
  refine (szC_any d _ c 1048576 Wb 0 w.heap.size HRb.out (by omega) (by omega) (by omega)).mono ?_
  rintro e w0 ⟨rfl, hb⟩
  rw [← HSz.out]
  have H0 : Hid (Below Wb.heap.size Wb w0) := hb
  have HBx0 : Hid (BoxL w0 w.heap.size v0 v1 v2 v3) := HBx.out.below hb (by omega)
  clear k0 k1 k2 k3
  obtain ⟨k0, k1, k2, k3⟩ := HBx0.out.cells
  have s0 := hb.size
  clear hb
  by_cases hneg : r < 0
  · go_wp2_with fail
    go_ret
    exact ⟨rfl, HBB.out.trans (H0.out.mono (by omega))⟩
  · have HBk : Hid (c.bulk ≤ 1048576) := by have := szRes_pos (by rw [← HSz.out]; exact hneg); unfold Hid; omega
    go_wp2_with fail
    refine (toC_any d _ c w0 0 w.heap.size (HRb.out.below H0.out (by omega)) (by omega) HBk.out).mono ?_
    rintro e w1 ⟨x1, rfl, hx1, _, hb1⟩
    have H1 : Hid (Below Wb.heap.size Wb w1) := H0.out.trans (hb1.mono s0)
    have HX1 : Hid (RdC w0.heap.size w1.heap.size w1 d x1 c) := hx1
    have s1 := hb1.size
    clear hx1 hb1 k0 k1 k2 k3
    go_wp2_with fail
    refine (specSubs_any HX1.out (Nat.le_refl _)).mono ?_
    rintro e w2 ⟨Bs, vS, LS, XS, rfl, hBs, hrS, hgS, hb2⟩
    rw [← HA.out] at hrS
    obtain ⟨sa, scap, hvS, hS⟩ := rowK_rd hrS hgS
    rw [← HN.out] at hvS hS
    subst hvS
    have HS : Hid (RdL (RdC Bs w2.heap.size w2 d) Bs w2.heap.size w2 sa n scap a) := hS
    have s2 := hb2.size
    have H2 : Hid (Below Wb.heap.size Wb w2) := H1.out.trans (hb2.mono (by omega))
    obtain ⟨k0, k1, k2, k3⟩ := (HBx.out.below H2.out (by omega)).cells
    clear hb2 hS hrS hgS
    go_wp2_with fail
    refine (toC_any d _ c w2 0 w.heap.size (HRb.out.below H2.out (by omega)) (by omega) HBk.out).mono ?_
    rintro e w3 ⟨x3, rfl, hx3, hf3, hb3⟩
    obtain ⟨xk, xna, xnn, xnc, xra, xrn, xrc, xka, xkn, xkc, rfl⟩ := hx3.shape
    obtain ⟨w4, hw4⟩ : ∃ w4, w4 = w3.alloc (.cells #[.int .i64 xk, .slice xna xnn xnc, .slice xra xrn xrc, .slice xka xkn xkc] 38) := ⟨_, rfl⟩
    have HW4 : Hid (w4 = w3.alloc (.cells #[.int .i64 xk, .slice xna xnn xnc, .slice xra xrn xrc, .slice xka xkn xkc] 38)) := hw4
    have hb4 : Below w3.heap.size w3 w4 := by rw [hw4]; exact (Below.refl _ _).alloc (Nat.le_refl _) _
    have s3 := hb3.size
    have s4 : w4.heap.size = w3.heap.size + 1 := by rw [hw4]; simp
    have h24 : Below w2.heap.size w2 w4 := hb3.trans (hb4.mono s3)
    have H24 : Hid (Below w2.heap.size w2 w4) := h24
    have H4 : Hid (Below Wb.heap.size Wb w4) := H2.out.trans (h24.mono (by omega))
    have HX4 : Hid (RdC w2.heap.size w3.heap.size w4 d (.agg #[.int .i64 xk, .slice xna xnn xnc, .slice xra xrn xrc, .slice xka xkn xkc]) c) := hx3.below hb4 (Nat.le_refl _)
    have HFr4 : Hid (Free w2.heap.size w3.heap.size w4) := hf3.same (Same.of_below hb4 (Nat.le_refl _))
    have HBX : Hid (BoxC w4 w3.heap.size (.int .i64 xk) (.slice xna xnn xnc) (.slice xra xrn xrc) (.slice xka xkn xkc)) := by unfold Hid; rw [hw4]; exact BoxC.new w3 _ _ _ _
    clear hx3 hb3 hb4 hw4 hf3 k0 k1 k2 k3 h24
    go_wp2_with fail
    rw [← HW4.out]
    refine (implSubs_any HX4.out (by omega) HBk.out).mono ?_
    rintro e w5 ⟨vG, LG, XG, rfl, hG, hb5⟩
    rw [← HA.out] at hG
    obtain ⟨ga, gcap, gb, hvG, hfG⟩ := FinL.of hG
    rw [← HN.out] at hvG hfG
    subst hvG
    have s5 := hb5.size
    have H45 : Hid (Below w4.heap.size w4 w5) := hb5
    have H5 : Hid (Below Wb.heap.size Wb w5) := H4.out.trans (hb5.mono (by omega))
    have HG5 : Hid (AnsL w4.heap.size w5 209 (.slice ga n gcap) a LG XG) := hG
    have HGr : Hid (RdL (RdC w4.heap.size w5.heap.size w5 209) w4.heap.size w5.heap.size w5 ga n gcap a) := hfG.rd
    have HS5 : Hid (RdL (RdC Bs w2.heap.size w5 d) Bs w2.heap.size w5 sa n scap a) := (HS.out.below H24.out (Nat.le_refl _)).below hb5 (by omega)
    have HX5 : Hid (RdC w2.heap.size w3.heap.size w5 d (.agg #[.int .i64 xk, .slice xna xnn xnc, .slice xra xrn xrc, .slice xka xkn xkc]) c) := HX4.out.below hb5 (by omega)
    have HFr5 : Hid (Free w2.heap.size w3.heap.size w5) := HFr4.out.same (Same.of_below hb5 (by omega))
    have HBX5 : Hid (BoxC w5 w3.heap.size (.int .i64 xk) (.slice xna xnn xnc) (.slice xra xrn xrc) (.slice xka xkn xkc)) := HBX.out.below hb5 (by omega)
    clear hb5 hG hfG
    go_wp2_with fail
    refine (eqL_of (eqC_any 209) _ _ _ _ _ a d w5 w4.heap.size w5.heap.size Bs w2.heap.size HGr.out HS5.out (Nat.le_refl _) (by omega)).mono ?_
    rintro e w6 ⟨rfl, h56⟩
    have s6 := h56.size
    have H6 : Hid (Below Wb.heap.size Wb w6) := H5.out.trans (h56.mono (by omega))
    have HBX6 : Hid (BoxC w6 w3.heap.size (.int .i64 xk) (.slice xna xnn xnc) (.slice xra xrn xrc) (.slice xka xkn xkc)) := HBX5.out.below h56 (by omega)
    have HBx6 : Hid (BoxL w6 w.heap.size v0 v1 v2 v3) := HBx.out.below H6.out (by omega)
    have HX6d : Hid (RdC w2.heap.size w3.heap.size w6.drew d (.agg #[.int .i64 xk, .slice xna xnn xnc, .slice xra xrn xrc, .slice xka xkn xkc]) c) := HX5.out.below h56.drew (by omega)
    have H6d : Hid (Below Wb.heap.size Wb w6.drew) := H6.out.drew
    have H56d : Hid (Below w5.heap.size w5 w6.drew) := h56.drew
    have s6d : w6.drew.heap.size = w6.heap.size := rfl
    have HBX6d : Hid (BoxC w6.drew w3.heap.size (.int .i64 xk) (.slice xna xnn xnc) (.slice xra xrn xrc) (.slice xka xkn xkc)) := HBX6.out
    obtain ⟨k0, k1, k2, k3⟩ := HBx6.out.cells
    obtain ⟨m0, m1, m2, m3⟩ := HBX6.out.cells
    clear h56
    go_upto_region 10 with fail
    go_cut [31] (fun b W => b = .bool false ∧ Below w5.heap.size w5 W)
    case first =>
      first | go_region_with (first | (go_at_call 9; refine (toC_any d _ c w6.drew 0 w.heap.size (HRb.out.below H6d.out (by omega)) (by omega) HBk.out).mono ?_; rintro e w7 ⟨x7, rfl, hx7, _, hb7⟩; have HX7 : Hid (RdC w6.drew.heap.size w7.heap.size w7 d x7 c) := hx7; have H57 : Hid (Below w5.heap.size w5 w7) := H56d.out.trans (hb7.mono (by omega)); have HY7 : Hid (RdC w2.heap.size w3.heap.size w7 d (.agg #[.int .i64 xk, .slice xna xnn xnc, .slice xra xrn xrc, .slice xka xkn xkc]) c) := HX6d.out.below hb7 (by omega); have HS7 : Hid (w5.heap.size ≤ w7.heap.size) := H57.out.size; have HBX7 : Hid (BoxC w7 w3.heap.size (.int .i64 xk) (.slice xna xnn xnc) (.slice xra xrn xrc) (.slice xka xkn xkc)) := HBX6d.out.below hb7 (by omega); obtain ⟨n0, n1, n2, n3⟩ := HBX7.out.cells; clear hx7 hb7) | (go_at_call 13; refine (eqC_any d _ _ c d w7 w2.heap.size w3.heap.size w6.drew.heap.size w7.heap.size HY7.out HX7.out (by have := HS7.out; omega) (Nat.le_refl _)).mono ?_; rintro e w8 ⟨rfl, hb8⟩; have H58 : Hid (Below w5.heap.size w5 w8) := H57.out.trans (hb8.mono H57.out.size); clear hb8)) | fail
      all_goals
        go_wp2_with fail
        go_meet
        case rel => exact ⟨rfl, H58.out⟩
    case rest =>
      obtain ⟨hb31, h5c⟩ := hcut
      subst hb31
      have H5c : Hid (Below w5.heap.size w5 wc) := h5c
      have hsc := h5c.size
      have HBXc : Hid (BoxC wc w3.heap.size (.int .i64 xk) (.slice xna xnn xnc) (.slice xra xrn xrc) (.slice xka xkn xkc)) := HBX5.out.below h5c (by omega)
      have HShc : Hid (ShC w2.heap.size w3.heap.size wc d (.agg #[.int .i64 xk, .slice xna xnn xnc, .slice xra xrn xrc, .slice xka xkn xkc]) c) := (HX5.out.below h5c (by omega)).sh
      have HFrc : Hid (Free w2.heap.size w3.heap.size wc) := HFr5.out.same (Same.of_below h5c (by omega))
      clear m0 m1 m2 m3 k0 k1 k2 k3 h5c
      obtain ⟨m0, m1, m2, m3⟩ := HBXc.out.cells
      obtain ⟨q, hq⟩ : ∃ q : Int, q = 1 + (c.bulk : Int) := ⟨_, rfl⟩
      have HQ : Hid (q = 1 + (c.bulk : Int)) := hq
      have hq0 : (decide (q < 0)) = false := by simp; omega
      have hq1 : 0 ≤ q := by omega
      clear hq
      go_wp2_with fail
      refine (markCon_any _ c 1 wc HShc.out (by omega) HFrc.out HBk.out (by omega) (by omega)).mono ?_
      rintro e w9 ⟨rfl, hm9⟩
      rw [← HQ.out]
      have s9 := hm9.size
      have hblk : ∀ b, b < w5.heap.size → (b < w2.heap.size ∨ w3.heap.size ≤ b) → w9.heap[b]? = w5.heap[b]? := fun b h1 h2 => (hm9.out b (by omega) h2).trans (H5c.out.block b h1)
      have HG9 : Hid (RdL (RdC w4.heap.size w5.heap.size w9 209) w4.heap.size w5.heap.size w9 ga n gcap a) := HGr.out.same (fun b h1 h2 => hblk b h2 (.inr (by omega)))
      have HS9 : Hid (RdL (RdC Bs w2.heap.size w9 d) Bs w2.heap.size w9 sa n scap a) := HS5.out.same (fun b h1 h2 => hblk b (by omega) (.inl h2))
      have HO9 : Hid (AnsL w4.heap.size w9 209 (.slice ga n gcap) a LG XG) := HG5.out.same (fun b h1 h2 => hblk b h2 (.inr (by omega))) (by omega)
      have H9 : Hid (Below Wb.heap.size Wb w9) := ⟨hm9.os.trans (H5.out.trans (H5c.out.mono (by omega))).os, hm9.tape.trans (H5.out.trans (H5c.out.mono (by omega))).tape, hm9.output.trans (H5.out.trans (H5c.out.mono (by omega))).output, Nat.le_trans (H5.out.trans (H5c.out.mono (by omega))).size hm9.size, fun b hb => (hblk b (by omega) (.inl (by omega))).trans (H5.out.block b hb)⟩
      clear hm9 hblk m0 m1 m2 m3
      go_wp2_with fail
      refine (eqL_of (eqC_any 209) _ _ _ _ _ a d w9 w4.heap.size w5.heap.size Bs w2.heap.size HG9.out HS9.out (by omega) (by omega)).mono ?_
      rintro e w10 ⟨rfl, h910⟩
      have s10 := h910.size
      have H10 : Hid (Below Wb.heap.size Wb w10) := H9.out.trans (h910.mono (by omega))
      have HS10 : Hid (RdL (RdC Bs w2.heap.size w10 d) Bs w2.heap.size w10 sa n scap a) := HS9.out.below h910 (by omega)
      obtain ⟨ga', gcap', b0, hv10, hf10⟩ := FinL.of (HO9.out.below h910)
      rw [← HN.out] at hv10 hf10
      simp only [Value.slice.injEq] at hv10
      obtain ⟨rfl, hjunk, rfl⟩ := hv10
      clear hjunk
      obtain ⟨Lf, hLf⟩ : ∃ Lf : Nat → List (Addr × IntKind), Lf = fun i => LG.getD i [] := ⟨_, rfl⟩
      rw [← hLf] at hf10
      have HF10 : Hid (FinL w4.heap.size w10.heap.size w10 209 ga n gcap a b0 Lf) := hf10
      have HNl : Hid ((leafK b0 0 Lf n).length = m) := by unfold Hid; rw [HM.out]; exact hf10.ln
      clear h910 hf10 hLf
      go_wp2_with fail
      refine (mxL_any 209 ga n gcap b0 0 Lf 1 w10 HF10.out.lv HF10.out.ok (by omega) (by rw [HNl.out]; omega) (by omega) (by rw [HNl.out]; omega)).mono ?_
      rintro e w11 ⟨rfl, hw11⟩
      rw [HNl.out]
      have s11 : w10.heap.size = w11.heap.size := by rw [hw11, size_marks]
      have hblk : ∀ b, b < w4.heap.size → w11.heap[b]? = w10.heap[b]? := fun b h1 => by
        rw [hw11]
        have h3 : Same b (b + 1) w10 (marks w10 (leafK b0 0 Lf n) 1) := same_marks (fun x hx => by have := HF10.out.bl x hx; omega) 1
        exact h3 b (Nat.le_refl _) (by omega)
      have H11 : Hid (Below Wb.heap.size Wb w11) := by
        unfold Hid
        rw [hw11]
        exact below_marks H10.out (fun x hx => by have := HF10.out.bl x hx; omega) 1
      have HS11 : Hid (RdL (RdC Bs w2.heap.size w11 d) Bs w2.heap.size w11 sa n scap a) := HS10.out.same (fun b h1 h2 => hblk b (by omega))
      have HHe : Hid (Held w11 (leafK b0 0 Lf n) 1) := by unfold Hid; rw [hw11]; exact held_marks HF10.out.ok HF10.out.nd 1
      have HLv : Hid (LvL (LvC w11 209) w11 ga n b0 0 Lf) := by
        unfold Hid
        rw [hw11]
        exact HF10.out.lv.keep (keepS_marks HF10.out.ok 1)
      clear hw11 hblk
      go_wp2_with fail
      refine (hxL_any 209 ga n gcap b0 0 Lf 1 w11 HLv.out HHe.out (by omega) (by rw [HNl.out]; omega) (by omega) (by rw [HNl.out]; omega)).mono ?_
      rintro e w12 ⟨rfl, hw12⟩
      rw [HNl.out]
      have H1112 : Hid (Below w11.heap.size w11 w12) := by unfold Hid; rw [hw12]; exact Below.refl _ _
      have s12 := H1112.out.size
      have H12 : Hid (Below Wb.heap.size Wb w12) := H11.out.trans (H1112.out.mono (by omega))
      have HBx12 : Hid (BoxL w12 w.heap.size v0 v1 v2 v3) := HBx.out.below H12.out (by omega)
      obtain ⟨k0, k1, k2, k3⟩ := HBx12.out.cells
      clear hw12
      go_wp2_with fail
      refine (toC_any d _ c w12 0 w.heap.size (HRb.out.below H12.out (by omega)) (by omega) HBk.out).mono ?_
      rintro e w13 ⟨x13, rfl, hx13, _, hb13⟩
      have HX13 : Hid (RdC w12.heap.size w13.heap.size w13 d x13 c) := hx13
      have H1113 : Hid (Below w11.heap.size w11 w13) := H1112.out.trans (hb13.mono (by omega))
      have s13 := hb13.size
      clear hx13 hb13 k0 k1 k2 k3
      go_wp2_with fail
      refine (implSubs_any HX13.out (Nat.le_refl _) HBk.out).mono ?_
      rintro e w14 ⟨vH, LH, XH, rfl, hH, hb14⟩
      rw [← HA.out] at hH
      obtain ⟨ha', hcap, hvH, hrH⟩ := rowK_rd hH.row hH.sep.ge
      rw [← HN.out] at hvH hrH
      subst hvH
      have s14 := hb14.size
      have H1114 : Hid (Below w11.heap.size w11 w14) := H1113.out.trans (hb14.mono (by omega))
      have HHr : Hid (RdL (RdC w13.heap.size w14.heap.size w14 209) w13.heap.size w14.heap.size w14 ha' n hcap a) := hrH
      have HS14 : Hid (RdL (RdC Bs w2.heap.size w14 d) Bs w2.heap.size w14 sa n scap a) := HS11.out.below H1114.out (by omega)
      clear hH hb14 hrH
      go_wp2_with fail
      refine (eqL_of (eqC_any 209) _ _ _ _ _ a d w14 w13.heap.size w14.heap.size Bs w2.heap.size HHr.out HS14.out (Nat.le_refl _) (by omega)).mono ?_
      rintro e w15 ⟨rfl, hb15⟩
      have H1115 : Hid (Below w11.heap.size w11 w15) := H1114.out.trans (hb15.mono (by omega))
      have H15 : Hid (Below Wb.heap.size Wb w15) := H11.out.trans (H1115.out.mono (by omega))
      have HHe15 : Hid (Held w15 (leafK b0 0 Lf n) 1) := HHe.out.below H1115.out
      have HLv15 : Hid (LvL (LvC w15 209) w15 ga n b0 0 Lf) := HLv.out.keep (KeepS.of_below H1115.out)
      clear hb15
      go_wp2_with fail
      refine (hxL_any 209 ga n gcap b0 0 Lf 1 w15 HLv15.out HHe15.out (by omega) (by rw [HNl.out]; omega) (by omega) (by rw [HNl.out]; omega)).mono ?_
      rintro e w16 ⟨rfl, hw16⟩
      rw [HNl.out]
      have H16 : Hid (Below Wb.heap.size Wb w16) := by unfold Hid; rw [hw16]; exact H15.out
      clear hw16
      go_wp2_with fail
      go_ret
      exact ⟨rfl, HBB.out.trans (H16.out.mono (by omega))⟩

set_option maxRecDepth 100000 in
theorem lifted (os : Os) (started : os.Started) (H : Type) (enc : TypeId × Value → H) :
    ReturnsInHanded {} Try.checked os 4 .any (Rows.fnExactSubsSpec.pre6 enc Try.prog Try.f4 Rows.fnExactSubsRow.domain false) (Rows.fnExactSubsSpec.post enc Try.prog Try.f4 false true false false) := by
  refine returnsInHanded_of_change (C := Try.checked) own started (by kernel_rfl) Try.func4
    (ChangeSpec.witness6 (enc := enc) (C := Try.checked) false ⟨#[], #[.agg #[.int .i64 0, .slice none 0 0, .slice none 0 0, .slice none 0 0]], []⟩ 8 (by kernel_rfl) (by kernel_rfl) (by kernel_rfl) (by kernel_rfl)) ?_
  intro W base args ds gs before hval0 hW hcnd _
  have hval : ∀ (j : Nat) t v, Try.f4.params[j]? = some t → args[j]? = some v → Value.okWide Try.prog W .any base t v := hval0
  have hW' := hW
  obtain ⟨p, q, hA0, hV, rfl, hfz, hnd⟩ := hW
  have hA : DataW.TrodAll enc Try.prog W 0 (fun _ => true) true Try.f4.params.toList args.toList ds p := hA0
  rw [Try.params4] at hA hval
  obtain ⟨v0, vs0, d0, ds0, p0, q0, hargs, rfl, rfl, h0, r0⟩ := trodAll_cons hA
  obtain ⟨rfl, rfl, rfl⟩ := trodAll_nil r0
  obtain rfl : args = #[v0] := by cases args; simp_all
  obtain ⟨rfl, rfl⟩ := trodVars_none hV
  obtain ⟨cs0, rfl, _⟩ := okWide_struct Try.underlying30 (hval 0 30 v0 rfl rfl)
  have k0 := h0
  have lt0 : ∀ x ∈ p0, x.block < W.heap.size := by obtain ⟨m, hm⟩ := k0; exact DataW.trod_lt m _ _ _ hm
  obtain ⟨dd, x0, x1, x2, x3, c, hcs, w0⟩ : ∃ dd x0 x1 x2 x3 c, cs0 = #[x0, x1, x2, x3] ∧ RdC 0 W.heap.size W dd (.agg #[x0, x1, x2, x3]) c := by
    obtain ⟨fuel, hf⟩ := h0
    obtain ⟨x0, x1, x2, x3, c, hv, hr⟩ := open_con fuel fuel cs0.toList _ (Nat.le_refl _) (by simpa [Value.cells] using hf)
    exact ⟨fuel, x0, x1, x2, x3, c, by cases cs0; simp_all, hr⟩
  subst hcs
  clear hA0 hval0
  refine (walk dd x0 x1 x2 x3 c W w0).mono fun e W' ⟨he, bel⟩ => ?_
  subst he
  exact ⟨_, rfl, _, _, _, [], _, [], hW', trodAll_mk1 (shut_bool Try.underlying4 _), (trodAll_cons_mk (Below.trod laidOut (by kernel_rfl) (of_decide_eq_true (by kernel_rfl)) k0 bel lt0) trodAll_mk0), rfl, bel.frame _, fun h => by cases h⟩

theorem over : Rows.fnExactSubsRow.holds Try.pinned (OpenSpec.ofChange Rows.fnExactSubsSpec) :=
  OpenClaim.holds_of_wide 4 Try.f4 rfl rfl rfl rfl rfl rfl rfl ⟨rfl, rfl, rfl, rfl, rfl⟩ rfl rfl rfl rfl rfl (by kernel_rfl) Try.func4 (by kernel_rfl)
    (of_decide_eq_true (by kernel_rfl)) (by unfold Func.isWrapper; first | (rw [if_pos (by decide +kernel)]; kernel_rfl) | (rw [if_neg (by decide +kernel)]; exact ⟨rfl, rfl⟩))
    (fun os started H enc _ => lifted os started H enc)

theorem proved : Rows.FnExactSubsSaid := over
#print axioms proved
end Go.Proofs.Ytfbokljbmihlbaa.fnExactSubs
namespace Go.Proofs.Ytfbokljbmihlbaa
theorem fnExactSubs_holds : Rows.FnExactSubsSaid := fnExactSubs.proved
end Go.Proofs.Ytfbokljbmihlbaa
