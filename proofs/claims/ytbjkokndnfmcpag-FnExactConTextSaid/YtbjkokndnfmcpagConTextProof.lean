/- For every concept the law FnExactConText answers true and the concept reads behind the call as it did before: no condition. -/
import Derived.Test.YtbjkokndnfmcpagRows
import Derived.Test.YtbjkokndnfmcpagConTextFn
import Derived.Test.YtbjkokndnfmcpagConMark
import Derived.Test.YtbjkokndnfmcpagConSz
import Derived.Test.YtbjkokndnfmcpagConEq
import Derived.Test.YtbjkokndnfmcpagConTo
import Derived.Test.YtbjkokndnfmcpagConOpen
import Derived.Test.YtbjkokndnfmcpagLawBox
import Derived.WalkKit
import Derived.ProofKit
import Derived.OpenShut
import Derived.ShutString
import Derived.ChangeOld
import Derived.Below
import Derived.Deep.DeepCutAuto
namespace Go.Proofs.Ytbjkokndnfmcpag.fnExactConText
open Go.ChangeShapes Go.WideShapes Go.ChangeAt Go.RowKit
set_option linter.unusedVariables false

theorem own : ownKnob Try.prog.godebug = none := by kernel_rfl
theorem laidOut : laidOutB Try.prog = true := by kernel_rfl

theorem LeafOk.same {lo hi : Nat} {w w' : World} {L : List (Addr × IntKind)} (h : LeafOk w L) (hs : Same lo hi w w') (hb : ∀ x ∈ L, lo ≤ x.1.block ∧ x.1.block < hi) : LeafOk w' L := by
  intro x hx
  obtain ⟨⟨n, hn⟩, hf⟩ := h x hx
  obtain ⟨h1, h2⟩ := hb x hx
  exact ⟨⟨n, (hs.cell h1 h2).trans hn⟩, (World.frozen?_of_block (w := w) (hs _ h1 h2)).trans hf⟩

theorem leafB_blk {g n : Nat} : ∀ x ∈ leafB g 0 n, x.1.block = g := by
  intro x hx
  simp only [leafB, List.mem_map] at hx
  obtain ⟨j, _, rfl⟩ := hx
  rfl

theorem leafB_in {g n lo hi : Nat} (h : n = 0 ∨ (lo ≤ g ∧ g < hi)) : ∀ x ∈ leafB g 0 n, lo ≤ x.1.block ∧ x.1.block < hi := by
  intro x hx
  rw [leafB_blk x hx]
  rcases h with h | h
  · subst h; simp [leafB] at hx
  · exact h

set_option maxRecDepth 100000 in
set_option maxHeartbeats 4000000 in
theorem walk (d : Nat) (v0 v1 v2 v3 : Value) (c : CN) (w : World) (hR : RdC 0 w.heap.size w d (.agg #[v0, v1, v2, v3]) c) :
    Calls Try.prog 6 #[.agg #[v0, v1, v2, v3]] w fun e w' => e = .returned (.bool true) ∧ Below w.heap.size w w' := by
  obtain ⟨Wb, hWb⟩ : ∃ Wb, Wb = w.alloc (.cells #[v0, v1, v2, v3] 39) := ⟨_, rfl⟩
  have HWb : Hid (Wb = w.alloc (.cells #[v0, v1, v2, v3] 39)) := hWb
  have hbb : Below w.heap.size w Wb := by rw [hWb]; exact (Below.refl _ _).alloc (Nat.le_refl _) _
  have HBB : Hid (Below w.heap.size w Wb) := hbb
  have hsb : Wb.heap.size = w.heap.size + 1 := by rw [hWb]; simp
  have HRb : Hid (RdC 0 w.heap.size Wb d (.agg #[v0, v1, v2, v3]) c) := hR.below hbb (Nat.le_refl _)
  have hbx : BoxL Wb w.heap.size v0 v1 v2 v3 := by rw [hWb]; exact BoxL.new w _ _ _ _
  have HBx : Hid (BoxL Wb w.heap.size v0 v1 v2 v3) := hbx
  obtain ⟨r, hr⟩ : ∃ r, r = szRes 1048576 c.bulk := ⟨_, rfl⟩
  have HSz : Hid (r = szRes 1048576 c.bulk) := hr
  have HTB : Hid (∀ i, 0 ≤ (conText c).getD i 0 ∧ (conText c).getD i 0 ≤ 255) := conText_byte hR
  have htl := conText_short c
  obtain ⟨zs, hzs⟩ : ∃ zs, zs = conText c := ⟨_, rfl⟩
  rw [← hzs] at htl
  have HZ : Hid (zs = conText c) := hzs
  obtain ⟨n, hn⟩ : ∃ n, n = zs.length := ⟨_, rfl⟩
  rw [← hn] at htl
  have HN : Hid (n = zs.length) := hn
  have hnn : ((1 + (n : Int)) != (1 + (n : Int))) = false := by simp
  obtain ⟨k0, k1, k2, k3⟩ := hbx.cells
  clear hR hbb hWb hbx hr hzs hn
  go_enter Try.func6, Try.ntmps6
  go_wp2_with fail
  rw [← HWb.out]
  refine (szC_any d _ c 1048576 Wb 0 w.heap.size HRb.out (by omega) (by omega) (by omega)).mono ?_
  rintro e w0 ⟨rfl, hb⟩
  rw [← HSz.out]
  have H0 : Hid (Below Wb.heap.size Wb w0) := hb
  have HBx0 : Hid (BoxL w0 w.heap.size v0 v1 v2 v3) := HBx.out.below hb (by omega)
  clear k0 k1 k2 k3
  obtain ⟨k0, k1, k2, k3⟩ := HBx0.out.cells
  have s0 := hb.size
  clear hb
  by_cases hneg : r < 0
  · go_wp2_with fail
    go_ret
    exact ⟨rfl, HBB.out.trans (H0.out.mono (by omega))⟩
  · have HBk : Hid (c.bulk ≤ 1048576) := by have := szRes_pos (by rw [← HSz.out]; exact hneg); unfold Hid; omega
    go_wp2_with fail
    refine (toC_any d _ c w0 0 w.heap.size (HRb.out.below H0.out (by omega)) (by omega) HBk.out).mono ?_
    rintro e w1 ⟨x1, rfl, hx1, _, hb1⟩
    have H1 : Hid (Below Wb.heap.size Wb w1) := H0.out.trans (hb1.mono s0)
    have HX1 : Hid (RdC w0.heap.size w1.heap.size w1 d x1 c) := hx1
    have s1 := hb1.size
    clear hx1 hb1 k0 k1 k2 k3
    go_wp2_with fail
    refine (specConText_any HX1.out (Nat.le_refl _) HBk.out).mono ?_
    rintro e w2 ⟨vS, rfl, hS, hb2⟩
    rw [← HZ.out] at hS
    obtain ⟨aS, cS, bS, rfl, hrS, _, _, _⟩ := hS.form (by rw [HZ.out]; exact HTB.out)
    rw [← HN.out] at hrS ⊢
    have HS : Hid (Rd w1.heap.size w2.heap.size w2 aS n cS zs) := hrS
    have H2 : Hid (Below Wb.heap.size Wb w2) := H1.out.trans (hb2.mono (by omega))
    have HBx2 : Hid (BoxL w2 w.heap.size v0 v1 v2 v3) := HBx.out.below H2.out (by omega)
    obtain ⟨k0, k1, k2, k3⟩ := HBx2.out.cells
    have s2 := hb2.size
    clear hb2 hS hrS
    go_wp2_with fail
    refine (toC_any d _ c w2 0 w.heap.size (HRb.out.below H2.out (by omega)) (by omega) HBk.out).mono ?_
    rintro e w3 ⟨x3, rfl, hx3, hf3, hb3⟩
    obtain ⟨xk, xna, xnn, xnc, xra, xrn, xrc, xka, xkn, xkc, rfl⟩ := hx3.shape
    obtain ⟨w4, hw4⟩ : ∃ w4, w4 = w3.alloc (.cells #[.int .i64 xk, .slice xna xnn xnc, .slice xra xrn xrc, .slice xka xkn xkc] 44) := ⟨_, rfl⟩
    have HW4 : Hid (w4 = w3.alloc (.cells #[.int .i64 xk, .slice xna xnn xnc, .slice xra xrn xrc, .slice xka xkn xkc] 44)) := hw4
    have hb4 : Below w3.heap.size w3 w4 := by rw [hw4]; exact (Below.refl _ _).alloc (Nat.le_refl _) _
    have s3 := hb3.size
    have s4 : w4.heap.size = w3.heap.size + 1 := by rw [hw4]; simp
    have H4 : Hid (Below Wb.heap.size Wb w4) := (H2.out.trans (hb3.mono (by omega))).trans (hb4.mono (by omega))
    have HX4 : Hid (RdC w2.heap.size w3.heap.size w4 d (.agg #[.int .i64 xk, .slice xna xnn xnc, .slice xra xrn xrc, .slice xka xkn xkc]) c) := hx3.below hb4 (Nat.le_refl _)
    have HFr4 : Hid (Free w2.heap.size w3.heap.size w4) := hf3.same (Same.of_below hb4 (Nat.le_refl _))
    have HBX : Hid (BoxC w4 w3.heap.size (.int .i64 xk) (.slice xna xnn xnc) (.slice xra xrn xrc) (.slice xka xkn xkc)) := by unfold Hid; rw [hw4]; exact BoxC.new w3 _ _ _ _
    have HS4 : Hid (Rd w1.heap.size w2.heap.size w4 aS n cS zs) := (HS.out.below hb3 (Nat.le_refl _)).below hb4 (by omega)
    obtain ⟨m0, m1, m2, m3⟩ := HBX.out.cells
    clear hx3 hb3 hb4 hw4 hf3 k0 k1 k2 k3
    go_wp2_with fail
    rw [← HW4.out]
    refine (implConText_any HX4.out (by omega) HBk.out).mono ?_
    rintro e w5 ⟨vI, rfl, hI, hb5⟩
    rw [← HZ.out] at hI
    obtain ⟨aI, cI, bI, rfl, hrI, haI, hlI, hbI⟩ := hI.form (by rw [HZ.out]; exact HTB.out)
    rw [← HN.out] at hrI haI hlI hbI ⊢
    have HI : Hid (Rd w4.heap.size w5.heap.size w5 aI n cI zs) := hrI
    have HLI : Hid (LeafOk w5 (leafB bI 0 n)) := hlI
    have HbI : Hid (n = 0 ∨ (w4.heap.size ≤ bI ∧ bI < w5.heap.size)) := hbI
    have H5 : Hid (Below Wb.heap.size Wb w5) := H4.out.trans (hb5.mono (by omega))
    have HX5 : Hid (RdC w2.heap.size w3.heap.size w5 d (.agg #[.int .i64 xk, .slice xna xnn xnc, .slice xra xrn xrc, .slice xka xkn xkc]) c) := HX4.out.below hb5 (by omega)
    have HFr5 : Hid (Free w2.heap.size w3.heap.size w5) := HFr4.out.same (Same.of_below hb5 (by omega))
    have HBX5 : Hid (BoxC w5 w3.heap.size (.int .i64 xk) (.slice xna xnn xnc) (.slice xra xrn xrc) (.slice xka xkn xkc)) := HBX.out.below hb5 (by omega)
    have HBx5 : Hid (BoxL w5 w.heap.size v0 v1 v2 v3) := HBx.out.below H5.out (by omega)
    have HS5 : Hid (Rd w1.heap.size w2.heap.size w5 aS n cS zs) := HS4.out.below hb5 (by omega)
    have s5 := hb5.size
    clear hb5 hI hrI hlI hbI m0 m1 m2 m3
    go_wp2_with fail
    refine (eqByteS_any _ _ _ _ _ _ zs zs _ HI.out HS5.out).mono ?_
    rintro e w6 ⟨rfl, nd6, hw6⟩
    rw [show decide (zs = zs) = true from by simp]
    have h56 : Below w5.heap.size w5 w6 := by rw [hw6]; exact below_drewN (Below.refl _ _) nd6
    have s6 : w6.heap.size = w5.heap.size := by rw [hw6]; rfl
    have H56 : Hid (Below w5.heap.size w5 w6) := h56
    have H6 : Hid (Below Wb.heap.size Wb w6) := H5.out.trans (h56.mono (by omega))
    have HBX6 : Hid (BoxC w6 w3.heap.size (.int .i64 xk) (.slice xna xnn xnc) (.slice xra xrn xrc) (.slice xka xkn xkc)) := HBX5.out.below h56 (by omega)
    have HBx6 : Hid (BoxL w6 w.heap.size v0 v1 v2 v3) := HBx.out.below H6.out (by omega)
    have HX6d : Hid (RdC w2.heap.size w3.heap.size w6.drew d (.agg #[.int .i64 xk, .slice xna xnn xnc, .slice xra xrn xrc, .slice xka xkn xkc]) c) := HX5.out.below h56.drew (by omega)
    have H6d : Hid (Below Wb.heap.size Wb w6.drew) := H6.out.drew
    have H56d : Hid (Below w5.heap.size w5 w6.drew) := h56.drew
    have s6d : w6.drew.heap.size = w5.heap.size := s6
    have HBX6d : Hid (BoxC w6.drew w3.heap.size (.int .i64 xk) (.slice xna xnn xnc) (.slice xra xrn xrc) (.slice xka xkn xkc)) := HBX6.out
    obtain ⟨k0, k1, k2, k3⟩ := HBx6.out.cells
    obtain ⟨m0, m1, m2, m3⟩ := HBX6.out.cells
    clear hw6 h56
    go_upto_region 10 with fail
    go_cut [31] (fun b W => b = .bool false ∧ Below w5.heap.size w5 W)
    case first =>
      first | go_region_with (first | (go_at_call 24; refine (toC_any d _ c w6.drew 0 w.heap.size (HRb.out.below H6d.out (by omega)) (by omega) HBk.out).mono ?_; rintro e w7 ⟨x7, rfl, hx7, _, hb7⟩; have HX7 : Hid (RdC w6.drew.heap.size w7.heap.size w7 d x7 c) := hx7; have H57 : Hid (Below w5.heap.size w5 w7) := H56d.out.trans (hb7.mono (by omega)); have HY7 : Hid (RdC w2.heap.size w3.heap.size w7 d (.agg #[.int .i64 xk, .slice xna xnn xnc, .slice xra xrn xrc, .slice xka xkn xkc]) c) := HX6d.out.below hb7 (by omega); have HS7 : Hid (w5.heap.size ≤ w7.heap.size) := H57.out.size; have HBX7 : Hid (BoxC w7 w3.heap.size (.int .i64 xk) (.slice xna xnn xnc) (.slice xra xrn xrc) (.slice xka xkn xkc)) := HBX6d.out.below hb7 (by omega); obtain ⟨n0, n1, n2, n3⟩ := HBX7.out.cells; clear hx7 hb7) | (go_at_call 26; refine (eqC_any d _ _ c d w7 w2.heap.size w3.heap.size w6.drew.heap.size w7.heap.size HY7.out HX7.out (by have := HS7.out; omega) (Nat.le_refl _)).mono ?_; rintro e w8 ⟨rfl, hb8⟩; have H58 : Hid (Below w5.heap.size w5 w8) := H57.out.trans (hb8.mono H57.out.size); clear hb8)) | fail
      all_goals
        go_wp2_with fail
        go_meet
        case rel => exact ⟨rfl, H58.out⟩
    case rest =>
      obtain ⟨hb31, h5c⟩ := hcut
      subst hb31
      have H5c : Hid (Below w5.heap.size w5 wc) := h5c
      have hsc := h5c.size
      have HBXc : Hid (BoxC wc w3.heap.size (.int .i64 xk) (.slice xna xnn xnc) (.slice xra xrn xrc) (.slice xka xkn xkc)) := HBX5.out.below h5c (by omega)
      have HShc : Hid (ShC w2.heap.size w3.heap.size wc d (.agg #[.int .i64 xk, .slice xna xnn xnc, .slice xra xrn xrc, .slice xka xkn xkc]) c) := (HX5.out.below h5c (by omega)).sh
      have HFrc : Hid (Free w2.heap.size w3.heap.size wc) := HFr5.out.same (Same.of_below h5c (by omega))
      clear m0 m1 m2 m3 k0 k1 k2 k3 h5c
      obtain ⟨m0, m1, m2, m3⟩ := HBXc.out.cells
      obtain ⟨q, hq⟩ : ∃ q : Int, q = 1 + (c.bulk : Int) := ⟨_, rfl⟩
      have HQ : Hid (q = 1 + (c.bulk : Int)) := hq
      have hq0 : (decide (q < 0)) = false := by simp; omega
      have hq1 : 0 ≤ q := by omega
      clear hq
      go_wp2_with fail
      refine (markCon_any _ c 1 wc HShc.out (by omega) HFrc.out HBk.out (by omega) (by omega)).mono ?_
      rintro e w9 ⟨rfl, hm9⟩
      rw [← HQ.out]
      have s9 := hm9.size
      have hI59 : Same w4.heap.size w5.heap.size w5 w9 := fun b h1 h2 => (hm9.out b (by omega) (.inr (by omega))).trans (H5c.out.block b h2)
      have HI9 : Hid (Rd w4.heap.size w5.heap.size w9 aI n cI zs) := HI.out.same hI59
      have HLI9 : Hid (LeafOk w9 (leafB bI 0 n)) := LeafOk.same HLI.out hI59 (leafB_in HbI.out)
      have HS9 : Hid (Rd w1.heap.size w2.heap.size w9 aS n cS zs) := HS5.out.same (fun b h1 h2 => (hm9.out b (by omega) (.inl (by omega))).trans (H5c.out.block b (by omega)))
      have H9 : Hid (Below Wb.heap.size Wb w9) := ⟨hm9.os.trans (H5.out.trans (H5c.out.mono (by omega))).os, hm9.tape.trans (H5.out.trans (H5c.out.mono (by omega))).tape, hm9.output.trans (H5.out.trans (H5c.out.mono (by omega))).output, Nat.le_trans (H5.out.trans (H5c.out.mono (by omega))).size hm9.size, fun b hb => (hm9.out b (by omega) (.inl (by omega))).trans ((H5.out.trans (H5c.out.mono (by omega))).block b hb)⟩
      clear hm9 hI59 m0 m1 m2 m3
      go_wp2_with fail
      refine (eqByteS_any _ _ _ _ _ _ zs zs _ HI9.out HS9.out).mono ?_
      rintro e w10 ⟨rfl, nd10, hw10⟩
      rw [show decide (zs = zs) = true from by simp]
      have h910 : Below w9.heap.size w9 w10 := by rw [hw10]; exact below_drewN (Below.refl _ _) nd10
      have s10 : w10.heap.size = w9.heap.size := by rw [hw10]; rfl
      have H10 : Hid (Below Wb.heap.size Wb w10) := H9.out.trans (h910.mono (by omega))
      have HS10 : Hid (Rd w1.heap.size w2.heap.size w10 aS n cS zs) := HS9.out.below h910 (by omega)
      have HLI10 : Hid (LeafOk w10 (leafB bI 0 n)) := LeafOk.same HLI9.out (Same.of_below (lo := w4.heap.size) (hi := w5.heap.size) h910 (by omega)) (leafB_in HbI.out)
      clear hw10 h910
      go_wp2_with fail
      refine (markByteS_any aI n cI 1 w10 bI 0 haI HLI10.out (by omega) (by omega)).mono ?_
      rintro e w11 ⟨rfl, hw11⟩
      have s11 : w10.heap.size = w11.heap.size := by rw [hw11, size_marks]
      have H11 : Hid (Below Wb.heap.size Wb w11) := by unfold Hid; rw [hw11]; exact below_marks H10.out (fun x hx => by have := leafB_in HbI.out x hx; omega) 1
      have HS11 : Hid (Rd w1.heap.size w2.heap.size w11 aS n cS zs) := by
        refine HS10.out.same ?_
        rw [hw11]; exact same_marks (fun x hx => by have := leafB_in HbI.out x hx; omega) 1
      have HHe : Hid (Held w11 (leafB bI 0 n) 1) := by unfold Hid; rw [hw11]; exact held_marks HLI10.out (leafB_nodup _ _ _) 1
      clear hw11
      go_wp2_with fail
      refine (heldByteS_any aI n cI 1 w11 bI 0 haI (held_leafB HHe.out) (by omega) (by omega)).mono ?_
      rintro e w12 ⟨rfl, hw12⟩
      rw [hw12]
      have HBx11 : Hid (BoxL w11 w.heap.size v0 v1 v2 v3) := HBx.out.below H11.out (by omega)
      obtain ⟨k0, k1, k2, k3⟩ := HBx11.out.cells
      clear hw12
      go_wp2_with fail
      refine (toC_any d _ c w11 0 w.heap.size (HRb.out.below H11.out (by omega)) (by omega) HBk.out).mono ?_
      rintro e w13 ⟨x13, rfl, hx13, _, hb13⟩
      have HX13 : Hid (RdC w11.heap.size w13.heap.size w13 d x13 c) := hx13
      have H1113 : Hid (Below w11.heap.size w11 w13) := hb13
      have s13 := hb13.size
      clear hx13 hb13 k0 k1 k2 k3
      go_wp2_with fail
      refine (implConText_any HX13.out (Nat.le_refl _) HBk.out).mono ?_
      rintro e w14 ⟨vH, rfl, hH, hb14⟩
      rw [← HZ.out] at hH
      obtain ⟨aH, cH, bH, rfl, hrH, _, _, _⟩ := hH.form (by rw [HZ.out]; exact HTB.out)
      rw [← HN.out] at hrH ⊢
      have HH : Hid (Rd w13.heap.size w14.heap.size w14 aH n cH zs) := hrH
      have H1114 : Hid (Below w11.heap.size w11 w14) := H1113.out.trans (hb14.mono s13)
      have HS14 : Hid (Rd w1.heap.size w2.heap.size w14 aS n cS zs) := HS11.out.below H1114.out (by omega)
      clear hH hrH hb14
      go_wp2_with fail
      refine (eqByteS_any _ _ _ _ _ _ zs zs _ HH.out HS14.out).mono ?_
      rintro e w15 ⟨rfl, nd15, hw15⟩
      rw [show decide (zs = zs) = true from by simp]
      have H1115 : Hid (Below w11.heap.size w11 w15) := by unfold Hid; rw [hw15]; exact below_drewN H1114.out nd15
      have H15 : Hid (Below Wb.heap.size Wb w15) := H11.out.trans (H1115.out.mono (by omega))
      have HHe15 : Hid (Held w15 (leafB bI 0 n) 1) := Held.same (Same.of_below (lo := w4.heap.size) (hi := w5.heap.size) H1115.out (by omega)) (leafB_in HbI.out) HHe.out
      clear hw15
      go_wp2_with fail
      refine (heldByteS_any aI n cI 1 w15 bI 0 haI (held_leafB HHe15.out) (by omega) (by omega)).mono ?_
      rintro e w16 ⟨rfl, hw16⟩
      rw [hw16]
      clear hw16
      go_wp2_with fail
      go_ret
      exact ⟨rfl, HBB.out.trans (H15.out.mono (by omega))⟩

set_option maxRecDepth 100000 in
theorem lifted (os : Os) (started : os.Started) (H : Type) (enc : TypeId × Value → H) :
    ReturnsInHanded {} Try.checked os 6 .any (Rows.fnExactConTextSpec.pre6 enc Try.prog Try.f6 Rows.fnExactConTextRow.domain false) (Rows.fnExactConTextSpec.post enc Try.prog Try.f6 false true false false) := by
  refine returnsInHanded_of_change (C := Try.checked) own started (by kernel_rfl) Try.func6
    (ChangeSpec.witness6 (enc := enc) (C := Try.checked) false ⟨#[], #[.agg #[.int .i64 0, .slice none 0 0, .slice none 0 0, .slice none 0 0]], []⟩ 8 (by kernel_rfl) (by kernel_rfl) (by kernel_rfl) (by kernel_rfl)) ?_
  intro W base args ds gs before hval0 hW hcnd _
  have hval : ∀ (j : Nat) t v, Try.f6.params[j]? = some t → args[j]? = some v → Value.okWide Try.prog W .any base t v := hval0
  have hW' := hW
  obtain ⟨p, q, hA0, hV, rfl, hfz, hnd⟩ := hW
  have hA : DataW.TrodAll enc Try.prog W 0 (fun _ => true) true Try.f6.params.toList args.toList ds p := hA0
  rw [Try.params6] at hA hval
  obtain ⟨v0, vs0, d0, ds0, p0, q0, hargs, rfl, rfl, h0, r0⟩ := trodAll_cons hA
  obtain ⟨rfl, rfl, rfl⟩ := trodAll_nil r0
  obtain rfl : args = #[v0] := by cases args; simp_all
  obtain ⟨rfl, rfl⟩ := trodVars_none hV
  obtain ⟨cs0, rfl, _⟩ := okWide_struct Try.underlying39 (hval 0 39 v0 rfl rfl)
  have k0 := h0
  have lt0 : ∀ x ∈ p0, x.block < W.heap.size := by obtain ⟨m, hm⟩ := k0; exact DataW.trod_lt m _ _ _ hm
  obtain ⟨dd, x0, x1, x2, x3, c, hcs, w0⟩ : ∃ dd x0 x1 x2 x3 c, cs0 = #[x0, x1, x2, x3] ∧ RdC 0 W.heap.size W dd (.agg #[x0, x1, x2, x3]) c := by
    obtain ⟨fuel, hf⟩ := h0
    obtain ⟨x0, x1, x2, x3, c, hv, hr⟩ := open_con fuel fuel cs0.toList _ (Nat.le_refl _) (by simpa [Value.cells] using hf)
    exact ⟨fuel, x0, x1, x2, x3, c, by cases cs0; simp_all, hr⟩
  subst hcs
  clear hA0 hval0
  refine (walk dd x0 x1 x2 x3 c W w0).mono fun e W' ⟨he, bel⟩ => ?_
  subst he
  exact ⟨_, rfl, _, _, _, [], _, [], hW', trodAll_mk1 (shut_bool Try.underlying4 _), (trodAll_cons_mk (Below.trod laidOut (by kernel_rfl) (of_decide_eq_true (by kernel_rfl)) k0 bel lt0) trodAll_mk0), rfl, bel.frame _, fun h => by cases h⟩

theorem over : Rows.fnExactConTextRow.holds Try.pinned (OpenSpec.ofChange Rows.fnExactConTextSpec) :=
  OpenClaim.holds_of_wide 6 Try.f6 rfl rfl rfl rfl rfl rfl rfl ⟨rfl, rfl, rfl, rfl, rfl⟩ rfl rfl rfl rfl rfl (by kernel_rfl) Try.func6 (by kernel_rfl)
    (of_decide_eq_true (by kernel_rfl)) (by unfold Func.isWrapper; first | (rw [if_pos (by decide +kernel)]; kernel_rfl) | (rw [if_neg (by decide +kernel)]; exact ⟨rfl, rfl⟩))
    (fun os started H enc _ => lifted os started H enc)

theorem proved : Rows.FnExactConTextSaid := over
#print axioms proved
end Go.Proofs.Ytbjkokndnfmcpag.fnExactConText
namespace Go.Proofs.Ytbjkokndnfmcpag
theorem fnExactConText_holds : Rows.FnExactConTextSaid := fnExactConText.proved
end Go.Proofs.Ytbjkokndnfmcpag
