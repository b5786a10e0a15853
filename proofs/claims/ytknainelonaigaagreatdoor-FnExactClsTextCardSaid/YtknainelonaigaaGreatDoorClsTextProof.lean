/- For every Cls the law FnExactClsText answers true and the Cls reads behind the call as it did before, the library's tables lying as the program's text lays them (a tied card): no other condition. -/
import Derived.Test.YtknainelonaigaaGreatDoorRows
import Derived.Test.YtknainelonaigaaGreatDoorCards
import Derived.Test.YtknainelonaigaaGreatDoorTie
import Derived.Test.YtknainelonaigaaGreatDoorClsTab
import Derived.Test.YtknainelonaigaaGreatDoorNOpen
import Derived.Test.YtknainelonaigaaGreatDoorNLaw
import Derived.Test.YtknainelonaigaaGreatDoorClsFree
import Derived.Test.YtknainelonaigaaGreatDoorClsMark
import Derived.Test.YtknainelonaigaaGreatDoorNMk
import Derived.Test.YtknainelonaigaaGreatDoorNClsTx
import Derived.WalkKit
import Derived.ProofKit
import Derived.OpenShut
import Derived.ShutString
import Derived.ChangeOld
import Derived.Below
import Derived.Deep.RegionHeld3
import Derived.SevenTiedAt
import Derived.LaidMore
import Derived.Stop.Joined
namespace Go.Proofs.YtknainelonaigaaGreatDoor.fnExactClsText
open Go.ChangeShapes Go.WideShapes Go.ChangeAt Go.WideMaps Go.WideElems Go.RowKit Go.Deep
set_option linter.unusedVariables false

theorem own : ownKnob Tryz.prog.godebug = none := by kernel_rfl
theorem laidOut : laidOutB Tryz.prog = true := by kernel_rfl

theorem LeafOk.same {lo hi : Nat} {w w' : World} {L : List (Addr × IntKind)} (h : LeafOk w L) (hs : Same lo hi w w') (hb : ∀ x ∈ L, lo ≤ x.1.block ∧ x.1.block < hi) : LeafOk w' L := by
  intro x hx
  obtain ⟨⟨n, hn⟩, hf⟩ := h x hx
  obtain ⟨h1, h2⟩ := hb x hx
  exact ⟨⟨n, (hs.cell h1 h2).trans hn⟩, (World.frozen?_of_block (w := w) (hs _ h1 h2)).trans hf⟩

theorem leafB_blk {g n : Nat} : ∀ x ∈ leafB g 0 n, x.1.block = g := by
  intro x hx
  simp only [leafB, List.mem_map] at hx
  obtain ⟨j, _, rfl⟩ := hx
  rfl

theorem leafB_in {g n lo hi : Nat} (h : n = 0 ∨ (lo ≤ g ∧ g < hi)) : ∀ x ∈ leafB g 0 n, lo ≤ x.1.block ∧ x.1.block < hi := by
  intro x hx
  rw [leafB_blk x hx]
  rcases h with h | h
  · subst h; simp [leafB] at hx
  · exact h

set_option maxRecDepth 100000 in
set_option maxHeartbeats 8000000 in
theorem walk {d : Nat} {aa : Option Addr} {an ac : Nat} {ra : Option Addr} {rn rc : Nat} {wa : Option Addr} {wn wc : Nat} {la : Option Addr} {ln lc : Nat} {s : CS} (w : World) (hR : RdS 0 w.heap.size w d aa an ac ra rn rc wa wn wc la ln lc s) (hT : TabD w) (hg : 2 < w.heap.size) :
    Calls Tryz.prog 3 #[.agg #[.slice aa an ac, .slice ra rn rc, .slice wa wn wc, .slice la ln lc]] w fun e w' => e = .returned (.bool true) ∧ Below w.heap.size w w' := by
  obtain ⟨Wb, hWb⟩ : ∃ Wb, Wb = w.alloc (.cells #[.slice aa an ac, .slice ra rn rc, .slice wa wn wc, .slice la ln lc] 26) := ⟨_, rfl⟩
  have HWb : Hid (Wb = w.alloc (.cells #[.slice aa an ac, .slice ra rn rc, .slice wa wn wc, .slice la ln lc] 26)) := hWb
  have hbb : Below w.heap.size w Wb := by rw [hWb]; exact (Below.refl _ _).alloc (Nat.le_refl _) _
  have HBB : Hid (Below w.heap.size w Wb) := hbb
  have hsb : w.heap.size < Wb.heap.size := by rw [hWb]; simp
  have HRb : Hid (∀ W, Below Wb.heap.size Wb W → RdS 0 w.heap.size W d aa an ac ra rn rc wa wn wc la ln lc s ∧ w.heap.size ≤ W.heap.size) := fun W hW => ⟨(hR.below hbb (Nat.le_refl _)).below hW (by omega), Nat.le_trans (by omega) hW.size⟩
  have HTb : Hid (∀ W, Below Wb.heap.size Wb W → TabD W ∧ 2 < W.heap.size) := fun W hW => ⟨(hT.below hbb hg).below hW (by omega), by have := hW.size; omega⟩
  have HRf : Hid (Below Wb.heap.size Wb Wb) := Below.refl _ _
  have hbx : Blk Wb w.heap.size 26 (.slice aa an ac) (.slice ra rn rc) (.slice wa wn wc) (.slice la ln lc) := by rw [hWb]; exact Blk.alloc_new w _ _ _ _ _ _ rfl
  have HAt : Hid (∀ W, Below Wb.heap.size Wb W → Blk W w.heap.size 26 (.slice aa an ac) (.slice ra rn rc) (.slice wa wn wc) (.slice la ln lc)) := fun W hW => hbx.below hW hbx.lt
  obtain ⟨z0, z1, z2, z3, _⟩ := hbx.cells
  clear hR hbb hWb hbx hT
  go_enter Tryz.func3, Tryz.ntmps3
  go_wp2_with fail
  rw [← HWb.out]
  refine (szS_any (HRb.out _ HRf.out).1 (HRb.out _ HRf.out).2).mono ?_
  rintro e w0 ⟨q, rfl, hq1, hq, hb⟩
  have HQ : Hid (¬ q < 0 → FitS s an rn wn ln) := hq
  have H0 : Hid (Below Wb.heap.size Wb w0) := hb
  have s0 := hb.size
  clear z0 z1 z2 z3 hb hq
  obtain ⟨z0, z1, z2, z3, _⟩ := (HAt.out _ H0.out).cells
  by_cases hneg : q < 0
  · go_wp2_with fail
    go_ret
    exact ⟨rfl, HBB.out.trans (H0.out.mono (by omega))⟩
  · have hfit : FitS s an rn wn ln := HQ.out hneg
    have HFit : Hid (FitS s an rn wn ln) := hfit
    obtain ⟨htb, htl⟩ := clsT_byt (HRb.out _ HRf.out).1.atoms hfit.1.1
    have HTB : Hid (∀ i, 0 ≤ (clsT s).getD i 0 ∧ (clsT s).getD i 0 ≤ 255) := htb
    obtain ⟨zs, hzs⟩ : ∃ zs, zs = clsT s := ⟨_, rfl⟩
    rw [← hzs] at htl
    have HZ : Hid (zs = clsT s) := hzs
    obtain ⟨nz, hnz⟩ : ∃ n, n = zs.length := ⟨_, rfl⟩
    rw [← hnz] at htl
    have HN : Hid (nz = zs.length) := hnz
    have hnn : ((1 + (nz : Int)) != (1 + (nz : Int))) = false := by simp
    clear hzs hnz htb
    have HTo : Hid (∀ W, Below Wb.heap.size Wb W → Calls Tryz.prog 6 #[.agg #[.slice aa an ac, .slice ra rn rc, .slice wa wn wc, .slice la ln lc]] W fun e w' => ∃ g0 g1 g2 g3, e = .returned (.agg #[.slice (some ⟨g0, 0, none⟩) an an, .slice (some ⟨g1, 0, none⟩) rn rn, .slice (some ⟨g2, 0, none⟩) wn wn, .slice (some ⟨g3, 0, none⟩) ln ln]) ∧ RdS W.heap.size w'.heap.size w' d (some ⟨g0, 0, none⟩) an an (some ⟨g1, 0, none⟩) rn rn (some ⟨g2, 0, none⟩) wn wn (some ⟨g3, 0, none⟩) ln ln s ∧ Below W.heap.size W w' ∧ Free W.heap.size w'.heap.size w') := fun W hW => toS_fr (HRb.out _ hW).1 (HRb.out _ hW).2 hfit
    clear hfit
    go_wp2_with fail
    refine (HTo.out w0 H0.out).mono ?_
    rintro e w1 ⟨g01, g11, g21, g31, rfl, hx1, hb1, _⟩
    have H1 : Hid (Below Wb.heap.size Wb w1) := H0.out.trans (hb1.mono s0)
    have HX1 : Hid (RdS w0.heap.size w1.heap.size w1 d (some ⟨g01, 0, none⟩) an an (some ⟨g11, 0, none⟩) rn rn (some ⟨g21, 0, none⟩) wn wn (some ⟨g31, 0, none⟩) ln ln s) := hx1
    have s1 := hb1.size
    clear hx1 hb1 z0 z1 z2 z3
    go_wp2_with fail
    refine (specClsText_any HX1.out (Nat.le_refl _) HFit.out.1.1).mono ?_
    rintro e w2 ⟨vS, rfl, hS, hb2⟩
    rw [← HZ.out] at hS
    obtain ⟨aS, cS, bS, rfl, hrS, _, _, _⟩ := hS.form (by rw [HZ.out]; exact HTB.out)
    rw [← HN.out] at hrS ⊢
    have HS2 : Hid (Rd w1.heap.size w2.heap.size w2 aS nz cS zs) := hrS
    have H2 : Hid (Below Wb.heap.size Wb w2) := H1.out.trans (hb2.mono (by omega))
    have s2 := hb2.size
    clear hb2 hS hrS
    obtain ⟨z0, z1, z2, z3, _⟩ := (HAt.out _ H2.out).cells
    go_wp2_with fail
    refine (HTo.out w2 H2.out).mono ?_
    rintro e w3 ⟨g03, g13, g23, g33, rfl, hx3, hb3, hf3⟩
    have s3 := hb3.size
    obtain ⟨w4, hw4⟩ : ∃ w4, w4 = w3.alloc (.cells #[.slice (some ⟨g03, 0, none⟩) an an, .slice (some ⟨g13, 0, none⟩) rn rn, .slice (some ⟨g23, 0, none⟩) wn wn, .slice (some ⟨g33, 0, none⟩) ln ln] 33) := ⟨_, rfl⟩
    have HW4 : Hid (w4 = w3.alloc (.cells #[.slice (some ⟨g03, 0, none⟩) an an, .slice (some ⟨g13, 0, none⟩) rn rn, .slice (some ⟨g23, 0, none⟩) wn wn, .slice (some ⟨g33, 0, none⟩) ln ln] 33)) := hw4
    have hb4 : Below w3.heap.size w3 w4 := by rw [hw4]; exact (Below.refl _ _).alloc (Nat.le_refl _) _
    have s4 : w3.heap.size < w4.heap.size := by rw [hw4]; simp
    have H24 : Hid (Below w2.heap.size w2 w4) := hb3.trans (hb4.mono (by omega))
    have H4 : Hid (Below Wb.heap.size Wb w4) := H2.out.trans (H24.out.mono (by omega))
    have HX4 : Hid (RdS w2.heap.size w3.heap.size w4 d (some ⟨g03, 0, none⟩) an an (some ⟨g13, 0, none⟩) rn rn (some ⟨g23, 0, none⟩) wn wn (some ⟨g33, 0, none⟩) ln ln s) := hx3.below hb4 (Nat.le_refl _)
    have HFr4 : Hid (Free w2.heap.size w3.heap.size w4) := hf3.same (Same.of_below hb4 (Nat.le_refl _))
    have HBX : Hid (Blk w4 w3.heap.size 33 (.slice (some ⟨g03, 0, none⟩) an an) (.slice (some ⟨g13, 0, none⟩) rn rn) (.slice (some ⟨g23, 0, none⟩) wn wn) (.slice (some ⟨g33, 0, none⟩) ln ln)) := by unfold Hid; rw [hw4]; exact Blk.alloc_new w3 _ _ _ _ _ _ rfl
    clear hx3 hb3 hb4 hw4 hf3 z0 z1 z2 z3
    go_wp2_with fail
    rw [← HW4.out]
    refine (implClsText_any HX4.out (by omega) HFit.out.1.1 HFit.out.1.2 (HTb.out _ H4.out).1 (HTb.out _ H4.out).2).mono ?_
    rintro e w5 ⟨vI, rfl, hI, hb5⟩
    rw [← HZ.out] at hI
    obtain ⟨aI, cI, bI, rfl, hrI, haI, hlI, hbI⟩ := hI.form (by rw [HZ.out]; exact HTB.out)
    rw [← HN.out] at hrI haI hlI hbI ⊢
    have s5 := hb5.size
    have HI5 : Hid (Rd w4.heap.size w5.heap.size w5 aI nz cI zs) := hrI
    have HLI : Hid (LeafOk w5 (leafB bI 0 nz)) := hlI
    have HbI : Hid (nz = 0 ∨ (w4.heap.size ≤ bI ∧ bI < w5.heap.size)) := hbI
    have H25 : Hid (Below w2.heap.size w2 w5) := H24.out.trans (hb5.mono (by omega))
    have H5 : Hid (Below Wb.heap.size Wb w5) := H4.out.trans (hb5.mono (by omega))
    have HX5 : Hid (RdS w2.heap.size w3.heap.size w5 d (some ⟨g03, 0, none⟩) an an (some ⟨g13, 0, none⟩) rn rn (some ⟨g23, 0, none⟩) wn wn (some ⟨g33, 0, none⟩) ln ln s) := HX4.out.below hb5 (by omega)
    have HFr5 : Hid (Free w2.heap.size w3.heap.size w5) := HFr4.out.same (Same.of_below hb5 (by omega))
    have HBX5 : Hid (Blk w5 w3.heap.size 33 (.slice (some ⟨g03, 0, none⟩) an an) (.slice (some ⟨g13, 0, none⟩) rn rn) (.slice (some ⟨g23, 0, none⟩) wn wn) (.slice (some ⟨g33, 0, none⟩) ln ln)) := HBX.out.below hb5 s4
    clear hb5 hI hrI hlI hbI
    go_wp2_with fail
    refine (eqByteS_any _ _ _ _ _ _ zs zs _ HI5.out (HS2.out.below H25.out (Nat.le_refl _))).mono ?_
    rintro e w6 ⟨rfl, nd6, hw6⟩
    rw [show decide (zs = zs) = true from by simp]
    have h56 : Below w5.heap.size w5 w6 := by rw [hw6]; exact below_drewN (Below.refl _ _) nd6
    have s6 := h56.size
    have H6 : Hid (Below Wb.heap.size Wb w6) := H5.out.trans (h56.mono (by omega))
    have H56d : Hid (Below w5.heap.size w5 w6.drew) := h56.drew
    have H6d : Hid (Below Wb.heap.size Wb w6.drew) := H6.out.drew
    have HSx : Hid (∀ V, Below w6.drew.heap.size w6.drew V → RdS w2.heap.size w3.heap.size V d (some ⟨g03, 0, none⟩) an an (some ⟨g13, 0, none⟩) rn rn (some ⟨g23, 0, none⟩) wn wn (some ⟨g33, 0, none⟩) ln ln s ∧ Blk V w3.heap.size 33 (.slice (some ⟨g03, 0, none⟩) an an) (.slice (some ⟨g13, 0, none⟩) rn rn) (.slice (some ⟨g23, 0, none⟩) wn wn) (.slice (some ⟨g33, 0, none⟩) ln ln) ∧ Below w5.heap.size w5 V ∧ w3.heap.size ≤ V.heap.size) := by
      intro V hV
      have h5V : Below w5.heap.size w5 V := H56d.out.trans (hV.mono H56d.out.size)
      have hsV := h5V.size
      exact ⟨HX5.out.below h5V (by omega), HBX5.out.below h5V (by omega), h5V, by omega⟩
    obtain ⟨m0, m1, m2, m3, _⟩ := (HBX5.out.below h56 (by omega)).cells
    obtain ⟨z0, z1, z2, z3, _⟩ := (HAt.out _ H6.out).cells
    clear h56 hw6
    go_upto_region 10 with fail
    go_cut [31] (fun b W => b = .bool false ∧ Below w5.heap.size w5 W)
    case first =>
      first | go_region_with (first
        | (go_at_call 6; refine (HTo.out w6.drew H6d.out).mono ?_; rintro e w7 ⟨g07, g17, g27, g37, rfl, hx7, hb7, _⟩; obtain ⟨hy7, hm7, hb7', hs7⟩ := HSx.out _ hb7; clear m0 m1 m2 m3; obtain ⟨m0, m1, m2, m3, _⟩ := hm7.cells; clear hm7; have HX7 : Hid (RdS w6.drew.heap.size w7.heap.size w7 d (some ⟨g07, 0, none⟩) an an (some ⟨g17, 0, none⟩) rn rn (some ⟨g27, 0, none⟩) wn wn (some ⟨g37, 0, none⟩) ln ln s) := hx7; have HY7 : Hid (RdS w2.heap.size w3.heap.size w7 d (some ⟨g03, 0, none⟩) an an (some ⟨g13, 0, none⟩) rn rn (some ⟨g23, 0, none⟩) wn wn (some ⟨g33, 0, none⟩) ln ln s) := hy7; have H57 : Hid (Below w5.heap.size w5 w7) := hb7'; clear hx7 hy7 hb7 hb7')
        | (go_at_call 9; refine (eqS_any HY7.out HX7.out hs7 (Nat.le_refl _)).mono ?_; rintro e w8 ⟨rfl, hb8⟩; have H58 : Hid (Below w5.heap.size w5 w8) := H57.out.trans (hb8.mono H57.out.size); clear hb8)) | fail
      all_goals
        go_wp2_with fail
        go_meet
        case rel => exact ⟨rfl, H58.out⟩
    case rest =>
      obtain ⟨hb31, h5c⟩ := hcut
      subst hb31
      have H5c : Hid (Below w5.heap.size w5 wc) := h5c
      have hsc := h5c.size
      have HXc : Hid (RdS w2.heap.size w3.heap.size wc d (some ⟨g03, 0, none⟩) an an (some ⟨g13, 0, none⟩) rn rn (some ⟨g23, 0, none⟩) wn wn (some ⟨g33, 0, none⟩) ln ln s) := HX5.out.below h5c (by omega)
      have HFrc : Hid (Free w2.heap.size w3.heap.size wc) := HFr5.out.same (Same.of_below h5c (by omega))
      have H2c : Hid (Below w2.heap.size w2 wc) := H25.out.trans (h5c.mono (by omega))
      have Hbc : Hid (Below Wb.heap.size Wb wc) := H5.out.trans (h5c.mono (by omega))
      clear m0 m1 m2 m3 z0 z1 z2 z3
      obtain ⟨m0, m1, m2, m3, _⟩ := (HBX5.out.below h5c (by omega)).cells
      clear h5c
      go_wp2_with fail
      refine (markS_any HXc.out HFrc.out (by omega) HFit.out HFit.out.1.1).mono ?_
      rintro e w9 ⟨q, rfl, hq1, hm9⟩
      have hq0 : (decide (q < 0)) = false := by simp; omega
      have s9 := hm9.size
      have HI59 : Hid (Same w4.heap.size w5.heap.size w5 w9) := fun b h1 h2 => (hm9.out b (by omega) (.inr (by omega))).trans (H5c.out.block b h2)
      have HI9 : Hid (Rd w4.heap.size w5.heap.size w9 aI nz cI zs) := HI5.out.same HI59.out
      have HLI9 : Hid (LeafOk w9 (leafB bI 0 nz)) := LeafOk.same HLI.out HI59.out (leafB_in HbI.out)
      have HS9 : Hid (Rd w1.heap.size w2.heap.size w9 aS nz cS zs) := HS2.out.same (fun b h1 h2 => (hm9.out b (by have := H2c.out.size; omega) (.inl h2)).trans (H2c.out.block b h2))
      have H9 : Hid (Below Wb.heap.size Wb w9) := ⟨hm9.os.trans Hbc.out.os, hm9.tape.trans Hbc.out.tape, hm9.output.trans Hbc.out.output, Nat.le_trans Hbc.out.size hm9.size, fun b hb => (hm9.out b (by omega) (.inl (by omega))).trans (Hbc.out.block b hb)⟩
      clear hm9 m0 m1 m2 m3
      go_wp2_with fail
      refine (eqByteS_any _ _ _ _ _ _ zs zs _ HI9.out HS9.out).mono ?_
      rintro e w10 ⟨rfl, nd10, hw10⟩
      rw [show decide (zs = zs) = true from by simp]
      have h910 : Below w9.heap.size w9 w10 := by rw [hw10]; exact below_drewN (Below.refl _ _) nd10
      have s10 := h910.size
      have H10 : Hid (Below Wb.heap.size Wb w10) := H9.out.trans (h910.mono (by omega))
      have HS10 : Hid (Rd w1.heap.size w2.heap.size w10 aS nz cS zs) := HS9.out.below h910 (by omega)
      have HLI10 : Hid (LeafOk w10 (leafB bI 0 nz)) := LeafOk.same HLI9.out (Same.of_below (lo := w4.heap.size) (hi := w5.heap.size) h910 (by omega)) (leafB_in HbI.out)
      clear hw10 h910
      go_wp2_with fail
      refine (markLong_any aI nz cI 1 w10 bI 0 haI HLI10.out (by omega) (by omega)).mono ?_
      rintro e w11 ⟨rfl, hw11⟩
      have s11 : w10.heap.size ≤ w11.heap.size := by rw [hw11, size_marks]; exact Nat.le_refl _
      have H11 : Hid (Below Wb.heap.size Wb w11) := by unfold Hid; rw [hw11]; exact below_marks H10.out (fun x hx => by have := leafB_in HbI.out x hx; omega) 1
      have HS11 : Hid (Rd w1.heap.size w2.heap.size w11 aS nz cS zs) := by
        refine HS10.out.same ?_
        rw [hw11]; exact same_marks (fun x hx => by have := leafB_in HbI.out x hx; omega) 1
      have HHe : Hid (Held w11 (leafB bI 0 nz) 1) := by unfold Hid; rw [hw11]; exact held_marks HLI10.out (leafB_nodup _ _ _) 1
      clear hw11
      go_wp2_with fail
      refine (heldLong_any aI nz cI 1 w11 bI 0 haI (held_leafB HHe.out) (by omega) (by omega)).mono ?_
      rintro e w12 ⟨rfl, hw12⟩
      rw [hw12]
      obtain ⟨z0, z1, z2, z3, _⟩ := (HAt.out _ H11.out).cells
      clear hw12
      go_wp2_with fail
      refine (HTo.out w11 H11.out).mono ?_
      rintro e w13 ⟨g0x, g1x, g2x, g3x, rfl, hx13, hb13, _⟩
      have HX13 : Hid (RdS w11.heap.size w13.heap.size w13 d (some ⟨g0x, 0, none⟩) an an (some ⟨g1x, 0, none⟩) rn rn (some ⟨g2x, 0, none⟩) wn wn (some ⟨g3x, 0, none⟩) ln ln s) := hx13
      have H1113 : Hid (Below w11.heap.size w11 w13) := hb13
      have H13 : Hid (Below Wb.heap.size Wb w13) := H11.out.trans (hb13.mono (by omega))
      have s13 := hb13.size
      clear hx13 hb13 z0 z1 z2 z3
      go_wp2_with fail
      refine (implClsText_any HX13.out (Nat.le_refl _) HFit.out.1.1 HFit.out.1.2 (HTb.out _ H13.out).1 (HTb.out _ H13.out).2).mono ?_
      rintro e w14 ⟨vH, rfl, hH, hb14⟩
      rw [← HZ.out] at hH
      obtain ⟨aH, cH, bH, rfl, hrH, _, _, _⟩ := hH.form (by rw [HZ.out]; exact HTB.out)
      rw [← HN.out] at hrH ⊢
      have HH : Hid (Rd w13.heap.size w14.heap.size w14 aH nz cH zs) := hrH
      have H1114 : Hid (Below w11.heap.size w11 w14) := H1113.out.trans (hb14.mono s13)
      have HS14 : Hid (Rd w1.heap.size w2.heap.size w14 aS nz cS zs) := HS11.out.below H1114.out (by omega)
      clear hH hrH hb14
      go_wp2_with fail
      refine (eqByteS_any _ _ _ _ _ _ zs zs _ HH.out HS14.out).mono ?_
      rintro e w15 ⟨rfl, nd15, hw15⟩
      rw [show decide (zs = zs) = true from by simp]
      have H1115 : Hid (Below w11.heap.size w11 w15) := by unfold Hid; rw [hw15]; exact below_drewN H1114.out nd15
      have H15 : Hid (Below Wb.heap.size Wb w15) := H11.out.trans (H1115.out.mono (by omega))
      have HHe15 : Hid (Held w15 (leafB bI 0 nz) 1) := Held.same (Same.of_below (lo := w4.heap.size) (hi := w5.heap.size) H1115.out (by omega)) (leafB_in HbI.out) HHe.out
      clear hw15
      go_wp2_with fail
      refine (heldLong_any aI nz cI 1 w15 bI 0 haI (held_leafB HHe15.out) (by omega) (by omega)).mono ?_
      rintro e w16 ⟨rfl, hw16⟩
      rw [hw16]
      clear hw16
      go_wp2_with fail
      go_ret
      exact ⟨rfl, HBB.out.trans (H15.out.mono (by omega))⟩

def laid3 : List (String × DataW Unit) := [("math/bits.deBruijn32tab", Rows.laid_math_bits_deBruijn32tab), ("math/bits.deBruijn64tab", Rows.laid_math_bits_deBruijn64tab), ("internal/strconv.uint64pow10", Rows.laid_internal_strconv_uint64pow10)]
theorem door_met (os : Os) (args : Array Value) : laidMetH Tryz.prog laid3 ((World.doorLaid Tryz.prog 400 os).forCall (fun _ _ => 0) ⟨#[], args, []⟩).memory :=
  laidMetH_of_parts3 (fuel := 8) (laidMet_of_run' 8 (by kernel_rfl) (by kernel_rfl)) (by kernel_rfl) (by kernel_rfl)

theorem of_laid3 {W : World} (h : laidMetH Tryz.prog laid3 W) : TabD W ∧ 2 < W.heap.size := by
  rw [MakeChecks.laidMetH_plain _ _ _ (by kernel_rfl)] at h
  obtain ⟨ps, ⟨g0, t0, cs0, f0, p0, q0, hg0, ht0, hv0, hd0, ⟨g1, t1, cs1, f1, p1, q1, hg1, ht1, hv1, hd1, _, _⟩, _⟩, _, _⟩ := h
  obtain rfl := Option.some.inj (g64.symm.trans hg1)
  obtain rfl := Option.some.inj (t64.symm.trans ht1)
  have key := tab_cells hd1
  have hT : TabD W := fun j hj => by
    have e := World.var?_cell hg1 hv1 j
    rw [e]
    have := key j hj
    simpa using this
  refine ⟨hT, ?_⟩
  have := hT 0 (by omega)
  exact block_lt_of_cell this

set_option maxRecDepth 100000 in
theorem lifted (os : Os) (started : os.Started) (H : Type) (enc : TypeId × Value → H) :
    ReturnsInHanded {} Tryz.checked os 3 .any (fun w args => (Rows.fnExactClsTextSpec.pre enc Tryz.prog Tryz.f3 [] false w args ∧ laidMetH Tryz.prog laid3 w) ∧ sizedMet enc Tryz.prog Tryz.f3 (OpenSpec.ofChange Rows.fnExactClsTextSpec) false w args)
      (Rows.fnExactClsTextSpec.post enc Tryz.prog Tryz.f3 false true false false) := by
  refine returnsInHanded_of_change_and (C := Tryz.checked) (X := fun w _ => laidMetH Tryz.prog laid3 w) (fun _ _ _ hh h => h.of_heap hh) own started (by kernel_rfl) Tryz.func3
    (ChangeSpec.witness_shaped (enc := enc) (C := Tryz.checked) (os := os) (X := fun w _ => laidMetH Tryz.prog laid3 w) false (World.doorLaid Tryz.prog 400 os) #[.agg #[.slice none 0 0, .slice none 0 0, .slice none 0 0, .slice none 0 0]] 8 rfl (World.shaped_of_RefB (by kernel_rfl) (by kernel_rfl)) (by kernel_rfl) (by kernel_rfl) (by kernel_rfl) (door_met os _)) ?_
  intro W base args ds gs before hval0 hW _ _ hL _
  have hval : ∀ (j : Nat) t v, Tryz.f3.params[j]? = some t → args[j]? = some v → Value.okWide Tryz.prog W .any base t v := hval0
  have hW' := hW
  obtain ⟨p, q, hA0, hV, rfl, hfz, hnd⟩ := hW
  have hA : DataW.TrodAll enc Tryz.prog W 0 (fun _ => true) true Tryz.f3.params.toList args.toList ds p := hA0
  rw [Tryz.params3] at hA hval
  obtain ⟨v0, vs0, d0, ds0, p0, q0, hargs, rfl, rfl, h0, r0⟩ := trodAll_cons hA
  obtain ⟨rfl, rfl, rfl⟩ := trodAll_nil r0
  obtain rfl : args = #[v0] := by cases args; simp_all
  obtain ⟨rfl, rfl⟩ := trodVars_none hV
  obtain ⟨cs0, rfl, _⟩ := okWide_struct Tryz.underlying26 (hval 0 26 v0 rfl rfl)
  have k0 := h0
  have lt0 : ∀ x ∈ p0, x.block < W.heap.size := by obtain ⟨m, hm⟩ := k0; exact DataW.trod_lt m _ _ _ hm
  obtain ⟨d, aa, an, ac, ra, rn, rc, wa, wn, wc, la, ln, lc, s, hcs, w0⟩ : ∃ d aa an ac ra rn rc wa wn wc la ln lc s, cs0 = #[.slice aa an ac, .slice ra rn rc, .slice wa wn wc, .slice la ln lc] ∧ RdS 0 W.heap.size W d aa an ac ra rn rc wa wn wc la ln lc s := by
    obtain ⟨fuel, hf⟩ := h0
    obtain ⟨d, aa, an, ac, ra, rn, rc, wa, wn, wc, la, ln, lc, s, hv, hr⟩ := open_cls (cs := cs0.toList) (by simpa [Value.cells] using hf)
    exact ⟨d, aa, an, ac, ra, rn, rc, wa, wn, wc, la, ln, lc, s, by cases cs0; simp_all, hr⟩
  subst hcs
  obtain ⟨hT, hg⟩ := of_laid3 hL
  clear hA0 hval0
  refine (walk W w0 hT hg).mono fun e W' ⟨he, bel⟩ => ?_
  subst he
  exact ⟨_, rfl, _, _, _, [], _, [], hW', trodAll_mk1 (shut_bool Tryz.underlying4 _), (trodAll_cons_mk (Below.trod laidOut (by kernel_rfl) (of_decide_eq_true (by kernel_rfl)) k0 bel lt0) trodAll_mk0), rfl, bel.frame _, fun h => by cases h⟩

theorem over : Rows.fnExactClsTextRow.holds Tryz.pinned (OpenSpec.ofChange Rows.fnExactClsTextSpec) :=
  OpenClaim.holds_of_wide 3 Tryz.f3 rfl rfl rfl rfl rfl rfl rfl ⟨rfl, rfl, rfl, rfl, rfl⟩ rfl rfl rfl rfl rfl (by kernel_rfl) Tryz.func3 (by kernel_rfl)
    (of_decide_eq_true (by kernel_rfl)) (by unfold Func.isWrapper; first | (rw [if_pos (by decide +kernel)]; kernel_rfl) | (rw [if_neg (by decide +kernel)]; exact ⟨rfl, rfl⟩))
    (fun os started H enc _ => lifted os started H enc)

theorem proved : Rows.FnExactClsTextCardSaid :=
  Claim7.holds_tied_plain_at .later [] [.data, .data, .data] true Rows.fnExactClsTextCard.stood.harness false
    over (fun _ h => by cases h) (by kernel_rfl) (fun _ h => by cases h) fnExactClsText_row_tie rfl ⟨rfl, rfl⟩ (by kernel_rfl) rfl
    (fun f fn hf hfn => by
      obtain rfl : f = 3 := Option.some.inj ((show Tryz.prog.funcNamed "loop.example/g00534/laws.FnExactClsText" = some 3 by kernel_rfl).symm.trans hf) |>.symm
      obtain rfl : fn = Tryz.f3 := (Option.some.inj (Tryz.func3.symm.trans hfn)).symm
      exact ⟨by kernel_rfl, fun j t ht => by
        rw [Tryz.params3] at ht
        have hm : t ∈ [26] := by simpa using Array.mem_of_getElem? ht
        have hall : ([26].all fun u => !Tryz.prog.wantsStandIn u) = true := by kernel_rfl
        exact (show Tryz.prog.wantsStandIn t = false by simpa using List.all_eq_true.1 hall t hm)⟩)
    (by kernel_rfl)
#print axioms proved
end Go.Proofs.YtknainelonaigaaGreatDoor.fnExactClsText
namespace Go.Proofs.YtknainelonaigaaGreatDoor
theorem fnExactClsTextCard_holds : Rows.FnExactClsTextCardSaid := fnExactClsText.proved
end Go.Proofs.YtknainelonaigaaGreatDoor
