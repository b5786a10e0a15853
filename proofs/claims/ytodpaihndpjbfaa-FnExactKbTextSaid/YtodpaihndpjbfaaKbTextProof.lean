/- For all that may be told the law FnExactKbText answers true, and what was handed in reads behind the call as it did before: no condition. -/
import Derived.Test.YtodpaihndpjbfaaRows
import Derived.Test.YtodpaihndpjbfaaKbTxtM
import Derived.Test.YtodpaihndpjbfaaKbLawsA
import Derived.WalkKit
import Derived.ProofKit
import Derived.OpenShut
import Derived.ShutString
import Derived.ChangeOld
import Derived.Below
import Derived.Deep.RegionHeld
import Derived.Deep.DeepCutAuto
namespace Go.Proofs.Ytodpaihndpjbfaa.fnExactKbText
open Go.ChangeShapes Go.WideShapes Go.ChangeAt Go.RowKit Go.Deep
set_option linter.unusedVariables false

theorem own : ownKnob Try.prog.godebug = none := by kernel_rfl
theorem laidOut : laidOutB Try.prog = true := by kernel_rfl

theorem bulks {xs : List AX} (h : bulkK xs ≤ 1048576) : ∀ x ∈ xs, x.c.bulk ≤ 1048576 ∧ x.d.bulk ≤ 1048576 := by
  intro x hx
  obtain ⟨i, hi, rfl⟩ := mem_getD hx
  have := bulkK_getD xs i hi
  unfold AX.bulk at this
  omega

theorem LeafOk.same {lo hi : Nat} {w w' : World} {L : List (Addr × IntKind)} (h : LeafOk w L) (hs : Same lo hi w w') (hb : ∀ x ∈ L, lo ≤ x.1.block ∧ x.1.block < hi) : LeafOk w' L := by
  intro x hx
  obtain ⟨⟨n, hn⟩, hf⟩ := h x hx
  obtain ⟨h1, h2⟩ := hb x hx
  exact ⟨⟨n, (hs.cell h1 h2).trans hn⟩, (World.frozen?_of_block (w := w) (hs _ h1 h2)).trans hf⟩

theorem leafB_blk {g n : Nat} : ∀ x ∈ leafB g 0 n, x.1.block = g := by
  intro x hx
  simp only [leafB, List.mem_map] at hx
  obtain ⟨j, _, rfl⟩ := hx
  rfl

theorem leafB_in {g n lo hi : Nat} (h : n = 0 ∨ (lo ≤ g ∧ g < hi)) : ∀ x ∈ leafB g 0 n, lo ≤ x.1.block ∧ x.1.block < hi := by
  intro x hx
  rw [leafB_blk x hx]
  rcases h with h | h
  · subst h; simp [leafB] at hx
  · exact h

theorem textK_byte {xs : List AX} (h : ∀ x ∈ xs, ∀ b ∈ axSay x, 0 ≤ b ∧ b ≤ 255) : ∀ b ∈ textK xs, 0 ≤ b ∧ b ≤ 255 := by
  induction xs with
  | nil => intro b hb; simp [textK] at hb
  | cons x xs ih =>
    intro b hb
    simp only [textK, List.mem_append, List.mem_cons, List.not_mem_nil, or_false] at hb
    rcases hb with (hb | rfl) | hb
    · exact h x (by simp) b hb
    · omega
    · exact ih (fun y hy => h y (by simp [hy])) b hb
theorem kbText_byte {lo hi : Nat} {w : World} {dp : Nat} {a : Option Addr} {n cap : Nat} {xs : List AX} (h : RdK lo hi w dp a n cap xs) : ∀ i, 0 ≤ (kbText xs).getD i 0 ∧ (kbText xs).getD i 0 ≤ 255 := by
  have key : ∀ b ∈ kbText xs, 0 ≤ b ∧ b ≤ 255 := by
    unfold kbText
    split
    · rename_i hb
      refine textK_byte (fun x hx b hbx => ?_)
      have hok := (kbB_ok hb).2 x hx
      obtain ⟨i, hi, rfl⟩ := mem_getD hx
      rcases h.cells with hz | ⟨p, off, _, _, _, hc⟩
      · have := h.len; omega
      · obtain ⟨c0, c1, c2, c3, d0, d1, d2, d3, ra, rn, rc, sa, sn, sc, aa, an, ac, ba, bn, bc, _, _, _, _, _, _, _, _, _, _, _, _, _, hrd⟩ := hc i (by have := h.len; omega)
        have hT := axText_byte hrd
        unfold axText at hT
        rw [if_pos hok] at hT
        obtain ⟨m, hm, rfl⟩ := List.mem_iff_getElem.1 hbx
        have hq := hT m
        rw [List.getD_eq_getElem?_getD, List.getElem?_eq_getElem hm] at hq
        exact hq
    · intro b hb; simp at hb
  intro i
  by_cases hi : i < (kbText xs).length
  · exact key _ (by rw [List.getD_eq_getElem?_getD, List.getElem?_eq_getElem hi]; exact List.getElem_mem hi)
  · rw [List.getD_eq_getElem?_getD, List.getElem?_eq_none (by omega)]; simp

set_option maxRecDepth 100000 in
set_option maxHeartbeats 8000000 in
theorem walk {dp : Nat} {a : Option Addr} {n cap : Nat} {xs : List AX} (w : World) (hR : RdK 0 w.heap.size w dp a n cap xs) :
    Calls Try.prog 7 #[.agg #[.slice a n cap]] w fun e w' => e = .returned (.bool true) ∧ Below w.heap.size w w' := by
  obtain ⟨Wb, hWb⟩ : ∃ Wb, Wb = w.alloc (.cells #[.slice a n cap] 61) := ⟨_, rfl⟩
  have HWb : Hid (Wb = w.alloc (.cells #[.slice a n cap] 61)) := hWb
  have hbb : Below w.heap.size w Wb := by rw [hWb]; exact (Below.refl _ _).alloc (Nat.le_refl _) _
  have HBB : Hid (Below w.heap.size w Wb) := hbb
  have hsb : w.heap.size < Wb.heap.size := by rw [hWb]; simp
  have HRb : Hid (RdK 0 w.heap.size Wb dp a n cap xs) := hR.below hbb (Nat.le_refl _)
  have hbx : Boxed Wb w.heap.size 61 (.slice a n cap) := by rw [hWb]; exact Boxed.new _ _ _
  have HAt : Hid (∀ W, Below Wb.heap.size Wb W → Boxed W w.heap.size 61 (.slice a n cap)) := fun W hW => (hW.block _ hsb).trans hbx
  have HTB : Hid (∀ i, 0 ≤ (kbText xs).getD i 0 ∧ (kbText xs).getD i 0 ≤ 255) := kbText_byte hR
  have htl := kbText_len xs
  obtain ⟨zs, hzs⟩ : ∃ zs, zs = kbText xs := ⟨_, rfl⟩
  rw [← hzs] at htl
  have HZ : Hid (zs = kbText xs) := hzs
  obtain ⟨nz, hnz⟩ : ∃ n, n = zs.length := ⟨_, rfl⟩
  rw [← hnz] at htl
  have HN : Hid (nz = zs.length) := hnz
  have hnn : ((1 + (nz : Int)) != (1 + (nz : Int))) = false := by simp
  have z0 := hbx.cell
  clear hR hbb hWb hbx hzs hnz
  go_enter Try.func7, Try.ntmps7
  go_wp2_with fail
  rw [← HWb.out]
  refine (szKb_any HRb.out (by omega)).mono ?_
  rintro e w0 ⟨r, rfl, hbounds, hb⟩
  have HBo : Hid (¬ r < 0 → bulkK xs ≤ 1048576) := hbounds
  have H0 : Hid (Below Wb.heap.size Wb w0) := hb
  have s0 := hb.size
  clear z0 hb hbounds
  have z0 := (HAt.out _ H0.out).cell
  by_cases hneg : r < 0
  · go_wp2_with fail
    go_ret
    exact ⟨rfl, HBB.out.trans (H0.out.mono (by omega))⟩
  · have HBd : Hid (bulkK xs ≤ 1048576) := HBo.out hneg
    have HTo : Hid (∀ W, Below Wb.heap.size Wb W → Calls Try.prog 37 #[.agg #[.slice a n cap]] W fun e w' => ∃ g, e = .returned (.agg #[.slice (some ⟨g, 0, none⟩) n n]) ∧ RdK W.heap.size w'.heap.size w' dp (some ⟨g, 0, none⟩) n n xs ∧ Below W.heap.size W w' ∧ Free W.heap.size w'.heap.size w') :=
      fun W hW => toKb_any (HRb.out.below hW (by omega)) (Nat.le_trans (by omega) hW.size) HBd.out
    go_wp2_with fail
    refine (HTo.out w0 H0.out).mono ?_
    rintro e w1 ⟨g1, rfl, hx1, hb1, _⟩
    have H1 : Hid (Below Wb.heap.size Wb w1) := H0.out.trans (hb1.mono s0)
    have HX1 : Hid (RdK w0.heap.size w1.heap.size w1 dp (some ⟨g1, 0, none⟩) n n xs) := hx1
    have s1 := hb1.size
    clear hx1 hb1 z0
    go_wp2_with fail
    refine (specKbText_any HX1.out (Nat.le_refl _) (by omega)).mono ?_
    rintro e w2 ⟨vS, rfl, hS, hb2⟩
    rw [← HZ.out] at hS
    obtain ⟨aS, cS, bS, rfl, hrS, _, _, _⟩ := hS.form (by rw [HZ.out]; exact HTB.out)
    rw [← HN.out] at hrS ⊢
    have HS2 : Hid (Rd w1.heap.size w2.heap.size w2 aS nz cS zs) := hrS
    have H2 : Hid (Below Wb.heap.size Wb w2) := H1.out.trans (hb2.mono (by omega))
    have s2 := hb2.size
    clear hb2 hS hrS
    have z0 := (HAt.out _ H2.out).cell
    go_wp2_with fail
    refine (HTo.out w2 H2.out).mono ?_
    rintro e w3 ⟨g3, rfl, hx3, hb3, hf3⟩
    have s3 := hb3.size
    obtain ⟨w4, hw4⟩ : ∃ w4, w4 = w3.alloc (.cells #[.slice (some ⟨g3, 0, none⟩) n n] 66) := ⟨_, rfl⟩
    have HW4 : Hid (w4 = w3.alloc (.cells #[.slice (some ⟨g3, 0, none⟩) n n] 66)) := hw4
    have hb4 : Below w3.heap.size w3 w4 := by rw [hw4]; exact (Below.refl _ _).alloc (Nat.le_refl _) _
    have s4 : w3.heap.size < w4.heap.size := by rw [hw4]; simp
    have H24 : Hid (Below w2.heap.size w2 w4) := hb3.trans (hb4.mono (by omega))
    have H4 : Hid (Below Wb.heap.size Wb w4) := H2.out.trans (H24.out.mono (by omega))
    have HX4 : Hid (RdK w2.heap.size w3.heap.size w4 dp (some ⟨g3, 0, none⟩) n n xs) := hx3.below hb4 (Nat.le_refl _)
    have HFr4 : Hid (Free w2.heap.size w3.heap.size w4) := hf3.same (Same.of_below hb4 (Nat.le_refl _))
    have HBX : Hid (Boxed w4 w3.heap.size 66 (.slice (some ⟨g3, 0, none⟩) n n)) := by unfold Hid; rw [hw4]; exact Boxed.new _ _ _
    clear hx3 hb3 hb4 hw4 hf3 z0
    go_wp2_with fail
    rw [← HW4.out]
    refine (implKbText_any HX4.out (by omega) (bulks HBd.out)).mono ?_
    rintro e w5 ⟨vI, rfl, hI, hb5⟩
    rw [← HZ.out] at hI
    obtain ⟨aI, cI, bI, rfl, hrI, haI, hlI, hbI⟩ := hI.form (by rw [HZ.out]; exact HTB.out)
    rw [← HN.out] at hrI haI hlI hbI ⊢
    have s5 := hb5.size
    have HI5 : Hid (Rd w4.heap.size w5.heap.size w5 aI nz cI zs) := hrI
    have HLI : Hid (LeafOk w5 (leafB bI 0 nz)) := hlI
    have HbI : Hid (nz = 0 ∨ (w4.heap.size ≤ bI ∧ bI < w5.heap.size)) := hbI
    have H25 : Hid (Below w2.heap.size w2 w5) := H24.out.trans (hb5.mono (by omega))
    have H5 : Hid (Below Wb.heap.size Wb w5) := H4.out.trans (hb5.mono (by omega))
    have HX5 : Hid (RdK w2.heap.size w3.heap.size w5 dp (some ⟨g3, 0, none⟩) n n xs) := HX4.out.below hb5 (by omega)
    have HFr5 : Hid (Free w2.heap.size w3.heap.size w5) := HFr4.out.same (Same.of_below hb5 (by omega))
    have HBX5 : Hid (Boxed w5 w3.heap.size 66 (.slice (some ⟨g3, 0, none⟩) n n)) := (hb5.block _ s4).trans HBX.out
    clear hb5 hI hrI hlI hbI
    go_wp2_with fail
    refine (eqByteS_any _ _ _ _ _ _ zs zs _ HI5.out (HS2.out.below H25.out (Nat.le_refl _))).mono ?_
    rintro e w6 ⟨rfl, nd6, hw6⟩
    rw [show decide (zs = zs) = true from by simp]
    have h56 : Below w5.heap.size w5 w6 := by rw [hw6]; exact below_drewN (Below.refl _ _) nd6
    have s6 := h56.size
    have H6 : Hid (Below Wb.heap.size Wb w6) := H5.out.trans (h56.mono (by omega))
    have H56d : Hid (Below w5.heap.size w5 w6.drew) := h56.drew
    have H6d : Hid (Below Wb.heap.size Wb w6.drew) := H6.out.drew
    have HSx : Hid (∀ V, Below w6.drew.heap.size w6.drew V → RdK w2.heap.size w3.heap.size V dp (some ⟨g3, 0, none⟩) n n xs ∧ V.cell? ⟨w3.heap.size, 0, none⟩ = some (.slice (some ⟨g3, 0, none⟩) n n) ∧ Below w5.heap.size w5 V ∧ w3.heap.size ≤ V.heap.size) := by
      intro V hV
      have h5V : Below w5.heap.size w5 V := H56d.out.trans (hV.mono H56d.out.size)
      have hsV := h5V.size
      exact ⟨HX5.out.below h5V (by omega), (h5V.cell (p := ⟨w3.heap.size, 0, none⟩) (show w3.heap.size < w5.heap.size by omega)).trans HBX5.out.cell, h5V, by omega⟩
    have m0 : w6.cell? ⟨w3.heap.size, 0, none⟩ = some (.slice (some ⟨g3, 0, none⟩) n n) := (h56.cell (p := ⟨w3.heap.size, 0, none⟩) (show w3.heap.size < w5.heap.size by omega)).trans HBX5.out.cell
    have z0 := (HAt.out _ H6.out).cell
    clear h56 hw6
    go_upto_region 10 with fail
    go_cut [31] (fun b W => b = .bool false ∧ Below w5.heap.size w5 W)
    case first =>
      first | go_region_with (first
        | (go_at_call 37; refine (HTo.out w6.drew H6d.out).mono ?_; rintro e w7 ⟨g7, rfl, hx7, hb7, _⟩; obtain ⟨hy7, m7, hb7', hs7⟩ := HSx.out _ hb7; have HX7 : Hid (RdK w6.drew.heap.size w7.heap.size w7 dp (some ⟨g7, 0, none⟩) n n xs) := hx7; have HY7 : Hid (RdK w2.heap.size w3.heap.size w7 dp (some ⟨g3, 0, none⟩) n n xs) := hy7; have H57 : Hid (Below w5.heap.size w5 w7) := hb7'; clear hx7 hy7 hb7 hb7')
        | (go_at_call 39; refine (eqKb_any HY7.out HX7.out hs7 (Nat.le_refl _)).mono ?_; rintro e w8 ⟨rfl, hb8⟩; have H58 : Hid (Below w5.heap.size w5 w8) := H57.out.trans (hb8.mono H57.out.size); clear hb8)) | fail
      all_goals
        go_wp2_with fail
        go_meet
        case rel => exact ⟨rfl, H58.out⟩
    case rest =>
      obtain ⟨hb31, h5c⟩ := hcut
      subst hb31
      have H5c : Hid (Below w5.heap.size w5 wc) := h5c
      have hsc := h5c.size
      have HXc : Hid (RdK w2.heap.size w3.heap.size wc dp (some ⟨g3, 0, none⟩) n n xs) := HX5.out.below h5c (by omega)
      have HFrc : Hid (Free w2.heap.size w3.heap.size wc) := HFr5.out.same (Same.of_below h5c (by omega))
      have H2c : Hid (Below w2.heap.size w2 wc) := H25.out.trans (h5c.mono (by omega))
      have Hbc : Hid (Below Wb.heap.size Wb wc) := H5.out.trans (h5c.mono (by omega))
      clear m0 z0
      have m0 : wc.cell? ⟨w3.heap.size, 0, none⟩ = some (.slice (some ⟨g3, 0, none⟩) n n) := (h5c.cell (p := ⟨w3.heap.size, 0, none⟩) (show w3.heap.size < w5.heap.size by omega)).trans HBX5.out.cell
      clear h5c
      go_wp2_with fail
      refine (markKb_any HXc.out (by omega) HFrc.out HBd.out).mono ?_
      rintro e w9 ⟨q, rfl, hq1, hm9⟩
      have hq0 : (decide (q < 0)) = false := by simp; omega
      have s9 := hm9.size
      have HI59 : Hid (Same w4.heap.size w5.heap.size w5 w9) := fun b h1 h2 => (hm9.out b (by omega) (.inr (by omega))).trans (H5c.out.block b h2)
      have HI9 : Hid (Rd w4.heap.size w5.heap.size w9 aI nz cI zs) := HI5.out.same HI59.out
      have HLI9 : Hid (LeafOk w9 (leafB bI 0 nz)) := LeafOk.same HLI.out HI59.out (leafB_in HbI.out)
      have HS9 : Hid (Rd w1.heap.size w2.heap.size w9 aS nz cS zs) := HS2.out.same (fun b h1 h2 => (hm9.out b (by have := H2c.out.size; omega) (.inl h2)).trans (H2c.out.block b h2))
      have H9 : Hid (Below Wb.heap.size Wb w9) := ⟨hm9.os.trans Hbc.out.os, hm9.tape.trans Hbc.out.tape, hm9.output.trans Hbc.out.output, Nat.le_trans Hbc.out.size hm9.size, fun b hb => (hm9.out b (by omega) (.inl (by omega))).trans (Hbc.out.block b hb)⟩
      clear hm9 m0
      go_wp2_with fail
      refine (eqByteS_any _ _ _ _ _ _ zs zs _ HI9.out HS9.out).mono ?_
      rintro e w10 ⟨rfl, nd10, hw10⟩
      rw [show decide (zs = zs) = true from by simp]
      have h910 : Below w9.heap.size w9 w10 := by rw [hw10]; exact below_drewN (Below.refl _ _) nd10
      have s10 := h910.size
      have H10 : Hid (Below Wb.heap.size Wb w10) := H9.out.trans (h910.mono (by omega))
      have HS10 : Hid (Rd w1.heap.size w2.heap.size w10 aS nz cS zs) := HS9.out.below h910 (by omega)
      have HLI10 : Hid (LeafOk w10 (leafB bI 0 nz)) := LeafOk.same HLI9.out (Same.of_below (lo := w4.heap.size) (hi := w5.heap.size) h910 (by omega)) (leafB_in HbI.out)
      clear hw10 h910
      go_wp2_with fail
      refine (markByteS_any aI nz cI 1 w10 bI 0 haI HLI10.out (by omega) (by omega)).mono ?_
      rintro e w11 ⟨rfl, hw11⟩
      have s11 : w10.heap.size ≤ w11.heap.size := by rw [hw11, size_marks]; exact Nat.le_refl _
      have H11 : Hid (Below Wb.heap.size Wb w11) := by unfold Hid; rw [hw11]; exact below_marks H10.out (fun x hx => by have := leafB_in HbI.out x hx; omega) 1
      have HS11 : Hid (Rd w1.heap.size w2.heap.size w11 aS nz cS zs) := by
        refine HS10.out.same ?_
        rw [hw11]; exact same_marks (fun x hx => by have := leafB_in HbI.out x hx; omega) 1
      have HHe : Hid (Held w11 (leafB bI 0 nz) 1) := by unfold Hid; rw [hw11]; exact held_marks HLI10.out (leafB_nodup _ _ _) 1
      clear hw11
      go_wp2_with fail
      refine (heldByteS_any aI nz cI 1 w11 bI 0 haI (held_leafB HHe.out) (by omega) (by omega)).mono ?_
      rintro e w12 ⟨rfl, hw12⟩
      rw [hw12]
      have z0 := (HAt.out _ H11.out).cell
      clear hw12
      go_wp2_with fail
      refine (HTo.out w11 H11.out).mono ?_
      rintro e w13 ⟨g13, rfl, hx13, hb13, _⟩
      have HX13 : Hid (RdK w11.heap.size w13.heap.size w13 dp (some ⟨g13, 0, none⟩) n n xs) := hx13
      have H1113 : Hid (Below w11.heap.size w11 w13) := hb13
      have s13 := hb13.size
      clear hx13 hb13 z0
      go_wp2_with fail
      refine (implKbText_any HX13.out (Nat.le_refl _) (bulks HBd.out)).mono ?_
      rintro e w14 ⟨vH, rfl, hH, hb14⟩
      rw [← HZ.out] at hH
      obtain ⟨aH, cH, bH, rfl, hrH, _, _, _⟩ := hH.form (by rw [HZ.out]; exact HTB.out)
      rw [← HN.out] at hrH ⊢
      have HH : Hid (Rd w13.heap.size w14.heap.size w14 aH nz cH zs) := hrH
      have H1114 : Hid (Below w11.heap.size w11 w14) := H1113.out.trans (hb14.mono s13)
      have HS14 : Hid (Rd w1.heap.size w2.heap.size w14 aS nz cS zs) := HS11.out.below H1114.out (by omega)
      clear hH hrH hb14
      go_wp2_with fail
      refine (eqByteS_any _ _ _ _ _ _ zs zs _ HH.out HS14.out).mono ?_
      rintro e w15 ⟨rfl, nd15, hw15⟩
      rw [show decide (zs = zs) = true from by simp]
      have H1115 : Hid (Below w11.heap.size w11 w15) := by unfold Hid; rw [hw15]; exact below_drewN H1114.out nd15
      have H15 : Hid (Below Wb.heap.size Wb w15) := H11.out.trans (H1115.out.mono (by omega))
      have HHe15 : Hid (Held w15 (leafB bI 0 nz) 1) := Held.same (Same.of_below (lo := w4.heap.size) (hi := w5.heap.size) H1115.out (by omega)) (leafB_in HbI.out) HHe.out
      clear hw15
      go_wp2_with fail
      refine (heldByteS_any aI nz cI 1 w15 bI 0 haI (held_leafB HHe15.out) (by omega) (by omega)).mono ?_
      rintro e w16 ⟨rfl, hw16⟩
      rw [hw16]
      clear hw16
      go_wp2_with fail
      go_ret
      exact ⟨rfl, HBB.out.trans (H15.out.mono (by omega))⟩

set_option maxRecDepth 100000 in
theorem lifted (os : Os) (started : os.Started) (H : Type) (enc : TypeId × Value → H) :
    ReturnsInHanded {} Try.checked os 7 .any (Rows.fnExactKbTextSpec.pre6 enc Try.prog Try.f7 Rows.fnExactKbTextRow.domain false) (Rows.fnExactKbTextSpec.post enc Try.prog Try.f7 false true false false) := by
  refine returnsInHanded_of_change (C := Try.checked) own started (by kernel_rfl) Try.func7
    (ChangeSpec.witness6 (enc := enc) (C := Try.checked) false ⟨#[], #[.agg #[.slice none 0 0]], []⟩ 8 (by kernel_rfl) (by kernel_rfl) (by kernel_rfl) (by kernel_rfl)) ?_
  intro W base args ds gs before hval0 hW hcnd _
  have hval : ∀ (j : Nat) t v, Try.f7.params[j]? = some t → args[j]? = some v → Value.okWide Try.prog W .any base t v := hval0
  have hW' := hW
  obtain ⟨p, q, hA0, hV, rfl, hfz, hnd⟩ := hW
  have hA : DataW.TrodAll enc Try.prog W 0 (fun _ => true) true Try.f7.params.toList args.toList ds p := hA0
  rw [Try.params7] at hA hval
  obtain ⟨v0, vs0, d0, ds0, p0, q0, hargs, rfl, rfl, h0, r0⟩ := trodAll_cons hA
  obtain ⟨rfl, rfl, rfl⟩ := trodAll_nil r0
  obtain rfl : args = #[v0] := by cases args; simp_all
  obtain ⟨rfl, rfl⟩ := trodVars_none hV
  obtain ⟨cs0, rfl, _⟩ := okWide_struct Try.underlying61 (hval 0 61 v0 rfl rfl)
  have k0 := h0
  have lt0 : ∀ x ∈ p0, x.block < W.heap.size := by obtain ⟨m, hm⟩ := k0; exact DataW.trod_lt m _ _ _ hm
  obtain ⟨dp, a, n, cap, xs, hcs, w0⟩ : ∃ dp a n cap xs, cs0 = #[.slice a n cap] ∧ RdK 0 W.heap.size W dp a n cap xs := by
    obtain ⟨fuel, hf⟩ := h0
    obtain ⟨dp, a, n, cap, xs, hv, hr⟩ := open_kb (cs := cs0.toList) (by simpa [Value.cells] using hf)
    exact ⟨dp, a, n, cap, xs, by cases cs0; simp_all, hr⟩
  subst hcs
  clear hA0 hval0
  refine (walk W w0).mono fun e W' ⟨he, bel⟩ => ?_
  subst he
  exact ⟨_, rfl, _, _, _, [], _, [], hW', trodAll_mk1 (shut_bool Try.underlying4 _), (trodAll_cons_mk (Below.trod laidOut (by kernel_rfl) (of_decide_eq_true (by kernel_rfl)) k0 bel lt0) trodAll_mk0), rfl, bel.frame _, fun h => by cases h⟩

theorem over : Rows.fnExactKbTextRow.holds Try.pinned (OpenSpec.ofChange Rows.fnExactKbTextSpec) :=
  OpenClaim.holds_of_wide 7 Try.f7 rfl rfl rfl rfl rfl rfl rfl ⟨rfl, rfl, rfl, rfl, rfl⟩ rfl rfl rfl rfl rfl (by kernel_rfl) Try.func7 (by kernel_rfl)
    (of_decide_eq_true (by kernel_rfl)) (by unfold Func.isWrapper; first | (rw [if_pos (by decide +kernel)]; kernel_rfl) | (rw [if_neg (by decide +kernel)]; exact ⟨rfl, rfl⟩))
    (fun os started H enc _ => lifted os started H enc)

theorem proved : Rows.FnExactKbTextSaid := over
#print axioms proved
end Go.Proofs.Ytodpaihndpjbfaa.fnExactKbText
namespace Go.Proofs.Ytodpaihndpjbfaa
theorem fnExactKbText_holds : Rows.FnExactKbTextSaid := fnExactKbText.proved
end Go.Proofs.Ytodpaihndpjbfaa
