/- Extension of the specification. -/
import Derived.Test.YtfbokljbmihlbaaHoldN
import Derived.Test.YtfbokljbmihlbaaOwnI
namespace Go.Proofs.Ytfbokljbmihlbaa
open Go.RowKit Go.Deep
set_option linter.unusedVariables false

theorem info3i : (Try.prog.info? 3).map (fun i => (i.zero, i.size, i.bytes)) = some (some (.int .i64 0), 1, 8) := by kernel_rfl

def extL (x : WD) (c : CN) : List Int := if worldB x && conOk c then pickI (fun j => holdC x x.n.toNat c j) x.n.toNat else []

theorem OwnI.mono {base base' : Nat} {w : World} {v : Value} {zs : List Int} (h : OwnI base w v zs) (hb : base' ≤ base) : OwnI base' w v zs := by
  obtain ⟨h1, h2⟩ := h
  refine ⟨h1, ?_⟩
  rcases h2 with h2 | ⟨g, cap, cur, hv, hg, hh, r⟩
  · exact .inl h2
  · exact .inr ⟨g, cap, cur, hv, by omega, hh, r⟩

set_option maxRecDepth 100000 in
set_option maxHeartbeats 8000000 in
theorem specExt_any {na : Option Addr} {nn nc : Nat} {sa : Option Addr} {sn sc : Nat} {ra : Option Addr} {rn rc : Nat} {la : Option Addr} {ln lc : Nat} {ia : Option Addr} {im ic : Nat} {ta : Option Addr} {tn tc : Nat} {x : WD} {d : Nat} {v : Value} {c : CN} {w : World} {lo hi lo' hi' : Nat} {nx : Int} (h : RdW lo hi w na nn nc sa sn sc ra rn rc la ln lc ia im ic ta tn tc x) (hc : RdC lo' hi' w d v c) (hn : x.n = nx) (hhi : hi ≤ w.heap.size) (hhi' : hi' ≤ w.heap.size) :
    Calls Try.prog 7 #[.agg #[.int .i64 nx, .slice na nn nc, .slice sa sn sc, .slice ra rn rc, .slice la ln lc, .slice ia im ic, .slice ta tn tc], v] w fun r w' => ∃ u, r = .returned u ∧ OwnI w.heap.size w' u (extL x c) ∧ Below w.heap.size w w' := by
  obtain ⟨k, cna, cnn, cnc, cra, crn, crc, cka, ckn, ckc, rfl⟩ := hc.shape
  obtain ⟨W0, hW0⟩ : ∃ W0, W0 = (w.alloc (.cells #[.int .i64 nx, .slice na nn nc, .slice sa sn sc, .slice ra rn rc, .slice la ln lc, .slice ia im ic, .slice ta tn tc] 34)).alloc (.cells #[.int .i64 k, .slice cna cnn cnc, .slice cra crn crc, .slice cka ckn ckc] 38) := ⟨_, rfl⟩
  have HW0 : Hid (W0 = (w.alloc (.cells #[.int .i64 nx, .slice na nn nc, .slice sa sn sc, .slice ra rn rc, .slice la ln lc, .slice ia im ic, .slice ta tn tc] 34)).alloc (.cells #[.int .i64 k, .slice cna cnn cnc, .slice cra crn crc, .slice cka ckn ckc] 38)) := hW0
  have hs0 : W0.heap.size = w.heap.size + 2 := by rw [hW0]; simp
  have hb0 : Below w.heap.size w W0 := by rw [hW0]; exact ((Below.refl _ _).alloc (Nat.le_refl _) _).alloc (by simp) _
  have hbx : BoxW 34 W0 w.heap.size nx (.slice na nn nc) (.slice sa sn sc) (.slice ra rn rc) (.slice la ln lc) (.slice ia im ic) (.slice ta tn tc) := by rw [hW0]; exact (BoxW.new _ w _ _ _ _ _ _ _).below ((Below.refl _ _).alloc (Nat.le_refl _) _) (by simp)
  have hby : BoxC W0 (w.heap.size + 1) (.int .i64 k) (.slice cna cnn cnc) (.slice cra crn crc) (.slice cka ckn ckc) := by
    rw [hW0]
    have := BoxC.new (w.alloc (.cells #[.int .i64 nx, .slice na nn nc, .slice sa sn sc, .slice ra rn rc, .slice la ln lc, .slice ia im ic, .slice ta tn tc] 34)) (.int .i64 k) (.slice cna cnn cnc) (.slice cra crn crc) (.slice cka ckn ckc)
    rwa [World.size_alloc] at this
  have HB0 : Hid (Below w.heap.size w W0) := hb0
  have HBd : Hid (∀ {V : World}, Below W0.heap.size W0 V → Below w.heap.size w V) := fun {V} hV => hb0.trans (hV.mono (by omega))
  have HRd : Hid (∀ V, Below W0.heap.size W0 V → RdW lo hi V na nn nc sa sn sc ra rn rc la ln lc ia im ic ta tn tc x ∧ hi ≤ V.heap.size ∧ RdC lo' hi' V d (.agg #[.int .i64 k, .slice cna cnn cnc, .slice cra crn crc, .slice cka ckn ckc]) c ∧ hi' ≤ V.heap.size) := fun V hV => ⟨(h.below hb0 hhi).below hV (by omega), by have := hV.size; omega, (hc.below hb0 hhi').below hV (by omega), by have := hV.size; omega⟩
  have HCl : Hid (∀ V, Below W0.heap.size W0 V → (V.cell? ⟨w.heap.size, 0, none⟩ = some (.int .i64 nx) ∧ V.cell? ⟨w.heap.size, 1, none⟩ = some (.slice na nn nc) ∧ V.cell? ⟨w.heap.size, 2, none⟩ = some (.slice sa sn sc) ∧ V.cell? ⟨w.heap.size, 3, none⟩ = some (.slice ra rn rc) ∧ V.cell? ⟨w.heap.size, 4, none⟩ = some (.slice la ln lc) ∧ V.cell? ⟨w.heap.size, 5, none⟩ = some (.slice ia im ic) ∧ V.cell? ⟨w.heap.size, 6, none⟩ = some (.slice ta tn tc)) ∧ (V.cell? ⟨w.heap.size + 1, 0, none⟩ = some (.int .i64 k) ∧ V.cell? ⟨w.heap.size + 1, 1, none⟩ = some (.slice cna cnn cnc) ∧ V.cell? ⟨w.heap.size + 1, 2, none⟩ = some (.slice cra crn crc) ∧ V.cell? ⟨w.heap.size + 1, 3, none⟩ = some (.slice cka ckn ckc))) := fun V hV => ⟨(hbx.below hV (by omega)).cells, (hby.below hV (by omega)).cells⟩
  have HN : Hid (x.n = nx) := hn
  obtain ⟨⟨z0, z1, z2, z3, z4, z5, z6⟩, y0, y1, y2, y3⟩ := HCl.out W0 (Below.refl _ _)
  clear h hc hn hb0 hbx hby hW0 hs0
  have HS0 : Hid (w.heap.size ≤ W0.heap.size) := HB0.out.size
  go_enter Try.func7, Try.ntmps7
  go_upto_region 1 with fail
  rw [← HW0.out]
  go_wp2_with fail
  refine (specWorldOk_any (HRd.out _ (Below.refl _ _)).1 HN.out (HRd.out _ (Below.refl _ _)).2.1).mono ?_
  rintro r w1 ⟨rfl, hb1⟩
  have H1 : Hid (Below W0.heap.size W0 w1) := hb1
  clear hb1
  clear z0 z1 z2 z3 z4 z5 z6 y0 y1 y2 y3
  obtain ⟨⟨z0, z1, z2, z3, z4, z5, z6⟩, y0, y1, y2, y3⟩ := HCl.out w1 H1.out
  cases hok : worldB x
  · have HG : Hid (extL x c = []) := by unfold Hid extL; rw [hok]; rfl
    go_wp2_with fail
    go_ret
    exact ⟨_, rfl, by rw [HG.out]; exact OwnI.nil _ _, HBd.out H1.out⟩
  · go_wp2_with fail
    refine (specConOk_any (HRd.out w1 H1.out).2.2.1 (HRd.out w1 H1.out).2.2.2).mono ?_
    rintro r w2 ⟨rfl, hb2⟩
    have H2 : Hid (Below W0.heap.size W0 w2) := H1.out.trans (hb2.mono H1.out.size)
    clear hb2
    clear z0 z1 z2 z3 z4 z5 z6 y0 y1 y2 y3
    obtain ⟨⟨z0, z1, z2, z3, z4, z5, z6⟩, y0, y1, y2, y3⟩ := HCl.out w2 H2.out
    cases hck : conOk c
    · have HG : Hid (extL x c = []) := by unfold Hid extL; rw [hok, hck]; rfl
      go_wp2_with fail
      go_ret
      exact ⟨_, rfl, by rw [HG.out]; exact OwnI.nil _ _, HBd.out H2.out⟩
    · have hn1 : 1 ≤ nx ∧ nx ≤ 128 := by have h1 := ((worldB_iff x).1 hok).1.1; rw [HN.out] at h1; omega
      obtain ⟨L, HLn⟩ : ∃ L : Nat, Hid (nx = (L : Int)) := ⟨nx.toNat, by unfold Hid; omega⟩
      have hnl : nx = (L : Int) := HLn.out
      subst hnl
      have hL128 : 1 ≤ L ∧ L ≤ 128 := by omega
      have HG : Hid (extL x c = pickI (fun j => holdC x L c j) L) := by unfold Hid extL; rw [hok, hck, HN.out]; simp
      have HWf : Hid (wfC c = true) := wfC_of_ok hck
      have HOk : Hid (worldB x = true) := hok
      clear HLn hok hck hn1
      obtain ⟨i0, hi0, hz0, hz1, hz2⟩ := info_parts info3i
      go_wp2_with fail
      go_loopw [5, 6] (fun v i wr => ∃ k : Nat, k ≤ L ∧ i = .int .i64 k ∧ OwnI W0.heap.size wr v (pickI (fun j => holdC x L c j) k) ∧ Below W0.heap.size W0 wr) (fun _ i _ => L - (intOf i).toNat)
      case atStart => exact ⟨0, Nat.zero_le _, rfl, OwnI.nil _ _, H2.out⟩
      case round =>
        obtain ⟨k, hk, rfl, hown, hbel⟩ := hrel
        have HO : Hid (OwnI W0.heap.size wr u5 (pickI (fun j => holdC x L c j) k)) := hown
        have HB : Hid (Below W0.heap.size W0 wr) := hbel
        clear hown hbel
        clear z0 z1 z2 z3 z4 z5 z6 y0 y1 y2 y3
        obtain ⟨⟨z0, z1, z2, z3, z4, z5, z6⟩, y0, y1, y2, y3⟩ := HCl.out wr HB.out
        by_cases hlt : k < L
        · have hki : (k : Int) < (L : Int) := by omega
          go_wp2_with fail
          refine (hoP_any HOk.out HN.out hL128.2 d _ c k wr lo' hi' (HRd.out wr HB.out).1 (HRd.out wr HB.out).2.2.1 (HRd.out wr HB.out).2.1 (HRd.out wr HB.out).2.2.2 HWf.out hlt).mono ?_
          rintro r w4 ⟨rfl, hb4⟩
          have HO4 : Hid (OwnI W0.heap.size w4 u5 (pickI (fun j => holdC x L c j) k)) := HO.out.below hb4 (Nat.le_refl _)
          have H4 : Hid (Below W0.heap.size W0 w4) := HB.out.trans (hb4.mono HB.out.size)
          clear hb4
          clear z0 z1 z2 z3 z4 z5 z6 y0 y1 y2 y3
          obtain ⟨⟨z0, z1, z2, z3, z4, z5, z6⟩, y0, y1, y2, y3⟩ := HCl.out w4 H4.out
          cases hh : holdC x L c k
          · have HP : Hid (pickI (fun j => holdC x L c j) (k + 1) = (pickI (fun j => holdC x L c j) k)) := pickI_no hh
            go_wp2_with fail
            go_roundw
            case rel => exact ⟨k + 1, by omega, by go_num, by rw [HP.out]; exact HO4.out, H4.out⟩
            case measure => simp [intOf]; omega
          · have HP : Hid (pickI (fun j => holdC x L c j) (k + 1) = (pickI (fun j => holdC x L c j) k) ++ [(k : Int)]) := pickI_yes hh
            have hlen := pickI_len (fun j => holdC x L c j) k
            have HOA : Hid (OwnI W0.heap.size (w4.alloc (.cells #[.int .i64 (k : Int)] 3)) u5 (pickI (fun j => holdC x L c j) k)) := HO4.out.below ((Below.refl _ _).alloc (Nat.le_refl _) _) (Nat.le_refl _)
            have HBA : Hid (Below W0.heap.size W0 (w4.alloc (.cells #[.int .i64 (k : Int)] 3))) := H4.out.alloc H4.out.size _
            go_wp2_with (at_builtin; refine wpList_append_own _ rfl (.tmp 25) (.tmp 27) 24 rfl W0.heap.size 3 i0 (.int .i64 0) 1 8 Try.underlying24 hi0 hz0 hz1 hz2 rfl (by decide) u5 (pickI (fun j => holdC x L c j) k).length ((pickI (fun j => holdC x L c j) k).map (Value.int .i64)) rfl HOA.out ⟨w4.heap.size, 0, none⟩ 1 1 ([(k : Int)].map (Value.int .i64)) rfl rfl (newI1 _ _ _ rfl) (oneCI _) (by unfold maxLen; omega) (by omega) HBA.out.size ?_; intro v' w5 hown' hgrow hnil; have HF : Hid (OwnI W0.heap.size w5 v' ((pickI (fun j => holdC x L c j) k) ++ [(k : Int)]) ∧ Below W0.heap.size W0 w5) := ownI_step HOA.out HBA.out hown' hgrow; clear hown' hgrow hnil z0 z1 z2 z3 z4 z5 z6 y0 y1 y2 y3)
            go_roundw
            case rel => exact ⟨k + 1, by omega, by go_num, by rw [HP.out]; exact HF.out.1, HF.out.2⟩
            case measure => simp [intOf]; omega
        · have hkn : k = L := by omega
          subst hkn
          go_wp2_with fail
          go_ret
          exact ⟨_, rfl, by rw [HG.out]; exact HO.out.mono HS0.out, HBd.out HB.out⟩

end Go.Proofs.Ytfbokljbmihlbaa
