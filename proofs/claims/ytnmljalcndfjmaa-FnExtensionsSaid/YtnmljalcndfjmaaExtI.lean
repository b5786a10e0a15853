/- Extension of the program. -/
import Derived.Test.YtnmljalcndfjmaaNG22
namespace Go.Proofs.Ytnmljalcndfjmaa
open Go.RowKit Go.Deep
set_option linter.unusedVariables false

set_option maxRecDepth 100000 in
set_option maxHeartbeats 8000000 in
theorem implExt_any {na : Option Addr} {nn nc : Nat} {sa : Option Addr} {sn sc : Nat} {ra : Option Addr} {rn rc : Nat} {la : Option Addr} {ln lc : Nat} {ia : Option Addr} {im ic : Nat} {ta : Option Addr} {tn tc : Nat} {x : WD} {d : Nat} {v : Value} {c : CN} {w : World} {lo hi lo' hi' : Nat} {nx : Int} (h : RdW lo hi w na nn nc sa sn sc ra rn rc la ln lc ia im ic ta tn tc x) (hc : RdC lo' hi' w d v c) (hn : x.n = nx) (hhi : hi ≤ w.heap.size) (hhi' : hi' ≤ w.heap.size) (hbk : c.bulk ≤ 1048576) :
    Calls Try.prog 5 #[.agg #[.int .i64 nx, .slice na nn nc, .slice sa sn sc, .slice ra rn rc, .slice la ln lc, .slice ia im ic, .slice ta tn tc], v] w fun r w' => ∃ u, r = .returned u ∧ OwnI w.heap.size w' u (extL x c) ∧ Below w.heap.size w w' := by
  obtain ⟨k, cna, cnn, cnc, cra, crn, crc, cka, ckn, ckc, rfl⟩ := hc.shape
  obtain ⟨W0, hW0⟩ : ∃ W0, W0 = (w.alloc (.cells #[.int .i64 nx, .slice na nn nc, .slice sa sn sc, .slice ra rn rc, .slice la ln lc, .slice ia im ic, .slice ta tn tc] 27)).alloc (.cells #[.int .i64 k, .slice cna cnn cnc, .slice cra crn crc, .slice cka ckn ckc] 30) := ⟨_, rfl⟩
  have HW0 : Hid (W0 = (w.alloc (.cells #[.int .i64 nx, .slice na nn nc, .slice sa sn sc, .slice ra rn rc, .slice la ln lc, .slice ia im ic, .slice ta tn tc] 27)).alloc (.cells #[.int .i64 k, .slice cna cnn cnc, .slice cra crn crc, .slice cka ckn ckc] 30)) := hW0
  have hs0 : W0.heap.size = w.heap.size + 2 := by rw [hW0]; simp
  have hb0 : Below w.heap.size w W0 := by rw [hW0]; exact ((Below.refl _ _).alloc (Nat.le_refl _) _).alloc (by simp) _
  have hbx : BoxW 27 W0 w.heap.size nx (.slice na nn nc) (.slice sa sn sc) (.slice ra rn rc) (.slice la ln lc) (.slice ia im ic) (.slice ta tn tc) := by rw [hW0]; exact (BoxW.new _ w _ _ _ _ _ _ _).below ((Below.refl _ _).alloc (Nat.le_refl _) _) (by simp)
  have hby : BoxC W0 (w.heap.size + 1) (.int .i64 k) (.slice cna cnn cnc) (.slice cra crn crc) (.slice cka ckn ckc) := by
    rw [hW0]
    have := BoxC.new (w.alloc (.cells #[.int .i64 nx, .slice na nn nc, .slice sa sn sc, .slice ra rn rc, .slice la ln lc, .slice ia im ic, .slice ta tn tc] 27)) (.int .i64 k) (.slice cna cnn cnc) (.slice cra crn crc) (.slice cka ckn ckc)
    rwa [World.size_alloc] at this
  have HB0 : Hid (Below w.heap.size w W0) := hb0
  have HBd : Hid (∀ {V : World}, Below W0.heap.size W0 V → Below w.heap.size w V) := fun {V} hV => hb0.trans (hV.mono (by omega))
  have HRd : Hid (∀ V, Below W0.heap.size W0 V → RdW lo hi V na nn nc sa sn sc ra rn rc la ln lc ia im ic ta tn tc x ∧ hi ≤ V.heap.size ∧ RdC lo' hi' V d (.agg #[.int .i64 k, .slice cna cnn cnc, .slice cra crn crc, .slice cka ckn ckc]) c ∧ hi' ≤ V.heap.size) := fun V hV => ⟨(h.below hb0 hhi).below hV (by omega), by have := hV.size; omega, (hc.below hb0 hhi').below hV (by omega), by have := hV.size; omega⟩
  have HCl : Hid (∀ V, Below W0.heap.size W0 V → (V.cell? ⟨w.heap.size, 0, none⟩ = some (.int .i64 nx) ∧ V.cell? ⟨w.heap.size, 1, none⟩ = some (.slice na nn nc) ∧ V.cell? ⟨w.heap.size, 2, none⟩ = some (.slice sa sn sc) ∧ V.cell? ⟨w.heap.size, 3, none⟩ = some (.slice ra rn rc) ∧ V.cell? ⟨w.heap.size, 4, none⟩ = some (.slice la ln lc) ∧ V.cell? ⟨w.heap.size, 5, none⟩ = some (.slice ia im ic) ∧ V.cell? ⟨w.heap.size, 6, none⟩ = some (.slice ta tn tc)) ∧ (V.cell? ⟨w.heap.size + 1, 0, none⟩ = some (.int .i64 k) ∧ V.cell? ⟨w.heap.size + 1, 1, none⟩ = some (.slice cna cnn cnc) ∧ V.cell? ⟨w.heap.size + 1, 2, none⟩ = some (.slice cra crn crc) ∧ V.cell? ⟨w.heap.size + 1, 3, none⟩ = some (.slice cka ckn ckc))) := fun V hV => ⟨(hbx.below hV (by omega)).cells, (hby.below hV (by omega)).cells⟩
  have HN : Hid (x.n = nx) := hn
  obtain ⟨⟨z0, z1, z2, z3, z4, z5, z6⟩, y0, y1, y2, y3⟩ := HCl.out W0 (Below.refl _ _)
  have HBk : Hid (c.bulk ≤ 1048576) := hbk
  clear h hc hn hb0 hbx hW0 hbk
  go_enter Try.func5, Try.ntmps5
  go_upto_region 1 with fail
  rw [← HW0.out]
  go_wp2_with fail
  refine (sceneOf_any (HRd.out _ (Below.refl _ _)).1 HN.out (HRd.out _ (Below.refl _ _)).2.1).mono ?_
  rintro e wA ⟨rfl, hA⟩
  have HwA : Hid (Below W0.heap.size W0 wA) := hA
  have hsA := hA.size
  have hl1 : w.heap.size + 1 < wA.heap.size := by omega
  clear hA hs0
  clear z0 z1 z2 z3 z4 z5 z6 y0 y1 y2 y3
  obtain ⟨⟨z0, z1, z2, z3, z4, z5, z6⟩, y0, y1, y2, y3⟩ := HCl.out wA HwA.out
  cases hok : worldB x
  · have HG : Hid (extL x c = []) := by unfold Hid extL; rw [hok]; rfl
    rw [show ∀ u v, whichV false u v = v from fun _ _ => rfl]
    obtain ⟨U, hU⟩ : ∃ U, U = wA.alloc (.cells #[.int .i64 0, .slice none 0 0, .slice none 0 0, .int .i64 0, .slice none 0 0, .slice none 0 0, .slice none 0 0, .slice none 0 0, .slice none 0 0, .slice none 0 0] 47) := ⟨_, rfl⟩
    have HU : Hid (U = wA.alloc (.cells #[.int .i64 0, .slice none 0 0, .slice none 0 0, .int .i64 0, .slice none 0 0, .slice none 0 0, .slice none 0 0, .slice none 0 0, .slice none 0 0, .slice none 0 0] 47)) := hU
    have HB1 : Hid (Below w.heap.size w U) := by unfold Hid; rw [hU]; exact HBd.out (HwA.out.alloc HwA.out.size _)
    clear hok hU
    go_upto_region 2 with fail
    rw [← HU.out]
    go_wp2_with fail
    go_ret
    exact ⟨_, rfl, by rw [HG.out]; exact OwnI.nil _ _, HB1.out⟩
  · rw [show ∀ u v, whichV true u v = u from fun _ _ => rfl]
    obtain ⟨U, hU⟩ : ∃ U, U = wA.alloc (.cells #[.int .i64 nx, .slice ia im ic, .slice ta tn tc, .int .i64 nx, .slice na nn nc, .slice sa sn sc, .slice ra rn rc, .slice la ln lc, .slice ia im ic, .slice ta tn tc] 47) := ⟨_, rfl⟩
    have HU : Hid (U = wA.alloc (.cells #[.int .i64 nx, .slice ia im ic, .slice ta tn tc, .int .i64 nx, .slice na nn nc, .slice sa sn sc, .slice ra rn rc, .slice la ln lc, .slice ia im ic, .slice ta tn tc] 47)) := hU
    have hbs : BoxS U wA.heap.size (.int .i64 nx) (.slice ia im ic) (.slice ta tn tc) (.int .i64 nx) (.slice na nn nc) (.slice sa sn sc) (.slice ra rn rc) (.slice la ln lc) (.slice ia im ic) (.slice ta tn tc) := by rw [hU]; exact BoxS.new wA _ _ _ _ _ _ _ _ _ _
    have HwU : Hid (Below W0.heap.size W0 U) := by unfold Hid; rw [hU]; exact HwA.out.alloc HwA.out.size _
    have HBU : Hid (∀ {V : World}, Below U.heap.size U V → Below w.heap.size w V) := fun {V} hV => HBd.out (HwU.out.trans (hV.mono HwU.out.size))
    have HSc : Hid (∀ V, Below U.heap.size U V → (V.cell? ⟨wA.heap.size, 0, none⟩ = some (.int .i64 nx) ∧ V.cell? ⟨wA.heap.size, 1, none⟩ = some (.slice ia im ic) ∧ V.cell? ⟨wA.heap.size, 2, none⟩ = some (.slice ta tn tc) ∧ V.cell? ⟨wA.heap.size, 3, none⟩ = some (.int .i64 nx) ∧ V.cell? ⟨wA.heap.size, 4, none⟩ = some (.slice na nn nc) ∧ V.cell? ⟨wA.heap.size, 5, none⟩ = some (.slice sa sn sc) ∧ V.cell? ⟨wA.heap.size, 6, none⟩ = some (.slice ra rn rc) ∧ V.cell? ⟨wA.heap.size, 7, none⟩ = some (.slice la ln lc) ∧ V.cell? ⟨wA.heap.size, 8, none⟩ = some (.slice ia im ic) ∧ V.cell? ⟨wA.heap.size, 9, none⟩ = some (.slice ta tn tc)) ∧ (V.cell? ⟨w.heap.size + 1, 0, none⟩ = some (.int .i64 k) ∧ V.cell? ⟨w.heap.size + 1, 1, none⟩ = some (.slice cna cnn cnc) ∧ V.cell? ⟨w.heap.size + 1, 2, none⟩ = some (.slice cra crn crc) ∧ V.cell? ⟨w.heap.size + 1, 3, none⟩ = some (.slice cka ckn ckc))) := fun V hV => ⟨(hbs.below hV hbs.lt).cells, (HCl.out V (HwU.out.trans (hV.mono HwU.out.size))).2⟩
    have HRU : Hid (∀ V, Below U.heap.size U V → RdW lo hi V na nn nc sa sn sc ra rn rc la ln lc ia im ic ta tn tc x ∧ hi ≤ V.heap.size ∧ RdC lo' hi' V d (.agg #[.int .i64 k, .slice cna cnn cnc, .slice cra crn crc, .slice cka ckn ckc]) c ∧ hi' ≤ V.heap.size) := fun V hV => HRd.out V (HwU.out.trans (hV.mono HwU.out.size))
    have HZU : Hid (Below U.heap.size U U.drew) := (Below.refl _ _).drew
    have HOk : Hid (worldB x = true) := hok
    clear z0 z1 z2 z3 z4 z5 z6 y0 y1 y2 y3
    obtain ⟨⟨m0, m1, m2, m3, m4, m5, m6, m7, m8, m9⟩, y0, y1, y2, y3⟩ := HSc.out U (Below.refl _ _)
    clear hU hbs
    go_upto_region 2 with fail
    rw [← HU.out]
    go_wp2_with fail
    refine (implConOk_any (HRU.out _ (Below.refl _ _)).2.2.1 (HRU.out _ (Below.refl _ _)).2.2.2 HBk.out).mono ?_
    rintro e wB ⟨rfl, hq⟩
    have HwB : Hid (Below U.heap.size U wB) := hq
    have HwBd : Hid (Below U.heap.size U wB.drew) := hq.drew
    clear hq
    clear m0 m1 m2 m3 m4 m5 m6 m7 m8 m9 y0 y1 y2 y3; obtain ⟨⟨m0, m1, m2, m3, m4, m5, m6, m7, m8, m9⟩, y0, y1, y2, y3⟩ := HSc.out wB HwB.out
    cases hck : conOk c
    · have HG : Hid (extL x c = []) := by unfold Hid extL; rw [hok, hck]; rfl
      clear hok
      go_wp2_with fail
      go_ret
      exact ⟨_, rfl, by rw [HG.out]; exact OwnI.nil _ _, HBU.out HwB.out⟩
    · have hn1 : 1 ≤ nx ∧ nx ≤ 128 := by have h1 := ((worldB_iff x).1 hok).1.1; rw [HN.out] at h1; omega
      obtain ⟨L, HLn⟩ : ∃ L : Nat, Hid (nx = (L : Int)) := ⟨nx.toNat, by unfold Hid; omega⟩
      have hnl : nx = (L : Int) := HLn.out
      subst hnl
      have hL128 : 1 ≤ L ∧ L ≤ 128 := by omega
      have HG : Hid (extL x c = pickI (fun j => holdC x L c j) L) := by unfold Hid extL; rw [hok, hck, HN.out]; simp
      have HWf : Hid (wfC c = true) := wfC_of_ok hck
      clear HLn hok hck hn1
      obtain ⟨i0, hi0, hq0, hq1, hq2⟩ := info_parts info3i
      go_upto_region 5 with fail
      go_cut [25, 26, 27] (fun v2 v3 v4 W => ∃ fb fo fc, v2 = .slice (some ⟨fb, fo, none⟩) L fc ∧ v3 = .int .i64 L ∧ v4 = .int .i64 0 ∧ L ≤ fc ∧ FlS W fb fo L (holdC x L c) ∧ Below U.heap.size U W)
      case first =>
        first | go_region_with (first
          | (go_at_call 17; refine (claimOf_any d _ c wB.drew lo' hi' (HRU.out wB.drew HwBd.out).2.2.1 (HRU.out wB.drew HwBd.out).2.2.2 HWf.out).mono ?_; rintro e wD ⟨vq, rfl, hq, hbD⟩; obtain ⟨qt, qz, rfl⟩ := hq.iface; have HQD : Hid (RdQ (fun b => b < wD.heap.size) lo' hi' wD d (.iface qt qz) c) := hq.keep (fun b hb => ⟨hb.2, rfl⟩) (fun _ _ _ => rfl); have HwD : Hid (Below U.heap.size U wD) := HwBd.out.trans (hbD.mono HwBd.out.size); clear hq hbD; clear m0 m1 m2 m3 m4 m5 m6 m7 m8 m9 y0 y1 y2 y3; obtain ⟨⟨m0, m1, m2, m3, m4, m5, m6, m7, m8, m9⟩, y0, y1, y2, y3⟩ := HSc.out wD HwD.out)
          | (go_at_call 16; refine (hqP_any HOk.out HN.out hL128 d _ c wD wD.heap.size lo' hi' HQD.out (Nat.le_refl _) (HRU.out wD HwD.out).2.2.2 (HRU.out wD HwD.out).1 (HRU.out wD HwD.out).2.1 HWf.out).mono ?_; rintro e wE ⟨fb, fo, fc, rfl, hfc, hfl, hbE⟩; have HwE : Hid (Below U.heap.size U wE) := HwD.out.trans (hbE.mono HwD.out.size); have HFl : Hid (FlS wE fb fo L (holdC x L c)) := hfl; have hcc := hfc.1; clear hfc hfl hbE; clear m0 m1 m2 m3 m4 m5 m6 m7 m8 m9 y0 y1 y2 y3; obtain ⟨⟨m0, m1, m2, m3, m4, m5, m6, m7, m8, m9⟩, y0, y1, y2, y3⟩ := HSc.out wE HwE.out)) | fail
        all_goals
          go_wp2_with fail
          go_meet
          case rel => exact ⟨fb, fo, fc, rfl, by go_num, by go_num, hcc.1, HFl.out, HwE.out⟩
      case rest =>
        obtain ⟨fb, fo, fc, h25, h26, h27, hcc, hfl, hwc⟩ := hcut
        subst h25
        subst h26
        subst h27
        obtain ⟨wE, hwE⟩ : ∃ V, V = wc := ⟨_, rfl⟩
        rw [← hwE] at hfl hwc ⊢
        clear hwE
        have HFl : Hid (∀ V, Below wE.heap.size wE V → FlS V fb fo L (holdC x L c)) := fun V hV => hfl.below hV
        have HwE : Hid (Below U.heap.size U wE) := hwc
        have HBE : Hid (∀ {V : World}, Below wE.heap.size wE V → Below w.heap.size w V) := fun {V} hV => HBU.out (HwE.out.trans (hV.mono HwE.out.size))
        have HSE : Hid (w.heap.size ≤ wE.heap.size) := (HBU.out hwc).size
        clear hfl hwc m0 m1 m2 m3 m4 m5 m6 m7 m8 m9 y0 y1 y2 y3
        go_wp2_with fail
        go_loopw [7, 27] (fun v i wr => ∃ k : Nat, k ≤ L ∧ i = .int .i64 k ∧ OwnI wE.heap.size wr v (pickI (fun j => holdC x L c j) k) ∧ Below wE.heap.size wE wr) (fun _ i _ => L - (intOf i).toNat)
        case atStart => exact ⟨0, Nat.zero_le _, rfl, OwnI.nil _ _, Below.refl _ _⟩
        case round =>
          obtain ⟨k, hk, rfl, hown, hbel⟩ := hrel
          have HO : Hid (OwnI wE.heap.size wr u7 (pickI (fun j => holdC x L c j) k)) := hown
          have HB : Hid (Below wE.heap.size wE wr) := hbel
          clear hown hbel
          by_cases hlt : k < L
          · have hki : (k : Int) < (L : Int) := by omega
            have f0 := (HFl.out wr HB.out).2 k hlt
            obtain ⟨hb, hhb⟩ : ∃ b, b = holdC x L c k := ⟨_, rfl⟩
            rw [← hhb] at f0
            cases hb
            · have HP : Hid (pickI (fun j => holdC x L c j) (k + 1) = (pickI (fun j => holdC x L c j) k)) := pickI_no hhb.symm
              clear hhb
              go_wp2_with fail
              go_roundw
              case rel => exact ⟨k + 1, by omega, by go_num, by rw [HP.out]; exact HO.out, HB.out⟩
              case measure => simp [intOf]; omega
            · have HP : Hid (pickI (fun j => holdC x L c j) (k + 1) = (pickI (fun j => holdC x L c j) k) ++ [(k : Int)]) := pickI_yes hhb.symm
              clear hhb
              have hlen := pickI_len (fun j => holdC x L c j) k
              have HOA : Hid (OwnI wE.heap.size (wr.alloc (.cells #[.int .i64 (k : Int)] 3)) u7 (pickI (fun j => holdC x L c j) k)) := HO.out.below ((Below.refl _ _).alloc (Nat.le_refl _) _) (Nat.le_refl _)
              have HBA : Hid (Below wE.heap.size wE (wr.alloc (.cells #[.int .i64 (k : Int)] 3))) := HB.out.alloc HB.out.size _
              go_wp2_with (at_builtin; refine wpList_append_own _ rfl (.tmp 33) (.tmp 35) 25 rfl wE.heap.size 3 i0 (.int .i64 0) 1 8 Try.underlying25 hi0 hq0 hq1 hq2 rfl (by decide) u7 (pickI (fun j => holdC x L c j) k).length ((pickI (fun j => holdC x L c j) k).map (Value.int .i64)) rfl HOA.out ⟨wr.heap.size, 0, none⟩ 1 1 ([(k : Int)].map (Value.int .i64)) rfl rfl (newI1 _ _ _ rfl) (oneCI _) (by unfold maxLen; omega) (by omega) HBA.out.size ?_; intro v' w5 hown' hgrow hnil; have HF : Hid (OwnI wE.heap.size w5 v' ((pickI (fun j => holdC x L c j) k) ++ [(k : Int)]) ∧ Below wE.heap.size wE w5) := ownI_step HOA.out HBA.out hown' hgrow; clear hown' hgrow hnil f0)
              go_roundw
              case rel => exact ⟨k + 1, by omega, by go_num, by rw [HP.out]; exact HF.out.1, HF.out.2⟩
              case measure => simp [intOf]; omega
          · have hkn : k = L := by omega
            subst hkn
            go_wp2_with fail
            go_ret
            exact ⟨_, rfl, by rw [HG.out]; exact HO.out.mono HSE.out, HBE.out HB.out⟩

end Go.Proofs.Ytnmljalcndfjmaa
