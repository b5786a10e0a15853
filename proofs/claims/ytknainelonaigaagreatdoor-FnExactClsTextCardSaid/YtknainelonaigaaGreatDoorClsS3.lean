/- Which of what is told as clauses may be, as the document's model looks: a contract. -/
import Derived.Test.YtknainelonaigaaGreatDoorNS12
import Derived.Test.YtknainelonaigaaGreatDoorConSpec2
import Derived.Test.YtknainelonaigaaGreatDoorNSame
import Derived.Test.YtknainelonaigaaGreatDoorNClS
import Derived.Deep.RegionHeld3
namespace Go.Proofs.YtknainelonaigaaGreatDoor
open Go.RowKit Go.Deep

theorem RdC.form4S {lo hi d : Nat} {w : World} {v0 v1 v2 v3 : Value} {c : CN} (h : RdC lo hi w d (.agg #[v0, v1, v2, v3]) c) : ∃ k na nn nc ra rn rc ka kn kc, v0 = .int .i64 k ∧ v1 = .slice na nn nc ∧ v2 = .slice ra rn rc ∧ v3 = .slice ka kn kc := by
  cases d with
  | zero => exact h.elim
  | succ d =>
    obtain ⟨na, nn, nc, ra, rn, rc, ka, kn, kc, hv, _⟩ := h
    simp only [Value.agg.injEq, Array.mk.injEq, List.cons.injEq, and_true] at hv
    exact ⟨_, _, _, _, _, _, _, _, _, _, hv.1, hv.2.1, hv.2.2.1, hv.2.2.2⟩

theorem atomAt_wf {l : List CN} {i : Nat} (h : atomAt l i = true) : wfC (l.getD i CN.zero) = true := by
  unfold atomAt at h
  rw [Bool.and_eq_true] at h
  exact wfC_of_ok h.1
theorem atomAt_no {l : List CN} {i : Nat} (h : conOk (l.getD i CN.zero) = false) : atomAt l i = false := by unfold atomAt; rw [h]; rfl
theorem atomAt_yes {l : List CN} {i : Nat} (h : conOk (l.getD i CN.zero) = true) (hs : ∀ m, m < i → sameC (l.getD m CN.zero) (l.getD i CN.zero) = false) : atomAt l i = true := by
  unfold atomAt
  rw [h, Bool.true_and, List.all_eq_true]
  intro m hm
  rw [hs m (List.mem_range.1 hm)]
  rfl
theorem atomAt_twice {l : List CN} {i m : Nat} (hm : m < i) (hs : sameC (l.getD m CN.zero) (l.getD i CN.zero) = true) : atomAt l i = false := by
  unfold atomAt
  rw [Bool.and_eq_false_iff]
  refine .inr ?_
  rw [List.all_eq_false]
  exact ⟨m, List.mem_range.2 hm, by rw [hs]; simp⟩
theorem atomsB_no {l : List CN} {i : Nat} (hi : i < l.length) (h : atomAt l i = false) : atomsB l = false := by
  unfold atomsB
  rw [List.all_eq_false]
  exact ⟨i, List.mem_range.2 hi, by rw [h]; simp⟩
theorem atomsB_yes {l : List CN} {n : Nat} (hl : l.length = n) (h : ∀ i, i < n → atomAt l i = true) : atomsB l = true := by
  unfold atomsB
  rw [List.all_eq_true]
  intro i hi
  exact h i (by rw [← hl]; exact List.mem_range.1 hi)

set_option maxRecDepth 100000 in
set_option maxHeartbeats 8000000 in
theorem specClsOk_any {d : Nat} {aa : Option Addr} {an ac : Nat} {ra : Option Addr} {rn rc : Nat} {wa : Option Addr} {wn wc : Nat} {la : Option Addr} {ln lc : Nat} {s : CS} {w : World} {lo hi : Nat} (h : RdS lo hi w d aa an ac ra rn rc wa wn wc la ln lc s) (hhi : hi ≤ w.heap.size) (hbk : bulks s.atoms ≤ 1048576) :
    Calls Tryz.prog 16 #[.agg #[.slice aa an ac, .slice ra rn rc, .slice wa wn wc, .slice la ln lc]] w fun e w' => e = .returned (.bool (clsB s)) ∧ Below w.heap.size w w' := by
  obtain ⟨W, hW⟩ : ∃ W, W = w.alloc (.cells #[.slice aa an ac, .slice ra rn rc, .slice wa wn wc, .slice la ln lc] 33) := ⟨_, rfl⟩
  have HW : Hid (W = w.alloc (.cells #[.slice aa an ac, .slice ra rn rc, .slice wa wn wc, .slice la ln lc] 33)) := hW
  have hb0 : Below w.heap.size w W := by rw [hW]; exact (Below.refl _ _).alloc (Nat.le_refl _) _
  have HB0 : Hid (Below w.heap.size w W) := hb0
  have hsb : Blk W w.heap.size 33 (.slice aa an ac) (.slice ra rn rc) (.slice wa wn wc) (.slice la ln lc) := by rw [hW]; exact Blk.alloc_new w _ _ _ _ _ _ rfl
  have HS : Hid (∀ V, Below W.heap.size W V → Blk V w.heap.size 33 (.slice aa an ac) (.slice ra rn rc) (.slice wa wn wc) (.slice la ln lc)) := fun V hV => hsb.below hV hsb.lt
  have HR : Hid (∀ V, Below W.heap.size W V → RdS lo hi V d aa an ac ra rn rc wa wn wc la ln lc s ∧ hi ≤ V.heap.size) := fun V hV => ⟨(h.below hb0 hhi).below hV (Nat.le_trans hhi hb0.size), Nat.le_trans (Nat.le_trans hhi hb0.size) hV.size⟩
  have HF : Hid (∀ V, Below W.heap.size W V → Below w.heap.size w V) := fun V hV => hb0.trans (hV.mono hb0.size)
  have H0 : Hid (Below W.heap.size W W) := Below.refl _ _
  have HAn : Hid (s.atoms.length = an) := h.atoms.len
  have HLn : Hid (s.l.length = ln) := h.l.len
  have HRn : Hid (s.roles.length = rn) := h.roles.len
  have HHd : Hid (headB s = (decide (an ≤ 24) && (decide (rn ≤ 3) && (decide (wn ≤ 3) && (namesB false s.roles && (namesB false s.who && decide (ln ≤ 200))))))) := by unfold Hid headB; rw [h.atoms.len, h.roles.len, h.who.len, h.l.len]
  have HBk : Hid (bulks s.atoms ≤ 1048576) := hbk
  have hf1 := h.atoms.fits
  have hf2 := h.roles.fits
  have hf3 := h.who.fits
  have hf4 := h.l.fits
  obtain ⟨z0, z1, z2, z3, _⟩ := hsb.cells
  clear h hb0 hW hsb hbk
  go_enter Tryz.func16, Tryz.ntmps16
  go_upto_region 1 with fail
  rw [← HW.out]
  by_cases c1 : 24 < an
  · have HE : Hid (clsB s = false) := by unfold Hid clsB; rw [HHd.out, decide_eq_false (show ¬ an ≤ 24 by omega)]; rfl
    have c1' : decide ((24 : Int) < (an : Int)) = true := decide_eq_true (by omega)
    go_wp2_with fail
    go_ret
    exact ⟨rb HE.out.symm, HF.out _ H0.out⟩
  · have c1' : decide ((24 : Int) < (an : Int)) = false := decide_eq_false (by omega)
    have D1 : Hid (decide (an ≤ 24) = true) := decide_eq_true (by omega)
    by_cases c2 : 3 < rn
    · have HE : Hid (clsB s = false) := by unfold Hid clsB; rw [HHd.out, decide_eq_false (show ¬ rn ≤ 3 by omega)]; simp
      have c2' : decide ((3 : Int) < (rn : Int)) = true := decide_eq_true (by omega)
      go_wp2_with fail
      go_ret
      exact ⟨rb HE.out.symm, HF.out _ H0.out⟩
    · have c2' : decide ((3 : Int) < (rn : Int)) = false := decide_eq_false (by omega)
      have D2 : Hid (decide (rn ≤ 3) = true) := decide_eq_true (by omega)
      by_cases c3 : 3 < wn
      · have HE : Hid (clsB s = false) := by unfold Hid clsB; rw [HHd.out, decide_eq_false (show ¬ wn ≤ 3 by omega)]; simp
        have c3' : decide ((3 : Int) < (wn : Int)) = true := decide_eq_true (by omega)
        go_wp2_with fail
        go_ret
        exact ⟨rb HE.out.symm, HF.out _ H0.out⟩
      · have c3' : decide ((3 : Int) < (wn : Int)) = false := decide_eq_false (by omega)
        have D3 : Hid (decide (wn ≤ 3) = true) := decide_eq_true (by omega)
        go_wp2_with fail
        refine (l4names_any ra rn rc s.roles false W (HR.out _ H0.out).1.roles).mono ?_
        rintro e w1 ⟨rfl, nd1, hw1⟩
        have H1 : Hid (Below W.heap.size W w1) := by unfold Hid; rw [hw1]; exact below_nN (Below.refl _ _) _
        obtain ⟨v1, hv1⟩ : ∃ v, v = namesB false s.roles := ⟨_, rfl⟩
        rw [← hv1]
        have V1 : Hid (namesB false s.roles = v1) := hv1.symm
        clear hw1 hv1 z0 z1 z2 z3
        obtain ⟨z0, z1, z2, z3, _⟩ := (HS.out _ H1.out).cells
        cases v1 with
        | false =>
          have HE : Hid (clsB s = false) := by unfold Hid clsB; rw [HHd.out, V1.out]; simp
          go_wp2_with fail
          go_ret
          exact ⟨rb HE.out.symm, HF.out _ H1.out⟩
        | true =>
          go_wp2_with fail
          refine (l4names_any wa wn wc s.who false w1 (HR.out _ H1.out).1.who).mono ?_
          rintro e w2 ⟨rfl, nd2, hw2⟩
          have H2 : Hid (Below W.heap.size W w2) := by unfold Hid; rw [hw2]; exact below_nN H1.out _
          obtain ⟨v2, hv2⟩ : ∃ v, v = namesB false s.who := ⟨_, rfl⟩
          rw [← hv2]
          have V2 : Hid (namesB false s.who = v2) := hv2.symm
          clear hw2 hv2 z0 z1 z2 z3
          obtain ⟨z0, z1, z2, z3, _⟩ := (HS.out _ H2.out).cells
          cases v2 with
          | false =>
            have HE : Hid (clsB s = false) := by unfold Hid clsB; rw [HHd.out, V2.out]; simp
            go_wp2_with fail
            go_ret
            exact ⟨rb HE.out.symm, HF.out _ H2.out⟩
          | true =>
            by_cases c4 : 200 < ln
            · have HE : Hid (clsB s = false) := by unfold Hid clsB; rw [HHd.out, decide_eq_false (show ¬ ln ≤ 200 by omega)]; simp
              have c4' : decide ((200 : Int) < (ln : Int)) = true := decide_eq_true (by omega)
              go_wp2_with fail
              go_ret
              exact ⟨rb HE.out.symm, HF.out _ H2.out⟩
            · have c4' : decide ((200 : Int) < (ln : Int)) = false := decide_eq_false (by omega)
              have HDd : Hid (headB s = true) := by unfold Hid; rw [HHd.out, D1.out, D2.out, D3.out, V1.out, V2.out, decide_eq_true (show ln ≤ 200 by omega)]; rfl
              clear D1 D2 D3 V1 V2 HHd c1' c2' c3'
              go_wp2_with fail
              clear c4'
              go_loopw [3] (fun i wr => ∃ j : Nat, j ≤ an ∧ i = .int .i64 j ∧ (∀ m, m < j → atomAt s.atoms m = true) ∧ Below W.heap.size W wr) (fun i _ => an - (intOf i).toNat)
              case atStart => exact ⟨0, Nat.zero_le _, rfl, fun m hm => absurd hm (by omega), H2.out⟩
              case round =>
                obtain ⟨j, hj, rfl, hall, hbel⟩ := hrel
                have HAl : Hid (∀ m, m < j → atomAt s.atoms m = true) := hall
                have HB : Hid (Below W.heap.size W wr) := hbel
                clear z0 z1 z2 z3
                obtain ⟨z0, z1, z2, z3, _⟩ := (HS.out _ hbel).cells
                by_cases hlt : j < an
                · have hji : (j : Int) < (an : Int) := by omega
                  have hjl : j < s.atoms.length := by rw [HAn.out]; exact hlt
                  have hrl := (HR.out _ hbel).1.atoms
                  rcases hrl.cells with e0 | ⟨ab, ao, e1, _, _, hc⟩
                  · omega
                  · subst e1
                    obtain ⟨p0, p1, p2, p3, q0, q1, q2, q3, hrd⟩ := hc j hlt
                    obtain ⟨pk, pna, pnn, pnc, pra, prn, prc, pka, pkn, pkc, rfl, rfl, rfl, rfl⟩ := hrd.form4S
                    have HEl : Hid (RdC lo hi wr d (.agg #[.int .i64 pk, .slice pna pnn pnc, .slice pra prn prc, .slice pka pkn pkc]) (s.atoms.getD j CN.zero)) := hrd
                    obtain ⟨c, hcd⟩ : ∃ c, c = s.atoms.getD j CN.zero := ⟨_, rfl⟩
                    rw [← hcd] at HEl
                    have HC : Hid (c = s.atoms.getD j CN.zero) := hcd
                    have HCb : Hid (c.bulk ≤ 1048576) := by unfold Hid; rw [hcd]; have := getD_bulk_le s.atoms j hjl; have := HBk.out; omega
                    clear hrl hc hrd hall hbel hcd
                    go_wp2_with fail
                    refine (specConOk_any HEl.out (HR.out _ HB.out).2).mono ?_
                    rintro e w3 ⟨rfl, hb3⟩
                    obtain ⟨v3, hv3⟩ : ∃ v, v = conOk c := ⟨_, rfl⟩
                    rw [← hv3]
                    have V3 : Hid (conOk c = v3) := hv3.symm
                    have H3 : Hid (Below W.heap.size W w3) := HB.out.trans (hb3.mono HB.out.size)
                    clear hb3 hv3 q0 q1 q2 q3 z0 z1 z2 z3
                    obtain ⟨z0, z1, z2, z3, _⟩ := (HS.out _ H3.out).cells
                    cases v3 with
                    | false =>
                      have HE : Hid (clsB s = false) := by unfold Hid clsB; rw [atomsB_no hjl (atomAt_no (by rw [← HC.out]; exact V3.out))]; simp
                      go_wp2_with fail
                      go_ret
                      exact ⟨rb HE.out.symm, HF.out _ H3.out⟩
                    | true =>
                      go_wp2_with fail
                      go_loopw [4] (fun i wr => ∃ m : Nat, m ≤ j ∧ i = .int .i64 m ∧ (∀ q, q < m → sameC (s.atoms.getD q CN.zero) c = false) ∧ Below W.heap.size W wr) (fun i _ => j - (intOf i).toNat)
                      case atStart => exact ⟨0, Nat.zero_le _, rfl, fun m hm => absurd hm (by omega), H3.out⟩
                      case round =>
                        obtain ⟨m, hm, rfl, hns, hbel⟩ := hrel
                        have HNs : Hid (∀ q, q < m → sameC (s.atoms.getD q CN.zero) c = false) := hns
                        have HBi : Hid (Below W.heap.size W wr) := hbel
                        clear z0 z1 z2 z3
                        obtain ⟨z0, z1, z2, z3, _⟩ := (HS.out _ hbel).cells
                        by_cases hmj : m < j
                        · have hmi : (m : Int) < (j : Int) := by omega
                          have hma : (m : Int) < (an : Int) := by omega
                          have hrl := (HR.out _ hbel).1.atoms
                          rcases hrl.cells with e0 | ⟨ab', ao', e1, _, hab, hc⟩
                          · omega
                          · cases e1
                            obtain ⟨p0, p1, p2, p3, q0, q1, q2, q3, hrd⟩ := hc j hlt
                            obtain ⟨o0, o1, o2, o3, r0, r1, r2, r3, hrd2⟩ := hc m (by omega)
                            obtain ⟨pk', pna', pnn', pnc', pra', prn', prc', pka', pkn', pkc', rfl, rfl, rfl, rfl⟩ := hrd.form4S
                            obtain ⟨ok, ona, onn, onc, ora, orn, orc, oka, okn, okc, rfl, rfl, rfl, rfl⟩ := hrd2.form4S
                            rw [← HC.out] at hrd
                            obtain ⟨c2, hc2⟩ : ∃ c2, c2 = s.atoms.getD m CN.zero := ⟨_, rfl⟩
                            rw [← hc2] at hrd2
                            have HC2 : Hid (c2 = s.atoms.getD m CN.zero) := hc2
                            have H4d : Hid (Below W.heap.size W wr.drew) := hbel.drew
                            have HA : Hid (RdC lo hi wr.drew d (.agg #[.int .i64 pk', .slice pna' pnn' pnc', .slice pra' prn' prc', .slice pka' pkn' pkc']) c) := hrd.below (B := wr.heap.size) (Below.refl _ _).drew (HR.out _ hbel).2
                            have HA2 : Hid (RdC lo hi wr.drew d (.agg #[.int .i64 ok, .slice ona onn onc, .slice ora orn orc, .slice oka okn okc]) c2) := hrd2.below (B := wr.heap.size) (Below.refl _ _).drew (HR.out _ hbel).2
                            have HC2b : Hid (c2.bulk ≤ 1048576) := by unfold Hid; rw [hc2]; have := getD_bulk_le s.atoms m (by omega); have := HBk.out; omega
                            have HW2 : Hid (wfC c2 = true) := by unfold Hid; rw [hc2]; exact atomAt_wf (HAl.out m hmj)
                            have HW1 : Hid (wfC c = true) := wfC_of_ok V3.out
                            have hh4 : hi ≤ wr.drew.heap.size := (HR.out _ hbel).2
                            obtain ⟨v4, hv4⟩ : ∃ v, v = sameC c2 c := ⟨_, rfl⟩
                            have V4 : Hid (sameC c2 c = v4) := hv4.symm
                            have hab' : ab < W.heap.size := Nat.lt_of_lt_of_le hab (HR.out _ H0.out).2
                            have cv : ∀ V, Below W.heap.size W V → ∀ o, V.cell? ⟨ab, o, none⟩ = wr.cell? ⟨ab, o, none⟩ := fun V hV o => (hV.cell (p := ⟨ab, o, none⟩) hab').trans (hbel.cell (p := ⟨ab, o, none⟩) hab').symm
                            have HSat : Hid (∀ V, Below W.heap.size W V → (V.cell? ⟨w.heap.size, 0, none⟩ = some (.slice (some ⟨ab, ao, none⟩) an ac) ∧ V.cell? ⟨w.heap.size, 1, none⟩ = some (.slice ra rn rc) ∧ V.cell? ⟨w.heap.size, 2, none⟩ = some (.slice wa wn wc) ∧ V.cell? ⟨w.heap.size, 3, none⟩ = some (.slice la ln lc)) ∧ (V.cell? ⟨ab, ao + j * 4, none⟩ = some (.int .i64 pk') ∧ V.cell? ⟨ab, ao + j * 4 + 1, none⟩ = some (.slice pna' pnn' pnc') ∧ V.cell? ⟨ab, ao + j * 4 + 2, none⟩ = some (.slice pra' prn' prc') ∧ V.cell? ⟨ab, ao + j * 4 + 3, none⟩ = some (.slice pka' pkn' pkc')) ∧ (V.cell? ⟨ab, ao + m * 4, none⟩ = some (.int .i64 ok) ∧ V.cell? ⟨ab, ao + m * 4 + 1, none⟩ = some (.slice ona onn onc) ∧ V.cell? ⟨ab, ao + m * 4 + 2, none⟩ = some (.slice ora orn orc) ∧ V.cell? ⟨ab, ao + m * 4 + 3, none⟩ = some (.slice oka okn okc))) := fun V hV => by
                              obtain ⟨x0, x1, x2, x3, _⟩ := (HS.out _ hV).cells
                              exact ⟨⟨x0, x1, x2, x3⟩, ⟨(cv V hV _).trans q0, (cv V hV _).trans q1, (cv V hV _).trans q2, (cv V hV _).trans q3⟩, (cv V hV _).trans r0, (cv V hV _).trans r1, (cv V hV _).trans r2, (cv V hV _).trans r3⟩
                            clear hrl hc hrd hrd2 hns hbel hc2 hv4 cv hab
                            go_upto_region 11 with fail
                            go_region_held3 (fun V => (V.cell? ⟨w.heap.size, 0, none⟩ = some (.slice (some ⟨ab, ao, none⟩) an ac) ∧ V.cell? ⟨w.heap.size, 1, none⟩ = some (.slice ra rn rc) ∧ V.cell? ⟨w.heap.size, 2, none⟩ = some (.slice wa wn wc) ∧ V.cell? ⟨w.heap.size, 3, none⟩ = some (.slice la ln lc)) ∧ (V.cell? ⟨ab, ao + j * 4, none⟩ = some (.int .i64 pk') ∧ V.cell? ⟨ab, ao + j * 4 + 1, none⟩ = some (.slice pna' pnn' pnc') ∧ V.cell? ⟨ab, ao + j * 4 + 2, none⟩ = some (.slice pra' prn' prc') ∧ V.cell? ⟨ab, ao + j * 4 + 3, none⟩ = some (.slice pka' pkn' pkc')) ∧ (V.cell? ⟨ab, ao + m * 4, none⟩ = some (.int .i64 ok) ∧ V.cell? ⟨ab, ao + m * 4 + 1, none⟩ = some (.slice ona onn onc) ∧ V.cell? ⟨ab, ao + m * 4 + 2, none⟩ = some (.slice ora orn orc) ∧ V.cell? ⟨ab, ao + m * 4 + 3, none⟩ = some (.slice oka okn okc))) (first | with_reducible exact HSat.out _ H5.out | with_reducible exact HSat.out _ H4d.out) (first
                              | (go_at_call 38; refine (l2same_any HA2.out HA.out hh4 hh4 HC2b.out HCb.out HW2.out HW1.out).mono ?_; rintro e w5 ⟨rfl, hb5⟩; rw [V4.out]; have H5 : Hid (Below W.heap.size W w5) := H4d.out.trans (hb5.mono H4d.out.size); clear hb5))
                            all_goals
                              cases v4 with
                              | true =>
                                have HE : Hid (clsB s = false) := by unfold Hid clsB; rw [atomsB_no hjl (atomAt_twice hmj (by rw [← HC.out, ← HC2.out]; exact V4.out))]; simp
                                go_wp2_with fail
                                go_ret
                                exact ⟨rb HE.out.symm, HF.out _ H5.out⟩
                              | false =>
                                have HN : Hid (∀ q, q < m + 1 → sameC (s.atoms.getD q CN.zero) c = false) := fun q hq => by
                                  by_cases e : q = m
                                  · subst e; rw [← HC2.out]; exact V4.out
                                  · exact HNs.out q (by omega)
                                go_wp2_with fail
                                go_roundw
                                case rel => exact ⟨m + 1, by omega, by go_num, HN.out, H5.out⟩
                                case measure => simp [intOf]; omega
                        · have HNx : Hid (∀ m, m < j + 1 → atomAt s.atoms m = true) := fun q hq => by
                            by_cases e : q = j
                            · subst e; exact atomAt_yes (by rw [← HC.out]; exact V3.out) (fun m' hm' => by rw [← HC.out]; exact hns m' (by omega))
                            · exact HAl.out q (by omega)
                          clear hns hbel
                          have hmi : ¬ (m : Int) < (j : Int) := by omega
                          go_wp2_with fail
                          go_roundw
                          case rel => exact ⟨j + 1, by omega, by go_num, HNx.out, HBi.out⟩
                          case measure => simp [intOf]; omega
                · have HAt : Hid (atomsB s.atoms = true) := atomsB_yes HAn.out (fun i hi => hall i (by omega))
                  clear hall hbel
                  go_wp2_with fail
                  go_loopw [5] (fun i wr => ∃ j : Nat, j ≤ ln ∧ i = .int .i64 j ∧ (∀ m, m < j → fitK an rn (s.l.getD m CL.zero) = true) ∧ Below W.heap.size W wr) (fun i _ => ln - (intOf i).toNat)
                  case atStart => exact ⟨0, Nat.zero_le _, rfl, fun m hm => absurd hm (by omega), HB.out⟩
                  case round =>
                    obtain ⟨j, hj, rfl, hall, hbel⟩ := hrel
                    have HAl : Hid (∀ m, m < j → fitK an rn (s.l.getD m CL.zero) = true) := hall
                    have HB : Hid (Below W.heap.size W wr) := hbel
                    clear z0 z1 z2 z3
                    obtain ⟨z0, z1, z2, z3, _⟩ := (HS.out _ hbel).cells
                    by_cases hlt : j < ln
                    · have hji : (j : Int) < (ln : Int) := by omega
                      have hjl : j < s.l.length := by rw [HLn.out]; exact hlt
                      have hrl := (HR.out _ hbel).1.l
                      rcases hrl.cells with e0 | ⟨ab, ao, e1, _, hab, hc⟩
                      · omega
                      · subst e1
                        obtain ⟨ia, im, ic, q0, q1, q2, q3, q4, q5, q6, q7, q8, q9, q10, hrd⟩ := hc j hlt
                        obtain ⟨x, hx⟩ : ∃ x, x = s.l.getD j CL.zero := ⟨_, rfl⟩
                        rw [← hx] at q0 q1 q2 q3 q4 q5 q6 q7 q9 q10 hrd
                        have HX : Hid (x = s.l.getD j CL.zero) := hx
                        obtain ⟨xk, xf, xr, xu, xxp, xxn, xyp, xyn, xi, xa, xb⟩ := x
                        dsimp only at q0 q1 q2 q3 q4 q5 q6 q7 q9 q10 hrd
                        have hab' : ab < W.heap.size := Nat.lt_of_lt_of_le hab (HR.out _ H0.out).2
                        have cv : ∀ V, Below W.heap.size W V → ∀ o, V.cell? ⟨ab, o, none⟩ = wr.cell? ⟨ab, o, none⟩ := fun V hV o => (hV.cell (p := ⟨ab, o, none⟩) hab').trans (hbel.cell (p := ⟨ab, o, none⟩) hab').symm
                        have HSat : Hid (∀ V, Below W.heap.size W V → (V.cell? ⟨w.heap.size, 0, none⟩ = some (.slice aa an ac) ∧ V.cell? ⟨w.heap.size, 1, none⟩ = some (.slice ra rn rc) ∧ V.cell? ⟨w.heap.size, 2, none⟩ = some (.slice wa wn wc) ∧ V.cell? ⟨w.heap.size, 3, none⟩ = some (.slice (some ⟨ab, ao, none⟩) ln lc)) ∧ (V.cell? ⟨ab, ao + j * 11, none⟩ = some (.int .i64 xk) ∧ V.cell? ⟨ab, ao + j * 11 + 1, none⟩ = some (.int .i64 xf) ∧ V.cell? ⟨ab, ao + j * 11 + 2, none⟩ = some (.int .i64 xr) ∧ V.cell? ⟨ab, ao + j * 11 + 3, none⟩ = some (.int .i64 xu) ∧ V.cell? ⟨ab, ao + j * 11 + 4, none⟩ = some (.int .i64 xxp) ∧ V.cell? ⟨ab, ao + j * 11 + 5, none⟩ = some (.int .i64 xxn) ∧ V.cell? ⟨ab, ao + j * 11 + 6, none⟩ = some (.int .i64 xyp) ∧ V.cell? ⟨ab, ao + j * 11 + 7, none⟩ = some (.int .i64 xyn) ∧ V.cell? ⟨ab, ao + j * 11 + 8, none⟩ = some (.slice ia im ic) ∧ V.cell? ⟨ab, ao + j * 11 + 9, none⟩ = some (.int .i64 xa) ∧ V.cell? ⟨ab, ao + j * 11 + 10, none⟩ = some (.int .i64 xb))) := fun V hV => by
                          obtain ⟨x0, x1, x2, x3, _⟩ := (HS.out _ hV).cells
                          exact ⟨⟨x0, x1, x2, x3⟩, (cv V hV _).trans q0, (cv V hV _).trans q1, (cv V hV _).trans q2, (cv V hV _).trans q3, (cv V hV _).trans q4, (cv V hV _).trans q5, (cv V hV _).trans q6, (cv V hV _).trans q7, (cv V hV _).trans q8, (cv V hV _).trans q9, (cv V hV _).trans q10⟩
                        have hS0 : Same lo hi wr W := fun b h1 h2 => (hbel.block b (Nat.lt_of_lt_of_le h2 (HR.out _ H0.out).2)).symm
                        have HRp : Hid (∀ V, Below W.heap.size W V → RP lo hi V ia im ic xi) := fun V hV => (hrd.same hS0).below hV (HR.out _ H0.out).2
                        have H4d : Hid (Below W.heap.size W wr.drew) := hbel.drew
                        obtain ⟨v4, hv4⟩ : ∃ v, v = clauseB xk xf xr xu xxp xxn xyp xyn xi xa xb := ⟨_, rfl⟩
                        have V4 : Hid (clauseB xk xf xr xu xxp xxn xyp xyn xi xa xb = v4) := hv4.symm
                        have HFt : Hid (fitK an rn (s.l.getD j CL.zero) = (v4 && nameB an rn ⟨xk, xf, xr, xu, xxp, xxn, xyp, xyn, xi, xa, xb⟩)) := by unfold Hid; rw [← HX.out, hv4]; rfl
                        have hn24 : an ≤ 24 := by omega
                        clear hrl hc hrd hall hbel hx hv4 cv hab hS0
                        cases v4 with
                        | false =>
                          have HE : Hid (clsB s = false) := by unfold Hid clsB; rw [HAn.out, HRn.out, all_not (d := CL.zero) hjl (by rw [HFt.out]; rfl)]; simp
                          go_upto_region 16 with fail
                          go_region_with (go_at_call 39; refine (specClauseOk_any (HRp.out _ H4d.out) (HR.out _ H4d.out).2).mono ?_; rintro e w5 ⟨rfl, hb5⟩; rw [V4.out]; have H5 : Hid (Below W.heap.size W w5) := H4d.out.trans (hb5.mono H4d.out.size); clear hb5; go_wp2_with fail; (refine wpAny_take (i := 6) (v := (.bool true)) rfl (by kernel_rfl) (by kernel_rfl) (by kernel_rfl) (fun _ _ _ h => h) (Or.inl ⟨by rfl, fun w => by first | rfl | go_simp⟩) ?_; try simp only [List.getElem_toArray, List.getElem_cons_succ, List.getElem_cons_zero, Act.put, List.setIfInBounds_toArray, List.set_cons_zero, List.set_cons_succ]); (refine wpAny_take (i := 7) (v := (.bool true)) rfl (by kernel_rfl) (by kernel_rfl) (by kernel_rfl) (fun _ _ _ h => h) (Or.inl ⟨by rfl, fun w => by first | rfl | go_simp⟩) ?_; try simp only [List.getElem_toArray, List.getElem_cons_succ, List.getElem_cons_zero, Act.put, List.setIfInBounds_toArray, List.set_cons_zero, List.set_cons_succ]); (refine wpAny_take (i := 8) (v := undef) rfl (by kernel_rfl) (by kernel_rfl) (by kernel_rfl) (fun _ _ _ h => h) (Or.inr ⟨by rfl, rfl⟩) ?_; try simp only [List.getElem_toArray, List.getElem_cons_succ, List.getElem_cons_zero, Act.put, List.setIfInBounds_toArray, List.set_cons_zero, List.set_cons_succ]); (refine wpAny_take (i := 9) (v := undef) rfl (by kernel_rfl) (by kernel_rfl) (by kernel_rfl) (fun _ _ _ h => h) (Or.inr ⟨by rfl, rfl⟩) ?_; try simp only [List.getElem_toArray, List.getElem_cons_succ, List.getElem_cons_zero, Act.put, List.setIfInBounds_toArray, List.set_cons_zero, List.set_cons_succ]); (refine wpAny_take (i := 10) (v := undef) rfl (by kernel_rfl) (by kernel_rfl) (by kernel_rfl) (fun _ _ _ h => h) (Or.inr ⟨by rfl, rfl⟩) ?_; try simp only [List.getElem_toArray, List.getElem_cons_succ, List.getElem_cons_zero, Act.put, List.setIfInBounds_toArray, List.set_cons_zero, List.set_cons_succ]); (refine wpAny_take (i := 11) (v := undef) rfl (by kernel_rfl) (by kernel_rfl) (by kernel_rfl) (fun _ _ _ h => h) (Or.inr ⟨by rfl, rfl⟩) ?_; try simp only [List.getElem_toArray, List.getElem_cons_succ, List.getElem_cons_zero, Act.put, List.setIfInBounds_toArray, List.set_cons_zero, List.set_cons_succ]); (refine wpAny_take (i := 12) (v := undef) rfl (by kernel_rfl) (by kernel_rfl) (by kernel_rfl) (fun _ _ _ h => h) (Or.inr ⟨by rfl, rfl⟩) ?_; try simp only [List.getElem_toArray, List.getElem_cons_succ, List.getElem_cons_zero, Act.put, List.setIfInBounds_toArray, List.set_cons_zero, List.set_cons_succ]); (refine wpAny_take (i := 13) (v := undef) rfl (by kernel_rfl) (by kernel_rfl) (by kernel_rfl) (fun _ _ _ h => h) (Or.inr ⟨by rfl, rfl⟩) ?_; try simp only [List.getElem_toArray, List.getElem_cons_succ, List.getElem_cons_zero, Act.put, List.setIfInBounds_toArray, List.set_cons_zero, List.set_cons_succ]); (refine wpAny_all (rs := [14]) (by kernel_rfl) (by simp) ?_; intro jop hjop; (have hkop := List.mem_singleton.1 hjop); subst hkop; clear hjop; refine Yields.wpOp (v := undef) rfl (Or.inr ⟨by rfl, rfl⟩) ?_; try simp only [List.getElem_toArray, List.getElem_cons_succ, List.getElem_cons_zero, Act.put, List.setIfInBounds_toArray, List.set_cons_zero, List.set_cons_succ]); (refine wpAny_take (i := 15) (v := undef) rfl (by kernel_rfl) (by kernel_rfl) (by kernel_rfl) (fun _ _ _ h => h) (Or.inr ⟨by rfl, rfl⟩) ?_; try simp only [List.getElem_toArray, List.getElem_cons_succ, List.getElem_cons_zero, Act.put, List.setIfInBounds_toArray, List.set_cons_zero, List.set_cons_succ]))
                          all_goals
                            go_wp2_with fail
                            go_ret
                            exact ⟨rb HE.out.symm, HF.out _ H5.out⟩
                        | true =>
                          obtain ⟨v5, hv5⟩ : ∃ v, v = nameB an rn ⟨xk, xf, xr, xu, xxp, xxn, xyp, xyn, xi, xa, xb⟩ := ⟨_, rfl⟩
                          have V5 : Hid (nameB an rn ⟨xk, xf, xr, xu, xxp, xxn, xyp, xyn, xi, xa, xb⟩ = v5) := hv5.symm
                          clear hv5
                          go_upto_region 16 with fail
                          go_region_held3 (fun V => (V.cell? ⟨w.heap.size, 0, none⟩ = some (.slice aa an ac) ∧ V.cell? ⟨w.heap.size, 1, none⟩ = some (.slice ra rn rc) ∧ V.cell? ⟨w.heap.size, 2, none⟩ = some (.slice wa wn wc) ∧ V.cell? ⟨w.heap.size, 3, none⟩ = some (.slice (some ⟨ab, ao, none⟩) ln lc)) ∧ (V.cell? ⟨ab, ao + j * 11, none⟩ = some (.int .i64 xk) ∧ V.cell? ⟨ab, ao + j * 11 + 1, none⟩ = some (.int .i64 xf) ∧ V.cell? ⟨ab, ao + j * 11 + 2, none⟩ = some (.int .i64 xr) ∧ V.cell? ⟨ab, ao + j * 11 + 3, none⟩ = some (.int .i64 xu) ∧ V.cell? ⟨ab, ao + j * 11 + 4, none⟩ = some (.int .i64 xxp) ∧ V.cell? ⟨ab, ao + j * 11 + 5, none⟩ = some (.int .i64 xxn) ∧ V.cell? ⟨ab, ao + j * 11 + 6, none⟩ = some (.int .i64 xyp) ∧ V.cell? ⟨ab, ao + j * 11 + 7, none⟩ = some (.int .i64 xyn) ∧ V.cell? ⟨ab, ao + j * 11 + 8, none⟩ = some (.slice ia im ic) ∧ V.cell? ⟨ab, ao + j * 11 + 9, none⟩ = some (.int .i64 xa) ∧ V.cell? ⟨ab, ao + j * 11 + 10, none⟩ = some (.int .i64 xb))) (first | with_reducible exact HSat.out _ H6.out | with_reducible exact HSat.out _ H5.out | with_reducible exact HSat.out _ H4d.out) (first
                            | (go_at_call 39; refine (specClauseOk_any (HRp.out _ H4d.out) (HR.out _ H4d.out).2).mono ?_; rintro e w5 ⟨rfl, hb5⟩; rw [V4.out]; have H5 : Hid (Below W.heap.size W w5) := H4d.out.trans (hb5.mono H4d.out.size); clear hb5)
                            | (go_at_call 40; refine (l6names_any (HRp.out _ H5.out) (HR.out _ H5.out).2 hn24).mono ?_; rintro e w6 ⟨rfl, hb6⟩; rw [V5.out]; have H6 : Hid (Below W.heap.size W w6) := H5.out.trans (hb6.mono H5.out.size); clear hb6))
                          all_goals
                            cases v5 with
                            | false =>
                              have HE : Hid (clsB s = false) := by unfold Hid clsB; rw [HAn.out, HRn.out, all_not (d := CL.zero) hjl (by rw [HFt.out, V5.out]; rfl)]; simp
                              go_wp2_with fail
                              go_ret
                              exact ⟨rb HE.out.symm, HF.out _ H6.out⟩
                            | true =>
                              have HN : Hid (∀ m, m < j + 1 → fitK an rn (s.l.getD m CL.zero) = true) := fun m hm => by
                                by_cases e : m = j
                                · subst e; rw [HFt.out, V5.out]; rfl
                                · exact HAl.out m (by omega)
                              go_wp2_with fail
                              go_roundw
                              case rel => exact ⟨j + 1, by omega, by go_num, HN.out, H6.out⟩
                              case measure => simp [intOf]; omega
                    · have HE : Hid (clsB s = true) := by unfold Hid clsB; rw [HDd.out, HAt.out, HAn.out, HRn.out, all_take (d := CL.zero) HLn.out (fun m hm => hall m (by omega))]; rfl
                      clear hall hbel
                      go_wp2_with fail
                      go_ret
                      exact ⟨rb HE.out.symm, HF.out _ HB.out⟩

end Go.Proofs.YtknainelonaigaaGreatDoor
