/- The law of parts: what it asks holds at every list of bytes. -/
import Derived.Test.YtedihcjhfkdkjaaLawSub3
import Derived.Test.YtedihcjhfkdkjaaNG13
import Derived.Deep.RegionHeld3
namespace Go.Proofs.Ytedihcjhfkdkjaa
open Go.RowKit

/-- What is asked of the two functions whose contracts lie elsewhere. -/
def SubsAsk : Prop := ∀ (d : Nat) (v : Value) (c : CN) (w : World) (lo hi : Nat), RdC lo hi w d v c → hi ≤ w.heap.size → c.bulk ≤ 1048576 →
    Calls Try.prog 5 #[v] w fun e w' => ∃ u Ls xs, e = .returned u ∧ AnsL w.heap.size w' 209 u (subsN c) Ls xs ∧ Below w.heap.size w w'
def NamesAsk : Prop := ∀ (d : Nat) (v : Value) (c : CN) (w : World) (lo hi : Nat), RdC lo hi w d v c → hi ≤ w.heap.size → c.bulk ≤ 1048576 →
    Calls Try.prog 11 #[v] w fun e w' => ∃ u gs, e = .returned u ∧ OwnW w.heap.size w' u (ansCN c) gs ∧ Below w.heap.size w w'

theorem rdl_at {hi d : Nat} {w : World} {b off n cap : Nat} {cs : List CN} (h : RdL (RdC 0 hi w d) 0 hi w (some ⟨b, off, none⟩) n cap cs) {i : Nat} (hin : i < n) :
    ∃ k na nn nc ra rn rc ka kn kc, w.cell? ⟨b, off + i * 4, none⟩ = some (.int .i64 k) ∧ w.cell? ⟨b, off + i * 4 + 1, none⟩ = some (.slice na nn nc) ∧ w.cell? ⟨b, off + i * 4 + 2, none⟩ = some (.slice ra rn rc) ∧ w.cell? ⟨b, off + i * 4 + 3, none⟩ = some (.slice ka kn kc) ∧ RdC 0 hi w d (.agg #[.int .i64 k, .slice na nn nc, .slice ra rn rc, .slice ka kn kc]) (cs.getD i CN.zero) ∧ k = (cs.getD i CN.zero).kind := by
  rcases h.cells with h0 | ⟨b', off', e, _, _, hc⟩
  · omega
  · simp only [Option.some.injEq, Addr.mk.injEq, and_true] at e
    obtain ⟨rfl, rfl⟩ := e
    obtain ⟨v0, v1, v2, v3, c0, c1, c2, c3, hr⟩ := hc i hin
    obtain ⟨rfl, ⟨na, nn, nc, rfl⟩, ⟨ra, rn, rc, rfl⟩, ⟨ka, kn, kc, rfl⟩⟩ := hr.formS
    exact ⟨_, na, nn, nc, ra, rn, rc, ka, kn, kc, c0, c1, c2, c3, hr, rfl⟩

theorem nameRd {lo hi d : Nat} {w : World} {v0 v2 v3 : Value} {a : Option Addr} {n cap : Nat} {c : CN} (h : RdC lo hi w d (.agg #[v0, .slice a n cap, v2, v3]) c) : Rd lo hi w a n cap c.name := by
  cases d with
  | zero => exact h.elim
  | succ d =>
    obtain ⟨na, nn, nc, ra, rn, rc, ka, kn, kc, hv, q1, _⟩ := h
    simp only [Value.agg.injEq, Array.mk.injEq, List.cons.injEq, and_true, Value.slice.injEq] at hv
    obtain ⟨_, ⟨rfl, rfl, rfl⟩, _⟩ := hv
    exact q1

mutual
theorem cnt_parts : ∀ (c : CN) (d : Nat), c.cnt = (parts c d).length
  | .mk k n r ks, d => by rw [CN.cnt, parts, List.length_cons, cnts_parts ks (d + 1)]; omega
theorem cnts_parts : ∀ (cs : List CN) (d : Nat), cnts cs = (partsL cs d).length
  | [], _ => rfl
  | c :: cs, d => by rw [cnts, partsL, List.length_append, cnt_parts c d, cnts_parts cs d]
end

theorem notA_nums : numsOf { data := #[78, 111, 116, 40, 65, 41] } = [78, 111, 116, 40, 65, 41] := by kernel_rfl

set_option maxRecDepth 100000 in
set_option maxHeartbeats 8000000 in
theorem subsWalk (hSubs : SubsAsk) (hNames : NamesAsk) {a0 : Option Addr} {len0 cap0 : Nat} {zs : List Int} {w : World} (h : Rd 0 w.heap.size w a0 len0 cap0 zs) :
    Calls Try.prog 3 #[.slice a0 len0 cap0] w fun e w' => e = .returned (.bool true) ∧ Below w.heap.size w w' := by
  have HR : Hid (Rd 0 w.heap.size w a0 len0 cap0 zs) := h
  clear h
  go_enter Try.func3, Try.ntmps3
  go_wp2_with fail
  refine (drawSubs_any HR.out).mono ?_
  rintro e w1 ⟨v1, c, rfl, hr1, hk1, hb1⟩
  obtain ⟨k, na, nn, nc, ra, rn, rc, ka, kn, kc, rfl⟩ := hr1.shape
  obtain ⟨Wa, HWa⟩ : ∃ W, Hid (W = w1.alloc (.cells #[.int .i64 k, .slice na nn nc, .slice ra rn rc, .slice ka kn kc] 25)) := ⟨_, rfl⟩
  have hba : Below w1.heap.size w1 Wa := by rw [HWa.out]; exact (Below.refl _ _).alloc (Nat.le_refl _) _
  have HX1 : Hid (BoxC Wa w1.heap.size (.int .i64 k) (.slice na nn nc) (.slice ra rn rc) (.slice ka kn kc)) := by unfold Hid; rw [HWa.out]; exact BoxC.new w1 _ _ _ _
  have HR1 : Hid (RdC w.heap.size w1.heap.size Wa 20 (.agg #[.int .i64 k, .slice na nn nc, .slice ra rn rc, .slice ka kn kc]) c) := hr1.below hba (Nat.le_refl _)
  have H1 : Hid (Below w.heap.size w Wa) := hb1.trans (hba.mono hb1.size)
  have hsa : w1.heap.size < Wa.heap.size := HX1.out.lt
  have HBk : Hid (c.bulk ≤ 1048576) := by unfold Hid; omega
  clear hr1 hk1 hb1 hba
  obtain ⟨x0, x1, x2, x3⟩ := HX1.out.cells
  go_wp2_with fail
  try dsimp only
  rw [← HWa.out]
  refine (hSubs _ _ _ Wa _ _ HR1.out (Nat.le_of_lt hsa) HBk.out).mono ?_
  rintro e w2 ⟨u2, L2, xs2, rfl, hA2, hb2⟩
  obtain ⟨la, lc, rfl, hl2⟩ := ansL_rd hA2
  obtain ⟨ln, hln⟩ : ∃ ln, ln = (subsN c).length := ⟨_, rfl⟩
  have HLn : Hid (ln = (subsN c).length) := hln
  rw [← hln] at hl2 ⊢
  have HL2 : Hid (RdL (RdC 0 w2.heap.size w2 209) 0 w2.heap.size w2 la ln lc (subsN c)) := hl2
  have H2 : Hid (Below w.heap.size w w2) := H1.out.trans (hb2.mono H1.out.size)
  have hs2 : Wa.heap.size ≤ w2.heap.size := hb2.size
  have HXs : Hid (∀ V, Below w2.heap.size w2 V → BoxC V w1.heap.size (.int .i64 k) (.slice na nn nc) (.slice ra rn rc) (.slice ka kn kc)) := fun V hV => (HX1.out.below hb2 hsa).below hV (Nat.lt_of_lt_of_le hsa hs2)
  have HRs : Hid (∀ V, Below w2.heap.size w2 V → RdC w.heap.size w1.heap.size V 20 (.agg #[.int .i64 k, .slice na nn nc, .slice ra rn rc, .slice ka kn kc]) c) := fun V hV => (HR1.out.below hb2 (Nat.le_of_lt hsa)).below hV (Nat.le_trans (Nat.le_of_lt hsa) hs2)
  clear hA2 hb2 hl2 hln x0 x1 x2 x3
  obtain ⟨x0, x1, x2, x3⟩ := (HXs.out w2 (Below.refl _ _)).cells
  go_wp2_with fail
  refine (specConOk_any (HRs.out w2 (Below.refl _ _)) (Nat.le_trans (Nat.le_of_lt hsa) hs2)).mono ?_
  rintro e w3 ⟨rfl, hb3⟩
  have H3 : Hid (Below w2.heap.size w2 w3) := hb3
  clear hb3 x0 x1 x2 x3
  obtain ⟨x0, x1, x2, x3⟩ := (HXs.out w3 H3.out).cells
  cases hok : conOk c
  · have HOk : Hid (conOk c = false) := hok
    have hl0 : ln = 0 := by rw [HLn.out, subsN_no (by rw [hok]; simp)]; rfl
    subst hl0
    have HP : Hid (partsN c = 0) := by unfold Hid partsN; rw [hok]; rfl
    clear hok
    go_wp2_with fail
    refine (implParts_any (HRs.out _ H3.out) (Nat.le_trans (Nat.le_of_lt hsa) (Nat.le_trans hs2 H3.out.size)) HBk.out).mono ?_
    rintro e w4 ⟨rfl, hb4⟩
    rw [HP.out]
    have H4 : Hid (Below w2.heap.size w2 w4) := H3.out.trans (hb4.mono H3.out.size)
    clear hb4
    go_wp2_with fail
    refine (words_any w4).mono ?_
    rintro e w5 ⟨rfl, hb5⟩
    have H5 : Hid (Below w2.heap.size w2 w5) := H4.out.trans (hb5.mono H4.out.size)
    clear hb5
    go_wp2_with fail
    refine (con_any { data := #[78, 111, 116, 40, 65, 41] } (by decide) w5).mono ?_
    rintro e w6 ⟨v6, rfl, hr6, hb6⟩
    rw [notA_nums, notA_read] at hr6
    have HR6 : Hid (RdC w5.heap.size w6.heap.size w6 6 v6 (CN.mk 3 [] [] [CN.mk 2 [65] [] []])) := hr6
    have H6 : Hid (Below w2.heap.size w2 w6) := H5.out.trans (hb6.mono H5.out.size)
    clear hr6 hb6
    go_wp2_with fail
    refine (hSubs _ _ _ w6 _ _ HR6.out (Nat.le_refl _) (by simp [CN.bulk, bulks])).mono ?_
    rintro e w7 ⟨u7, L7, x7, rfl, hA7, hb7⟩
    obtain ⟨a7, c7, rfl, _⟩ := ansL_rd hA7
    rw [notA_subs]
    have H7 : Hid (Below w2.heap.size w2 w7) := H6.out.trans (hb7.mono H6.out.size)
    clear hA7 hb7
    go_wp2
    go_ret
    exact ⟨rfl, H2.out.trans (H7.out.mono H2.out.size)⟩
  · have HOk : Hid (conOk c = true) := hok
    have hlb : ln ≤ 1000 := by
      have h1 := conOk_len hok
      have h2 := subs_len hok
      rw [HLn.out]; omega
    have HTb : Hid (∀ j, j < ln → conOk ((subsN c).getD j CN.zero) = true ∧ ((subsN c).getD j CN.zero).bulk ≤ 1048576 ∧ (subsN c).getD j CN.zero ∈ subsN c) := by
      intro j hj
      have hm : (subsN c).getD j CN.zero ∈ subsN c := by
        rw [HLn.out] at hj
        simp [List.getD, hj]
      have h1 := (subs_part hok hm).1
      exact ⟨h1, by have := bulk_of_ok h1; omega, hm⟩
    have hl1 : 1 ≤ ln := by rw [HLn.out]; exact (subs_head hok).2
    have HHd : Hid ((subsN c).getD 0 CN.zero = c) := (subs_head hok).1
    obtain ⟨lb, lo, hla⟩ : ∃ lb lo, la = some ⟨lb, lo, none⟩ := by
      rcases HL2.out.cells with h0 | ⟨b, o, e, _⟩
      · omega
      · exact ⟨b, o, e⟩
    subst hla
    have HLs : Hid (∀ V, Below w2.heap.size w2 V → RdL (RdC 0 w2.heap.size V 209) 0 w2.heap.size V (some ⟨lb, lo, none⟩) ln lc (subsN c)) := fun V hV => HL2.out.same (Same.of_below hV (Nat.le_refl _))
    have hP : (ln : Int) ≤ partsN c := by
      unfold partsN
      rw [if_pos hok, HLn.out, cnt_parts c 1]
      have := subs_len hok
      omega
    obtain ⟨pn, hpn⟩ : ∃ pn, pn = partsN c := ⟨_, rfl⟩
    have HPn : Hid (pn = partsN c) := hpn
    rw [← hpn] at hP
    have hl1i : ¬ (ln : Int) < 1 := by omega
    have hl0i : (0 : Int) < (ln : Int) := by omega
    have hPi : ¬ pn < (ln : Int) := by omega
    have hl0n : 0 < ln := by omega
    have hl1b : decide ((ln : Int) < 1) = false := decide_eq_false hl1i
    have hPb : decide (pn < (ln : Int)) = false := decide_eq_false hPi
    clear hok hpn
    obtain ⟨k0, na0, nn0, nc0, ra0, rn0, rc0, ka0, kn0, kc0, f0, f1, f2, f3, hr0, hkx⟩ := rdl_at (HLs.out w3 H3.out) (i := 0) (by omega)
    clear hkx
    rw [HHd.out] at hr0
    rw [Nat.zero_mul, Nat.add_zero] at f0 f1 f2 f3
    have HR0 : Hid (∀ V, Below w3.heap.size w3 V → RdC 0 w2.heap.size V 209 (.agg #[.int .i64 k0, .slice na0 nn0 nc0, .slice ra0 rn0 rc0, .slice ka0 kn0 kc0]) c) := fun V hV => hr0.below hV H3.out.size
    clear hr0
    have hs23 := H3.out.size
    have hs13 : w1.heap.size ≤ w3.heap.size := by omega
    go_upto_region 5 with fail
    go_cut [53] from 36 to 52 (fun q wx => q = .bool false ∧ Below w2.heap.size w2 wx)
    case first =>
      have HX3d : Hid (Below w2.heap.size w2 w3.drew) := H3.out.drew
      have hs3d : w2.heap.size ≤ w3.drew.heap.size := hs23
      have hs13d : w1.heap.size ≤ w3.drew.heap.size := hs13
      first | go_region_with (first
        | (go_at_call 7; refine (implParts_any (w := w4) (HRs.out _ H4.out) hs14 HBk.out).mono ?_; rintro e w5 ⟨rfl, hb5⟩; rw [← HPn.out]; have H5 : Hid (Below w2.heap.size w2 w5) := H4.out.trans (hb5.mono H4.out.size); clear hb5)
        | (go_at_call 10; refine (sameCon_any (w := w3.drew) (HR0.out _ (Below.refl _ _).drew) (HRs.out _ HX3d.out) hs3d hs13d HBk.out HOk.out).mono ?_; rintro e w4 ⟨rfl, hb4⟩; have H4 : Hid (Below w2.heap.size w2 w4) := HX3d.out.trans (hb4.mono HX3d.out.size); have hs14 : w1.heap.size ≤ w4.heap.size := Nat.le_trans hs13d hb4.size; obtain ⟨y0, y1, y2, y3⟩ := (HXs.out w4 H4.out).cells; clear hb4)) | fail
      all_goals
        go_wp2_with fail
        go_meet
        case rel => exact ⟨rfl, H5.out⟩
    case rest =>
      obtain ⟨rfl, hbc⟩ := hcut
      have Hc : Hid (Below w2.heap.size w2 wc) := hbc
      have hs1c : w1.heap.size ≤ wc.heap.size := by have := hbc.size; omega
      clear hbc x0 x1 x2 x3 f0 f1 f2 f3 HR0
      obtain ⟨x0, x1, x2, x3⟩ := (HXs.out wc Hc.out).cells
      go_wp2_with fail
      refine (hNames _ _ _ wc _ _ (HRs.out wc Hc.out) hs1c HBk.out).mono ?_
      rintro e w6 ⟨un, gs, rfl, hN6, hb6⟩
      have HNs : Hid (∀ V, Below w6.heap.size w6 V → OwnW wc.heap.size V un (ansCN c) gs) := fun V hV => hN6.below hV
      have H6 : Hid (Below w2.heap.size w2 w6) := Hc.out.trans (hb6.mono Hc.out.size)
      have HTo : Hid (∀ V, Below w6.heap.size w6 V → Below w2.heap.size w2 V) := fun V hV => H6.out.trans (hV.mono H6.out.size)
      have hs26 := H6.out.size
      have HNl : Hid ((ansCN c).length ≤ 1000000) := by
        unfold Hid ansCN
        rw [if_pos HOk.out, namesC_parts c 1]
        have h1 := (GoodV.nm (l := []) GoodV.nil ((HRs.out wc Hc.out).byts 1)).2
        have h2 := conOk_len HOk.out
        simp only [List.length_nil] at h1
        omega
      clear hN6 hb6 x0 x1 x2 x3
      go_wp2_with fail
      go_loopw [6] (fun q wr => ∃ k : Nat, k ≤ ln ∧ q = .int .i64 k ∧ Below w6.heap.size w6 wr) (fun q _ => ln - (intOf q).toNat)
      case atStart => exact ⟨0, Nat.zero_le _, rfl, Below.refl _ _⟩
      case round =>
        obtain ⟨k1, hk1, rfl, hb⟩ := hrel
        obtain ⟨wo, hwo⟩ : ∃ wo : World, wo = wr := ⟨_, rfl⟩
        subst hwo
        have HB : Hid (Below w6.heap.size w6 wo) := hb
        clear hb
        by_cases hlt : k1 < ln
        · have hki : (k1 : Int) < (ln : Int) := by omega
          obtain ⟨hOkx, hBkx, hMx⟩ := HTb.out k1 hlt
          obtain ⟨x, hx⟩ : ∃ x, x = (subsN c).getD k1 CN.zero := ⟨_, rfl⟩
          have HXd : Hid (x = (subsN c).getD k1 CN.zero) := hx
          rw [← hx] at hOkx hBkx hMx
          have HOx : Hid (conOk x = true) := hOkx
          have HBx : Hid (x.bulk ≤ 1048576) := hBkx
          have HMx : Hid (x ∈ subsN c) := hMx
          clear hOkx hBkx hMx hx
          go_wp2_with fail
          -- none of those ahead is the same
          go_loopw [7] (fun q wr => ∃ j : Nat, j ≤ k1 ∧ q = .int .i64 j ∧ Below w6.heap.size w6 wr) (fun q _ => k1 - (intOf q).toNat)
          case atStart => exact ⟨0, Nat.zero_le _, rfl, HB.out⟩
          case round =>
            obtain ⟨j, hj, rfl, hb⟩ := hrel
            have HBj : Hid (Below w6.heap.size w6 wr) := hb
            clear hb
            by_cases hjk : j < k1
            · have hji : (j : Int) < (k1 : Int) := by omega
              have hjl : (j : Int) < (ln : Int) := by omega
              obtain ⟨hOky, hBky, _⟩ := HTb.out j (by omega)
              obtain ⟨ki, nai, nni, nci, rai, rni, rci, kai, kni, kci, e0, e1, e2, e3, hri, hkx⟩ := rdl_at (HLs.out wr (HTo.out _ HBj.out)) (i := k1) hlt
              clear hkx
              obtain ⟨kj, naj, nnj, ncj, raj, rnj, rcj, kaj, knj, kcj, f0, f1, f2, f3, hrj, hkx⟩ := rdl_at (HLs.out wr (HTo.out _ HBj.out)) (i := j) (by omega)
              clear hkx
              rw [← HXd.out] at hri
              obtain ⟨y, hy⟩ : ∃ y, y = (subsN c).getD j CN.zero := ⟨_, rfl⟩
              rw [← hy] at hrj hOky hBky
              have hne : x ≠ y := by
                rw [HXd.out, hy]
                have hnd := subs_nodup c
                rw [HLn.out] at hlt
                have hjl' : j < (subsN c).length := by omega
                simp only [List.getD, List.getElem?_eq_getElem hlt, List.getElem?_eq_getElem hjl', Option.getD_some]
                exact Ne.symm (List.pairwise_iff_getElem.1 hnd j k1 hjl' hlt (by omega))
              have hz := cmp_ne HOx.out hOky (textC_byte hri) (textC_byte hrj) hne
              have HRi : Hid (RdC 0 w2.heap.size wr.drew 209 (.agg #[.int .i64 ki, .slice nai nni nci, .slice rai rni rci, .slice kai kni kci]) x) := RdC.same (w := wr) (w' := wr.drew) (fun _ _ _ => rfl) hri
              have HRj : Hid (RdC 0 w2.heap.size wr.drew 209 (.agg #[.int .i64 kj, .slice naj nnj ncj, .slice raj rnj rcj, .slice kaj knj kcj]) y) := RdC.same (w := wr) (w' := wr.drew) (fun _ _ _ => rfl) hrj
              have HBy : Hid (y.bulk ≤ 1048576) := hBky
              obtain ⟨z, hzd⟩ : ∃ z, z = conCmpZ x y := ⟨_, rfl⟩
              have HZ : Hid (z = conCmpZ x y) := hzd
              rw [← hzd] at hz
              have hzb : (z == 0) = false := by simpa using hz
              have hs2r : w2.heap.size ≤ wr.drew.heap.size := by have := (HTo.out _ HBj.out).size; exact this
              clear hri hrj hy hne hOky hBky hzd
              go_upto_region 14 with fail
              first | go_region_with (go_at_call 12; refine (implConCmp_any (w := wr.drew) HRi.out HRj.out hs2r hs2r HBx.out HBy.out).mono ?_; rintro e w8 ⟨rfl, hb8⟩; rw [← HZ.out]; have H8 : Hid (Below w6.heap.size w6 w8) := HBj.out.drew.trans (hb8.mono HBj.out.drew.size); clear hb8) | fail
              all_goals
                go_wp2_with fail
                go_roundw
                case rel => first | exact ⟨j + 1, by omega, by go_num, H8.out⟩ | ((repeat apply Exists.intro); exact ⟨⟨by omega, by go_num, H8.out⟩, rfl⟩)
                case measure => simp [intOf]; omega
            · have hji : ¬ (j : Int) < (k1 : Int) := by omega
              obtain ⟨wp, hwp⟩ : ∃ wp : World, wp = wr := ⟨_, rfl⟩
              subst hwp
              obtain ⟨ki, nai, nni, nci, rai, rni, rci, kai, kni, kci, e0, e1, e2, e3, hri, hkind⟩ := rdl_at (HLs.out wp (HTo.out _ HBj.out)) (i := k1) hlt
              rw [← HXd.out] at hri hkind
              have HRi : Hid (RdC 0 w2.heap.size wp 209 (.agg #[.int .i64 ki, .slice nai nni nci, .slice rai rni rci, .slice kai kni kci]) x) := hri
              have HKd : Hid (ki = x.kind) := hkind
              clear hri hkind
              have HNm : Hid (ki = 2 → x.name ∈ ansCN c) := fun h2 => names_part HOk.out (fun p hp => ((HRs.out wp (HTo.out _ HBj.out)).byts 1 p hp).1) HMx.out (by rw [← HKd.out]; exact h2)
              have hs2p : w2.heap.size ≤ wp.heap.size := (HTo.out _ HBj.out).size
              go_upto_region 16 with fail
              go_cut [92] from 77 to 91 (fun q wx => q = .bool false ∧ wx = wp)
              case first =>
                by_cases hk2 : ki = 2
                · subst hk2
                  go_wp2_with fail
                  refine (has_yes (HNs.out wp HBj.out) (nameRd HRi.out) (HNm.out (by trivial)) HNl.out).mono ?_
                  rintro e w8 ⟨rfl, hw8⟩
                  subst hw8
                  go_wp2_with fail
                  go_meet
                  case rel => exact ⟨rfl, rfl⟩
                · have hk2b : (ki == 2) = false := by simpa using hk2
                  go_wp2_with fail
                  go_meet
                  case rel => exact ⟨rfl, rfl⟩
              case rest =>
                obtain ⟨rfl, hwc⟩ := hcut
                subst hwc
                go_wp2_with fail
                refine (hSubs _ _ _ _ _ _ HRi.out hs2p HBx.out).mono ?_
                rintro e w9 ⟨u9, L9, xs9, rfl, hA9, hb9⟩
                obtain ⟨ma, mc, rfl, hm9⟩ := ansL_rd hA9
                obtain ⟨mn, hmn⟩ : ∃ mn, mn = (subsN x).length := ⟨_, rfl⟩
                have HMn : Hid (mn = (subsN x).length) := hmn
                have hmb : mn ≤ 1000 := by
                  have h1 := conOk_len HOx.out
                  have h2 := subs_len HOx.out
                  rw [hmn]; omega
                rw [← hmn] at hm9 ⊢
                have HMs : Hid (∀ V, Below w9.heap.size w9 V → RdL (RdC 0 w9.heap.size V 209) 0 w9.heap.size V ma mn mc (subsN x)) := fun V hV => hm9.same (Same.of_below hV (Nat.le_refl _))
                have H9 : Hid (Below w6.heap.size w6 w9) := HBj.out.trans (hb9.mono HBj.out.size)
                have HT9 : Hid (∀ V, Below w9.heap.size w9 V → Below w6.heap.size w6 V) := fun V hV => H9.out.trans (hV.mono H9.out.size)
                clear hA9 hb9 hm9 hmn e0 e1 e2 e3
                go_wp2_with fail
                go_loopw [9] (fun q wr => ∃ j : Nat, j ≤ mn ∧ q = .int .i64 j ∧ Below w9.heap.size w9 wr) (fun q _ => mn - (intOf q).toNat)
                case atStart => exact ⟨0, Nat.zero_le _, rfl, Below.refl _ _⟩
                case round =>
                  obtain ⟨j3, hj3, rfl, hb⟩ := hrel
                  obtain ⟨wq, hwq⟩ : ∃ wq : World, wq = wr := ⟨_, rfl⟩
                  subst hwq
                  have HBq : Hid (Below w9.heap.size w9 wq) := hb
                  clear hb
                  by_cases hjm : j3 < mn
                  · have hji3 : (j3 : Int) < (mn : Int) := by omega
                    obtain ⟨y, hyd⟩ : ∃ y, y = (subsN x).getD j3 CN.zero := ⟨_, rfl⟩
                    have HYd : Hid (y = (subsN x).getD j3 CN.zero) := hyd
                    have hyx : y ∈ subsN x := by
                      rw [HMn.out] at hjm
                      rw [hyd]
                      simp [List.getD, hjm]
                    have hyc := (subs_part HOk.out HMx.out).2 y hyx
                    have HYc : Hid (y ∈ subsN c) := hyc
                    have HOy : Hid (conOk y = true) := (subs_part HOk.out hyc).1
                    have HBy : Hid (y.bulk ≤ 1048576) := by have := bulk_of_ok (subs_part HOk.out hyc).1; unfold Hid; omega
                    obtain ⟨mb, mo, hma⟩ : ∃ mb mo, ma = some ⟨mb, mo, none⟩ := by
                      rcases (HMs.out wq HBq.out).cells with h0 | ⟨b, o, e, _⟩
                      · omega
                      · exact ⟨b, o, e⟩
                    subst hma
                    clear hyd hyx hyc
                    go_wp2_with fail
                    go_loopw [10, 11] (fun f q wr => ∃ t : Nat, t ≤ ln ∧ q = .int .i64 t ∧ f = .bool (amongC ((subsN c).take t) y) ∧ Below w9.heap.size w9 wr) (fun _ q _ => ln - (intOf q).toNat)
                    case atStart => exact ⟨0, Nat.zero_le _, rfl, by simp [amongC], HBq.out⟩
                    case round =>
                      obtain ⟨t, ht, rfl, rfl, hb⟩ := hrel
                      have HBr : Hid (Below w9.heap.size w9 wr) := hb
                      clear hb
                      by_cases htl : t < ln
                      · have hti : (t : Int) < (ln : Int) := by omega
                        have HTk : Hid (amongC ((subsN c).take (t + 1)) y = (amongC ((subsN c).take t) y || sameC ((subsN c).getD t CN.zero) y)) := among_take_succ (subsN c) y t (by rw [← HLn.out]; exact htl)
                        cases hin : amongC ((subsN c).take t) y
                        · obtain ⟨km, nam, nnm, ncm, ram, rnm, rcm, kam, knm, kcm, e0, e1, e2, e3, hrm, hkx⟩ := rdl_at (HMs.out wr HBr.out) (i := j3) hjm
                          clear hkx
                          obtain ⟨kt, nat, nnt, nct, rat, rnt, rct, kat, knt, kct, f0, f1, f2, f3, hrt, hkx⟩ := rdl_at (HLs.out wr (HTo.out _ (HT9.out _ HBr.out))) (i := t) htl
                          clear hkx
                          rw [← HYd.out] at hrm
                          obtain ⟨hOkt, hBkt, _⟩ := HTb.out t htl
                          obtain ⟨l, hl⟩ : ∃ l, l = (subsN c).getD t CN.zero := ⟨_, rfl⟩
                          rw [← hl] at hrt hOkt hBkt
                          have HIn : Hid (amongC ((subsN c).take (t + 1)) y = sameC y l) := by
                            unfold Hid
                            rw [HTk.out, hin, ← hl, Bool.false_or]
                            cases e : sameC y l
                            · cases e' : sameC l y
                              · rfl
                              · rw [(sameC_iff l y).1 e', (sameC_iff y y).2 rfl] at e; cases e
                            · rw [(sameC_iff y l).1 e]; exact (sameC_iff l l).2 rfl
                          have HRm : Hid (RdC 0 w9.heap.size wr.drew 209 (.agg #[.int .i64 km, .slice nam nnm ncm, .slice ram rnm rcm, .slice kam knm kcm]) y) := RdC.same (w := wr) (w' := wr.drew) (fun _ _ _ => rfl) hrm
                          have HRt : Hid (RdC 0 w2.heap.size wr.drew 209 (.agg #[.int .i64 kt, .slice nat nnt nct, .slice rat rnt rct, .slice kat knt kct]) l) := RdC.same (w := wr) (w' := wr.drew) (fun _ _ _ => rfl) hrt
                          have HOl : Hid (conOk l = true) := hOkt
                          have HBl : Hid (l.bulk ≤ 1048576) := hBkt
                          have hs9r : w9.heap.size ≤ wr.drew.heap.size := HBr.out.size
                          have hs2r : w2.heap.size ≤ wr.drew.heap.size := (HTo.out _ (HT9.out _ HBr.out)).size
                          obtain ⟨r, hr⟩ : ∃ r, r = sameC y l := ⟨_, rfl⟩
                          have HRr : Hid (r = sameC y l) := hr
                          clear hrm hrt hl hOkt hBkt hin hr
                          go_upto_region 26 with fail
                          have HWd : Hid (Below wr.heap.size wr wr.drew) := (Below.refl _ _).drew
                          have hbm : mb < wr.heap.size := World.block_lt_of_cell? wr _ e0
                          have hbl : lb < wr.heap.size := World.block_lt_of_cell? wr _ f0
                          have HSd : Hid (∀ V, Below wr.heap.size wr V → V.cell? ⟨mb, mo + j3 * 4, none⟩ = some (.int .i64 km) ∧ V.cell? ⟨mb, mo + j3 * 4 + 1, none⟩ = some (.slice nam nnm ncm) ∧ V.cell? ⟨mb, mo + j3 * 4 + 2, none⟩ = some (.slice ram rnm rcm) ∧ V.cell? ⟨mb, mo + j3 * 4 + 3, none⟩ = some (.slice kam knm kcm) ∧ V.cell? ⟨lb, lo + t * 4, none⟩ = some (.int .i64 kt) ∧ V.cell? ⟨lb, lo + t * 4 + 1, none⟩ = some (.slice nat nnt nct) ∧ V.cell? ⟨lb, lo + t * 4 + 2, none⟩ = some (.slice rat rnt rct) ∧ V.cell? ⟨lb, lo + t * 4 + 3, none⟩ = some (.slice kat knt kct)) := by
                            intro V hV
                            have h1 : ∀ o, V.cell? ⟨mb, o, none⟩ = wr.cell? ⟨mb, o, none⟩ := fun o => World.cell?_of_block (hV.block mb hbm)
                            have h2 : ∀ o, V.cell? ⟨lb, o, none⟩ = wr.cell? ⟨lb, o, none⟩ := fun o => World.cell?_of_block (hV.block lb hbl)
                            rw [h1, h1, h1, h1, h2, h2, h2, h2]
                            exact ⟨e0, e1, e2, e3, f0, f1, f2, f3⟩
                          clear hbm hbl e0 e1 e2 e3 f0 f1 f2 f3
                          first
                          | go_region_held3 (fun V => V.cell? ⟨mb, mo + j3 * 4, none⟩ = some (.int .i64 km) ∧ V.cell? ⟨mb, mo + j3 * 4 + 1, none⟩ = some (.slice nam nnm ncm) ∧ V.cell? ⟨mb, mo + j3 * 4 + 2, none⟩ = some (.slice ram rnm rcm) ∧ V.cell? ⟨mb, mo + j3 * 4 + 3, none⟩ = some (.slice kam knm kcm) ∧ V.cell? ⟨lb, lo + t * 4, none⟩ = some (.int .i64 kt) ∧ V.cell? ⟨lb, lo + t * 4 + 1, none⟩ = some (.slice nat nnt nct) ∧ V.cell? ⟨lb, lo + t * 4 + 2, none⟩ = some (.slice rat rnt rct) ∧ V.cell? ⟨lb, lo + t * 4 + 3, none⟩ = some (.slice kat knt kct)) (first | with_reducible exact HSd.out _ HWd.out | with_reducible exact HSd.out _ HW8.out) (first | (go_at_call 10; refine (sameCon_all (w := wr.drew) HRm.out HRt.out hs9r hs2r HBy.out HBl.out HOy.out HOl.out).mono ?_; rintro e w8 ⟨rfl, hb8⟩; rw [← HRr.out]; have HW8 : Hid (Below wr.heap.size wr w8) := HWd.out.trans hb8; have H8 : Hid (Below w9.heap.size w9 w8) := HBr.out.drew.trans (hb8.mono HBr.out.drew.size); clear hb8))
                          | fail
                          all_goals
                            go_wp2_with fail
                            go_roundw
                            case rel => exact ⟨t + 1, by omega, by go_num, by rw [HIn.out, HRr.out], H8.out⟩
                            case measure => simp [intOf]; omega
                        · have HIn : Hid (amongC ((subsN c).take (t + 1)) y = true) := by unfold Hid; rw [HTk.out, hin]; rfl
                          clear hin
                          go_upto_region 26 with fail
                          go_quiet (fail)
                          go_wp2_with fail
                          go_roundw
                          case rel => exact ⟨t + 1, by omega, by go_num, by rw [HIn.out], below_drewN HBr.out _⟩
                          case measure => simp [intOf]; omega
                      · have hti : ¬ (t : Int) < (ln : Int) := by omega
                        have htt : t = (subsN c).length := by rw [← HLn.out]; omega
                        have hfin : amongC ((subsN c).take t) y = true := by rw [htt, List.take_length]; exact (among_iff _ _).2 HYc.out
                        rw [hfin]
                        clear hfin htt
                        go_wp2_with fail
                        go_roundw
                        case rel => first | exact ⟨j3 + 1, by omega, by go_num, HBr.out⟩ | ((repeat apply Exists.intro); exact ⟨⟨by omega, by go_num, HBr.out⟩, rfl⟩)
                        case measure => simp [intOf]; omega
                  · have hji3 : ¬ (j3 : Int) < (mn : Int) := by omega
                    go_wp2_with fail
                    go_roundw
                    case rel => first | exact ⟨k1 + 1, by omega, by go_num, HT9.out _ HBq.out⟩ | ((repeat apply Exists.intro); exact ⟨⟨by omega, by go_num, HT9.out _ HBq.out⟩, rfl⟩)
                    case measure => simp [intOf]; omega
        · have hki : ¬ (k1 : Int) < (ln : Int) := by omega
          go_wp2
          go_ret
          exact ⟨rfl, H2.out.trans ((HTo.out _ HB.out).mono H2.out.size)⟩

end Go.Proofs.Ytedihcjhfkdkjaa
