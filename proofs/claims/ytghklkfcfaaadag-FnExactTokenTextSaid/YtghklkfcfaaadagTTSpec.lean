/- The model's text of tokens: for every list of tokens it answers what 'tokText' says, in memory of its own. -/
import Derived.Test.YtghklkfcfaaadagTTMath
import Derived.Deep.DeepCutAuto
namespace Go.Proofs.Ytghklkfcfaaadag
open Go.RowKit

theorem gapT_pos {k : Nat} (h : 0 < k) : gapT k = [32] := if_pos h
theorem gapT_zero : gapT 0 = [] := rfl

set_option maxHeartbeats 2000000 in
theorem specTokenText_any (a : Option Addr) (n cap : Nat) (ts : List Tok) (w : World) {lo hi : Nat} (h : RdT lo hi w a n cap ts) (hhi : hi ≤ w.heap.size) :
    Calls Try.prog 15 #[.slice a n cap] w fun e w' => ∃ v, e = .returned v ∧ OwnB w.heap.size w' v (tokText ts) ∧ Below w.heap.size w w' := by
  have H : Hid (RdT lo hi w a n cap ts) := h
  obtain ⟨hl, ⟨hm, hM⟩, hcs⟩ := h
  clear hcs
  by_cases hbig : 1500 < n
  · have HT : Hid (tokText ts = []) := by unfold Hid tokText; rw [if_pos (by omega)]
    clear hl
    go_enter Try.func15, Try.ntmps15
    go_wp2
    go_ret
    exact ⟨_, rfl, by rw [HT.out]; exact OwnB.nil _ _, Below.refl _ _⟩
  · have HL : Hid (ts.length = n) := hl
    clear hl
    obtain ⟨i0, hi0, hz0, hz1, hz2⟩ := info_parts Try.info5
    go_enter Try.func15, Try.ntmps15
    go_wp2
    go_loopw [3, 4] (fun v i wr => ∃ k : Nat, k ≤ n ∧ i = .int .i64 k ∧ OwnB w.heap.size wr v (txtTo ts k) ∧ okTo ts k = true ∧ Below w.heap.size w wr) (fun _ i _ => n - (intOf i).toNat)
    case atStart => exact ⟨0, Nat.zero_le _, rfl, OwnB.nil _ _, rfl, Below.refl _ _⟩
    case round =>
      obtain ⟨k, hk, rfl, hown, hok, hbel⟩ := hrel
      have HO : Hid (OwnB w.heap.size wr u3 (txtTo ts k)) := hown
      have HK : Hid (okTo ts k = true) := hok
      have HB : Hid (Below w.heap.size w wr) := hbel
      clear hown hok hbel
      by_cases hlt : k < n
      · have hki : (k : Int) < (n : Int) := by omega
        have hlen := txtTo_len ts k
        go_upto_if 16 with fail
        go_cut [3] (fun v W => OwnB w.heap.size W v (txtTo ts k ++ gapT k) ∧ Below w.heap.size w W)
        case first =>
          by_cases hk0 : 0 < k
          · have HOA : Hid (OwnB w.heap.size (wr.alloc (.cells #[.int .u8 32] 5)) u3 (txtTo ts k)) := HO.out.below ((Below.refl _ _).alloc (Nat.le_refl _) _) (Nat.le_refl _)
            have HBA : Hid (Below w.heap.size w (wr.alloc (.cells #[.int .u8 32] 5))) := HB.out.alloc HB.out.size _
            go_wp2_with (at_builtin; refine wpList_append_own _ rfl (.tmp 17) (.tmp 18) 22 rfl w.heap.size 5 i0 (.int .u8 0) 1 1 Try.underlying22 hi0 hz0 hz1 hz2 rfl (by decide) u3 (txtTo ts k).length ((txtTo ts k).map (Value.int .u8)) rfl HOA.out ⟨wr.heap.size, 0, none⟩ 1 1 ([32].map (Value.int .u8)) rfl rfl (new1 _ _ _ rfl) (oneCB _) (by unfold maxLen; omega) (by omega) HBA.out.size ?_; intro v' w2 hown' hgrow hnil; have HF : Hid (OwnB w.heap.size w2 v' (txtTo ts k ++ [32]) ∧ Below w.heap.size w w2) := ownB_step HOA.out HBA.out hown' hgrow; clear hown' hgrow hnil)
            go_meet
            case rel => rw [gapT_pos hk0]; exact HF.out
          · have hk0' : k = 0 := by omega
            subst hk0'
            go_wp2
            go_meet
            case rel => rw [gapT_zero, List.append_nil]; exact ⟨HO.out, HB.out⟩
        case rest =>
          obtain ⟨hown, hbel⟩ := hcut
          obtain ⟨pre, hpre⟩ : ∃ pre, pre = txtTo ts k ++ gapT k := ⟨_, rfl⟩
          rw [← hpre] at hown
          have HPre : Hid (pre = txtTo ts k ++ gapT k) := hpre
          have hpl : pre.length ≤ 10500 := by
            have h3 : (gapT k).length ≤ 1 := by unfold gapT; split <;> simp
            rw [hpre, List.length_append]; omega
          have hR := H.out.same (Same.of_below hbel hhi)
          rcases hR.cells with h0 | ⟨b, off, e1, _, hbh, hc⟩
          · omega
          · subst e1
            obtain ⟨ta, tn, tc, c1, c2, c3, c4⟩ := hc k hlt
            obtain ⟨t, ht⟩ : ∃ t, t = ts.getD k Tok.zero := ⟨_, rfl⟩
            have HT : Hid (t = ts.getD k Tok.zero) := ht
            rw [← ht] at c1 c2 c4
            obtain ⟨tk, tp, tx⟩ := t
            have htl : tx.length = tn := c4.len
            have C4 : Hid (Rd lo hi wc ta tn tc tx) := c4
            have HO1 : Hid (OwnB w.heap.size wc u3 pre) := hown
            have HB1 : Hid (Below w.heap.size w wc) := hbel
            have HBad : Hid (tokPiece ⟨tk, tp, tx⟩ = [] → tokText ts = []) := fun e => tokText_bad (by rw [HL.out]; exact hlt) (by rw [← HT.out]; exact e)
            have HGood : Hid (∀ ps, tokPiece ⟨tk, tp, tx⟩ = ps → ps ≠ [] → txtTo ts (k + 1) = pre ++ ps ∧ okTo ts (k + 1) = true) := by
              intro ps e hne
              refine ⟨by rw [txtTo, ← HT.out, e, HPre.out], ?_⟩
              rw [okTo_succ, HK.out, ← HT.out, e]
              cases ps with
              | nil => exact absurd rfl hne
              | cons _ _ => rfl
            have hszw := hbel.size
            have HBt : Hid (Below wc.heap.size wc (wc.alloc (.cells #[.int .i64 tk, .int .i64 tp, .slice ta tn tc] 49))) := (Below.refl _ _).alloc (Nat.le_refl _) _
            have HHi : Hid (hi ≤ wc.heap.size) := Nat.le_trans hhi hszw
            clear hR hc ht c4 hown hbel hpre hlen HO HB
            by_cases h3 : tk = 3
            · subst h3
              by_cases h0 : tn = 0
              · subst h0
                have hx : tx = [] := List.eq_nil_of_length_eq_zero htl
                obtain ⟨HN, HK1⟩ := HGood.out [40] (by simp [tokPiece, hx]) (by simp)
                have HN : Hid (txtTo ts (k + 1) = pre ++ [40]) := HN
                have HK1 : Hid (okTo ts (k + 1) = true) := HK1
                have HOA : Hid (OwnB w.heap.size ((wc.alloc (.cells #[.int .i64 3, .int .i64 tp, .slice ta 0 tc] 49)).alloc (.cells #[.int .u8 40] 5)) u3 pre) := HO1.out.below (((Below.refl _ _).alloc (Nat.le_refl _) _).alloc (by simp) _) (Nat.le_refl _)
                have HBA : Hid (Below w.heap.size w ((wc.alloc (.cells #[.int .i64 3, .int .i64 tp, .slice ta 0 tc] 49)).alloc (.cells #[.int .u8 40] 5))) := (HB1.out.alloc hszw _).alloc (by simp; omega) _
                clear htl hx
                go_wp2_with (at_builtin; refine wpList_append_own _ rfl (.tmp 34) (.tmp 35) 22 rfl w.heap.size 5 i0 (.int .u8 0) 1 1 Try.underlying22 hi0 hz0 hz1 hz2 rfl (by decide) u3 pre.length (pre.map (Value.int .u8)) rfl HOA.out ⟨wc.heap.size + 1, 0, none⟩ 1 1 ([40].map (Value.int .u8)) rfl rfl (new1 _ _ _ (by simp)) (oneCB _) (by unfold maxLen; omega) (by omega) HBA.out.size ?_; intro v' w2 hown' hgrow hnil; have HF : Hid (OwnB w.heap.size w2 v' (pre ++ [40]) ∧ Below w.heap.size w w2) := ownB_step HOA.out HBA.out hown' hgrow; clear hown' hgrow hnil)
                go_roundw
                case rel => exact ⟨k + 1, by omega, by go_num, by rw [HN.out]; exact HF.out.1, HK1.out, HF.out.2⟩
                case measure => simp [intOf]; omega
              · have hx : Hid (tokText ts = []) := HBad.out (by unfold tokPiece; rw [if_pos rfl, if_neg]; intro e; simp only at e; rw [e] at htl; exact h0 htl.symm)
                have hz : ((tn : Int) == 0) = false := by simp; omega
                go_wp2
                go_ret
                exact ⟨_, rfl, by rw [hx.out]; exact OwnB.nil _ _, HB1.out.alloc hszw _⟩
            · by_cases h4 : tk = 4
              · subst h4
                by_cases h0 : tn = 0
                · subst h0
                  have hx : tx = [] := List.eq_nil_of_length_eq_zero htl
                  obtain ⟨HN, HK1⟩ := HGood.out [41] (by simp [tokPiece, hx]) (by simp)
                  have HN : Hid (txtTo ts (k + 1) = pre ++ [41]) := HN
                  have HK1 : Hid (okTo ts (k + 1) = true) := HK1
                  have HOA : Hid (OwnB w.heap.size ((wc.alloc (.cells #[.int .i64 4, .int .i64 tp, .slice ta 0 tc] 49)).alloc (.cells #[.int .u8 41] 5)) u3 pre) := HO1.out.below (((Below.refl _ _).alloc (Nat.le_refl _) _).alloc (by simp) _) (Nat.le_refl _)
                  have HBA : Hid (Below w.heap.size w ((wc.alloc (.cells #[.int .i64 4, .int .i64 tp, .slice ta 0 tc] 49)).alloc (.cells #[.int .u8 41] 5))) := (HB1.out.alloc hszw _).alloc (by simp; omega) _
                  clear htl hx
                  go_wp2_with (at_builtin; refine wpList_append_own _ rfl (.tmp 47) (.tmp 48) 22 rfl w.heap.size 5 i0 (.int .u8 0) 1 1 Try.underlying22 hi0 hz0 hz1 hz2 rfl (by decide) u3 pre.length (pre.map (Value.int .u8)) rfl HOA.out ⟨wc.heap.size + 1, 0, none⟩ 1 1 ([41].map (Value.int .u8)) rfl rfl (new1 _ _ _ (by simp)) (oneCB _) (by unfold maxLen; omega) (by omega) HBA.out.size ?_; intro v' w2 hown' hgrow hnil; have HF : Hid (OwnB w.heap.size w2 v' (pre ++ [41]) ∧ Below w.heap.size w w2) := ownB_step HOA.out HBA.out hown' hgrow; clear hown' hgrow hnil)
                  go_roundw
                  case rel => exact ⟨k + 1, by omega, by go_num, by rw [HN.out]; exact HF.out.1, HK1.out, HF.out.2⟩
                  case measure => simp [intOf]; omega
                · have hx : Hid (tokText ts = []) := HBad.out (by unfold tokPiece; rw [if_neg (show ¬ ((4 : Int) = 3) by decide), if_pos rfl, if_neg]; intro e; simp only at e; rw [e] at htl; exact h0 htl.symm)
                  have hz : ((tn : Int) == 0) = false := by simp; omega
                  go_wp2
                  go_ret
                  exact ⟨_, rfl, by rw [hx.out]; exact OwnB.nil _ _, HB1.out.alloc hszw _⟩
              · by_cases h1 : tk = 1
                · subst h1
                  cases hu : upOk tx
                  · have hx : Hid (tokText ts = []) := HBad.out (by simp [tokPiece, hu])
                    go_wp2_with (go_at_call 30; refine (specUpperOk_any _ _ _ tx _ (lo := lo) (hi := hi) ?_).mono ?_; exact C4.out.below HBt.out HHi.out; rintro e w3 ⟨rfl, hw3⟩; rw [hu, hw3]; clear hw3)
                    go_ret
                    exact ⟨_, rfl, by rw [hx.out]; exact OwnB.nil _ _, HB1.out.alloc hszw _⟩
                  · have hlong := longB_of_up hu
                    obtain ⟨HN, HK1⟩ := HGood.out tx (by simp [tokPiece, hu]) (fun e => by rw [e] at hlong; simp at hlong)
                    have HN : Hid (txtTo ts (k + 1) = pre ++ tx) := HN
                    have HK1 : Hid (okTo ts (k + 1) = true) := HK1
                    have HOA : Hid (OwnB w.heap.size (wc.alloc (.cells #[.int .i64 1, .int .i64 tp, .slice ta tn tc] 49)) u3 pre) := HO1.out.below HBt.out (Nat.le_refl _)
                    have HBA : Hid (Below w.heap.size w (wc.alloc (.cells #[.int .i64 1, .int .i64 tp, .slice ta tn tc] 49))) := HB1.out.alloc hszw _
                    have CA := C4.out.below HBt.out HHi.out
                    rcases CA.cells with h0 | ⟨b', off', hta, _, _, _⟩
                    · omega
                    · subst hta
                      have HNews := rd_news CA
                      have HNews : Hid (∀ j u, (tx.map (Value.int .u8))[j]? = some u → (wc.alloc (.cells #[.int .i64 1, .int .i64 tp, .slice (some ⟨b', off', none⟩) tn tc] 49)).cell? ((⟨b', off', none⟩ : Addr).add j) = some u) := HNews
                      have hlx : (tx.map (Value.int .u8)).length = tn * 1 := by simp [htl]
                      subst htl
                      clear CA
                      go_wp2_with (first | (go_at_call 30; refine (specUpperOk_any _ _ _ tx _ (lo := lo) (hi := hi) ?_).mono ?_; exact C4.out.below HBt.out HHi.out; rintro e w3 ⟨rfl, hw3⟩; rw [hu, hw3]; clear hw3) | (at_builtin; refine wpList_append_own _ rfl (.tmp 69) (.tmp 71) 22 rfl w.heap.size 5 i0 (.int .u8 0) 1 1 Try.underlying22 hi0 hz0 hz1 hz2 rfl (by decide) u3 pre.length (pre.map (Value.int .u8)) rfl HOA.out ⟨b', off', none⟩ tx.length tc (tx.map (Value.int .u8)) rfl hlx HNews.out (oneCB _) (by unfold maxLen; omega) (by omega) HBA.out.size ?_; intro v' w2 hown' hgrow hnil; have HF : Hid (OwnB w.heap.size w2 v' (pre ++ tx) ∧ Below w.heap.size w w2) := ownB_step HOA.out HBA.out hown' hgrow; clear hown' hgrow hnil))
                      go_roundw
                      case rel => exact ⟨k + 1, by omega, by go_num, by rw [HN.out]; exact HF.out.1, HK1.out, HF.out.2⟩
                      case measure => simp [intOf]; omega
                · by_cases h2 : tk = 2
                  · subst h2
                    cases hu : lowOk tx
                    · have hx : Hid (tokText ts = []) := HBad.out (by simp [tokPiece, hu])
                      go_wp2_with (go_at_call 31; refine (specLowerOk_any _ _ _ tx _ (lo := lo) (hi := hi) ?_).mono ?_; exact C4.out.below HBt.out HHi.out; rintro e w3 ⟨rfl, hw3⟩; rw [hu, hw3]; clear hw3)
                      go_ret
                      exact ⟨_, rfl, by rw [hx.out]; exact OwnB.nil _ _, HB1.out.alloc hszw _⟩
                    · have hlong := longB_of_low hu
                      obtain ⟨HN, HK1⟩ := HGood.out tx (by simp [tokPiece, hu]) (fun e => by rw [e] at hlong; simp at hlong)
                      have HN : Hid (txtTo ts (k + 1) = pre ++ tx) := HN
                      have HK1 : Hid (okTo ts (k + 1) = true) := HK1
                      have HOA : Hid (OwnB w.heap.size (wc.alloc (.cells #[.int .i64 2, .int .i64 tp, .slice ta tn tc] 49)) u3 pre) := HO1.out.below HBt.out (Nat.le_refl _)
                      have HBA : Hid (Below w.heap.size w (wc.alloc (.cells #[.int .i64 2, .int .i64 tp, .slice ta tn tc] 49))) := HB1.out.alloc hszw _
                      have CA := C4.out.below HBt.out HHi.out
                      rcases CA.cells with h0 | ⟨b', off', hta, _, _, _⟩
                      · omega
                      · subst hta
                        have HNews := rd_news CA
                        have HNews : Hid (∀ j u, (tx.map (Value.int .u8))[j]? = some u → (wc.alloc (.cells #[.int .i64 2, .int .i64 tp, .slice (some ⟨b', off', none⟩) tn tc] 49)).cell? ((⟨b', off', none⟩ : Addr).add j) = some u) := HNews
                        have hlx : (tx.map (Value.int .u8)).length = tn * 1 := by simp [htl]
                        subst htl
                        clear CA
                        go_wp2_with (first | (go_at_call 31; refine (specLowerOk_any _ _ _ tx _ (lo := lo) (hi := hi) ?_).mono ?_; exact C4.out.below HBt.out HHi.out; rintro e w3 ⟨rfl, hw3⟩; rw [hu, hw3]; clear hw3) | (at_builtin; refine wpList_append_own _ rfl (.tmp 69) (.tmp 71) 22 rfl w.heap.size 5 i0 (.int .u8 0) 1 1 Try.underlying22 hi0 hz0 hz1 hz2 rfl (by decide) u3 pre.length (pre.map (Value.int .u8)) rfl HOA.out ⟨b', off', none⟩ tx.length tc (tx.map (Value.int .u8)) rfl hlx HNews.out (oneCB _) (by unfold maxLen; omega) (by omega) HBA.out.size ?_; intro v' w2 hown' hgrow hnil; have HF : Hid (OwnB w.heap.size w2 v' (pre ++ tx) ∧ Below w.heap.size w w2) := ownB_step HOA.out HBA.out hown' hgrow; clear hown' hgrow hnil))
                        go_roundw
                        case rel => exact ⟨k + 1, by omega, by go_num, by rw [HN.out]; exact HF.out.1, HK1.out, HF.out.2⟩
                        case measure => simp [intOf]; omega
                  · have hx : Hid (tokText ts = []) := HBad.out (by simp [tokPiece, h1, h2, h3, h4])
                    have e1 : (tk == 1) = false := by simpa using h1
                    have e2 : (tk == 2) = false := by simpa using h2
                    have e3 : (tk == 3) = false := by simpa using h3
                    have e4 : (tk == 4) = false := by simpa using h4
                    go_wp2
                    go_ret
                    exact ⟨_, rfl, by rw [hx.out]; exact OwnB.nil _ _, HB1.out.alloc hszw _⟩
      · have hkn : k = n := by omega
        subst hkn
        have HT : Hid (tokText ts = txtTo ts k) := by
          have e := tokText_good (ts := ts) (by rw [HL.out]; omega) (by rw [HL.out]; exact HK.out)
          rw [HL.out] at e; exact e
        go_wp2
        go_ret
        exact ⟨_, rfl, by rw [HT.out]; exact HO.out, HB.out⟩

end Go.Proofs.Ytghklkfcfaaadag
