/- The program's text of tokens: for every list of tokens it answers what 'tokText' says, in memory of its own. -/
import Derived.Test.YthojlfcahhjfaaaTTSpec
import Derived.Lib.SlBytesConst
namespace Go.Proofs.Ythojlfcahhjfaaa
open Go.RowKit

theorem rd_lit (w : World) (g : Nat) (c : Int) (hc : 0 ≤ c ∧ c ≤ 255) (hg : g = w.heap.size) {l h : Nat} (h1 : l ≤ g) (h2 : g < h) : Rd l h (w.alloc (.cells #[.int .u8 c] 5 (1, 2))) (some ⟨g, 0, none⟩) 1 1 [c] := by
  subst hg
  refine ⟨rfl, by omega, fun i => ?_, .inr ⟨_, _, rfl, h1, h2, fun i hi => ?_⟩⟩
  · match i with
    | 0 => exact hc
    | i + 1 => simp
  · have e : i = 0 := by omega
    subst e
    have hb : (w.alloc (.cells #[.int .u8 c] 5 (1, 2))).heap[w.heap.size]? = some (.cells #[.int .u8 c] 5 (1, 2)) := by
      show (w.heap.push _)[w.heap.size]? = _
      simp
    unfold World.cell?
    simp only []
    rw [hb]
    rfl

/-- What the piece is, and where it lies: the token's own text, or a row that was made for it. -/
def PieceAt (lo hi : Nat) (w w' : World) (v : Value) (ps : List Int) : Prop :=
  ∃ a m c l h, v = .slice a m c ∧ Rd l h w' a m c ps ∧ ((l = lo ∧ h = hi) ∨ (l = w.heap.size ∧ h = w'.heap.size)) ∧ Below w.heap.size w w'

set_option maxHeartbeats 1000000 in
theorem tokenPiece_any (k p : Int) (a : Option Addr) (n cap : Nat) (xs : List Int) (w : World) {lo hi : Nat} (h : Rd lo hi w a n cap xs) (hhi : hi ≤ w.heap.size) :
    Calls Try.prog 50 #[.agg #[.int .i64 k, .int .i64 p, .slice a n cap]] w fun e w' => ∃ v, e = .returned v ∧ PieceAt lo hi w w' v (tokPiece ⟨k, p, xs⟩) := by
  have H : Hid (Rd lo hi w a n cap xs) := h
  have HB : Hid (Below w.heap.size w (w.alloc (.cells #[.int .i64 k, .int .i64 p, .slice a n cap] 30))) := (Below.refl _ _).alloc (Nat.le_refl _) _
  have HA : Hid (Rd lo hi (w.alloc (.cells #[.int .i64 k, .int .i64 p, .slice a n cap] 30)) a n cap xs) := h.below HB.out hhi
  have htl : xs.length = n := h.len
  have hfit := h.fits
  have HNil : Hid (∀ W : World, Below w.heap.size w W → PieceAt lo hi w W (.slice none 0 0) []) := fun W hW => ⟨_, _, _, _, _, rfl, Rd.none_of (by omega), .inr ⟨rfl, rfl⟩, hW⟩
  clear h
  by_cases h1 : k = 1
  · subst h1
    cases hu : upOk xs
    · have HP : Hid (tokPiece ⟨1, p, xs⟩ = []) := by simp [Hid, tokPiece, hu]
      go_enter Try.func50, Try.ntmps50
      go_wp2_with (go_at_call 15; refine (implUpperOk_any _ _ _ xs _ HA.out).mono ?_; rintro e w3 ⟨rfl, hw3⟩; rw [hu, hw3]; clear hw3)
      go_ret
      exact ⟨_, rfl, by rw [HP.out]; exact HNil.out _ HB.out⟩
    · have HP : Hid (tokPiece ⟨1, p, xs⟩ = xs) := by simp [Hid, tokPiece, hu]
      go_enter Try.func50, Try.ntmps50
      go_wp2_with (go_at_call 15; refine (implUpperOk_any _ _ _ xs _ HA.out).mono ?_; rintro e w3 ⟨rfl, hw3⟩; rw [hu, hw3]; clear hw3)
      go_ret
      exact ⟨_, rfl, by rw [HP.out]; exact ⟨_, _, _, _, _, rfl, HA.out, .inl ⟨rfl, rfl⟩, HB.out⟩⟩
  · by_cases h2 : k = 2
    · subst h2
      cases hu : lowOk xs
      · have HP : Hid (tokPiece ⟨2, p, xs⟩ = []) := by simp [Hid, tokPiece, hu]
        go_enter Try.func50, Try.ntmps50
        go_wp2_with (go_at_call 16; refine (implLowerOk_any _ _ _ xs _ HA.out).mono ?_; rintro e w3 ⟨rfl, hw3⟩; rw [hu, hw3]; clear hw3)
        go_ret
        exact ⟨_, rfl, by rw [HP.out]; exact HNil.out _ HB.out⟩
      · have HP : Hid (tokPiece ⟨2, p, xs⟩ = xs) := by simp [Hid, tokPiece, hu]
        go_enter Try.func50, Try.ntmps50
        go_wp2_with (go_at_call 16; refine (implLowerOk_any _ _ _ xs _ HA.out).mono ?_; rintro e w3 ⟨rfl, hw3⟩; rw [hu, hw3]; clear hw3)
        go_ret
        exact ⟨_, rfl, by rw [HP.out]; exact ⟨_, _, _, _, _, rfl, HA.out, .inl ⟨rfl, rfl⟩, HB.out⟩⟩
    · by_cases h3 : k = 3
      · subst h3
        by_cases h0 : n = 0
        · subst h0
          have hx : xs = [] := List.eq_nil_of_length_eq_zero htl
          have HP : Hid (tokPiece ⟨3, p, xs⟩ = [40]) := by simp [Hid, tokPiece, hx]
          clear hx htl
          have kc := Lib.run_convert_bytes_const (P := Try.prog) (w.alloc (.cells #[.int .i64 3, .int .i64 p, .slice a 0 cap] 30)) 22 5 #[.int .u8 40] 1 1 Try.underlying22 Try.underlying5
          simp only [World.size_alloc] at kc
          go_enter Try.func50, Try.ntmps50
          go_wp2
          go_ret
          exact ⟨_, rfl, by rw [HP.out]; exact ⟨_, _, _, _, _, rfl, rd_lit _ _ 40 (by omega) (by simp) (by omega) (by simp), .inr ⟨rfl, rfl⟩, HB.out.alloc (by simp) _⟩⟩
        · have HP : Hid (tokPiece ⟨3, p, xs⟩ = []) := by unfold Hid tokPiece; rw [if_pos rfl, if_neg]; intro e; simp only at e; rw [e] at htl; exact h0 htl.symm
          have hz : ((n : Int) == 0) = false := by simp; omega
          go_enter Try.func50, Try.ntmps50
          go_wp2
          go_ret
          exact ⟨_, rfl, by rw [HP.out]; exact HNil.out _ HB.out⟩
      · by_cases h4 : k = 4
        · subst h4
          by_cases h0 : n = 0
          · subst h0
            have hx : xs = [] := List.eq_nil_of_length_eq_zero htl
            have HP : Hid (tokPiece ⟨4, p, xs⟩ = [41]) := by simp [Hid, tokPiece, hx]
            clear hx htl
            have kc := Lib.run_convert_bytes_const (P := Try.prog) (w.alloc (.cells #[.int .i64 4, .int .i64 p, .slice a 0 cap] 30)) 22 5 #[.int .u8 41] 1 1 Try.underlying22 Try.underlying5
            simp only [World.size_alloc] at kc
            go_enter Try.func50, Try.ntmps50
            go_wp2
            go_ret
            exact ⟨_, rfl, by rw [HP.out]; exact ⟨_, _, _, _, _, rfl, rd_lit _ _ 41 (by omega) (by simp) (by omega) (by simp), .inr ⟨rfl, rfl⟩, HB.out.alloc (by simp) _⟩⟩
          · have HP : Hid (tokPiece ⟨4, p, xs⟩ = []) := by unfold Hid tokPiece; rw [if_neg (show ¬ ((4 : Int) = 3) by decide), if_pos rfl, if_neg]; intro e; simp only at e; rw [e] at htl; exact h0 htl.symm
            have hz : ((n : Int) == 0) = false := by simp; omega
            go_enter Try.func50, Try.ntmps50
            go_wp2
            go_ret
            exact ⟨_, rfl, by rw [HP.out]; exact HNil.out _ HB.out⟩
        · have HP : Hid (tokPiece ⟨k, p, xs⟩ = []) := by simp [Hid, tokPiece, h1, h2, h3, h4]
          have e1 : (k == 1) = false := by simpa using h1
          have e2 : (k == 2) = false := by simpa using h2
          have e3 : (k == 3) = false := by simpa using h3
          have e4 : (k == 4) = false := by simpa using h4
          go_enter Try.func50, Try.ntmps50
          go_wp2
          go_ret
          exact ⟨_, rfl, by rw [HP.out]; exact HNil.out _ HB.out⟩

theorem same_grown {W0 W w2 : World} {v : Value} {zs : List Int} {base l h : Nat} (hO : OwnB base W0 v zs) (hgrow : W.grownBy w2 v.ownBlock) (hh : h ≤ W.heap.size) (hsep : ∀ g, base ≤ g → g < W0.heap.size → g < l ∨ h ≤ g) : Same l h W w2 := by
  intro x h1 h2
  refine hgrow.block x (by omega) (fun e => ?_)
  rcases hO.2 with ⟨rfl, _⟩ | ⟨g', cap, cur, rfl, hg, hh', _⟩
  · simp [Value.ownBlock] at e
  · simp [Value.ownBlock] at e
    have := hsep g' hg (Array.getElem?_eq_some_iff.1 hh').1
    omega

set_option maxRecDepth 100000 in
set_option maxHeartbeats 2000000 in
theorem implTokenText_any (a : Option Addr) (n cap : Nat) (ts : List Tok) (w : World) {lo hi : Nat} (h : RdT lo hi w a n cap ts) (hhi : hi ≤ w.heap.size) :
    Calls Try.prog 13 #[.slice a n cap] w fun e w' => ∃ v, e = .returned v ∧ OwnB w.heap.size w' v (tokText ts) ∧ Below w.heap.size w w' := by
  have H : Hid (RdT lo hi w a n cap ts) := h
  obtain ⟨hl, ⟨hm, hM⟩, hcs⟩ := h
  clear hcs
  by_cases hbig : 1500 < n
  · have HT : Hid (tokText ts = []) := by unfold Hid tokText; rw [if_pos (by omega)]
    clear hl
    go_enter Try.func13, Try.ntmps13
    go_wp2
    go_ret
    exact ⟨_, rfl, by rw [HT.out]; exact OwnB.nil _ _, Below.refl _ _⟩
  · have HL : Hid (ts.length = n) := hl
    clear hl
    obtain ⟨i0, hi0, hz0, hz1, hz2⟩ := info_parts Try.info5
    go_enter Try.func13, Try.ntmps13
    go_wp2
    go_loopw [3, 12] (fun v i wr => ∃ k : Nat, k ≤ n ∧ i = .int .i64 k ∧ OwnB w.heap.size wr v (txtTo ts k) ∧ okTo ts k = true ∧ Below w.heap.size w wr) (fun _ i _ => n - (intOf i).toNat)
    case atStart => exact ⟨0, Nat.zero_le _, rfl, OwnB.nil _ _, rfl, Below.refl _ _⟩
    case round =>
      obtain ⟨k, hk, rfl, hown, hok, hbel⟩ := hrel
      have HO : Hid (OwnB w.heap.size wr u3 (txtTo ts k)) := hown
      have HK : Hid (okTo ts k = true) := hok
      have HB : Hid (Below w.heap.size w wr) := hbel
      by_cases hlt : k < n
      · have hki : (k : Int) < (n : Int) := by omega
        have hlen := txtTo_len ts k
        have hR := H.out.same (Same.of_below hbel hhi)
        rcases hR.cells with h0 | ⟨b, off, e1, _, hbh, hc⟩
        · omega
        · subst e1
          obtain ⟨ta, tn, tc, c1, c2, c3, c4⟩ := hc k hlt
          obtain ⟨t, ht⟩ : ∃ t, t = ts.getD k Tok.zero := ⟨_, rfl⟩
          have HT : Hid (t = ts.getD k Tok.zero) := ht
          rw [← ht] at c1 c2 c4
          obtain ⟨tk, tp, tx⟩ := t
          have C4 : Hid (Rd lo hi wr ta tn tc tx) := c4
          have hszw := hbel.size
          have HHi : Hid (hi ≤ wr.heap.size) := Nat.le_trans hhi hszw
          have HBt : Hid (Below wr.heap.size wr (wr.alloc (.cells #[.int .i64 tk, .int .i64 tp, .slice ta tn tc] 30))) := (Below.refl _ _).alloc (Nat.le_refl _) _
          obtain ⟨ps, hps⟩ : ∃ ps, ps = tokPiece ⟨tk, tp, tx⟩ := ⟨_, rfl⟩
          have HPs : Hid (ps = tokPiece ⟨tk, tp, tx⟩) := hps
          have hpl : ps.length ≤ 6 := by rw [hps]; exact tokPiece_len _
          clear hown hok hbel hR hc ht c4 hps
          go_wp2_with fail
          refine (tokenPiece_any tk tp ta tn tc tx _ (C4.out.below HBt.out HHi.out) (Nat.le_trans HHi.out HBt.out.size)).mono ?_
          rintro e w1 ⟨v1, rfl, pa, pm, pc, l, h, rfl, hrd, hlh, hb1⟩
          rw [← HPs.out] at hrd
          have HRd : Hid (Rd l h w1 pa pm pc ps) := hrd
          have hpm := hrd.len
          have HB1 : Hid (Below wr.heap.size wr w1) := HBt.out.trans (hb1.mono HBt.out.size)
          have hs1 := hb1.size
          simp only [World.size_alloc] at hs1 hlh
          have HO1 : Hid (OwnB w.heap.size w1 u3 (txtTo ts k)) := HO.out.below HB1.out (Nat.le_refl _)
          have HBw : Hid (Below w.heap.size w w1) := HB.out.trans (HB1.out.mono hszw)
          have HSep : Hid ((∀ g, w.heap.size ≤ g → g < wr.heap.size → g < l ∨ h ≤ g) ∧ h ≤ w1.heap.size) := by
            have := HHi.out
            refine ⟨fun g h1 h2 => ?_, ?_⟩ <;> omega
          clear hrd hb1 hlh
          by_cases hp0 : pm = 0
          · have hx : Hid (tokText ts = []) := tokText_bad (by rw [HL.out]; exact hlt) (by rw [← HT.out, ← HPs.out]; exact List.eq_nil_of_length_eq_zero (by omega))
            subst hp0
            go_wp2
            go_ret
            exact ⟨_, rfl, by rw [hx.out]; exact OwnB.nil _ _, HBw.out⟩
          · have hz : ((pm : Int) == 0) = false := by simp; omega
            have HK1 : Hid (okTo ts (k + 1) = true) := by
              unfold Hid
              rw [okTo_succ, HK.out, ← HT.out, ← HPs.out]
              cases ps with
              | nil => simp at hpm; omega
              | cons _ _ => rfl
            have HN : Hid (txtTo ts (k + 1) = (txtTo ts k ++ gapT k) ++ ps) := by unfold Hid; rw [txtTo, ← HT.out, ← HPs.out]
            rcases HRd.out.cells with h0 | ⟨b', off', hpa, _, _, _⟩
            · exact absurd h0 hp0
            · subst hpa
              have hlx : (ps.map (Value.int .u8)).length = pm * 1 := by simp [hpm]
              by_cases hk0 : 0 < k
              · have HOA : Hid (OwnB w.heap.size (w1.alloc (.cells #[.int .u8 32] 5)) u3 (txtTo ts k)) := HO1.out.below ((Below.refl _ _).alloc (Nat.le_refl _) _) (Nat.le_refl _)
                have HBA : Hid (Below w.heap.size w (w1.alloc (.cells #[.int .u8 32] 5))) := HBw.out.alloc HBw.out.size _
                have HRA : Hid (Rd l h (w1.alloc (.cells #[.int .u8 32] 5)) (some ⟨b', off', none⟩) pm pc ps) := HRd.out.below ((Below.refl _ _).alloc (Nat.le_refl _) _) HSep.out.2
                obtain ⟨pre, hpre⟩ : ∃ pre, pre = txtTo ts k ++ [32] := ⟨_, rfl⟩
                have hplen : pre.length ≤ 10501 := by rw [hpre, List.length_append]; simp; omega
                have HPre : Hid (pre = txtTo ts k ++ [32]) := hpre
                clear hpre
                subst hpm
                go_wp2_with (first | (at_builtin; refine wpList_append_own _ rfl (.tmp 24) (.tmp 25) 22 rfl w.heap.size 5 i0 (.int .u8 0) 1 1 Try.underlying22 hi0 hz0 hz1 hz2 rfl (by decide) u3 (txtTo ts k).length ((txtTo ts k).map (Value.int .u8)) rfl HOA.out ⟨w1.heap.size, 0, none⟩ 1 1 ([32].map (Value.int .u8)) rfl rfl (new1 _ _ _ rfl) (oneCB _) (by unfold maxLen; omega) (by omega) HBA.out.size ?_; intro v2 w2 hown' hgrow hnil; have HF : Hid (OwnB w.heap.size w2 v2 pre ∧ Below w.heap.size w w2) := (by unfold Hid; rw [HPre.out]; exact ownB_step HOA.out HBA.out hown' hgrow); have HR2 : Hid (Rd l h w2 (some ⟨b', off', none⟩) ps.length pc ps) := HRA.out.same (same_grown HO.out hgrow (Nat.le_trans HSep.out.2 (by simp)) HSep.out.1); clear hown' hgrow hnil) | (at_builtin; refine wpList_append_own _ rfl (.tmp 27) (.tmp 28) 22 rfl w.heap.size 5 i0 (.int .u8 0) 1 1 Try.underlying22 hi0 hz0 hz1 hz2 rfl (by decide) v2 pre.length (pre.map (Value.int .u8)) rfl HF.out.1 ⟨b', off', none⟩ ps.length pc (ps.map (Value.int .u8)) rfl hlx (rd_news HR2.out) (oneCB _) (by unfold maxLen; omega) (by omega) HF.out.2.size ?_; intro v3 w3 hown' hgrow hnil; have HF3 : Hid (OwnB w.heap.size w3 v3 (pre ++ ps) ∧ Below w.heap.size w w3) := ownB_step HF.out.1 HF.out.2 hown' hgrow; clear hown' hgrow hnil))
                go_roundw
                case rel => exact ⟨k + 1, by omega, by go_num, by rw [HN.out, gapT_pos hk0, ← HPre.out]; exact HF3.out.1, HK1.out, HF3.out.2⟩
                case measure => simp [intOf]; omega
              · have hk0' : k = 0 := by omega
                subst hk0'
                subst hpm
                go_wp2_with (at_builtin; refine wpList_append_own _ rfl (.tmp 27) (.tmp 28) 22 rfl w.heap.size 5 i0 (.int .u8 0) 1 1 Try.underlying22 hi0 hz0 hz1 hz2 rfl (by decide) u3 (txtTo ts 0).length ((txtTo ts 0).map (Value.int .u8)) rfl HO1.out ⟨b', off', none⟩ ps.length pc (ps.map (Value.int .u8)) rfl hlx (rd_news HRd.out) (oneCB _) (by unfold maxLen; omega) (by omega) HBw.out.size ?_; intro v3 w3 hown' hgrow hnil; have HF3 : Hid (OwnB w.heap.size w3 v3 ((txtTo ts 0) ++ ps) ∧ Below w.heap.size w w3) := ownB_step HO1.out HBw.out hown' hgrow; clear hown' hgrow hnil)
                go_roundw
                case rel => exact ⟨1, by omega, by go_num, by rw [HN.out, gapT_zero, List.append_nil]; exact HF3.out.1, HK1.out, HF3.out.2⟩
                case measure => simp [intOf]; omega
      · have hkn : k = n := by omega
        subst hkn
        have HT : Hid (tokText ts = txtTo ts k) := by
          have e := tokText_good (ts := ts) (by rw [HL.out]; omega) (by rw [HL.out]; exact HK.out)
          rw [HL.out] at e; exact e
        clear hown hok hbel
        go_wp2
        go_ret
        exact ⟨_, rfl, by rw [HT.out]; exact HO.out, HB.out⟩

end Go.Proofs.Ythojlfcahhjfaaa
