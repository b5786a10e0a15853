/- The program's text of a concept: for every concept that is as its kinds ask it lays 'textC' behind what is there. -/
import Derived.Test.YtnmljalcndfjmaaGreatNG5
import Derived.Test.YtnmljalcndfjmaaGreatNG6
import Derived.Test.YtnmljalcndfjmaaGreatNG8
namespace Go.Proofs.YtnmljalcndfjmaaGreat
open Go.RowKit

set_option maxHeartbeats 400000 in
theorem conWord_any (k : Int) (w : World) : Calls Tryz.prog 144 #[.int .i64 k] w fun e w' => e = .returned (.string (wordB k)) ∧ w' = w := by
  go_enter Tryz.func144, Tryz.ntmps144
  go_wp2
  all_goals
    go_ret
    refine ⟨?_, rfl⟩
    simp_all [wordB]

set_option maxRecDepth 100000 in
set_option maxHeartbeats 4000000 in
theorem addC_of {d : Nat} (H : SayC 91 d) : SayC 91 (d + 1) := by
  intro v c bv xs w base lo hi h hhi hbase hwf hO hlen
  obtain ⟨na, nn, nc, ra, rn, rc, ka, kn, kc, rfl, hn, hr, hk⟩ := h
  rw [wfC_eq, Bool.and_eq_true] at hwf
  obtain ⟨⟨hk0, hk7⟩, hname, hrole1, hrole0⟩ := shape_facts hwf.1
  have HWK : Hid (wfL c.kids = true) := hwf.2
  have HTx := textC_eq c
  have HKL : Hid (c.kids.length = kn) := hk.len
  have hkf := hk.fits
  have hnf := hn.fits
  have hrf := hr.fits
  have hnl := hn.len
  have hrl := hr.len
  obtain ⟨k, hkd⟩ : ∃ k, k = c.kind := ⟨_, rfl⟩
  rw [← hkd] at hk0 hk7 hname hrole1 hrole0 HTx ⊢
  rw [hk.len] at HTx
  obtain ⟨i0, hi0, hz0, hz1, hz2⟩ := info_parts Tryz.info5
  have hb0 : Below w.heap.size w (w.alloc (.cells #[.int .i64 k, .slice na nn nc, .slice ra rn rc, .slice ka kn kc] 30)) := (Below.refl _ _).alloc (Nat.le_refl _) _
  have HK0 : Hid (Keep5 base w (w.alloc (.cells #[.int .i64 k, .slice na nn nc, .slice ra rn rc, .slice ka kn kc] 30))) := Keep5.of_below hb0 hbase
  have HBx0 : Hid (BoxC (w.alloc (.cells #[.int .i64 k, .slice na nn nc, .slice ra rn rc, .slice ka kn kc] 30)) w.heap.size (.int .i64 k) (.slice na nn nc) (.slice ra rn rc) (.slice ka kn kc)) := BoxC.new w _ _ _ _
  have HO0 : Hid (OwnB base (w.alloc (.cells #[.int .i64 k, .slice na nn nc, .slice ra rn rc, .slice ka kn kc] 30)) bv xs) := hO.below hb0 (Nat.le_refl _)
  have HN : Hid (Rd lo hi w na nn nc c.name) := hn
  have HR : Hid (Rd lo hi w ra rn rc c.role) := hr
  have HKs : Hid (RdL (RdC lo hi w d) lo hi w ka kn kc c.kids) := hk
  have hsz0 : base ≤ (w.alloc (.cells #[.int .i64 k, .slice na nn nc, .slice ra rn rc, .slice ka kn kc] 30)).heap.size := by simp; omega
  have HSz0 : Hid (base ≤ (w.alloc (.cells #[.int .i64 k, .slice na nn nc, .slice ra rn rc, .slice ka kn kc] 30)).heap.size) := hsz0
  clear hk hwf hO hkd hsz0
  by_cases k2 : k = 2
  · subst k2
    rw [if_pos rfl] at HTx
    have HTT : Hid (textC c = c.name) := HTx
    obtain ⟨hn1, _⟩ := hname rfl
    rw [hnl] at hn1
    have hln : c.name.length = nn := hnl
    rw [HTx, hnl] at hlen
    have hNA := hn.below hb0 (Nat.le_trans hhi hbase)
    rcases hNA.cells with hz | ⟨b', off', hna, _, _, _⟩
    · omega
    · subst hna
      have HNews : Hid (∀ j u, (c.name.map (Value.int .u8))[j]? = some u → (w.alloc (.cells #[.int .i64 2, .slice (some ⟨b', off', none⟩) nn nc, .slice ra rn rc, .slice ka kn kc] 30)).cell? ((⟨b', off', none⟩ : Addr).add j) = some u) := rd_news hNA
      have hlx : (c.name.map (Value.int .u8)).length = nn * 1 := by simp [hnl]
      obtain ⟨ys, hys⟩ : ∃ ys, ys = c.name := ⟨_, rfl⟩
      rw [← hys] at HNews hlx hnl HTT
      subst hnl
      clear hNA hn hr hb0 hname hrole1 hrole0 HTx hys hln
      go_enter Tryz.func91, Tryz.ntmps91
      go_wp2_with (first | (at_builtin; refine wpList_append_own _ rfl (.tmp 10) (.tmp 12) 22 rfl base 5 i0 (.int .u8 0) 1 1 Tryz.underlying22 hi0 hz0 hz1 hz2 rfl (by decide) bv xs.length (xs.map (Value.int .u8)) rfl HO0.out ⟨b', off', none⟩ ys.length nc (ys.map (Value.int .u8)) rfl hlx HNews.out (oneCB _) (by unfold maxLen; omega) (by omega) HSz0.out ?_; intro v' w2 hown' hgrow hnil; have HF : Hid (OwnB base w2 v' (xs ++ ys) ∧ Keep5 base _ w2) := ownB_app HO0.out HSz0.out hown' hgrow; clear hown' hgrow hnil))
      go_ret
      exact ⟨_, rfl, by rw [HTT.out]; exact HF.out.1, HK0.out.trans HF.out.2⟩
  · rw [if_neg k2] at HTx
    have hk2 : (k == 2) = false := by simpa using k2
    have hwl := wordOf_len k
    have hwx : xs.length + 4 ≤ 1073741900 := by omega
    have HWB : Hid ((wordB k).size ≤ 4) := by unfold Hid; rw [wordB_size]; exact wordOf_len _
    clear hname hn hr hb0
    go_enter Tryz.func91, Tryz.ntmps91
    go_upto_if 22 with (first | (go_at_call 144; refine (conWord_any _ _).mono ?_; rintro e w' ⟨rfl, hw⟩; rw [hw]; clear hw) | (at_builtin; refine Lib.wpList_append_own_string _ rfl (.tmp 14) (.tmp 17) 22 9 rfl base 5 i0 Tryz.underlying22 Tryz.underlying9 hi0 hz0 hz1 hz2 bv xs.length (xs.map (Value.int .u8)) rfl HO0.out (wordB k) rfl (by have := HWB.out; unfold maxLen; omega) (by have := HWB.out; omega) HSz0.out ?_; intro v1 w1 hown' hgrow hnil; have HF1 : Hid (OwnB base w1 v1 (xs ++ wordOf k) ∧ Keep5 base _ w1) := ownB_str HO0.out HSz0.out hown' hgrow; clear hown' hgrow hnil; have HBx1 : Hid (BoxC w1 w.heap.size (.int .i64 k) (.slice na nn nc) (.slice ra rn rc) (.slice ka kn kc)) := HBx0.out.keep5 HF1.out.2; obtain ⟨b0, b1, b2, b3⟩ := HBx1.out.cells))
    have HKp1 : Hid (Keep5 base w w1) := HK0.out.trans HF1.out.2
    have hs1 : base ≤ w1.heap.size := Nat.le_trans hbase HKp1.out.1.size
    obtain ⟨x1, hx1⟩ : ∃ x1, x1 = xs ++ wordOf k := ⟨_, rfl⟩
    have HX1 : Hid (x1 = xs ++ wordOf k) := hx1
    have hx1l : x1.length ≤ xs.length + 4 := by rw [hx1, List.length_append]; omega
    have HO1 : Hid (OwnB base w1 v1 x1) := by unfold Hid; rw [hx1]; exact HF1.out.1
    clear HF1 hx1
    by_cases hkn : kn = 0
    · subst hkn
      rw [if_pos rfl] at HTx
      have HTT : Hid (xs ++ textC c = x1) := by unfold Hid; rw [HTx, HX1.out]
      go_wp2_with fail
      go_ret
      exact ⟨_, rfl, by rw [HTT.out]; exact HO1.out, HKp1.out⟩
    · rw [if_neg hkn] at HTx
      have hkn1 : ((kn : Int) == 0) = false := by simp; omega
      have HTT : Hid (xs ++ textC c = x1 ++ [40] ++ roleT c.role ++ textJ 0 c.kids ++ [41]) := by unfold Hid; rw [HTx, HX1.out]; simp
      have hTl : x1.length + 1 + (roleT c.role).length + (textJ 0 c.kids).length + 1 ≤ 1073741824 := by
        have := congrArg List.length HTT.out
        simp only [List.length_append, List.length_cons, List.length_nil] at this
        omega
      have HBA : Hid (Below w1.heap.size w1 (w1.alloc (.cells #[.int .u8 40] 5))) := (Below.refl _ _).alloc (Nat.le_refl _) _
      have HOA : Hid (OwnB base (w1.alloc (.cells #[.int .u8 40] 5)) v1 x1) := HO1.out.below HBA.out (Nat.le_refl _)
      have HSA : Hid (base ≤ (w1.alloc (.cells #[.int .u8 40] 5)).heap.size) := Nat.le_trans hs1 HBA.out.size
      obtain ⟨rb', hrb⟩ : ∃ r, r = roleB k := ⟨_, rfl⟩
      have HRb : Hid (rb' = roleB k) := hrb
      clear hrb
      go_upto_if 29 with (first | (go_at_call 143; refine (hasRole_any _ _).mono ?_; rintro e w' ⟨rfl, hw⟩; rw [hw, ← HRb.out]; clear hw) | (at_builtin; refine wpList_append_own _ rfl (.tmp 24) (.tmp 25) 22 rfl base 5 i0 (.int .u8 0) 1 1 Tryz.underlying22 hi0 hz0 hz1 hz2 rfl (by decide) v1 x1.length (x1.map (Value.int .u8)) rfl HOA.out ⟨w1.heap.size, 0, none⟩ 1 1 ([40].map (Value.int .u8)) rfl rfl (new1 _ _ _ rfl) (oneCB _) (by unfold maxLen; omega) (by omega) HSA.out ?_; intro v' w2 hown' hgrow hnil; have HF : Hid (OwnB base w2 v' (x1 ++ [40]) ∧ Keep5 base _ w2) := ownB_app HOA.out HSA.out hown' hgrow; clear hown' hgrow hnil; have HKp2 : Hid (Keep5 base w w2) := (HKp1.out.trans (Keep5.of_below HBA.out hs1)).trans HF.out.2; have HBx2 : Hid (BoxC w2 w.heap.size (.int .i64 k) (.slice na nn nc) (.slice ra rn rc) (.slice ka kn kc)) := (HBx1.out.below HBA.out HBx1.out.lt).keep5 HF.out.2; clear b0 b1 b2 b3; obtain ⟨b0, b1, b2, b3⟩ := HBx2.out.cells))
      obtain ⟨x2, hx2⟩ : ∃ x2, x2 = x1 ++ [40] := ⟨_, rfl⟩
      have HX2 : Hid (x2 = x1 ++ [40]) := hx2
      have hx2l : x2.length = x1.length + 1 := by rw [hx2]; simp
      have HO2 : Hid (OwnB base w2 v' x2) := by unfold Hid; rw [hx2]; exact HF.out.1
      have hs2 : base ≤ w2.heap.size := Nat.le_trans hbase HKp2.out.1.size
      clear HF hx2 HOA HSA HBA HO1 HKp1 HBx1
      go_cut [0] (fun v W => OwnB base W v (x2 ++ roleT c.role) ∧ Keep5 base w W ∧ BoxC W w.heap.size (.int .i64 k) (.slice na nn nc) (.slice ra rn rc) (.slice ka kn kc))
      case first =>
        cases hrb : rb'
        · have HRT : Hid (roleT c.role = []) := by unfold Hid roleT; rw [if_pos (hrole0 (by rw [← HRb.out]; exact hrb))]
          go_wp2_with fail
          go_meet
          case rel => rw [HRT.out, List.append_nil]; exact ⟨HO2.out, HKp2.out, HBx2.out⟩
        · have hr1 := hrole1 (by rw [← HRb.out]; exact hrb)
          have hR2 := HR.out.below HKp2.out.1 hhi
          rcases hR2.cells with hz | ⟨b', off', hra, _, _, _⟩
          · omega
          · subst hra
            have HRT : Hid (roleT c.role = c.role ++ [32]) := by unfold Hid roleT; rw [if_neg (fun e => by rw [e] at hr1; simp at hr1)]
            have HNews : Hid (∀ j u, (c.role.map (Value.int .u8))[j]? = some u → w2.cell? ((⟨b', off', none⟩ : Addr).add j) = some u) := rd_news hR2
            have hlx : (c.role.map (Value.int .u8)).length = rn * 1 := by simp [hrl]
            obtain ⟨ys, hys⟩ : ∃ ys, ys = c.role := ⟨_, rfl⟩
            have HYs : Hid (ys = c.role) := hys
            have hyl : ys.length = rn := by rw [hys]; exact hrl
            have hyb : x2.length + ys.length + 2 ≤ 1073741824 := by
              have e1 := congrArg List.length HRT.out
              simp only [List.length_append, List.length_cons, List.length_nil] at e1
              rw [hys]; omega
            rw [← hys] at HNews hlx
            subst hyl
            clear hR2 hys hrl hr1
            go_wp2_with (first | (at_builtin; refine wpList_append_own _ rfl (.tmp 30) (.tmp 32) 22 rfl base 5 i0 (.int .u8 0) 1 1 Tryz.underlying22 hi0 hz0 hz1 hz2 rfl (by decide) v' x2.length (x2.map (Value.int .u8)) rfl HO2.out ⟨b', off', none⟩ ys.length rc (ys.map (Value.int .u8)) rfl hlx HNews.out (oneCB _) (by unfold maxLen; omega) (by omega) hs2 ?_; intro v3 w3 hown' hgrow hnil; have HF3 : Hid (OwnB base w3 v3 (x2 ++ ys) ∧ Keep5 base w2 w3) := ownB_app HO2.out hs2 hown' hgrow; clear hown' hgrow hnil; obtain ⟨x3, hx3⟩ : ∃ x3, x3 = x2 ++ ys := ⟨_, rfl⟩; have HX3 : Hid (x3 = x2 ++ ys) := hx3; have hx3l : x3.length = x2.length + ys.length := (by rw [hx3]; simp); have hs3 : base ≤ w3.heap.size := Nat.le_trans hs2 HF3.out.2.1.size; have HBA3 : Hid (Below w3.heap.size w3 (w3.alloc (.cells #[.int .u8 32] 5))) := (Below.refl _ _).alloc (Nat.le_refl _) _; have HO3 : Hid (OwnB base (w3.alloc (.cells #[.int .u8 32] 5)) v3 x3) := (by unfold Hid; rw [hx3]; exact HF3.out.1.below HBA3.out (Nat.le_refl _)); have HS3 : Hid (base ≤ (w3.alloc (.cells #[.int .u8 32] 5)).heap.size) := Nat.le_trans hs3 HBA3.out.size; clear hx3) | (at_builtin; refine wpList_append_own _ rfl (.tmp 34) (.tmp 35) 22 rfl base 5 i0 (.int .u8 0) 1 1 Tryz.underlying22 hi0 hz0 hz1 hz2 rfl (by decide) v3 x3.length (x3.map (Value.int .u8)) rfl HO3.out ⟨w3.heap.size, 0, none⟩ 1 1 ([32].map (Value.int .u8)) rfl rfl (new1 _ _ _ rfl) (oneCB _) (by unfold maxLen; omega) (by omega) HS3.out ?_; intro v4 w4 hown' hgrow hnil; have HF4 : Hid (OwnB base w4 v4 (x3 ++ [32]) ∧ Keep5 base _ w4) := ownB_app HO3.out HS3.out hown' hgrow; clear hown' hgrow hnil))
            go_meet
            case rel =>
              rw [HRT.out]
              refine ⟨?_, HKp2.out.trans (HF3.out.2.trans ((Keep5.of_below HBA3.out hs3).trans HF4.out.2)), (HBx2.out.keep5 HF3.out.2).keep5 ((Keep5.of_below HBA3.out hs3).trans HF4.out.2)⟩
              have := HF4.out.1
              rw [HX3.out, HYs.out, List.append_assoc] at this
              exact this
      case rest =>
        obtain ⟨hO5, hKp5, hBx5⟩ := hcut
        clear b0 b1 b2 b3
        obtain ⟨b0, b1, b2, b3⟩ := hBx5.cells
        have HKp5 : Hid (Keep5 base w wc) := hKp5
        obtain ⟨x5, hx5⟩ : ∃ x5, x5 = x2 ++ roleT c.role := ⟨_, rfl⟩
        rw [← hx5] at hO5
        have hx5l : x5.length = x2.length + (roleT c.role).length := by rw [hx5]; simp
        have HTT5 : Hid (xs ++ textC c = x5 ++ textJ 0 c.kids ++ [41]) := by unfold Hid; rw [HTT.out, hx5, HX2.out]
        have HO5 : Hid (OwnB base wc u0 x5) := hO5
        clear hO5 hKp5 hBx5 hx5 HO2 HKp2 HBx2 HTT
        go_wp2_with fail
        go_loopw [0, 40] (fun v i W => ∃ j : Nat, j ≤ kn ∧ i = .int .i64 j ∧ OwnB base W v (x5 ++ textJ 0 (c.kids.take j)) ∧ Keep5 base w W) (fun _ i _ => kn - (intOf i).toNat)
        case atStart => exact ⟨0, Nat.zero_le _, rfl, by simpa [textJ] using HO5.out, HKp5.out⟩
        case round =>
          obtain ⟨j, hj, rfl, hO6, hKp6⟩ := hrel
          have HKp6 : Hid (Keep5 base w wr) := hKp6
          have hs6 : base ≤ wr.heap.size := Nat.le_trans hbase hKp6.1.size
          obtain ⟨x6, hx6⟩ : ∃ x6, x6 = x5 ++ textJ 0 (c.kids.take j) := ⟨_, rfl⟩
          rw [← hx6] at hO6
          have HX6 : Hid (x6 = x5 ++ textJ 0 (c.kids.take j)) := hx6
          have hx6l : x6.length ≤ x5.length + (textJ 0 c.kids).length := by rw [hx6, List.length_append]; have := textJ_take_le c.kids j; omega
          have HO6 : Hid (OwnB base wr u0 x6) := hO6
          clear hO6 hx6
          by_cases hlt : j < kn
          · have hjl : j < c.kids.length := by rw [HKL.out]; exact hlt
            have hji : (j : Int) < (kn : Int) := by omega
            have hT := textJ_take_succ c.kids j hjl
            have hTle := textJ_take_le c.kids (j + 1)
            have HT : Hid (textJ 0 (c.kids.take (j + 1)) = textJ 0 (c.kids.take j) ++ gapT j ++ textC (c.kids.getD j CN.zero)) := hT
            have hx7b : x6.length + (gapT j).length + (textC (c.kids.getD j CN.zero)).length ≤ x5.length + (textJ 0 c.kids).length := by
              have e1 := congrArg List.length hT
              have e2 := congrArg List.length HX6.out
              simp only [List.length_append] at e1 e2
              omega
            have hR := HKs.out.below hKp6.1 hhi
            rcases hR.cells with hz | ⟨b, off, e1, _, _, hc⟩
            · omega
            · subst e1
              obtain ⟨v0, v1', v2, v3, q0, q1, q2, q3, hrd⟩ := hc j hlt
              obtain ⟨yk, yna, ynn, ync, yra, yrn, yrc, yka, ykn, ykc, rfl, rfl, rfl, rfl⟩ := hrd.form4
              have HKid : Hid (RdC lo hi wr d (.agg #[.int .i64 yk, .slice yna ynn ync, .slice yra yrn yrc, .slice yka ykn ykc]) (c.kids.getD j CN.zero)) := hrd
              have HWf : Hid (wfC (c.kids.getD j CN.zero) = true) := wfL_getD _ _ hjl HWK.out
              have hBb : Below wr.heap.size wr (wr.alloc (.cells #[.int .i64 yk, .slice yna ynn ync, .slice yra yrn yrc, .slice yka ykn ykc] 30)) := (Below.refl _ _).alloc (Nat.le_refl _) _
              have HKpb : Hid (Keep5 base wr (wr.alloc (.cells #[.int .i64 yk, .slice yna ynn ync, .slice yra yrn yrc, .slice yka ykn ykc] 30))) := Keep5.of_below hBb hs6
              have HOb : Hid (OwnB base (wr.alloc (.cells #[.int .i64 yk, .slice yna ynn ync, .slice yra yrn yrc, .slice yka ykn ykc] 30)) u0 x6) := HO6.out.below hBb (Nat.le_refl _)
              have HBb : Hid (BoxC (wr.alloc (.cells #[.int .i64 yk, .slice yna ynn ync, .slice yra yrn yrc, .slice yka ykn ykc] 30)) wr.heap.size (.int .i64 yk) (.slice yna ynn ync) (.slice yra yrn yrc) (.slice yka ykn ykc)) := BoxC.new wr _ _ _ _
              have hsb : base ≤ (wr.alloc (.cells #[.int .i64 yk, .slice yna ynn ync, .slice yra yrn yrc, .slice yka ykn ykc] 30)).heap.size := Nat.le_trans hs6 hBb.size
              have HSb : Hid (base ≤ (wr.alloc (.cells #[.int .i64 yk, .slice yna ynn ync, .slice yra yrn yrc, .slice yka ykn ykc] 30)).heap.size) := hsb
              clear hT hTle hR hc hrd hBb hKp6 hsb
              go_upto_if 46 with fail
              go_cut [0] (fun v W => OwnB base W v (x6 ++ gapT j) ∧ Keep5 base wr W ∧ BoxC W wr.heap.size (.int .i64 yk) (.slice yna ynn ync) (.slice yra yrn yrc) (.slice yka ykn ykc))
              case first =>
                by_cases hj0 : 0 < j
                · have HBA : Hid (Below (wr.alloc (.cells #[.int .i64 yk, .slice yna ynn ync, .slice yra yrn yrc, .slice yka ykn ykc] 30)).heap.size (wr.alloc (.cells #[.int .i64 yk, .slice yna ynn ync, .slice yra yrn yrc, .slice yka ykn ykc] 30)) ((wr.alloc (.cells #[.int .i64 yk, .slice yna ynn ync, .slice yra yrn yrc, .slice yka ykn ykc] 30)).alloc (.cells #[.int .u8 32] 5))) := (Below.refl _ _).alloc (Nat.le_refl _) _
                  have HOA : Hid (OwnB base ((wr.alloc (.cells #[.int .i64 yk, .slice yna ynn ync, .slice yra yrn yrc, .slice yka ykn ykc] 30)).alloc (.cells #[.int .u8 32] 5)) u0 x6) := HOb.out.below HBA.out (Nat.le_refl _)
                  have HSA : Hid (base ≤ ((wr.alloc (.cells #[.int .i64 yk, .slice yna ynn ync, .slice yra yrn yrc, .slice yka ykn ykc] 30)).alloc (.cells #[.int .u8 32] 5)).heap.size) := Nat.le_trans HSb.out HBA.out.size
                  go_wp2_with (at_builtin; refine wpList_append_own _ rfl (.tmp 47) (.tmp 48) 22 rfl base 5 i0 (.int .u8 0) 1 1 Tryz.underlying22 hi0 hz0 hz1 hz2 rfl (by decide) u0 x6.length (x6.map (Value.int .u8)) rfl HOA.out ⟨wr.heap.size + 1, 0, none⟩ 1 1 ([32].map (Value.int .u8)) rfl rfl (new1 _ _ _ (by simp)) (oneCB _) (by unfold maxLen; omega) (by omega) HSA.out ?_; intro v7 w7 hown' hgrow hnil; have HF7 : Hid (OwnB base w7 v7 (x6 ++ [32]) ∧ Keep5 base _ w7) := ownB_app HOA.out HSA.out hown' hgrow; clear hown' hgrow hnil)
                  go_meet
                  case rel => rw [gapT_pos hj0]; exact ⟨HF7.out.1, HKpb.out.trans ((Keep5.of_below HBA.out HSb.out).trans HF7.out.2), HBb.out.keep5 ((Keep5.of_below HBA.out HSb.out).trans HF7.out.2)⟩
                · have hj0' : j = 0 := by omega
                  subst hj0'
                  go_wp2_with fail
                  go_meet
                  case rel => rw [gapT_zero, List.append_nil]; exact ⟨HOb.out, HKpb.out, HBb.out⟩
              case rest =>
                obtain ⟨hO7, hKp7, hBx7⟩ := hcut
                obtain ⟨c0, c1, c2, c3⟩ := hBx7.cells
                have HKp7 : Hid (Keep5 base wr wc) := hKp7
                have hs7 : base ≤ wc.heap.size := Nat.le_trans hs6 hKp7.1.size
                obtain ⟨x7, hx7⟩ : ∃ x7, x7 = x6 ++ gapT j := ⟨_, rfl⟩
                rw [← hx7] at hO7
                have hx7l : x7.length = x6.length + (gapT j).length := by rw [hx7]; simp
                have HX7 : Hid (x7 ++ textC (c.kids.getD j CN.zero) = x5 ++ textJ 0 (c.kids.take (j + 1))) := by unfold Hid; rw [HT.out, hx7, HX6.out]; simp
                have HO7 : Hid (OwnB base wc u0 x7) := hO7
                have HKid7 : Hid (RdC lo hi wc d (.agg #[.int .i64 yk, .slice yna ynn ync, .slice yra yrn yrc, .slice yka ykn ykc]) (c.kids.getD j CN.zero)) := HKid.out.below hKp7.1 hhi
                clear hO7 hKp7 hBx7 hx7 HO6 HOb HBb
                go_wp2_with fail
                refine (H (.agg #[.int .i64 yk, .slice yna ynn ync, .slice yra yrn yrc, .slice yka ykn ykc]) (c.kids.getD j CN.zero) u0 x7 wc base lo hi HKid7.out hhi hs7 HWf.out HO7.out (by omega)).mono ?_
                rintro e w8 ⟨v8, rfl, hO8, hKp8⟩
                have HO8 : Hid (OwnB base w8 v8 (x5 ++ textJ 0 (c.kids.take (j + 1)))) := by unfold Hid; rw [← HX7.out]; exact hO8
                have HKp8 : Hid (Keep5 base w w8) := HKp6.out.trans (HKp7.out.trans hKp8)
                clear hO8 hKp8
                go_wp2_with fail
                go_roundw
                case rel => exact ⟨j + 1, by omega, by go_num, HO8.out, HKp8.out⟩
                case measure => simp [intOf]; omega
          · have HE : Hid (xs ++ textC c = x6 ++ [41]) := by unfold Hid; rw [HTT5.out, HX6.out, List.take_of_length_le (by rw [HKL.out]; omega)]
            have HBA : Hid (Below wr.heap.size wr (wr.alloc (.cells #[.int .u8 41] 5))) := (Below.refl _ _).alloc (Nat.le_refl _) _
            have HOA : Hid (OwnB base (wr.alloc (.cells #[.int .u8 41] 5)) u0 x6) := HO6.out.below HBA.out (Nat.le_refl _)
            have HSA : Hid (base ≤ (wr.alloc (.cells #[.int .u8 41] 5)).heap.size) := Nat.le_trans hs6 HBA.out.size
            clear hKp6
            go_wp2_with (at_builtin; refine wpList_append_own _ rfl (.tmp 54) (.tmp 55) 22 rfl base 5 i0 (.int .u8 0) 1 1 Tryz.underlying22 hi0 hz0 hz1 hz2 rfl (by decide) u0 x6.length (x6.map (Value.int .u8)) rfl HOA.out ⟨wr.heap.size, 0, none⟩ 1 1 ([41].map (Value.int .u8)) rfl rfl (new1 _ _ _ rfl) (oneCB _) (by unfold maxLen; omega) (by omega) HSA.out ?_; intro v9 w9 hown' hgrow hnil; have HF9 : Hid (OwnB base w9 v9 (x6 ++ [41]) ∧ Keep5 base _ w9) := ownB_app HOA.out HSA.out hown' hgrow; clear hown' hgrow hnil)
            go_ret
            exact ⟨_, rfl, by rw [HE.out]; exact HF9.out.1, HKp6.out.trans ((Keep5.of_below HBA.out hs6).trans HF9.out.2)⟩

theorem addC_any : ∀ d, SayC 91 d
  | 0 => fun _ _ _ _ _ _ _ _ h => h.elim
  | d + 1 => addC_of (addC_any d)

end Go.Proofs.YtnmljalcndfjmaaGreat
