/- impl.wordsFit: a contract. -/
import Derived.Test.YtfbokljbmihlbaaGreatWdSpec
namespace Go.Proofs.YtfbokljbmihlbaaGreat
open Go.RowKit

theorem cmp_lt (xs ys : List Int) : decide (0 ≤ cmpZ xs ys) = !(ltB xs ys) := by
  unfold cmpZ ltB
  rw [← less_cmp]
  cases Op.bytesLess (strOfNums xs).toList (strOfNums ys).toList
  · cases Op.bytesLess (strOfNums ys).toList (strOfNums xs).toList <;> rfl
  · rfl

set_option maxRecDepth 100000 in
set_option maxHeartbeats 8000000 in
theorem wordsFitU_any (a : Option Addr) (n cap m : Nat) (xs : List (List Int)) (w : World) {lo hi : Nat} (h : RSS lo hi w a n cap xs) :
    Calls Tryz.prog 87 #[.slice a n cap, .int .i64 m, .func (.func 88) #[] #[]] w fun e w' => e = .returned (.bool (decide (n ≤ m) && namesB true xs)) ∧ w' = w := by
  have HR : Hid (RSS lo hi w a n cap xs) := h
  have HL : Hid (xs.length = n) := h.len
  have hf := h.fits
  clear h
  by_cases hm : m < n
  · have HG : Hid (decide (n ≤ m) = false) := decide_eq_false (by omega)
    have hg0 : (m : Int) < (n : Int) := by omega
    go_enter Tryz.func87, Tryz.ntmps87
    go_wp2_with fail
    go_ret
    exact ⟨rb (by rw [HG.out]; rfl), rfl⟩
  · have HNM : Hid (decide (n ≤ m) = true) := decide_eq_true (by omega)
    have hg0 : decide ((m : Int) < (n : Int)) = false := by simp; omega
    have hg1 : decide (m < n) = false := by simp; omega
    go_enter Tryz.func87, Tryz.ntmps87
    go_upto_region 4 with fail
    clear hg0 hg1 hm
    go_loopw [15] (fun i wr => ∃ k : Nat, k ≤ n ∧ i = .int .i64 k ∧ (List.range k).all (nameAt true xs) = true ∧ wr = w) (fun i _ => n - (intOf i).toNat)
    case atStart => exact ⟨0, Nat.zero_le _, rfl, by simp, rfl⟩
    case round =>
      obtain ⟨k, hk, rfl, hall, rfl⟩ := hrel
      have HAll : Hid ((List.range k).all (nameAt true xs) = true) := hall
      clear hall
      by_cases hlt : k < n
      · rcases HR.out.cells with hz | ⟨b, off, e1, _, _, hc⟩
        · omega
        · subst e1
          obtain ⟨v, c0, ea, en, ec, rfl, hr⟩ := hc k hlt
          have HE : Hid (Rd lo hi wr ea en ec (xs.getD k [])) := hr
          have hki : (k : Int) < (n : Int) := by omega
          have HNm : Hid (nameAt true xs k = (wordOkB true (xs.getD k []) && (decide (k = 0) || ltB (xs.getD (k - 1) []) (xs.getD k [])))) := rfl
          have HSt : Hid (nameAt true xs k = true → (List.range (k + 1)).all (nameAt true xs) = true) := fun h1 => by rw [range_all_succ, HAll.out, h1]; rfl
          have HFa : Hid (nameAt true xs k = false → namesB true xs = false) := fun h1 => range_all_false (by rw [HL.out]; exact hlt) h1
          cases hok : upOk (xs.getD k [])
          · have HOk : Hid (upOk (xs.getD k []) = false) := hok
            clear hc hr hok
            have HG : Hid (namesB true xs = false) := HFa.out (by rw [HNm.out, show wordOkB true (xs.getD k []) = false from HOk.out]; rfl)
            go_wp2_with (first | (go_at_call 88; refine (implUpperOk_any ea en ec (xs.getD k []) _ HE.out).mono ?_; rintro e w5 ⟨rfl, hw5⟩; rw [hw5, HOk.out]; clear hw5))
            go_ret
            exact ⟨rb (by rw [HG.out, Bool.and_false]), rfl⟩
          · have HOk : Hid (upOk (xs.getD k []) = true) := hok
            clear hok
            by_cases hk0 : k = 0
            · have hd0 : decide (0 < k) = false := by simp; omega
              have HK0 : Hid (k = 0) := hk0
              clear hc hr hk0
              have HG : Hid (nameAt true xs k = true) := by rw [Hid, HNm.out, show wordOkB true (xs.getD k []) = true from HOk.out, decide_eq_true HK0.out]; rfl
              go_wp2_with (first | (go_at_call 88; refine (implUpperOk_any ea en ec (xs.getD k []) _ HE.out).mono ?_; rintro e w5 ⟨rfl, hw5⟩; rw [hw5, HOk.out]; clear hw5))
              go_roundw
              case rel => exact ⟨k + 1, by omega, by go_num, HSt.out HG.out, by first | rfl | trivial⟩
              case measure => simp [intOf]; omega
            · obtain ⟨j, HJ⟩ : ∃ j, Hid (k = j + 1) := ⟨k - 1, by unfold Hid; omega⟩
              obtain ⟨v', c1, pa, pn, pc, rfl, hr1⟩ := hc j (by have := HJ.out; omega)
              have HE1 : Hid (Rd lo hi wr pa pn pc (xs.getD j [])) := hr1
              have hd0 : decide (0 < k) = true := by simp; omega
              have hd1 : 0 < k := by omega
              have hj1 : (k : Int) - 1 = (j : Int) := by have := HJ.out; omega
              have hj2 : (j : Int) < (n : Int) := by have := HJ.out; omega
              obtain ⟨cv, hcv⟩ : ∃ cv, cmpZ (xs.getD j []) (xs.getD k []) = cv := ⟨_, rfl⟩
              have HCv : Hid (cmpZ (xs.getD j []) (xs.getD k []) = cv) := hcv
              have HLt : Hid (decide (0 ≤ cv) = !(ltB (xs.getD j []) (xs.getD k []))) := by unfold Hid; rw [← hcv]; exact cmp_lt _ _
              clear hc hr hr1 hk0 hcv
              by_cases h0 : 0 ≤ cv
              · have hd2 : decide (0 ≤ cv) = true := decide_eq_true h0
                have HX : Hid (ltB (xs.getD j []) (xs.getD k []) = false) := by
                  have := HLt.out
                  rw [hd2] at this
                  unfold Hid
                  cases e : ltB (xs.getD j []) (xs.getD k [])
                  · rfl
                  · rw [e] at this; exact absurd this (by simp)
                have HG : Hid (namesB true xs = false) := HFa.out (by rw [HNm.out, show k - 1 = j from by have := HJ.out; omega, HX.out, Bool.or_false, decide_eq_false (by omega), Bool.and_false])
                go_wp2_with (first | (go_at_call 88; refine (implUpperOk_any ea en ec (xs.getD k []) _ HE.out).mono ?_; rintro e w5 ⟨rfl, hw5⟩; rw [hw5, HOk.out]; clear hw5) | (go_at_call 107; refine (bytesCompare_any HE1.out HE.out).mono ?_; rintro e w6 ⟨rfl, hw6⟩; rw [hw6, HCv.out]; clear hw6))
                go_ret
                exact ⟨rb (by rw [HG.out, Bool.and_false]), rfl⟩
              · have hd2 : decide (0 ≤ cv) = false := decide_eq_false h0
                have HX : Hid (ltB (xs.getD j []) (xs.getD k []) = true) := by
                  have := HLt.out
                  rw [hd2] at this
                  unfold Hid
                  cases e : ltB (xs.getD j []) (xs.getD k [])
                  · rw [e] at this; exact absurd this (by simp)
                  · rfl
                have HG : Hid (nameAt true xs k = true) := by rw [Hid, HNm.out, show wordOkB true (xs.getD k []) = true from HOk.out, show k - 1 = j from by have := HJ.out; omega, HX.out, Bool.or_true]; rfl
                go_wp2_with (first | (go_at_call 88; refine (implUpperOk_any ea en ec (xs.getD k []) _ HE.out).mono ?_; rintro e w5 ⟨rfl, hw5⟩; rw [hw5, HOk.out]; clear hw5) | (go_at_call 107; refine (bytesCompare_any HE1.out HE.out).mono ?_; rintro e w6 ⟨rfl, hw6⟩; rw [hw6, HCv.out]; clear hw6))
                go_roundw
                case rel => exact ⟨k + 1, by omega, by go_num, HSt.out HG.out, by first | rfl | trivial⟩
                case measure => simp [intOf]; omega
      · have HG : Hid (namesB true xs = true) := by rw [Hid, namesB, HL.out, show n = k by omega]; exact HAll.out
        go_wp2_with fail
        go_ret
        exact ⟨rb (by rw [HNM.out, HG.out]; rfl), rfl⟩

set_option maxRecDepth 100000 in
set_option maxHeartbeats 8000000 in
theorem wordsFitL_any (a : Option Addr) (n cap m : Nat) (xs : List (List Int)) (w : World) {lo hi : Nat} (h : RSS lo hi w a n cap xs) :
    Calls Tryz.prog 87 #[.slice a n cap, .int .i64 m, .func (.func 90) #[] #[]] w fun e w' => e = .returned (.bool (decide (n ≤ m) && namesB false xs)) ∧ w' = w := by
  have HR : Hid (RSS lo hi w a n cap xs) := h
  have HL : Hid (xs.length = n) := h.len
  have hf := h.fits
  clear h
  by_cases hm : m < n
  · have HG : Hid (decide (n ≤ m) = false) := decide_eq_false (by omega)
    have hg0 : (m : Int) < (n : Int) := by omega
    go_enter Tryz.func87, Tryz.ntmps87
    go_wp2_with fail
    go_ret
    exact ⟨rb (by rw [HG.out]; rfl), rfl⟩
  · have HNM : Hid (decide (n ≤ m) = true) := decide_eq_true (by omega)
    have hg0 : decide ((m : Int) < (n : Int)) = false := by simp; omega
    have hg1 : decide (m < n) = false := by simp; omega
    go_enter Tryz.func87, Tryz.ntmps87
    go_upto_region 4 with fail
    clear hg0 hg1 hm
    go_loopw [15] (fun i wr => ∃ k : Nat, k ≤ n ∧ i = .int .i64 k ∧ (List.range k).all (nameAt false xs) = true ∧ wr = w) (fun i _ => n - (intOf i).toNat)
    case atStart => exact ⟨0, Nat.zero_le _, rfl, by simp, rfl⟩
    case round =>
      obtain ⟨k, hk, rfl, hall, rfl⟩ := hrel
      have HAll : Hid ((List.range k).all (nameAt false xs) = true) := hall
      clear hall
      by_cases hlt : k < n
      · rcases HR.out.cells with hz | ⟨b, off, e1, _, _, hc⟩
        · omega
        · subst e1
          obtain ⟨v, c0, ea, en, ec, rfl, hr⟩ := hc k hlt
          have HE : Hid (Rd lo hi wr ea en ec (xs.getD k [])) := hr
          have hki : (k : Int) < (n : Int) := by omega
          have HNm : Hid (nameAt false xs k = (wordOkB false (xs.getD k []) && (decide (k = 0) || ltB (xs.getD (k - 1) []) (xs.getD k [])))) := rfl
          have HSt : Hid (nameAt false xs k = true → (List.range (k + 1)).all (nameAt false xs) = true) := fun h1 => by rw [range_all_succ, HAll.out, h1]; rfl
          have HFa : Hid (nameAt false xs k = false → namesB false xs = false) := fun h1 => range_all_false (by rw [HL.out]; exact hlt) h1
          cases hok : lowOk (xs.getD k [])
          · have HOk : Hid (lowOk (xs.getD k []) = false) := hok
            clear hc hr hok
            have HG : Hid (namesB false xs = false) := HFa.out (by rw [HNm.out, show wordOkB false (xs.getD k []) = false from HOk.out]; rfl)
            go_wp2_with (first | (go_at_call 90; refine (implLowerOk_any ea en ec (xs.getD k []) _ HE.out).mono ?_; rintro e w5 ⟨rfl, hw5⟩; rw [hw5, HOk.out]; clear hw5))
            go_ret
            exact ⟨rb (by rw [HG.out, Bool.and_false]), rfl⟩
          · have HOk : Hid (lowOk (xs.getD k []) = true) := hok
            clear hok
            by_cases hk0 : k = 0
            · have hd0 : decide (0 < k) = false := by simp; omega
              have HK0 : Hid (k = 0) := hk0
              clear hc hr hk0
              have HG : Hid (nameAt false xs k = true) := by rw [Hid, HNm.out, show wordOkB false (xs.getD k []) = true from HOk.out, decide_eq_true HK0.out]; rfl
              go_wp2_with (first | (go_at_call 90; refine (implLowerOk_any ea en ec (xs.getD k []) _ HE.out).mono ?_; rintro e w5 ⟨rfl, hw5⟩; rw [hw5, HOk.out]; clear hw5))
              go_roundw
              case rel => exact ⟨k + 1, by omega, by go_num, HSt.out HG.out, by first | rfl | trivial⟩
              case measure => simp [intOf]; omega
            · obtain ⟨j, HJ⟩ : ∃ j, Hid (k = j + 1) := ⟨k - 1, by unfold Hid; omega⟩
              obtain ⟨v', c1, pa, pn, pc, rfl, hr1⟩ := hc j (by have := HJ.out; omega)
              have HE1 : Hid (Rd lo hi wr pa pn pc (xs.getD j [])) := hr1
              have hd0 : decide (0 < k) = true := by simp; omega
              have hd1 : 0 < k := by omega
              have hj1 : (k : Int) - 1 = (j : Int) := by have := HJ.out; omega
              have hj2 : (j : Int) < (n : Int) := by have := HJ.out; omega
              obtain ⟨cv, hcv⟩ : ∃ cv, cmpZ (xs.getD j []) (xs.getD k []) = cv := ⟨_, rfl⟩
              have HCv : Hid (cmpZ (xs.getD j []) (xs.getD k []) = cv) := hcv
              have HLt : Hid (decide (0 ≤ cv) = !(ltB (xs.getD j []) (xs.getD k []))) := by unfold Hid; rw [← hcv]; exact cmp_lt _ _
              clear hc hr hr1 hk0 hcv
              by_cases h0 : 0 ≤ cv
              · have hd2 : decide (0 ≤ cv) = true := decide_eq_true h0
                have HX : Hid (ltB (xs.getD j []) (xs.getD k []) = false) := by
                  have := HLt.out
                  rw [hd2] at this
                  unfold Hid
                  cases e : ltB (xs.getD j []) (xs.getD k [])
                  · rfl
                  · rw [e] at this; exact absurd this (by simp)
                have HG : Hid (namesB false xs = false) := HFa.out (by rw [HNm.out, show k - 1 = j from by have := HJ.out; omega, HX.out, Bool.or_false, decide_eq_false (by omega), Bool.and_false])
                go_wp2_with (first | (go_at_call 90; refine (implLowerOk_any ea en ec (xs.getD k []) _ HE.out).mono ?_; rintro e w5 ⟨rfl, hw5⟩; rw [hw5, HOk.out]; clear hw5) | (go_at_call 107; refine (bytesCompare_any HE1.out HE.out).mono ?_; rintro e w6 ⟨rfl, hw6⟩; rw [hw6, HCv.out]; clear hw6))
                go_ret
                exact ⟨rb (by rw [HG.out, Bool.and_false]), rfl⟩
              · have hd2 : decide (0 ≤ cv) = false := decide_eq_false h0
                have HX : Hid (ltB (xs.getD j []) (xs.getD k []) = true) := by
                  have := HLt.out
                  rw [hd2] at this
                  unfold Hid
                  cases e : ltB (xs.getD j []) (xs.getD k [])
                  · rw [e] at this; exact absurd this (by simp)
                  · rfl
                have HG : Hid (nameAt false xs k = true) := by rw [Hid, HNm.out, show wordOkB false (xs.getD k []) = true from HOk.out, show k - 1 = j from by have := HJ.out; omega, HX.out, Bool.or_true]; rfl
                go_wp2_with (first | (go_at_call 90; refine (implLowerOk_any ea en ec (xs.getD k []) _ HE.out).mono ?_; rintro e w5 ⟨rfl, hw5⟩; rw [hw5, HOk.out]; clear hw5) | (go_at_call 107; refine (bytesCompare_any HE1.out HE.out).mono ?_; rintro e w6 ⟨rfl, hw6⟩; rw [hw6, HCv.out]; clear hw6))
                go_roundw
                case rel => exact ⟨k + 1, by omega, by go_num, HSt.out HG.out, by first | rfl | trivial⟩
                case measure => simp [intOf]; omega
      · have HG : Hid (namesB false xs = true) := by rw [Hid, namesB, HL.out, show n = k by omega]; exact HAll.out
        go_wp2_with fail
        go_ret
        exact ⟨rb (by rw [HNM.out, HG.out]; rfl), rfl⟩

end Go.Proofs.YtfbokljbmihlbaaGreat
