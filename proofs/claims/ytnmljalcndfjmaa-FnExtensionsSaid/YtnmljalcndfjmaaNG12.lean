/- Several texts in one: WdImpl1, WdImpl2, ImplTok4. -/
import Derived.Test.YtnmljalcndfjmaaWdSpec
import Derived.Test.YtnmljalcndfjmaaNG11
import Derived.Test.YtnmljalcndfjmaaNG1
namespace Go.Proofs.Ytnmljalcndfjmaa

section
open Go.RowKit

theorem cmp_lt (xs ys : List Int) : decide (0 ≤ cmpZ xs ys) = !(ltB xs ys) := by
  unfold cmpZ ltB
  rw [← less_cmp]
  cases Op.bytesLess (strOfNums xs).toList (strOfNums ys).toList
  · cases Op.bytesLess (strOfNums ys).toList (strOfNums xs).toList <;> rfl
  · rfl

set_option maxRecDepth 100000 in
set_option maxHeartbeats 8000000 in
theorem wordsFitU_any (a : Option Addr) (n cap m : Nat) (xs : List (List Int)) (w : World) {lo hi : Nat} (h : RSS lo hi w a n cap xs) :
    Calls Try.prog 50 #[.slice a n cap, .int .i64 m, .func (.func 51) #[] #[]] w fun e w' => e = .returned (.bool (decide (n ≤ m) && namesB true xs)) ∧ w' = w := by
  have HR : Hid (RSS lo hi w a n cap xs) := h
  have HL : Hid (xs.length = n) := h.len
  have hf := h.fits
  clear h
  by_cases hm : m < n
  · have HG : Hid (decide (n ≤ m) = false) := decide_eq_false (by omega)
    have hg0 : (m : Int) < (n : Int) := by omega
    go_enter Try.func50, Try.ntmps50
    go_wp2_with fail
    go_ret
    exact ⟨rb (by rw [HG.out]; rfl), rfl⟩
  · have HNM : Hid (decide (n ≤ m) = true) := decide_eq_true (by omega)
    have hg0 : decide ((m : Int) < (n : Int)) = false := by simp; omega
    have hg1 : decide (m < n) = false := by simp; omega
    go_enter Try.func50, Try.ntmps50
    go_upto_region 4 with fail
    clear hg0 hg1 hm
    go_loopw [15] (fun i wr => ∃ k : Nat, k ≤ n ∧ i = .int .i64 k ∧ (List.range k).all (nameAt true xs) = true ∧ wr = w) (fun i _ => n - (intOf i).toNat)
    case atStart => exact ⟨0, Nat.zero_le _, rfl, by simp, rfl⟩
    case round =>
      obtain ⟨k, hk, rfl, hall, rfl⟩ := hrel
      have HAll : Hid ((List.range k).all (nameAt true xs) = true) := hall
      clear hall
      by_cases hlt : k < n
      · rcases HR.out.cells with hz | ⟨b, off, e1, _, _, hc⟩
        · omega
        · subst e1
          obtain ⟨v, c0, ea, en, ec, rfl, hr⟩ := hc k hlt
          have HE : Hid (Rd lo hi wr ea en ec (xs.getD k [])) := hr
          have hki : (k : Int) < (n : Int) := by omega
          have HNm : Hid (nameAt true xs k = (wordOkB true (xs.getD k []) && (decide (k = 0) || ltB (xs.getD (k - 1) []) (xs.getD k [])))) := rfl
          have HSt : Hid (nameAt true xs k = true → (List.range (k + 1)).all (nameAt true xs) = true) := fun h1 => by rw [range_all_succ, HAll.out, h1]; rfl
          have HFa : Hid (nameAt true xs k = false → namesB true xs = false) := fun h1 => range_all_false (by rw [HL.out]; exact hlt) h1
          cases hok : upOk (xs.getD k [])
          · have HOk : Hid (upOk (xs.getD k []) = false) := hok
            clear hc hr hok
            have HG : Hid (namesB true xs = false) := HFa.out (by rw [HNm.out, show wordOkB true (xs.getD k []) = false from HOk.out]; rfl)
            go_wp2_with (first | (go_at_call 51; refine (implUpperOk_any ea en ec (xs.getD k []) _ HE.out).mono ?_; rintro e w5 ⟨rfl, hw5⟩; rw [hw5, HOk.out]; clear hw5))
            go_ret
            exact ⟨rb (by rw [HG.out, Bool.and_false]), rfl⟩
          · have HOk : Hid (upOk (xs.getD k []) = true) := hok
            clear hok
            by_cases hk0 : k = 0
            · have hd0 : decide (0 < k) = false := by simp; omega
              have HK0 : Hid (k = 0) := hk0
              clear hc hr hk0
              have HG : Hid (nameAt true xs k = true) := by rw [Hid, HNm.out, show wordOkB true (xs.getD k []) = true from HOk.out, decide_eq_true HK0.out]; rfl
              go_wp2_with (first | (go_at_call 51; refine (implUpperOk_any ea en ec (xs.getD k []) _ HE.out).mono ?_; rintro e w5 ⟨rfl, hw5⟩; rw [hw5, HOk.out]; clear hw5))
              go_roundw
              case rel => exact ⟨k + 1, by omega, by go_num, HSt.out HG.out, by first | rfl | trivial⟩
              case measure => simp [intOf]; omega
            · obtain ⟨j, HJ⟩ : ∃ j, Hid (k = j + 1) := ⟨k - 1, by unfold Hid; omega⟩
              obtain ⟨v', c1, pa, pn, pc, rfl, hr1⟩ := hc j (by have := HJ.out; omega)
              have HE1 : Hid (Rd lo hi wr pa pn pc (xs.getD j [])) := hr1
              have hd0 : decide (0 < k) = true := by simp; omega
              have hd1 : 0 < k := by omega
              have hj1 : (k : Int) - 1 = (j : Int) := by have := HJ.out; omega
              have hj2 : (j : Int) < (n : Int) := by have := HJ.out; omega
              obtain ⟨cv, hcv⟩ : ∃ cv, cmpZ (xs.getD j []) (xs.getD k []) = cv := ⟨_, rfl⟩
              have HCv : Hid (cmpZ (xs.getD j []) (xs.getD k []) = cv) := hcv
              have HLt : Hid (decide (0 ≤ cv) = !(ltB (xs.getD j []) (xs.getD k []))) := by unfold Hid; rw [← hcv]; exact cmp_lt _ _
              clear hc hr hr1 hk0 hcv
              by_cases h0 : 0 ≤ cv
              · have hd2 : decide (0 ≤ cv) = true := decide_eq_true h0
                have HX : Hid (ltB (xs.getD j []) (xs.getD k []) = false) := by
                  have := HLt.out
                  rw [hd2] at this
                  unfold Hid
                  cases e : ltB (xs.getD j []) (xs.getD k [])
                  · rfl
                  · rw [e] at this; exact absurd this (by simp)
                have HG : Hid (namesB true xs = false) := HFa.out (by rw [HNm.out, show k - 1 = j from by have := HJ.out; omega, HX.out, Bool.or_false, decide_eq_false (by omega), Bool.and_false])
                go_wp2_with (first | (go_at_call 51; refine (implUpperOk_any ea en ec (xs.getD k []) _ HE.out).mono ?_; rintro e w5 ⟨rfl, hw5⟩; rw [hw5, HOk.out]; clear hw5) | (go_at_call 67; refine (bytesCompare_any HE1.out HE.out).mono ?_; rintro e w6 ⟨rfl, hw6⟩; rw [hw6, HCv.out]; clear hw6))
                go_ret
                exact ⟨rb (by rw [HG.out, Bool.and_false]), rfl⟩
              · have hd2 : decide (0 ≤ cv) = false := decide_eq_false h0
                have HX : Hid (ltB (xs.getD j []) (xs.getD k []) = true) := by
                  have := HLt.out
                  rw [hd2] at this
                  unfold Hid
                  cases e : ltB (xs.getD j []) (xs.getD k [])
                  · rw [e] at this; exact absurd this (by simp)
                  · rfl
                have HG : Hid (nameAt true xs k = true) := by rw [Hid, HNm.out, show wordOkB true (xs.getD k []) = true from HOk.out, show k - 1 = j from by have := HJ.out; omega, HX.out, Bool.or_true]; rfl
                go_wp2_with (first | (go_at_call 51; refine (implUpperOk_any ea en ec (xs.getD k []) _ HE.out).mono ?_; rintro e w5 ⟨rfl, hw5⟩; rw [hw5, HOk.out]; clear hw5) | (go_at_call 67; refine (bytesCompare_any HE1.out HE.out).mono ?_; rintro e w6 ⟨rfl, hw6⟩; rw [hw6, HCv.out]; clear hw6))
                go_roundw
                case rel => exact ⟨k + 1, by omega, by go_num, HSt.out HG.out, by first | rfl | trivial⟩
                case measure => simp [intOf]; omega
      · have HG : Hid (namesB true xs = true) := by rw [Hid, namesB, HL.out, show n = k by omega]; exact HAll.out
        go_wp2_with fail
        go_ret
        exact ⟨rb (by rw [HNM.out, HG.out]; rfl), rfl⟩

set_option maxRecDepth 100000 in
set_option maxHeartbeats 8000000 in
theorem wordsFitL_any (a : Option Addr) (n cap m : Nat) (xs : List (List Int)) (w : World) {lo hi : Nat} (h : RSS lo hi w a n cap xs) :
    Calls Try.prog 50 #[.slice a n cap, .int .i64 m, .func (.func 53) #[] #[]] w fun e w' => e = .returned (.bool (decide (n ≤ m) && namesB false xs)) ∧ w' = w := by
  have HR : Hid (RSS lo hi w a n cap xs) := h
  have HL : Hid (xs.length = n) := h.len
  have hf := h.fits
  clear h
  by_cases hm : m < n
  · have HG : Hid (decide (n ≤ m) = false) := decide_eq_false (by omega)
    have hg0 : (m : Int) < (n : Int) := by omega
    go_enter Try.func50, Try.ntmps50
    go_wp2_with fail
    go_ret
    exact ⟨rb (by rw [HG.out]; rfl), rfl⟩
  · have HNM : Hid (decide (n ≤ m) = true) := decide_eq_true (by omega)
    have hg0 : decide ((m : Int) < (n : Int)) = false := by simp; omega
    have hg1 : decide (m < n) = false := by simp; omega
    go_enter Try.func50, Try.ntmps50
    go_upto_region 4 with fail
    clear hg0 hg1 hm
    go_loopw [15] (fun i wr => ∃ k : Nat, k ≤ n ∧ i = .int .i64 k ∧ (List.range k).all (nameAt false xs) = true ∧ wr = w) (fun i _ => n - (intOf i).toNat)
    case atStart => exact ⟨0, Nat.zero_le _, rfl, by simp, rfl⟩
    case round =>
      obtain ⟨k, hk, rfl, hall, rfl⟩ := hrel
      have HAll : Hid ((List.range k).all (nameAt false xs) = true) := hall
      clear hall
      by_cases hlt : k < n
      · rcases HR.out.cells with hz | ⟨b, off, e1, _, _, hc⟩
        · omega
        · subst e1
          obtain ⟨v, c0, ea, en, ec, rfl, hr⟩ := hc k hlt
          have HE : Hid (Rd lo hi wr ea en ec (xs.getD k [])) := hr
          have hki : (k : Int) < (n : Int) := by omega
          have HNm : Hid (nameAt false xs k = (wordOkB false (xs.getD k []) && (decide (k = 0) || ltB (xs.getD (k - 1) []) (xs.getD k [])))) := rfl
          have HSt : Hid (nameAt false xs k = true → (List.range (k + 1)).all (nameAt false xs) = true) := fun h1 => by rw [range_all_succ, HAll.out, h1]; rfl
          have HFa : Hid (nameAt false xs k = false → namesB false xs = false) := fun h1 => range_all_false (by rw [HL.out]; exact hlt) h1
          cases hok : lowOk (xs.getD k [])
          · have HOk : Hid (lowOk (xs.getD k []) = false) := hok
            clear hc hr hok
            have HG : Hid (namesB false xs = false) := HFa.out (by rw [HNm.out, show wordOkB false (xs.getD k []) = false from HOk.out]; rfl)
            go_wp2_with (first | (go_at_call 53; refine (implLowerOk_any ea en ec (xs.getD k []) _ HE.out).mono ?_; rintro e w5 ⟨rfl, hw5⟩; rw [hw5, HOk.out]; clear hw5))
            go_ret
            exact ⟨rb (by rw [HG.out, Bool.and_false]), rfl⟩
          · have HOk : Hid (lowOk (xs.getD k []) = true) := hok
            clear hok
            by_cases hk0 : k = 0
            · have hd0 : decide (0 < k) = false := by simp; omega
              have HK0 : Hid (k = 0) := hk0
              clear hc hr hk0
              have HG : Hid (nameAt false xs k = true) := by rw [Hid, HNm.out, show wordOkB false (xs.getD k []) = true from HOk.out, decide_eq_true HK0.out]; rfl
              go_wp2_with (first | (go_at_call 53; refine (implLowerOk_any ea en ec (xs.getD k []) _ HE.out).mono ?_; rintro e w5 ⟨rfl, hw5⟩; rw [hw5, HOk.out]; clear hw5))
              go_roundw
              case rel => exact ⟨k + 1, by omega, by go_num, HSt.out HG.out, by first | rfl | trivial⟩
              case measure => simp [intOf]; omega
            · obtain ⟨j, HJ⟩ : ∃ j, Hid (k = j + 1) := ⟨k - 1, by unfold Hid; omega⟩
              obtain ⟨v', c1, pa, pn, pc, rfl, hr1⟩ := hc j (by have := HJ.out; omega)
              have HE1 : Hid (Rd lo hi wr pa pn pc (xs.getD j [])) := hr1
              have hd0 : decide (0 < k) = true := by simp; omega
              have hd1 : 0 < k := by omega
              have hj1 : (k : Int) - 1 = (j : Int) := by have := HJ.out; omega
              have hj2 : (j : Int) < (n : Int) := by have := HJ.out; omega
              obtain ⟨cv, hcv⟩ : ∃ cv, cmpZ (xs.getD j []) (xs.getD k []) = cv := ⟨_, rfl⟩
              have HCv : Hid (cmpZ (xs.getD j []) (xs.getD k []) = cv) := hcv
              have HLt : Hid (decide (0 ≤ cv) = !(ltB (xs.getD j []) (xs.getD k []))) := by unfold Hid; rw [← hcv]; exact cmp_lt _ _
              clear hc hr hr1 hk0 hcv
              by_cases h0 : 0 ≤ cv
              · have hd2 : decide (0 ≤ cv) = true := decide_eq_true h0
                have HX : Hid (ltB (xs.getD j []) (xs.getD k []) = false) := by
                  have := HLt.out
                  rw [hd2] at this
                  unfold Hid
                  cases e : ltB (xs.getD j []) (xs.getD k [])
                  · rfl
                  · rw [e] at this; exact absurd this (by simp)
                have HG : Hid (namesB false xs = false) := HFa.out (by rw [HNm.out, show k - 1 = j from by have := HJ.out; omega, HX.out, Bool.or_false, decide_eq_false (by omega), Bool.and_false])
                go_wp2_with (first | (go_at_call 53; refine (implLowerOk_any ea en ec (xs.getD k []) _ HE.out).mono ?_; rintro e w5 ⟨rfl, hw5⟩; rw [hw5, HOk.out]; clear hw5) | (go_at_call 67; refine (bytesCompare_any HE1.out HE.out).mono ?_; rintro e w6 ⟨rfl, hw6⟩; rw [hw6, HCv.out]; clear hw6))
                go_ret
                exact ⟨rb (by rw [HG.out, Bool.and_false]), rfl⟩
              · have hd2 : decide (0 ≤ cv) = false := decide_eq_false h0
                have HX : Hid (ltB (xs.getD j []) (xs.getD k []) = true) := by
                  have := HLt.out
                  rw [hd2] at this
                  unfold Hid
                  cases e : ltB (xs.getD j []) (xs.getD k [])
                  · rw [e] at this; exact absurd this (by simp)
                  · rfl
                have HG : Hid (nameAt false xs k = true) := by rw [Hid, HNm.out, show wordOkB false (xs.getD k []) = true from HOk.out, show k - 1 = j from by have := HJ.out; omega, HX.out, Bool.or_true]; rfl
                go_wp2_with (first | (go_at_call 53; refine (implLowerOk_any ea en ec (xs.getD k []) _ HE.out).mono ?_; rintro e w5 ⟨rfl, hw5⟩; rw [hw5, HOk.out]; clear hw5) | (go_at_call 67; refine (bytesCompare_any HE1.out HE.out).mono ?_; rintro e w6 ⟨rfl, hw6⟩; rw [hw6, HCv.out]; clear hw6))
                go_roundw
                case rel => exact ⟨k + 1, by omega, by go_num, HSt.out HG.out, by first | rfl | trivial⟩
                case measure => simp [intOf]; omega
      · have HG : Hid (namesB false xs = true) := by rw [Hid, namesB, HL.out, show n = k by omega]; exact HAll.out
        go_wp2_with fail
        go_ret
        exact ⟨rb (by rw [HNM.out, HG.out]; rfl), rfl⟩
end

section
open Go.RowKit

theorem flagAt_any (a : Option Addr) (n cap pb : Nat) (m : Int) (w : World) (hp : w.cell? ⟨pb, 0, none⟩ = some (.int .i64 m)) :
    Calls Try.prog 72 #[.slice a n cap, .pointer (some ⟨pb, 0, none⟩)] w fun e w' => e = .returned (.bool ((n : Int) != m)) ∧ w' = w := by
  go_enter Try.func72, Try.ntmps72
  go_wp2_with fail
  go_ret
  exact ⟨rfl, rfl⟩

set_option maxRecDepth 100000 in
set_option maxHeartbeats 8000000 in
theorem indexFlags_any (a : Option Addr) (n cap pb : Nat) (m : Int) (xs : List (List Bool)) (w : World) {lo hi : Nat} (h : RFF lo hi w a n cap xs) (hp : w.cell? ⟨pb, 0, none⟩ = some (.int .i64 m)) :
    Calls Try.prog 82 #[.slice a n cap, .func (.func 72) #[] #[.pointer (some ⟨pb, 0, none⟩)]] w fun e w' => ∃ i : Int, e = .returned (.int .i64 i) ∧ decide (0 ≤ i) = !(flagsB xs m) ∧ w' = w := by
  have HR : Hid (RFF lo hi w a n cap xs) := h
  have HL : Hid (xs.length = n) := h.len
  have HP : Hid (w.cell? ⟨pb, 0, none⟩ = some (.int .i64 m)) := hp
  have hf := h.fits
  clear h hp
  go_enter Try.func82, Try.ntmps82
  go_upto_region 2 with fail
  go_loopw [8] (fun i wr => ∃ k : Nat, k ≤ n ∧ i = .int .i64 k ∧ (List.range k).all (fun i => decide (((xs.getD i []).length : Int) = m)) = true ∧ wr = w) (fun i _ => n - (intOf i).toNat)
  case atStart => exact ⟨0, Nat.zero_le _, rfl, by simp, rfl⟩
  case round =>
    obtain ⟨k, hk, rfl, hall, rfl⟩ := hrel
    have HAll : Hid ((List.range k).all (fun i => decide (((xs.getD i []).length : Int) = m)) = true) := hall
    clear hall
    by_cases hlt : k < n
    · rcases HR.out.cells with hz | ⟨b, off, e1, _, _, hc⟩
      · omega
      · subst e1
        obtain ⟨v, c0, ea, en, ec, rfl, hr⟩ := hc k hlt
        have HLn : Hid ((xs.getD k []).length = en) := hr.len
        have hki : (k : Int) < (n : Int) := by omega
        clear hc hr
        go_wp2_with fail
        refine (flagAt_any ea en ec pb m _ HP.out).mono ?_
        rintro e w5 ⟨rfl, hw5⟩
        rw [hw5]
        clear hw5
        by_cases hq : (en : Int) = m
        · have hb : ((en : Int) != m) = false := by simp; omega
          have HS : Hid ((List.range (k + 1)).all (fun i => decide (((xs.getD i []).length : Int) = m)) = true) := by unfold Hid; rw [range_all_succ, HAll.out, HLn.out, decide_eq_true hq]; rfl
          clear hq
          rw [hb]
          go_wp2_with fail
          go_roundw
          case rel => exact ⟨k + 1, by omega, by go_num, HS.out, by first | rfl | trivial⟩
          case measure => simp [intOf]; omega
        · have hb : ((en : Int) != m) = true := by simp; omega
          have HE : Hid (flagsB xs m = false) := range_all_false (by rw [HL.out]; exact hlt) (by rw [HLn.out]; exact decide_eq_false hq)
          clear hq
          rw [hb]
          go_wp2_with fail
          go_ret
          exact ⟨k, rfl, by rw [HE.out]; simp, rfl⟩
    · have HF : Hid (flagsB xs m = true) := by rw [Hid, flagsB, HL.out, show n = k by omega]; exact HAll.out
      have hge : decide ((k : Int) < (n : Int)) = false := by simp; omega
      go_wp2_with fail
      go_ret
      exact ⟨-1, rfl, by rw [HF.out]; simp, rfl⟩

set_option maxRecDepth 100000 in
theorem hasFlags_any (a : Option Addr) (n cap pb : Nat) (m : Int) (xs : List (List Bool)) (w : World) {lo hi : Nat} (h : RFF lo hi w a n cap xs) (hp : w.cell? ⟨pb, 0, none⟩ = some (.int .i64 m)) :
    Calls Try.prog 71 #[.slice a n cap, .func (.func 72) #[] #[.pointer (some ⟨pb, 0, none⟩)]] w fun e w' => e = .returned (.bool (!(flagsB xs m))) ∧ w' = w := by
  have HR : Hid (RFF lo hi w a n cap xs) := h
  have HP : Hid (w.cell? ⟨pb, 0, none⟩ = some (.int .i64 m)) := hp
  clear h hp
  go_enter Try.func71, Try.ntmps71
  go_wp2_with fail
  refine (indexFlags_any a n cap pb m xs w HR.out HP.out).mono ?_
  rintro e w5 ⟨i, rfl, hi5, hw5⟩
  rw [hw5]
  have HI : Hid (decide (0 ≤ i) = !(flagsB xs m)) := hi5
  clear hi5 hw5
  by_cases hi0 : 0 ≤ i
  · go_wp2_with fail
    go_ret
    exact ⟨rb (by rw [← HI.out]; simp [hi0]), rfl⟩
  · go_wp2_with fail
    go_ret
    exact ⟨rb (by rw [← HI.out]), rfl⟩

set_option maxRecDepth 100000 in
set_option maxHeartbeats 4000000 in
theorem flagsFit_any (a : Option Addr) (n cap q : Nat) (m : Int) (xs : List (List Bool)) (w : World) {lo hi : Nat} (h : RFF lo hi w a n cap xs) (hhi : hi ≤ w.heap.size) :
    Calls Try.prog 52 #[.slice a n cap, .int .i64 q, .int .i64 m] w fun e w' => e = .returned (.bool (decide (n = q) && flagsB xs m)) ∧ Below w.heap.size w w' := by
  obtain ⟨W0, hW0⟩ : ∃ W0, W0 = w.alloc (.cells #[.int .i64 m] 3) := ⟨_, rfl⟩
  have HW0 : Hid (W0 = w.alloc (.cells #[.int .i64 m] 3)) := hW0
  have hb0 : Below w.heap.size w W0 := by rw [hW0]; exact (Below.refl _ _).alloc (Nat.le_refl _) _
  have HB0 : Hid (Below w.heap.size w W0) := hb0
  have HP : Hid (W0.cell? ⟨w.heap.size, 0, none⟩ = some (.int .i64 m)) := by
    unfold Hid; rw [hW0]
    have := World.alloc_heap_new w (.cells #[.int .i64 m] 3)
    unfold World.cell?
    simp only [this]
    rfl
  have HR : Hid (RFF lo hi W0 a n cap xs) := h.below hb0 hhi
  have hf := h.fits
  clear h hb0 hW0
  by_cases hq : n = q
  · have HQ : Hid (decide (n = q) = true) := decide_eq_true hq
    have hd : ((n : Int) == (q : Int)) = true := by simp; omega
    have hd2 : decide (n = q) = true := decide_eq_true hq
    clear hq
    go_enter Try.func52, Try.ntmps52
    go_upto_region 1 with fail
    rw [← HW0.out]
    go_wp2_with (go_at_call 71; refine (hasFlags_any a n cap w.heap.size m xs W0 HR.out HP.out).mono ?_; rintro e w5 ⟨rfl, hw5⟩; rw [hw5]; clear hw5)
    go_ret
    exact ⟨rb (by rw [HQ.out]; simp), HB0.out⟩
  · have HQ : Hid (decide (n = q) = false) := decide_eq_false hq
    have hd : ((n : Int) == (q : Int)) = false := by simp; omega
    have hd2 : decide (n = q) = false := decide_eq_false hq
    clear hq
    go_enter Try.func52, Try.ntmps52
    go_upto_region 1 with fail
    rw [← HW0.out]
    go_wp2_with fail
    go_ret
    exact ⟨rb (by rw [HQ.out]; simp), HB0.out⟩
end

section
open Go.RowKit Go.Shelf

attribute [local go_sem] Oper.semAt_some

def InvI (s : Nat) (w : World) (zs : List Int) (sv : Value) (pre : List (PosOf zs)) (W : World) : Prop := ∃ v gs, InvT s w W zs sv v pre gs
def InvX (s : Nat) (w : World) (zs : List Int) (c : Code) (pre : List (PosOf zs)) (W : World) : Prop :=
  c = .exit 0 ∧ Below s w W ∧ ∃ pre' x, pre = pre' ++ [x] ∧ Good zs pre' ∧ kindOf (piece zs x.1) = 0 ∧ Boxed W s 109 (.slice none 0 0) ∧ Boxed W (s + 1) 3 (.int .i64 (x.1 : Nat))

theorem InvI.own {s : Nat} {w : World} {zs : List Int} {sv : Value} {B : Nat} (hB : s ≤ B) : OwnFrom B (InvI s w zs sv) := by
  rintro pre W W' row ⟨v, gs, h⟩ hg hr
  have : s ≤ W.heap.size := by have := Boxed.lt h.list; omega
  exact ⟨v, gs, h.noncells this hg fun r e => ⟨by have := (hr r e).1; omega, (hr r e).2⟩⟩

theorem InvX.own {s : Nat} {w : World} {zs : List Int} {B : Nat} (hB : s ≤ B) (c : Code) : OwnFrom B (InvX s w zs c) := by
  rintro pre W W' row ⟨hc, hb, pre', x, h1, h2, h3, h4, h5⟩ hg hr
  have : s ≤ W.heap.size := by have := Boxed.lt h4; omega
  exact ⟨hc, hb.grown hg this fun k e => by have := (hr k e).1; omega, pre', x, h1, h2, h3, boxed_noncells h4 hg fun r e => (hr r e).2, boxed_noncells h5 hg fun r e => (hr r e).2⟩
end

end Go.Proofs.Ytnmljalcndfjmaa
