/- Several texts in one: WdNames, WdSpec, WdImpl1. -/
import Derived.Test.YtknainelonaigaaGreatDoorNWd
import Derived.Test.YtknainelonaigaaGreatDoorNWords
import Derived.Deep.QuietTactic
import Derived.BigQuiet
import Derived.Deep.RegionWith
import Derived.Deep.DeepCutAuto
namespace Go.Proofs.YtknainelonaigaaGreatDoor

section
open Go.RowKit

def wordOkB (up : Bool) (zs : List Int) : Bool := if up = true then upOk zs else lowOk zs
def ltB (xs ys : List Int) : Bool := Op.bytesLess (strOfNums xs).toList (strOfNums ys).toList
def nameAt (up : Bool) (l : List (List Int)) (i : Nat) : Bool := wordOkB up (l.getD i []) && (decide (i = 0) || ltB (l.getD (i - 1) []) (l.getD i []))
def namesB (up : Bool) (l : List (List Int)) : Bool := (List.range l.length).all (nameAt up l)

theorem range_all_succ (p : Nat → Bool) (k : Nat) : (List.range (k + 1)).all p = ((List.range k).all p && p k) := by
  rw [List.range_succ, List.all_append]; simp

theorem range_all_false {p : Nat → Bool} {n k : Nat} (hk : k < n) (h : p k = false) : (List.range n).all p = false := by
  rw [List.all_eq_false]
  exact ⟨k, List.mem_range.2 hk, by simp [h]⟩

set_option maxRecDepth 100000 in
set_option maxHeartbeats 8000000 in
theorem l4names_any (a : Option Addr) (n cap : Nat) (xs : List (List Int)) (up : Bool) (w : World) {lo hi : Nat} (h : RSS lo hi w a n cap xs) :
    Calls Tryz.prog 36 #[.slice a n cap, .bool up] w fun e w' => e = .returned (.bool (namesB up xs)) ∧ ∃ nd, w' = w.drewN nd := by
  have HR : Hid (RSS lo hi w a n cap xs) := h
  have HL : Hid (xs.length = n) := h.len
  have hf := h.fits
  clear h
  go_enter Tryz.func36, Tryz.ntmps36
  go_wp2_with fail
  go_loopw [5] (fun i wr => ∃ k : Nat, k ≤ n ∧ i = .int .i64 k ∧ (List.range k).all (nameAt up xs) = true ∧ ∃ nd, wr = w.drewN nd) (fun i _ => n - (intOf i).toNat)
  case atStart => exact ⟨0, Nat.zero_le _, rfl, by simp, 0, rfl⟩
  case round =>
    obtain ⟨k, hk, rfl, hall, nd, hwr⟩ := hrel
    have HD : Hid (wr = w.drewN nd) := hwr
    have HR1 : Hid (RSS lo hi wr a n cap xs) := by unfold Hid; rw [hwr]; exact HR.out.same (fun _ _ _ => rfl)
    clear hwr
    have HAll : Hid ((List.range k).all (nameAt up xs) = true) := hall
    clear hall
    by_cases hlt : k < n
    · rcases HR1.out.cells with hz | ⟨b, off, e1, _, _, hc⟩
      · omega
      · subst e1
        obtain ⟨v, c0, ea, en, ec, rfl, hr⟩ := hc k hlt
        have HE : Hid (Rd lo hi wr ea en ec (xs.getD k [])) := hr
        have hki : (k : Int) < (n : Int) := by omega
        have HNm : Hid (nameAt up xs k = (wordOkB up (xs.getD k []) && (decide (k = 0) || ltB (xs.getD (k - 1) []) (xs.getD k [])))) := rfl
        have HSt : Hid (nameAt up xs k = true → (List.range (k + 1)).all (nameAt up xs) = true) := fun h1 => by rw [range_all_succ, HAll.out, h1]; rfl
        have HFa : Hid (nameAt up xs k = false → namesB up xs = false) := fun h1 => range_all_false (by rw [HL.out]; exact hlt) h1
        obtain ⟨ok, hok⟩ : ∃ ok, ok = wordOkB up (xs.getD k []) := ⟨_, rfl⟩
        have HOk : Hid (ok = wordOkB up (xs.getD k [])) := hok
        by_cases hk0 : k = 0
        · have hd0 : decide (0 < k) = false := by simp; omega
          have HK0 : Hid (k = 0) := hk0
          clear hc hr hok hk0
          cases up with
          | true =>
            have HU : Hid (∀ W : World, (∀ b, W.heap[b]? = wr.heap[b]?) → Calls Tryz.prog 63 #[.slice ea en ec] W fun e w' => e = .returned (.bool ok) ∧ w' = W) := fun W hW => by
              have := specUpperOk_any ea en ec (xs.getD k []) W (HE.out.same (fun b _ _ => hW b))
              rw [HOk.out]; exact this
            cases ok with
            | true =>
              have HG : Hid (nameAt true xs k = true) := by rw [Hid, HNm.out, ← HOk.out, decide_eq_true HK0.out]; rfl
              go_wp2_with fail
              go_quiet (first | (go_at_call 63; exact Calls.quiet_of_same (HU.out _ (fun _ => rfl))))
              go_wp2_with fail
              go_roundw
              case rel => exact ⟨k + 1, by omega, by go_num, HSt.out HG.out, nd + nq, by rw [HD.out]; first | rfl | exact drew_add _ _ _⟩
              case measure => simp [intOf]; omega
            | false =>
              have HG : Hid (namesB true xs = false) := HFa.out (by rw [HNm.out, ← HOk.out]; rfl)
              go_wp2_with fail
              go_quiet (first | (go_at_call 63; exact Calls.quiet_of_same (HU.out _ (fun _ => rfl))))
              go_wp2_with fail
              go_ret
              exact ⟨rb HG.out.symm, nd + nq, by rw [HD.out]; first | rfl | exact drew_add _ _ _⟩
          | false =>
            have HU : Hid (∀ W : World, (∀ b, W.heap[b]? = wr.heap[b]?) → Calls Tryz.prog 64 #[.slice ea en ec] W fun e w' => e = .returned (.bool ok) ∧ w' = W) := fun W hW => by
              have := specLowerOk_any ea en ec (xs.getD k []) W (HE.out.same (fun b _ _ => hW b))
              rw [HOk.out]; exact this
            cases ok with
            | true =>
              have HG : Hid (nameAt false xs k = true) := by rw [Hid, HNm.out, ← HOk.out, decide_eq_true HK0.out]; rfl
              go_wp2_with fail
              go_quiet (first | (go_at_call 64; exact Calls.quiet_of_same (HU.out _ (fun _ => rfl))))
              go_wp2_with fail
              go_roundw
              case rel => exact ⟨k + 1, by omega, by go_num, HSt.out HG.out, nd + nq, by rw [HD.out]; first | rfl | exact drew_add _ _ _⟩
              case measure => simp [intOf]; omega
            | false =>
              have HG : Hid (namesB false xs = false) := HFa.out (by rw [HNm.out, ← HOk.out]; rfl)
              go_wp2_with fail
              go_quiet (first | (go_at_call 64; exact Calls.quiet_of_same (HU.out _ (fun _ => rfl))))
              go_wp2_with fail
              go_ret
              exact ⟨rb HG.out.symm, nd + nq, by rw [HD.out]; first | rfl | exact drew_add _ _ _⟩
        · obtain ⟨j, HJ⟩ : ∃ j, Hid (k = j + 1) := ⟨k - 1, by unfold Hid; omega⟩
          obtain ⟨v', c1, pa, pn, pc, rfl, hr1⟩ := hc j (by have := HJ.out; omega)
          have HE1 : Hid (Rd lo hi wr pa pn pc (xs.getD j [])) := hr1
          have hd0 : decide (0 < k) = true := by simp; omega
          have hd1 : 0 < k := by omega
          have hj1 : (k : Int) - 1 = (j : Int) := by have := HJ.out; omega
          have hj2 : (j : Int) < (n : Int) := by have := HJ.out; omega
          have hcv0 : ∀ m, (convert 28 9 (.slice ea en ec)).run Tryz.prog (wr.drewN m) = .ok (.string (strOfNums (xs.getD k []))) (wr.drewN m) := fun m => conv_any (HE.out.same (fun _ _ _ => rfl))
          have hcv1 : ∀ m, (convert 28 9 (.slice pa pn pc)).run Tryz.prog (wr.drewN m) = .ok (.string (strOfNums (xs.getD j []))) (wr.drewN m) := fun m => conv_any (HE1.out.same (fun _ _ _ => rfl))
          obtain ⟨lt, hltb⟩ : ∃ lt, lt = ltB (xs.getD j []) (xs.getD k []) := ⟨_, rfl⟩
          have HLt : Hid (lt = ltB (xs.getD j []) (xs.getD k [])) := hltb
          obtain ⟨sx, hsx⟩ : ∃ s, s = strOfNums (xs.getD j []) := ⟨_, rfl⟩
          obtain ⟨sy, hsy⟩ : ∃ s, s = strOfNums (xs.getD k []) := ⟨_, rfl⟩
          have hbl : Op.bytesLess sx.toList sy.toList = lt := by rw [hsx, hsy, hltb]; rfl
          rw [← hsy] at hcv0
          rw [← hsx] at hcv1
          clear hc hr hr1 hok hltb hsx hsy hk0
          cases up with
          | true =>
            have HU : Hid (∀ W : World, (∀ b, W.heap[b]? = wr.heap[b]?) → Calls Tryz.prog 63 #[.slice ea en ec] W fun e w' => e = .returned (.bool ok) ∧ w' = W) := fun W hW => by
              have := specUpperOk_any ea en ec (xs.getD k []) W (HE.out.same (fun b _ _ => hW b))
              rw [HOk.out]; exact this
            cases ok with
            | false =>
              have HG : Hid (namesB true xs = false) := HFa.out (by rw [HNm.out, ← HOk.out]; rfl)
              go_wp2_with fail
              go_quiet (first | (go_at_call 63; exact Calls.quiet_of_same (HU.out _ (fun _ => rfl))))
              go_wp2_with fail
              go_ret
              exact ⟨rb HG.out.symm, nd + nq, by rw [HD.out]; first | rfl | exact drew_add _ _ _⟩
            | true =>
              cases lt with
              | true =>
                have HG : Hid (nameAt true xs k = true) := by rw [Hid, HNm.out, ← HOk.out, show k - 1 = j from by have := HJ.out; omega, ← HLt.out]; simp
                go_wp2_with fail
                go_quiet (first | (go_at_call 63; exact Calls.quiet_of_same (HU.out _ (fun _ => rfl))))
                go_wp2_with fail
                go_roundw
                case rel => exact ⟨k + 1, by omega, by go_num, HSt.out HG.out, nd + nq, by rw [HD.out]; first | rfl | exact drew_add _ _ _⟩
                case measure => simp [intOf]; omega
              | false =>
                have HG : Hid (namesB true xs = false) := HFa.out (by rw [HNm.out, ← HOk.out, show k - 1 = j from by have := HJ.out; omega, ← HLt.out]; simp; have := HJ.out; omega)
                go_wp2_with fail
                go_quiet (first | (go_at_call 63; exact Calls.quiet_of_same (HU.out _ (fun _ => rfl))))
                go_wp2_with fail
                go_ret
                exact ⟨rb HG.out.symm, nd + nq, by rw [HD.out]; first | rfl | exact drew_add _ _ _⟩
          | false =>
            have HU : Hid (∀ W : World, (∀ b, W.heap[b]? = wr.heap[b]?) → Calls Tryz.prog 64 #[.slice ea en ec] W fun e w' => e = .returned (.bool ok) ∧ w' = W) := fun W hW => by
              have := specLowerOk_any ea en ec (xs.getD k []) W (HE.out.same (fun b _ _ => hW b))
              rw [HOk.out]; exact this
            cases ok with
            | false =>
              have HG : Hid (namesB false xs = false) := HFa.out (by rw [HNm.out, ← HOk.out]; rfl)
              go_wp2_with fail
              go_quiet (first | (go_at_call 64; exact Calls.quiet_of_same (HU.out _ (fun _ => rfl))))
              go_wp2_with fail
              go_ret
              exact ⟨rb HG.out.symm, nd + nq, by rw [HD.out]; first | rfl | exact drew_add _ _ _⟩
            | true =>
              cases lt with
              | true =>
                have HG : Hid (nameAt false xs k = true) := by rw [Hid, HNm.out, ← HOk.out, show k - 1 = j from by have := HJ.out; omega, ← HLt.out]; simp
                go_wp2_with fail
                go_quiet (first | (go_at_call 64; exact Calls.quiet_of_same (HU.out _ (fun _ => rfl))))
                go_wp2_with fail
                go_roundw
                case rel => exact ⟨k + 1, by omega, by go_num, HSt.out HG.out, nd + nq, by rw [HD.out]; first | rfl | exact drew_add _ _ _⟩
                case measure => simp [intOf]; omega
              | false =>
                have HG : Hid (namesB false xs = false) := HFa.out (by rw [HNm.out, ← HOk.out, show k - 1 = j from by have := HJ.out; omega, ← HLt.out]; simp; have := HJ.out; omega)
                go_wp2_with fail
                go_quiet (first | (go_at_call 64; exact Calls.quiet_of_same (HU.out _ (fun _ => rfl))))
                go_wp2_with fail
                go_ret
                exact ⟨rb HG.out.symm, nd + nq, by rw [HD.out]; first | rfl | exact drew_add _ _ _⟩
    · have HG : Hid (namesB up xs = true) := by rw [Hid, namesB, HL.out, show n = k by omega]; exact HAll.out
      go_wp2_with fail
      go_ret
      exact ⟨rb HG.out.symm, nd, HD.out⟩
    
end

section
open Go.RowKit
end

section
open Go.RowKit

theorem cmp_lt (xs ys : List Int) : decide (0 ≤ cmpZ xs ys) = !(ltB xs ys) := by
  unfold cmpZ ltB
  rw [← less_cmp]
  cases Op.bytesLess (strOfNums xs).toList (strOfNums ys).toList
  · cases Op.bytesLess (strOfNums ys).toList (strOfNums xs).toList <;> rfl
  · rfl

set_option maxRecDepth 100000 in
set_option maxHeartbeats 8000000 in
theorem wordsFitL_any (a : Option Addr) (n cap m : Nat) (xs : List (List Int)) (w : World) {lo hi : Nat} (h : RSS lo hi w a n cap xs) :
    Calls Tryz.prog 47 #[.slice a n cap, .int .i64 m, .func (.func 48) #[] #[]] w fun e w' => e = .returned (.bool (decide (n ≤ m) && namesB false xs)) ∧ w' = w := by
  have HR : Hid (RSS lo hi w a n cap xs) := h
  have HL : Hid (xs.length = n) := h.len
  have hf := h.fits
  clear h
  by_cases hm : m < n
  · have HG : Hid (decide (n ≤ m) = false) := decide_eq_false (by omega)
    have hg0 : (m : Int) < (n : Int) := by omega
    go_enter Tryz.func47, Tryz.ntmps47
    go_wp2_with fail
    go_ret
    exact ⟨rb (by rw [HG.out]; rfl), rfl⟩
  · have HNM : Hid (decide (n ≤ m) = true) := decide_eq_true (by omega)
    have hg0 : decide ((m : Int) < (n : Int)) = false := by simp; omega
    have hg1 : decide (m < n) = false := by simp; omega
    go_enter Tryz.func47, Tryz.ntmps47
    go_upto_region 4 with fail
    clear hg0 hg1 hm
    go_loopw [15] (fun i wr => ∃ k : Nat, k ≤ n ∧ i = .int .i64 k ∧ (List.range k).all (nameAt false xs) = true ∧ wr = w) (fun i _ => n - (intOf i).toNat)
    case atStart => exact ⟨0, Nat.zero_le _, rfl, by simp, rfl⟩
    case round =>
      obtain ⟨k, hk, rfl, hall, rfl⟩ := hrel
      have HAll : Hid ((List.range k).all (nameAt false xs) = true) := hall
      clear hall
      by_cases hlt : k < n
      · rcases HR.out.cells with hz | ⟨b, off, e1, _, _, hc⟩
        · omega
        · subst e1
          obtain ⟨v, c0, ea, en, ec, rfl, hr⟩ := hc k hlt
          have HE : Hid (Rd lo hi wr ea en ec (xs.getD k [])) := hr
          have hki : (k : Int) < (n : Int) := by omega
          have HNm : Hid (nameAt false xs k = (wordOkB false (xs.getD k []) && (decide (k = 0) || ltB (xs.getD (k - 1) []) (xs.getD k [])))) := rfl
          have HSt : Hid (nameAt false xs k = true → (List.range (k + 1)).all (nameAt false xs) = true) := fun h1 => by rw [range_all_succ, HAll.out, h1]; rfl
          have HFa : Hid (nameAt false xs k = false → namesB false xs = false) := fun h1 => range_all_false (by rw [HL.out]; exact hlt) h1
          cases hok : lowOk (xs.getD k [])
          · have HOk : Hid (lowOk (xs.getD k []) = false) := hok
            clear hc hr hok
            have HG : Hid (namesB false xs = false) := HFa.out (by rw [HNm.out, show wordOkB false (xs.getD k []) = false from HOk.out]; rfl)
            go_wp2_with (first | (go_at_call 48; refine (implLowerOk_any ea en ec (xs.getD k []) _ HE.out).mono ?_; rintro e w5 ⟨rfl, hw5⟩; rw [hw5, HOk.out]; clear hw5))
            go_ret
            exact ⟨rb (by rw [HG.out, Bool.and_false]), rfl⟩
          · have HOk : Hid (lowOk (xs.getD k []) = true) := hok
            clear hok
            by_cases hk0 : k = 0
            · have hd0 : decide (0 < k) = false := by simp; omega
              have HK0 : Hid (k = 0) := hk0
              clear hc hr hk0
              have HG : Hid (nameAt false xs k = true) := by rw [Hid, HNm.out, show wordOkB false (xs.getD k []) = true from HOk.out, decide_eq_true HK0.out]; rfl
              go_wp2_with (first | (go_at_call 48; refine (implLowerOk_any ea en ec (xs.getD k []) _ HE.out).mono ?_; rintro e w5 ⟨rfl, hw5⟩; rw [hw5, HOk.out]; clear hw5))
              go_roundw
              case rel => exact ⟨k + 1, by omega, by go_num, HSt.out HG.out, by first | rfl | trivial⟩
              case measure => simp [intOf]; omega
            · obtain ⟨j, HJ⟩ : ∃ j, Hid (k = j + 1) := ⟨k - 1, by unfold Hid; omega⟩
              obtain ⟨v', c1, pa, pn, pc, rfl, hr1⟩ := hc j (by have := HJ.out; omega)
              have HE1 : Hid (Rd lo hi wr pa pn pc (xs.getD j [])) := hr1
              have hd0 : decide (0 < k) = true := by simp; omega
              have hd1 : 0 < k := by omega
              have hj1 : (k : Int) - 1 = (j : Int) := by have := HJ.out; omega
              have hj2 : (j : Int) < (n : Int) := by have := HJ.out; omega
              obtain ⟨cv, hcv⟩ : ∃ cv, cmpZ (xs.getD j []) (xs.getD k []) = cv := ⟨_, rfl⟩
              have HCv : Hid (cmpZ (xs.getD j []) (xs.getD k []) = cv) := hcv
              have HLt : Hid (decide (0 ≤ cv) = !(ltB (xs.getD j []) (xs.getD k []))) := by unfold Hid; rw [← hcv]; exact cmp_lt _ _
              clear hc hr hr1 hk0 hcv
              by_cases h0 : 0 ≤ cv
              · have hd2 : decide (0 ≤ cv) = true := decide_eq_true h0
                have HX : Hid (ltB (xs.getD j []) (xs.getD k []) = false) := by
                  have := HLt.out
                  rw [hd2] at this
                  unfold Hid
                  cases e : ltB (xs.getD j []) (xs.getD k [])
                  · rfl
                  · rw [e] at this; exact absurd this (by simp)
                have HG : Hid (namesB false xs = false) := HFa.out (by rw [HNm.out, show k - 1 = j from by have := HJ.out; omega, HX.out, Bool.or_false, decide_eq_false (by omega), Bool.and_false])
                go_wp2_with (first | (go_at_call 48; refine (implLowerOk_any ea en ec (xs.getD k []) _ HE.out).mono ?_; rintro e w5 ⟨rfl, hw5⟩; rw [hw5, HOk.out]; clear hw5) | (go_at_call 75; refine (bytesCompare_any HE1.out HE.out).mono ?_; rintro e w6 ⟨rfl, hw6⟩; rw [hw6, HCv.out]; clear hw6))
                go_ret
                exact ⟨rb (by rw [HG.out, Bool.and_false]), rfl⟩
              · have hd2 : decide (0 ≤ cv) = false := decide_eq_false h0
                have HX : Hid (ltB (xs.getD j []) (xs.getD k []) = true) := by
                  have := HLt.out
                  rw [hd2] at this
                  unfold Hid
                  cases e : ltB (xs.getD j []) (xs.getD k [])
                  · rw [e] at this; exact absurd this (by simp)
                  · rfl
                have HG : Hid (nameAt false xs k = true) := by rw [Hid, HNm.out, show wordOkB false (xs.getD k []) = true from HOk.out, show k - 1 = j from by have := HJ.out; omega, HX.out, Bool.or_true]; rfl
                go_wp2_with (first | (go_at_call 48; refine (implLowerOk_any ea en ec (xs.getD k []) _ HE.out).mono ?_; rintro e w5 ⟨rfl, hw5⟩; rw [hw5, HOk.out]; clear hw5) | (go_at_call 75; refine (bytesCompare_any HE1.out HE.out).mono ?_; rintro e w6 ⟨rfl, hw6⟩; rw [hw6, HCv.out]; clear hw6))
                go_roundw
                case rel => exact ⟨k + 1, by omega, by go_num, HSt.out HG.out, by first | rfl | trivial⟩
                case measure => simp [intOf]; omega
      · have HG : Hid (namesB false xs = true) := by rw [Hid, namesB, HL.out, show n = k by omega]; exact HAll.out
        go_wp2_with fail
        go_ret
        exact ⟨rb (by rw [HNM.out, HG.out]; rfl), rfl⟩
end

end Go.Proofs.YtknainelonaigaaGreatDoor
