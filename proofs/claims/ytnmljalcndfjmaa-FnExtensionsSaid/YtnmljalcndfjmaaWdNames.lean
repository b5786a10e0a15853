/- What makes a world one that may be, as mathematics. -/
import Derived.Test.YtnmljalcndfjmaaNG3
import Derived.Test.YtnmljalcndfjmaaNG4
import Derived.Test.YtnmljalcndfjmaaNG1
import Derived.Test.YtnmljalcndfjmaaNG2
import Derived.Deep.QuietTactic
import Derived.BigQuiet
namespace Go.Proofs.Ytnmljalcndfjmaa
open Go.RowKit

def wordOkB (up : Bool) (zs : List Int) : Bool := if up = true then upOk zs else lowOk zs
def ltB (xs ys : List Int) : Bool := Op.bytesLess (strOfNums xs).toList (strOfNums ys).toList
def nameAt (up : Bool) (l : List (List Int)) (i : Nat) : Bool := wordOkB up (l.getD i []) && (decide (i = 0) || ltB (l.getD (i - 1) []) (l.getD i []))
def namesB (up : Bool) (l : List (List Int)) : Bool := (List.range l.length).all (nameAt up l)

theorem range_all_succ (p : Nat → Bool) (k : Nat) : (List.range (k + 1)).all p = ((List.range k).all p && p k) := by
  rw [List.range_succ, List.all_append]; simp

theorem range_all_false {p : Nat → Bool} {n k : Nat} (hk : k < n) (h : p k = false) : (List.range n).all p = false := by
  rw [List.all_eq_false]
  exact ⟨k, List.mem_range.2 hk, by simp [h]⟩

def flagsB (l : List (List Bool)) (m : Int) : Bool := (List.range l.length).all (fun i => decide (((l.getD i []).length : Int) = m))
def atB (l : List Int) (n : Int) : Bool := (List.range l.length).all (fun i => decide (0 ≤ l.getD i 0 ∧ l.getD i 0 < n))

def worldB (x : WD) : Bool :=
  (decide (1 ≤ x.n ∧ x.n ≤ 128) && (decide (x.names.length ≤ 12) && (decide (x.roles.length ≤ 6) && (decide (x.inds.length ≤ 6) && (decide (x.sets.length = x.names.length) && (decide (x.rels.length = x.roles.length) && decide (x.at'.length = x.inds.length))))))) &&
  ((namesB true x.names && (namesB false x.roles && namesB false x.inds)) && (flagsB x.sets x.n && (flagsB x.rels (x.n * x.n) && atB x.at' x.n)))

set_option maxRecDepth 100000 in
set_option maxHeartbeats 8000000 in
theorem l4names_any (a : Option Addr) (n cap : Nat) (xs : List (List Int)) (up : Bool) (w : World) {lo hi : Nat} (h : RSS lo hi w a n cap xs) :
    Calls Try.prog 18 #[.slice a n cap, .bool up] w fun e w' => e = .returned (.bool (namesB up xs)) ∧ ∃ nd, w' = w.drewN nd := by
  have HR : Hid (RSS lo hi w a n cap xs) := h
  have HL : Hid (xs.length = n) := h.len
  have hf := h.fits
  clear h
  go_enter Try.func18, Try.ntmps18
  go_wp2_with fail
  go_loopw [5] (fun i wr => ∃ k : Nat, k ≤ n ∧ i = .int .i64 k ∧ (List.range k).all (nameAt up xs) = true ∧ ∃ nd, wr = w.drewN nd) (fun i _ => n - (intOf i).toNat)
  case atStart => exact ⟨0, Nat.zero_le _, rfl, by simp, 0, rfl⟩
  case round =>
    obtain ⟨k, hk, rfl, hall, nd, hwr⟩ := hrel
    have HD : Hid (wr = w.drewN nd) := hwr
    have HR1 : Hid (RSS lo hi wr a n cap xs) := by unfold Hid; rw [hwr]; exact HR.out.same (fun _ _ _ => rfl)
    clear hwr
    have HAll : Hid ((List.range k).all (nameAt up xs) = true) := hall
    clear hall
    by_cases hlt : k < n
    · rcases HR1.out.cells with hz | ⟨b, off, e1, _, _, hc⟩
      · omega
      · subst e1
        obtain ⟨v, c0, ea, en, ec, rfl, hr⟩ := hc k hlt
        have HE : Hid (Rd lo hi wr ea en ec (xs.getD k [])) := hr
        have hki : (k : Int) < (n : Int) := by omega
        have HNm : Hid (nameAt up xs k = (wordOkB up (xs.getD k []) && (decide (k = 0) || ltB (xs.getD (k - 1) []) (xs.getD k [])))) := rfl
        have HSt : Hid (nameAt up xs k = true → (List.range (k + 1)).all (nameAt up xs) = true) := fun h1 => by rw [range_all_succ, HAll.out, h1]; rfl
        have HFa : Hid (nameAt up xs k = false → namesB up xs = false) := fun h1 => range_all_false (by rw [HL.out]; exact hlt) h1
        obtain ⟨ok, hok⟩ : ∃ ok, ok = wordOkB up (xs.getD k []) := ⟨_, rfl⟩
        have HOk : Hid (ok = wordOkB up (xs.getD k [])) := hok
        by_cases hk0 : k = 0
        · have hd0 : decide (0 < k) = false := by simp; omega
          have HK0 : Hid (k = 0) := hk0
          clear hc hr hok hk0
          cases up with
          | true =>
            have HU : Hid (∀ W : World, (∀ b, W.heap[b]? = wr.heap[b]?) → Calls Try.prog 46 #[.slice ea en ec] W fun e w' => e = .returned (.bool ok) ∧ w' = W) := fun W hW => by
              have := specUpperOk_any ea en ec (xs.getD k []) W (HE.out.same (fun b _ _ => hW b))
              rw [HOk.out]; exact this
            cases ok with
            | true =>
              have HG : Hid (nameAt true xs k = true) := by rw [Hid, HNm.out, ← HOk.out, decide_eq_true HK0.out]; rfl
              go_wp2_with fail
              go_quiet (first | (go_at_call 46; exact Calls.quiet_of_same (HU.out _ (fun _ => rfl))))
              go_wp2_with fail
              go_roundw
              case rel => exact ⟨k + 1, by omega, by go_num, HSt.out HG.out, nd + nq, by rw [HD.out]; first | rfl | exact drew_add _ _ _⟩
              case measure => simp [intOf]; omega
            | false =>
              have HG : Hid (namesB true xs = false) := HFa.out (by rw [HNm.out, ← HOk.out]; rfl)
              go_wp2_with fail
              go_quiet (first | (go_at_call 46; exact Calls.quiet_of_same (HU.out _ (fun _ => rfl))))
              go_wp2_with fail
              go_ret
              exact ⟨rb HG.out.symm, nd + nq, by rw [HD.out]; first | rfl | exact drew_add _ _ _⟩
          | false =>
            have HU : Hid (∀ W : World, (∀ b, W.heap[b]? = wr.heap[b]?) → Calls Try.prog 47 #[.slice ea en ec] W fun e w' => e = .returned (.bool ok) ∧ w' = W) := fun W hW => by
              have := specLowerOk_any ea en ec (xs.getD k []) W (HE.out.same (fun b _ _ => hW b))
              rw [HOk.out]; exact this
            cases ok with
            | true =>
              have HG : Hid (nameAt false xs k = true) := by rw [Hid, HNm.out, ← HOk.out, decide_eq_true HK0.out]; rfl
              go_wp2_with fail
              go_quiet (first | (go_at_call 47; exact Calls.quiet_of_same (HU.out _ (fun _ => rfl))))
              go_wp2_with fail
              go_roundw
              case rel => exact ⟨k + 1, by omega, by go_num, HSt.out HG.out, nd + nq, by rw [HD.out]; first | rfl | exact drew_add _ _ _⟩
              case measure => simp [intOf]; omega
            | false =>
              have HG : Hid (namesB false xs = false) := HFa.out (by rw [HNm.out, ← HOk.out]; rfl)
              go_wp2_with fail
              go_quiet (first | (go_at_call 47; exact Calls.quiet_of_same (HU.out _ (fun _ => rfl))))
              go_wp2_with fail
              go_ret
              exact ⟨rb HG.out.symm, nd + nq, by rw [HD.out]; first | rfl | exact drew_add _ _ _⟩
        · obtain ⟨j, HJ⟩ : ∃ j, Hid (k = j + 1) := ⟨k - 1, by unfold Hid; omega⟩
          obtain ⟨v', c1, pa, pn, pc, rfl, hr1⟩ := hc j (by have := HJ.out; omega)
          have HE1 : Hid (Rd lo hi wr pa pn pc (xs.getD j [])) := hr1
          have hd0 : decide (0 < k) = true := by simp; omega
          have hd1 : 0 < k := by omega
          have hj1 : (k : Int) - 1 = (j : Int) := by have := HJ.out; omega
          have hj2 : (j : Int) < (n : Int) := by have := HJ.out; omega
          have hcv0 : ∀ m, (convert 22 9 (.slice ea en ec)).run Try.prog (wr.drewN m) = .ok (.string (strOfNums (xs.getD k []))) (wr.drewN m) := fun m => conv_any (HE.out.same (fun _ _ _ => rfl))
          have hcv1 : ∀ m, (convert 22 9 (.slice pa pn pc)).run Try.prog (wr.drewN m) = .ok (.string (strOfNums (xs.getD j []))) (wr.drewN m) := fun m => conv_any (HE1.out.same (fun _ _ _ => rfl))
          obtain ⟨lt, hltb⟩ : ∃ lt, lt = ltB (xs.getD j []) (xs.getD k []) := ⟨_, rfl⟩
          have HLt : Hid (lt = ltB (xs.getD j []) (xs.getD k [])) := hltb
          obtain ⟨sx, hsx⟩ : ∃ s, s = strOfNums (xs.getD j []) := ⟨_, rfl⟩
          obtain ⟨sy, hsy⟩ : ∃ s, s = strOfNums (xs.getD k []) := ⟨_, rfl⟩
          have hbl : Op.bytesLess sx.toList sy.toList = lt := by rw [hsx, hsy, hltb]; rfl
          rw [← hsy] at hcv0
          rw [← hsx] at hcv1
          clear hc hr hr1 hok hltb hsx hsy hk0
          cases up with
          | true =>
            have HU : Hid (∀ W : World, (∀ b, W.heap[b]? = wr.heap[b]?) → Calls Try.prog 46 #[.slice ea en ec] W fun e w' => e = .returned (.bool ok) ∧ w' = W) := fun W hW => by
              have := specUpperOk_any ea en ec (xs.getD k []) W (HE.out.same (fun b _ _ => hW b))
              rw [HOk.out]; exact this
            cases ok with
            | false =>
              have HG : Hid (namesB true xs = false) := HFa.out (by rw [HNm.out, ← HOk.out]; rfl)
              go_wp2_with fail
              go_quiet (first | (go_at_call 46; exact Calls.quiet_of_same (HU.out _ (fun _ => rfl))))
              go_wp2_with fail
              go_ret
              exact ⟨rb HG.out.symm, nd + nq, by rw [HD.out]; first | rfl | exact drew_add _ _ _⟩
            | true =>
              cases lt with
              | true =>
                have HG : Hid (nameAt true xs k = true) := by rw [Hid, HNm.out, ← HOk.out, show k - 1 = j from by have := HJ.out; omega, ← HLt.out]; simp
                go_wp2_with fail
                go_quiet (first | (go_at_call 46; exact Calls.quiet_of_same (HU.out _ (fun _ => rfl))))
                go_wp2_with fail
                go_roundw
                case rel => exact ⟨k + 1, by omega, by go_num, HSt.out HG.out, nd + nq, by rw [HD.out]; first | rfl | exact drew_add _ _ _⟩
                case measure => simp [intOf]; omega
              | false =>
                have HG : Hid (namesB true xs = false) := HFa.out (by rw [HNm.out, ← HOk.out, show k - 1 = j from by have := HJ.out; omega, ← HLt.out]; simp; have := HJ.out; omega)
                go_wp2_with fail
                go_quiet (first | (go_at_call 46; exact Calls.quiet_of_same (HU.out _ (fun _ => rfl))))
                go_wp2_with fail
                go_ret
                exact ⟨rb HG.out.symm, nd + nq, by rw [HD.out]; first | rfl | exact drew_add _ _ _⟩
          | false =>
            have HU : Hid (∀ W : World, (∀ b, W.heap[b]? = wr.heap[b]?) → Calls Try.prog 47 #[.slice ea en ec] W fun e w' => e = .returned (.bool ok) ∧ w' = W) := fun W hW => by
              have := specLowerOk_any ea en ec (xs.getD k []) W (HE.out.same (fun b _ _ => hW b))
              rw [HOk.out]; exact this
            cases ok with
            | false =>
              have HG : Hid (namesB false xs = false) := HFa.out (by rw [HNm.out, ← HOk.out]; rfl)
              go_wp2_with fail
              go_quiet (first | (go_at_call 47; exact Calls.quiet_of_same (HU.out _ (fun _ => rfl))))
              go_wp2_with fail
              go_ret
              exact ⟨rb HG.out.symm, nd + nq, by rw [HD.out]; first | rfl | exact drew_add _ _ _⟩
            | true =>
              cases lt with
              | true =>
                have HG : Hid (nameAt false xs k = true) := by rw [Hid, HNm.out, ← HOk.out, show k - 1 = j from by have := HJ.out; omega, ← HLt.out]; simp
                go_wp2_with fail
                go_quiet (first | (go_at_call 47; exact Calls.quiet_of_same (HU.out _ (fun _ => rfl))))
                go_wp2_with fail
                go_roundw
                case rel => exact ⟨k + 1, by omega, by go_num, HSt.out HG.out, nd + nq, by rw [HD.out]; first | rfl | exact drew_add _ _ _⟩
                case measure => simp [intOf]; omega
              | false =>
                have HG : Hid (namesB false xs = false) := HFa.out (by rw [HNm.out, ← HOk.out, show k - 1 = j from by have := HJ.out; omega, ← HLt.out]; simp; have := HJ.out; omega)
                go_wp2_with fail
                go_quiet (first | (go_at_call 47; exact Calls.quiet_of_same (HU.out _ (fun _ => rfl))))
                go_wp2_with fail
                go_ret
                exact ⟨rb HG.out.symm, nd + nq, by rw [HD.out]; first | rfl | exact drew_add _ _ _⟩
    · have HG : Hid (namesB up xs = true) := by rw [Hid, namesB, HL.out, show n = k by omega]; exact HAll.out
      go_wp2_with fail
      go_ret
      exact ⟨rb HG.out.symm, nd, HD.out⟩
    

end Go.Proofs.Ytnmljalcndfjmaa
