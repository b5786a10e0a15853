/- Several texts in one: ConTree, ConShape. -/
import Derived.Test.YthojlfcahhjfaaaNSp
import Derived.RangeFuncNested
import Derived.RangeFuncBound
import Derived.RangeFuncCalls
import Derived.RangeFuncLeaves
import Derived.RangeFuncBox
import Derived.Shelf.Abstract
import Derived.Shelf.RegionOpen
import Derived.OwnWalkIn
import Derived.TacticsInMore
import Derived.LoopNIn
import Derived.LoopIn
import Derived.Laws.EntriesVeiled
import Derived.Deep.RegionWith
namespace Go.Proofs.Ythojlfcahhjfaaa

section
open Go.RowKit Go.Shelf

attribute [local go_sem] Oper.semAt_some

set_option maxHeartbeats 1000000 in
theorem kidsOf_in (n : Nat) (v0 v1 v2 v3 : Value) (w : World) :
    CallsIn Fence.wide n Try.prog 97 #[.agg #[v0, v1, v2, v3]] w fun e w' => e = .returned v3 ∧ w' = w.alloc (.cells #[v0, v1, v2, v3] 35) := by
  refine callsIn_of_wp Try.func97 rfl trivial ?_ rfl
  simp only [Try.ntmps97, List.size_toArray, List.length_cons, List.length_nil, Nat.reduceAdd, Nat.reduceSub, Array.replicate_succ, Array.replicate_zero, List.push_toArray, List.append_toArray, List.nil_append, List.cons_append]
  gi_wp2
  go_ret
  exact ⟨rfl, rfl⟩

set_option maxHeartbeats 1000000 in
theorem conTree_in (n : Nat) (k : Int) (na : Option Addr) (nn nc : Nat) (ra : Option Addr) (rn rc : Nat) (ka : Option Addr) (kn kc : Nat) (w : World) :
    CallsIn Fence.wide n Try.prog 57 #[.agg #[.int .i64 k, .slice na nn nc, .slice ra rn rc, .slice ka kn kc]] w fun e w' => e = .returned (.agg #[.int .i64 k, .slice na nn nc, .slice ra rn rc, .slice ka kn kc, .func (.func 97) #[] #[]]) ∧
      w' = (w.alloc (.cells #[.int .i64 k, .slice na nn nc, .slice ra rn rc, .slice ka kn kc] 35)).alloc (.cells #[.int .i64 k, .slice na nn nc, .slice ra rn rc, .slice ka kn kc, .func (.func 97) #[] #[]] 78) := by
  refine callsIn_of_wp Try.func57 rfl trivial ?_ rfl
  simp only [Try.ntmps57, List.size_toArray, List.length_cons, List.length_nil, Nat.reduceAdd, Nat.reduceSub, Array.replicate_succ, Array.replicate_zero, List.push_toArray, List.append_toArray, List.nil_append, List.cons_append]
  gi_wp2
  refine bodyPost_ret (v := .agg #[.int .i64 k, .slice na nn nc, .slice ra rn rc, .slice ka kn kc, .func (.func 97) #[] #[]]) (by simp [results, Try.results57, go_sem]) rfl ⟨rfl, rfl⟩

set_option maxHeartbeats 1000000 in
theorem all_in (n : Nat) (k : Int) (na : Option Addr) (nn nc : Nat) (ra : Option Addr) (rn rc : Nat) (ka : Option Addr) (kn kc : Nat) (w : World) :
    CallsIn Fence.wide n Try.prog 58 #[.agg #[.int .i64 k, .slice na nn nc, .slice ra rn rc, .slice ka kn kc, .func (.func 97) #[] #[]]] w fun e w' => e = .returned (.func (.func 98) #[] #[.pointer (some ⟨w.heap.size, 0, none⟩)]) ∧
      w' = w.alloc (.cells #[.int .i64 k, .slice na nn nc, .slice ra rn rc, .slice ka kn kc, .func (.func 97) #[] #[]] 78) := by
  refine callsIn_of_wp Try.func58 rfl trivial ?_ rfl
  simp only [Try.ntmps58, List.size_toArray, List.length_cons, List.length_nil, Nat.reduceAdd, Nat.reduceSub, Array.replicate_succ, Array.replicate_zero, List.push_toArray, List.append_toArray, List.nil_append, List.cons_append]
  gi_wp2
  go_ret
  exact ⟨rfl, rfl⟩
end

section
open Go.RowKit

set_option maxHeartbeats 400000 in
theorem kidCount_any (k : Int) (w : World) : Calls Try.prog 102 #[.int .i64 k] w fun e w' => e = .returned (.int .i64 (kidN k)) ∧ w' = w := by
  go_enter Try.func102, Try.ntmps102
  go_wp2
  all_goals
    go_ret
    refine ⟨ri ?_, rfl⟩
    first | (simp_all [kidN]; done) | (unfold kidN; simp_all; omega)

set_option maxHeartbeats 400000 in
theorem hasRole_any (k : Int) (w : World) : Calls Try.prog 92 #[.int .i64 k] w fun e w' => e = .returned (.bool (roleB k)) ∧ w' = w := by
  by_cases h : k = 6
  · subst h
    go_enter Try.func92, Try.ntmps92
    go_wp2
    go_ret
    exact ⟨rfl, rfl⟩
  · have h6 : (k == 6) = false := by simpa using h
    have HE : Hid (roleB k = (k == 7)) := by unfold Hid roleB; simp [h]; rfl
    go_enter Try.func92, Try.ntmps92
    go_wp2
    go_ret
    exact ⟨rb HE.out.symm, rfl⟩

set_option maxRecDepth 100000 in
set_option maxHeartbeats 1000000 in
theorem nameFits_any {d : Nat} {v : Value} {c : CN} {w : World} {lo hi : Nat} (h : RdC lo hi w d v c) (hhi : hi ≤ w.heap.size) :
    Calls Try.prog 100 #[v] w fun e w' => e = .returned (.bool (nameFit c)) ∧ Below w.heap.size w w' := by
  cases d with
  | zero => exact h.elim
  | succ d =>
    obtain ⟨na, nn, nc, ra, rn, rc, ka, kn, kc, rfl, hn, _, _⟩ := h
    have hnl := hn.len
    have hb0 : Below w.heap.size w (w.alloc (.cells #[.int .i64 c.kind, .slice na nn nc, .slice ra rn rc, .slice ka kn kc] 35)) := (Below.refl _ _).alloc (Nat.le_refl _) _
    have HB0 : Hid (Below w.heap.size w (w.alloc (.cells #[.int .i64 c.kind, .slice na nn nc, .slice ra rn rc, .slice ka kn kc] 35))) := hb0
    have HN : Hid (Rd lo hi (w.alloc (.cells #[.int .i64 c.kind, .slice na nn nc, .slice ra rn rc, .slice ka kn kc] 35)) na nn nc c.name) := hn.below hb0 hhi
    have HNF : Hid (nameFit c = if c.kind = 2 then (upOk c.name && !keptB (strOfNums c.name).toList) else decide (nn = 0)) := by unfold Hid nameFit; rw [hnl]
    obtain ⟨k, hkd⟩ : ∃ k, k = c.kind := ⟨_, rfl⟩
    rw [← hkd] at HB0 HN HNF ⊢
    clear hb0 hn hkd hnl
    by_cases k2 : k = 2
    · subst k2
      rw [if_pos rfl] at HNF
      cases hU : upOk c.name
      · have HX : Hid (nameFit c = false) := by unfold Hid; rw [HNF.out, hU]; rfl
        go_enter Try.func100, Try.ntmps100
        go_wp2_with (first | (go_at_call 15; refine (implUpperOk_any na nn nc c.name _ HN.out).mono ?_; rintro e w' ⟨rfl, hw⟩; rw [hw, hU]; clear hw))
        go_ret
        exact ⟨rb HX.out.symm, HB0.out⟩
      · obtain ⟨kp, hkp⟩ : ∃ kp, kp = keptB (strOfNums c.name).toList := ⟨_, rfl⟩
        have HX : Hid (nameFit c = !kp) := by unfold Hid; rw [HNF.out, hU, hkp]; rfl
        have HKp : Hid (kp = keptB (strOfNums c.name).toList) := hkp
        clear hkp
        go_enter Try.func100, Try.ntmps100
        go_wp2_with (first | (go_at_call 15; refine (implUpperOk_any na nn nc c.name _ HN.out).mono ?_; rintro e w' ⟨rfl, hw⟩; rw [hw, hU]; clear hw) | (go_at_call 17; refine (implKept_any na nn nc c.name _ HN.out).mono ?_; rintro e w' ⟨rfl, hw⟩; rw [hw, ← HKp.out]; clear hw))
        go_ret
        exact ⟨rb HX.out.symm, HB0.out⟩
    · rw [if_neg k2] at HNF
      have hk2 : (k == 2) = false := by simpa using k2
      have HX : Hid (nameFit c = ((nn : Int) == 0)) := by unfold Hid; rw [HNF.out]; by_cases h : nn = 0 <;> simp [h]
      go_enter Try.func100, Try.ntmps100
      go_wp2_with fail
      go_ret
      exact ⟨rb (by rw [HX.out]), HB0.out⟩

set_option maxRecDepth 100000 in
set_option maxHeartbeats 1000000 in
theorem roleFits_any {d : Nat} {v : Value} {c : CN} {w : World} {lo hi : Nat} (h : RdC lo hi w d v c) (hhi : hi ≤ w.heap.size) :
    Calls Try.prog 101 #[v] w fun e w' => e = .returned (.bool (roleFit c)) ∧ Below w.heap.size w w' := by
  cases d with
  | zero => exact h.elim
  | succ d =>
    obtain ⟨na, nn, nc, ra, rn, rc, ka, kn, kc, rfl, _, hr, _⟩ := h
    have hrl := hr.len
    have hb0 : Below w.heap.size w (w.alloc (.cells #[.int .i64 c.kind, .slice na nn nc, .slice ra rn rc, .slice ka kn kc] 35)) := (Below.refl _ _).alloc (Nat.le_refl _) _
    have HB0 : Hid (Below w.heap.size w (w.alloc (.cells #[.int .i64 c.kind, .slice na nn nc, .slice ra rn rc, .slice ka kn kc] 35))) := hb0
    have HR : Hid (Rd lo hi (w.alloc (.cells #[.int .i64 c.kind, .slice na nn nc, .slice ra rn rc, .slice ka kn kc] 35)) ra rn rc c.role) := hr.below hb0 hhi
    have HRF : Hid (roleFit c = if roleB c.kind = true then lowOk c.role else decide (rn = 0)) := by unfold Hid roleFit; rw [hrl]
    obtain ⟨k, hkd⟩ : ∃ k, k = c.kind := ⟨_, rfl⟩
    rw [← hkd] at HB0 HR HRF ⊢
    clear hb0 hr hkd hrl
    cases hm : roleB k
    · have HX : Hid (roleFit c = ((rn : Int) == 0)) := by unfold Hid; rw [HRF.out, hm, if_neg (by simp)]; by_cases h : rn = 0 <;> simp [h]
      go_enter Try.func101, Try.ntmps101
      go_wp2_with (first | (go_at_call 92; refine (hasRole_any _ _).mono ?_; rintro e w' ⟨rfl, hw⟩; rw [hw, hm]; clear hw))
      go_ret
      exact ⟨rb (by rw [HX.out]), HB0.out⟩
    · have HX : Hid (roleFit c = lowOk c.role) := by unfold Hid; rw [HRF.out, hm, if_pos rfl]
      go_enter Try.func101, Try.ntmps101
      go_wp2_with (first | (go_at_call 92; refine (hasRole_any _ _).mono ?_; rintro e w' ⟨rfl, hw⟩; rw [hw, hm]; clear hw) | (go_at_call 16; refine (implLowerOk_any ra rn rc c.role _ HR.out).mono ?_; rintro e w' ⟨rfl, hw⟩; rw [hw]; clear hw))
      go_ret
      exact ⟨rb HX.out.symm, HB0.out⟩
end

end Go.Proofs.Ythojlfcahhjfaaa
