/- Two rows of numbers compared, as the library does it; the numbers of a clause in an array, as the program lays them: a contract of each function. -/
import Derived.Test.YtbnhdhdldcbokaaClBoxM
import Derived.Test.YtbnhdhdldcbokaaCmpNum2
import Derived.Deep.RegionWith
namespace Go.Proofs.Ytbnhdhdldcbokaa
open Go.RowKit

def sgn (x y : Int) : Int := if x < y then -1 else if y < x then 1 else 0

theorem cmpCompare_any (x y : Int) (w : World) : Calls Try.prog 56 #[.int .i64 x, .int .i64 y] w fun e w' => e = .returned (.int .i64 (sgn x y)) ∧ w' = w := by
  have hx : (x != x) = false := by simp
  have hy : (y != y) = false := by simp
  rcases (by omega : x < y ∨ y < x ∨ x = y) with h | h | h
  · have HE : Hid (sgn x y = -1) := if_pos h
    go_enter Try.func56, Try.ntmps56
    go_wp2
    go_ret
    exact ⟨ri HE.out.symm, rfl⟩
  · have hn : ¬ x < y := by omega
    have HE : Hid (sgn x y = 1) := by unfold Hid sgn; rw [if_neg hn, if_pos h]
    go_enter Try.func56, Try.ntmps56
    go_wp2
    go_ret
    exact ⟨ri HE.out.symm, rfl⟩
  · subst h
    have HE : Hid (sgn x x = 0) := by unfold Hid sgn; simp
    go_enter Try.func56, Try.ntmps56
    go_wp2
    go_ret
    exact ⟨ri HE.out.symm, rfl⟩

set_option maxRecDepth 100000 in
set_option maxHeartbeats 4000000 in
theorem slicesCompare_any {g1 g2 n c1 c2 : Nat} {F G : Nat → Int} {w : World} (hc : n ≤ 1048576) (h1 : ∀ i, i < n → w.cell? ⟨g1, i, none⟩ = some (.int .i64 (F i))) (h2 : ∀ i, i < n → w.cell? ⟨g2, i, none⟩ = some (.int .i64 (G i))) :
    Calls Try.prog 44 #[.slice (some ⟨g1, 0, none⟩) n c1, .slice (some ⟨g2, 0, none⟩) n c2] w fun e w' => e = .returned (.int .i64 (cmpR F G n)) ∧ w' = w := by
  have H1 : Hid (∀ i, i < n → w.cell? ⟨g1, i, none⟩ = some (.int .i64 (F i))) := h1
  have H2 : Hid (∀ i, i < n → w.cell? ⟨g2, i, none⟩ = some (.int .i64 (G i))) := h2
  clear h1 h2
  go_enter Try.func44, Try.ntmps44
  go_wp2_with fail
  go_loop [11] (fun i => ∃ j : Nat, j ≤ n ∧ i = .int .i64 j ∧ ∀ i, i < j → F i = G i) (fun i => n - (intOf i).toNat)
  case atStart => exact ⟨0, Nat.zero_le _, rfl, fun i hi => absurd hi (by omega)⟩
  case round =>
    obtain ⟨j, hj, rfl, hall⟩ := hrel
    have HAll : Hid (∀ i, i < j → F i = G i) := hall
    clear hall
    by_cases hlt : j < n
    · have q1 := H1.out j hlt
      have q2 := H2.out j hlt
      obtain ⟨x, hx⟩ : ∃ x, x = F j := ⟨_, rfl⟩
      obtain ⟨y, hy⟩ : ∃ y, y = G j := ⟨_, rfl⟩
      rw [← hx] at q1
      rw [← hy] at q2
      have HX' : Hid (x = F j) := hx
      have HY' : Hid (y = G j) := hy
      have hki : (j : Int) < (n : Int) := by omega
      clear hx hy
      go_wp2_with fail
      refine (cmpCompare_any x y w).mono ?_
      rintro e w' ⟨rfl, hw⟩
      rw [hw]
      clear hw
      obtain ⟨s, hs⟩ : ∃ s, s = sgn x y := ⟨_, rfl⟩
      rw [← hs]
      by_cases h0 : s = 0
      · have he : x = y := by
          rw [h0] at hs
          unfold sgn at hs
          split at hs
          · omega
          · split at hs <;> omega
        have HAll' : Hid (∀ i, i < j + 1 → F i = G i) := by
          intro i hi
          by_cases e : i = j
          · subst e; rw [← HX'.out, ← HY'.out]; exact he
          · exact HAll.out i (by omega)
        have hsb : (s != 0) = false := by simp [h0]
        clear h0 hs he
        go_wp2_with fail
        go_round
        case rel => exact ⟨j + 1, by omega, by go_num, HAll'.out⟩
        case measure => simp [intOf]; omega
      · have HR : Hid (s = cmpR F G n) := by
          have hd : x ≠ y := fun e => h0 (by rw [hs, e]; unfold sgn; simp)
          unfold Hid
          rw [cmpR_hit (i := j) hlt HAll.out (by rw [← HX'.out, ← HY'.out]; exact hd), ← HX'.out, ← HY'.out, hs]
          unfold sgn
          by_cases hl : x < y
          · rw [if_pos hl, if_pos hl]
          · rw [if_neg hl, if_neg hl, if_pos (by omega)]
        have hsb : (s != 0) = true := by simpa using h0
        clear h0 hs
        go_wp2_with fail
        go_ret
        exact ⟨ri HR.out, rfl⟩
    · have HR : Hid (cmpR F G n = 0) := cmpR_none (fun i hi => HAll.out i (by omega))
      have hd : decide ((j : Int) < (n : Int)) = false := by simp; omega
      go_wp2_with fail
      all_goals
        go_ret
        exact ⟨ri HR.out.symm, rfl⟩

end Go.Proofs.Ytbnhdhdldcbokaa
