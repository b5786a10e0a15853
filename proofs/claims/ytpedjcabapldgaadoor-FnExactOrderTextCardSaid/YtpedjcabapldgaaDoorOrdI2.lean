/- The program's look at the edges of an order, and at an order: contracts. -/
import Derived.Test.YtpedjcabapldgaaDoorOrdI1
import Derived.Deep.RegionHeld3
namespace Go.Proofs.YtpedjcabapldgaaDoor
open Go.RowKit

def sgn (x y : Int) : Int := if x < y then -1 else if y < x then 1 else 0

theorem cmpCompare_any (x y : Int) (w : World) : Calls Tryd.prog 49 #[.int .i64 x, .int .i64 y] w fun e w' => e = .returned (.int .i64 (sgn x y)) ∧ w' = w := by
  have hx : (x != x) = false := by simp
  have hy : (y != y) = false := by simp
  rcases (by omega : x < y ∨ y < x ∨ x = y) with h | h | h
  · have HE : Hid (sgn x y = -1) := if_pos h
    go_enter Tryd.func49, Tryd.ntmps49
    go_wp2
    go_ret
    exact ⟨ri HE.out.symm, rfl⟩
  · have hn : ¬ x < y := by omega
    have HE : Hid (sgn x y = 1) := by unfold Hid sgn; rw [if_neg hn, if_pos h]
    go_enter Tryd.func49, Tryd.ntmps49
    go_wp2
    go_ret
    exact ⟨ri HE.out.symm, rfl⟩
  · subst h
    have HE : Hid (sgn x x = 0) := by unfold Hid sgn; simp
    go_enter Tryd.func49, Tryd.ntmps49
    go_wp2
    go_ret
    exact ⟨ri HE.out.symm, rfl⟩


def orZ (x y : Int) : Int := if x = 0 then y else x
theorem orZ_lt (d e : Int × Int) : decide (0 ≤ orZ (sgn d.1 e.1) (sgn d.2 e.2)) = !(edgeLt d e) := by
  unfold orZ edgeLt sgn
  rcases (by omega : d.1 < e.1 ∨ e.1 < d.1 ∨ d.1 = e.1) with h | h | h
  · simp [h]
  · have h' : ¬ d.1 < e.1 := by omega
    have h'' : ¬ d.1 = e.1 := by omega
    simp [h, h', h'']
  · rcases (by omega : d.2 < e.2 ∨ e.2 < d.2 ∨ d.2 = e.2) with g | g | g
    · simp [h, g]
    · have g' : ¬ d.2 < e.2 := by omega
      simp [h, g, g']
    · simp [h, g]

theorem cells_two {w : World} {g t : Nat} {x y : Value} {fz : Nat × Nat} (h : w.heap[g]? = some (.cells #[x, y] t fz)) : w.cell? ⟨g, 0, none⟩ = some x ∧ w.cell? ⟨g, 1, none⟩ = some y := by
  refine ⟨?_, ?_⟩ <;> simp [World.cell?, h]

set_option maxRecDepth 100000 in
set_option maxHeartbeats 1000000 in
theorem cmpOr_any (x y : Int) {g t : Nat} {fz : Nat × Nat} (w : World) (h : w.heap[g]? = some (.cells #[.int .i64 x, .int .i64 y] t fz)) :
    Calls Tryd.prog 48 #[.slice (some ⟨g, 0, none⟩) 2 2] w fun e w' => e = .returned (.int .i64 (orZ x y)) ∧ w' = w := by
  obtain ⟨c0, c1⟩ := cells_two h
  clear h
  by_cases hx : x = 0
  · have hb : (x != 0) = false := by simp [hx]
    have HE : Hid (orZ x y = y) := if_pos hx
    clear hx
    by_cases hy : y = 0
    · have hb' : (y != 0) = false := by simp [hy]
      have HY : Hid (y = 0) := hy
      clear hy
      go_enter Tryd.func48, Tryd.ntmps48
      go_wp2
      refine wp_loop_rounds 3 ?_
      rw [rounds_succ]
      go_wp2
      rw [rounds_succ]
      go_wp2
      rw [rounds_succ]
      go_wp2
      go_ret
      exact ⟨ri (by rw [HE.out, HY.out]), rfl⟩
    · have hb' : (y != 0) = true := by simp [hy]
      clear hy
      go_enter Tryd.func48, Tryd.ntmps48
      go_wp2
      refine wp_loop_rounds 3 ?_
      rw [rounds_succ]
      go_wp2
      rw [rounds_succ]
      go_wp2
      go_ret
      exact ⟨ri HE.out.symm, rfl⟩
  · have hb : (x != 0) = true := by simp [hx]
    have HE : Hid (orZ x y = x) := if_neg hx
    clear hx
    go_enter Tryd.func48, Tryd.ntmps48
    go_wp2
    refine wp_loop_rounds 3 ?_
    rw [rounds_succ]
    go_wp2
    go_ret
    exact ⟨ri HE.out.symm, rfl⟩

set_option maxRecDepth 100000 in
set_option maxHeartbeats 2000000 in
theorem edgeCmp_any (d1 d2 e1 e2 : Int) (w : World) :
    Calls Tryd.prog 43 #[.agg #[.int .i64 d1, .int .i64 d2], .agg #[.int .i64 e1, .int .i64 e2]] w fun e w' => e = .returned (.int .i64 (orZ (sgn d1 e1) (sgn d2 e2))) ∧ Below w.heap.size w w' := by
  obtain ⟨W, hW⟩ : ∃ W, W = (w.alloc (.cells #[.int .i64 d1, .int .i64 d2] 44)).alloc (.cells #[.int .i64 e1, .int .i64 e2] 44) := ⟨_, rfl⟩
  have HW : Hid (W = (w.alloc (.cells #[.int .i64 d1, .int .i64 d2] 44)).alloc (.cells #[.int .i64 e1, .int .i64 e2] 44)) := hW
  have HB0 : Hid (Below w.heap.size w W) := by rw [hW]; exact ((Below.refl _ _).alloc (Nat.le_refl _) _).alloc (by simp) _
  have b1 : BoxP 44 W w.heap.size d1 d2 := by rw [hW]; exact (BoxP.new _ w _ _).below ((Below.refl _ _).alloc (Nat.le_refl _) _) (by simp)
  have b2 : BoxP 44 W (w.heap.size + 1) e1 e2 := by
    rw [hW]
    have := BoxP.new 44 (w.alloc (.cells #[.int .i64 d1, .int .i64 d2] 44)) e1 e2
    rwa [World.size_alloc] at this
  obtain ⟨z0, z1⟩ := b1.cells
  obtain ⟨y0, y1⟩ := b2.cells
  obtain ⟨s1, hs1⟩ : ∃ s, s = sgn d1 e1 := ⟨_, rfl⟩
  obtain ⟨s2, hs2⟩ : ∃ s, s = sgn d2 e2 := ⟨_, rfl⟩
  have H1 : Hid (s1 = sgn d1 e1) := hs1
  have H2 : Hid (s2 = sgn d2 e2) := hs2
  have HK : Hid (W.cell? ⟨w.heap.size, 0, none⟩ = some (.int .i64 d1) ∧ W.cell? ⟨w.heap.size, 1, none⟩ = some (.int .i64 d2) ∧ W.cell? ⟨w.heap.size + 1, 0, none⟩ = some (.int .i64 e1) ∧ W.cell? ⟨w.heap.size + 1, 1, none⟩ = some (.int .i64 e2)) := ⟨z0, z1, y0, y1⟩
  have HKd : Hid (W.drew.cell? ⟨w.heap.size, 0, none⟩ = some (.int .i64 d1) ∧ W.drew.cell? ⟨w.heap.size, 1, none⟩ = some (.int .i64 d2) ∧ W.drew.cell? ⟨w.heap.size + 1, 0, none⟩ = some (.int .i64 e1) ∧ W.drew.cell? ⟨w.heap.size + 1, 1, none⟩ = some (.int .i64 e2)) := ⟨z0, z1, y0, y1⟩
  have HKa : Hid ((W.alloc (.cells #[.int .i64 s1, .int .i64 s2] 3)).drew.cell? ⟨w.heap.size, 0, none⟩ = some (.int .i64 d1) ∧ (W.alloc (.cells #[.int .i64 s1, .int .i64 s2] 3)).drew.cell? ⟨w.heap.size, 1, none⟩ = some (.int .i64 d2) ∧ (W.alloc (.cells #[.int .i64 s1, .int .i64 s2] 3)).drew.cell? ⟨w.heap.size + 1, 0, none⟩ = some (.int .i64 e1) ∧ (W.alloc (.cells #[.int .i64 s1, .int .i64 s2] 3)).drew.cell? ⟨w.heap.size + 1, 1, none⟩ = some (.int .i64 e2)) := by
    have q1 := (b1.below (B := W.heap.size) ((Below.refl _ W).alloc (Nat.le_refl _) (.cells #[.int .i64 s1, .int .i64 s2] 3)) b1.lt).cells
    have q2 := (b2.below (B := W.heap.size) ((Below.refl _ W).alloc (Nat.le_refl _) (.cells #[.int .i64 s1, .int .i64 s2] 3)) b2.lt).cells
    exact ⟨q1.1, q1.2, q2.1, q2.2⟩
  clear hW b1 b2 hs1 hs2
  go_enter Tryd.func43, Tryd.ntmps43
  go_upto_region 1 with fail
  rw [← HW.out]
  first | go_region_held3 (fun V => V.cell? ⟨w.heap.size, 0, none⟩ = some (.int .i64 d1) ∧ V.cell? ⟨w.heap.size, 1, none⟩ = some (.int .i64 d2) ∧ V.cell? ⟨w.heap.size + 1, 0, none⟩ = some (.int .i64 e1) ∧ V.cell? ⟨w.heap.size + 1, 1, none⟩ = some (.int .i64 e2)) (first | with_reducible exact HK.out | with_reducible exact HKd.out | with_reducible exact HKa.out) (first
    | (go_at_call_of 49 d1; refine (cmpCompare_any d1 e1 _).mono ?_; rintro e w5 ⟨rfl, hw5⟩; rw [hw5, ← H1.out]; clear hw5)
    | (go_at_call_of 49 d2; refine (cmpCompare_any d2 e2 _).mono ?_; rintro e w6 ⟨rfl, hw6⟩; rw [hw6, ← H2.out]; clear hw6)
    | (go_at_call 48; refine (cmpOr_any s1 s2 (W.alloc (.cells #[.int .i64 s1, .int .i64 s2] 3)).drew (World.alloc_heap_new W _)).mono ?_; rintro e w7 ⟨rfl, hw7⟩; rw [hw7]; clear hw7)) | fail
  all_goals
    go_wp2_with fail
    go_ret
    exact ⟨ri (by rw [H1.out, H2.out]), (HB0.out.alloc HB0.out.size _).drew⟩

end Go.Proofs.YtpedjcabapldgaaDoor
