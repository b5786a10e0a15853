/- Flags of elements: each, meets, within of the program, and what the ways of a claim ask of an element. -/
import Derived.Test.YtfbokljbmihlbaaGreatNSatM
import Derived.Test.YtfbokljbmihlbaaGreatNSrch
import Derived.Deep.RegionHeld3
namespace Go.Proofs.YtfbokljbmihlbaaGreat
open Go.RowKit Go.Deep
set_option linter.unusedVariables false

def partF (f : Nat → Bool) (k i : Nat) : Value := .bool (if i < k then f i else false)

theorem rowF_step {w : World} {g n : Nat} {f : Nat → Bool} {k : Nat} (h : w.rowIs g 4 n (partF f k)) : (w.setCell ⟨g, k, none⟩ (.bool (f k))).rowIs g 4 n (partF f (k + 1)) := by
  refine (h.set k _).congr fun i _ => ?_
  unfold partF
  by_cases e : i = k
  · subst e; simp
  · rw [if_neg e]
    congr 1
    by_cases h1 : i < k
    · rw [if_pos h1, if_pos (by omega)]
    · rw [if_neg h1, if_neg (by omega)]

/-- Flags in memory. -/
def FlS (w : World) (b o : Nat) (L : Nat) (f : Nat → Bool) : Prop := b < w.heap.size ∧ ∀ q, q < L → w.cell? ⟨b, o + q, none⟩ = some (.bool (f q))
theorem FlS.below {w w' : World} {b o L : Nat} {f : Nat → Bool} (h : FlS w b o L f) (hb : Below w.heap.size w w') : FlS w' b o L f :=
  ⟨Nat.lt_of_lt_of_le h.1 hb.size, fun q hq => (hb.cell (p := ⟨b, o + q, none⟩) h.1).trans (h.2 q hq)⟩

set_option maxRecDepth 100000 in
set_option maxHeartbeats 4000000 in
/-- For whatever function that answers at every element. -/
theorem each_any (F : Nat) (cp : Array Value) (f : Nat → Bool) (L : Nat) {ia : Option Addr} {im ic : Nat} {ta : Option Addr} {tn tc : Nat} (w : World) (hL : L ≤ 128)
    (hen : ∀ (args : Array Value) (V : World), (callFunc F args).run Tryz.prog V = .ok (.enter F args) V)
    (hg : ∀ (e : Nat) (V : World), e < L → Below w.heap.size w V → Calls Tryz.prog F (#[.int .i64 e] ++ cp) V fun r w' => r = .returned (.bool (f e)) ∧ Below V.heap.size V w') :
    Calls Tryz.prog 96 #[.agg #[.int .i64 L, .slice ia im ic, .slice ta tn tc], .func (.func F) #[] cp] w fun r w' => ∃ g, r = .returned (.slice (some ⟨g, 0, none⟩) L L) ∧ w.heap.size ≤ g ∧ FlS w' g 0 L f ∧ Below w.heap.size w w' := by
  have HG : Hid (∀ (e : Nat) (V : World), e < L → Below w.heap.size w V → Calls Tryz.prog F (#[.int .i64 e] ++ cp) V fun r w' => r = .returned (.bool (f e)) ∧ Below V.heap.size V w') := hg
  obtain ⟨W0, hW0⟩ : ∃ W0, W0 = w.alloc (.cells #[.int .i64 L, .slice ia im ic, .slice ta tn tc] 71) := ⟨_, rfl⟩
  have HW0 : Hid (W0 = w.alloc (.cells #[.int .i64 L, .slice ia im ic, .slice ta tn tc] 71)) := hW0
  have hs0 : w.heap.size < W0.heap.size := by rw [hW0]; simp
  have hb0 : Below w.heap.size w W0 := by rw [hW0]; exact (Below.refl _ _).alloc (Nat.le_refl _) _
  have z0 : W0.cell? ⟨w.heap.size, 0, none⟩ = some (.int .i64 L) := by rw [hW0]; simp
  have HB1 : Hid (Below w.heap.size w (W0.alloc (.cells (madeCells #[.bool false] L) 4))) := hb0.alloc (by omega) _
  have HR1 : Hid ((W0.alloc (.cells (madeCells #[.bool false] L) 4)).rowIs W0.heap.size 4 L (partF f 0)) := (World.rowIs_made W0 (.bool false) L 4).congr (fun i _ => by simp [partF])
  have hmk := run_make_row' (P := Tryz.prog) 87 4 (.bool false) 1 Tryz.underlying87 Tryz.info4w rfl .i64 .i64 L (by omega) (by omega) W0
  clear hg hb0 hW0
  go_enter Tryz.func96, Tryz.ntmps96
  go_upto_region 1 with fail
  rw [← HW0.out]
  go_wp2_with fail
  clear hmk z0
  go_loopw [12] (fun i wr => ∃ k : Nat, k ≤ L ∧ i = .int .i64 k ∧ wr.rowIs W0.heap.size 4 L (partF f k) ∧ Below w.heap.size w wr) (fun i _ => L - (intOf i).toNat)
  case atStart => exact ⟨0, Nat.zero_le _, rfl, HR1.out, HB1.out⟩
  case round =>
    obtain ⟨k, hk, rfl, hrow, hbel⟩ := hrel
    have HRow : Hid (wr.rowIs W0.heap.size 4 L (partF f k)) := hrow
    have HBe : Hid (Below w.heap.size w wr) := hbel
    have hszr := hbel.size
    have hgl := hrow.lt
    clear hrow hbel
    by_cases hlt : k < L
    · have hki : (k : Int) < (L : Int) := by omega
      go_wp2_with fail
      refine (HG.out k wr hlt HBe.out).mono ?_
      rintro r w5 ⟨rfl, hb5⟩
      have hrow5 : w5.rowIs W0.heap.size 4 L (partF f k) := HRow.out.of_block (hb5.block _ hgl)
      have hfz := hrow5.frozen k
      obtain ⟨fk, hfk⟩ : ∃ fk, fk = f k := ⟨_, rfl⟩
      have hold : w5.cell? ⟨W0.heap.size, k, none⟩ = some (.bool false) := by have := hrow5.cell hlt; simpa [partF] using this
      have HR : Hid ((w5.setCell ⟨W0.heap.size, k, none⟩ (.bool fk)).rowIs W0.heap.size 4 L (partF f (k + 1))) := by unfold Hid; rw [hfk]; exact rowF_step hrow5
      have HB5 : Hid (Below w.heap.size w w5) := HBe.out.trans (hb5.mono hszr)
      have HB : Hid (Below w.heap.size w (w5.setCell ⟨W0.heap.size, k, none⟩ (.bool fk))) := HB5.out.setCell (by show w.heap.size ≤ W0.heap.size; omega) _
      rw [← hfk]
      clear hrow5 hb5 hfk
      go_wp2_with fail
      go_roundw
      case rel => exact ⟨k + 1, by omega, by go_num, HR.out, HB.out⟩
      case measure => simp [intOf]; omega
    · have HF : Hid (FlS wr W0.heap.size 0 L f) := by
        refine ⟨hgl, fun q hq => ?_⟩
        rw [Nat.zero_add, HRow.out.cell hq]
        simp [partF, show q < k by omega]
      go_wp2_with fail
      go_ret
      exact ⟨_, rfl, Nat.le_of_lt hs0, HF.out, HBe.out⟩

set_option maxRecDepth 100000 in
set_option maxHeartbeats 4000000 in
theorem meets_any {L : Nat} (hL : L ≤ 16384) {ab ao ac bb bo bc : Nat} {fa fb : Nat → Bool} {w : World} (ha : FlS w ab ao L fa) (hb : FlS w bb bo L fb) (hac : L ≤ ac ∧ ac ≤ 9223372036854775807) (hbc : L ≤ bc ∧ bc ≤ 9223372036854775807) :
    Calls Tryz.prog 71 #[.slice (some ⟨ab, ao, none⟩) L ac, .slice (some ⟨bb, bo, none⟩) L bc] w fun r w' => r = .returned (.bool ((List.range L).any (fun y => fa y && fb y))) ∧ w' = w := by
  have HA : Hid (FlS w ab ao L fa) := ha
  have HB : Hid (FlS w bb bo L fb) := hb
  clear ha hb
  go_enter Tryz.func71, Tryz.ntmps71
  go_wp2_with fail
  go_loopw [8] (fun i wr => ∃ k : Nat, k ≤ L ∧ i = .int .i64 k ∧ (∀ j, j < k → (fa j && fb j) = false) ∧ wr = w) (fun i _ => L - (intOf i).toNat)
  case atStart => exact ⟨0, Nat.zero_le _, rfl, fun j hj => by omega, rfl⟩
  case round =>
    obtain ⟨k, hk, rfl, hall, rfl⟩ := hrel
    have HAll : Hid (∀ j, j < k → (fa j && fb j) = false) := hall
    clear hall
    by_cases hlt : k < L
    · have hki : (k : Int) < (L : Int) := by omega
      obtain ⟨x0, hx0⟩ : ∃ b, b = fa k := ⟨_, rfl⟩
      obtain ⟨y0, hy0⟩ : ∃ b, b = fb k := ⟨_, rfl⟩
      have HX : Hid (x0 = fa k) := hx0
      have HY : Hid (y0 = fb k) := hy0
      have c0 := HA.out.2 k hlt
      have c1 := HB.out.2 k hlt
      rw [← hx0] at c0
      rw [← hy0] at c1
      have HNext : Hid ((fa k && fb k) = false → ∀ j, j < k + 1 → (fa j && fb j) = false) := fun hb j hj => by
        by_cases e' : j = k
        · subst e'; exact hb
        · exact HAll.out j (by omega)
      clear hx0 hy0
      cases x0
      · cases y0
        · have HN : Hid (∀ j, j < k + 1 → (fa j && fb j) = false) := HNext.out (by rw [← HX.out, ← HY.out]; rfl)
          go_wp2_with fail
          go_roundw
          case rel => exact ⟨k + 1, by omega, by go_num, HN.out, by first | rfl | trivial⟩
          case measure => simp [intOf]; omega
        · have HN : Hid (∀ j, j < k + 1 → (fa j && fb j) = false) := HNext.out (by rw [← HX.out, ← HY.out]; rfl)
          go_wp2_with fail
          go_roundw
          case rel => exact ⟨k + 1, by omega, by go_num, HN.out, by first | rfl | trivial⟩
          case measure => simp [intOf]; omega
      · cases y0
        · have HN : Hid (∀ j, j < k + 1 → (fa j && fb j) = false) := HNext.out (by rw [← HX.out, ← HY.out]; rfl)
          go_wp2_with fail
          go_roundw
          case rel => exact ⟨k + 1, by omega, by go_num, HN.out, by first | rfl | trivial⟩
          case measure => simp [intOf]; omega
        · have HN : Hid (((List.range L).any (fun y => fa y && fb y)) = true) := by
            unfold Hid
            rw [List.any_eq_true]
            refine ⟨k, List.mem_range.2 hlt, ?_⟩
            rw [← HX.out, ← HY.out]
            decide
          go_wp2_with fail
          go_ret
          exact ⟨rb HN.out.symm, rfl⟩
    · have HN : Hid (((List.range L).any (fun y => fa y && fb y)) = false) := by
        unfold Hid
        rw [List.any_eq_false]
        intro j hj
        have := HAll.out j (by have := List.mem_range.1 hj; omega)
        revert this
        cases fa j <;> cases fb j <;> decide
      go_wp2_with fail
      go_ret
      exact ⟨rb HN.out.symm, rfl⟩

set_option maxRecDepth 100000 in
set_option maxHeartbeats 4000000 in
theorem within_any {L : Nat} (hL : L ≤ 16384) {ab ao ac bb bo bc : Nat} {fa fb : Nat → Bool} {w : World} (ha : FlS w ab ao L fa) (hb : FlS w bb bo L fb) (hac : L ≤ ac ∧ ac ≤ 9223372036854775807) (hbc : L ≤ bc ∧ bc ≤ 9223372036854775807) :
    Calls Tryz.prog 67 #[.slice (some ⟨ab, ao, none⟩) L ac, .slice (some ⟨bb, bo, none⟩) L bc] w fun r w' => r = .returned (.bool ((List.range L).all (fun y => !(fa y) || fb y))) ∧ w' = w := by
  have HA : Hid (FlS w ab ao L fa) := ha
  have HB : Hid (FlS w bb bo L fb) := hb
  clear ha hb
  go_enter Tryz.func67, Tryz.ntmps67
  go_wp2_with fail
  go_loopw [8] (fun i wr => ∃ k : Nat, k ≤ L ∧ i = .int .i64 k ∧ (∀ j, j < k → (fa j && !(fb j)) = false) ∧ wr = w) (fun i _ => L - (intOf i).toNat)
  case atStart => exact ⟨0, Nat.zero_le _, rfl, fun j hj => by omega, rfl⟩
  case round =>
    obtain ⟨k, hk, rfl, hall, rfl⟩ := hrel
    have HAll : Hid (∀ j, j < k → (fa j && !(fb j)) = false) := hall
    clear hall
    by_cases hlt : k < L
    · have hki : (k : Int) < (L : Int) := by omega
      obtain ⟨x0, hx0⟩ : ∃ b, b = fa k := ⟨_, rfl⟩
      obtain ⟨y0, hy0⟩ : ∃ b, b = fb k := ⟨_, rfl⟩
      have HX : Hid (x0 = fa k) := hx0
      have HY : Hid (y0 = fb k) := hy0
      have c0 := HA.out.2 k hlt
      have c1 := HB.out.2 k hlt
      rw [← hx0] at c0
      rw [← hy0] at c1
      have HNext : Hid ((fa k && !(fb k)) = false → ∀ j, j < k + 1 → (fa j && !(fb j)) = false) := fun hb j hj => by
        by_cases e' : j = k
        · subst e'; exact hb
        · exact HAll.out j (by omega)
      clear hx0 hy0
      cases x0
      · cases y0
        · have HN : Hid (∀ j, j < k + 1 → (fa j && !(fb j)) = false) := HNext.out (by rw [← HX.out, ← HY.out]; rfl)
          go_wp2_with fail
          go_roundw
          case rel => exact ⟨k + 1, by omega, by go_num, HN.out, by first | rfl | trivial⟩
          case measure => simp [intOf]; omega
        · have HN : Hid (∀ j, j < k + 1 → (fa j && !(fb j)) = false) := HNext.out (by rw [← HX.out, ← HY.out]; rfl)
          go_wp2_with fail
          go_roundw
          case rel => exact ⟨k + 1, by omega, by go_num, HN.out, by first | rfl | trivial⟩
          case measure => simp [intOf]; omega
      · cases y0
        · have HN : Hid (((List.range L).all (fun y => !(fa y) || fb y)) = false) := by
            unfold Hid
            rw [List.all_eq_false]
            refine ⟨k, List.mem_range.2 hlt, ?_⟩
            rw [← HX.out, ← HY.out]
            decide
          go_wp2_with fail
          go_ret
          exact ⟨rb HN.out.symm, rfl⟩
        · have HN : Hid (∀ j, j < k + 1 → (fa j && !(fb j)) = false) := HNext.out (by rw [← HX.out, ← HY.out]; rfl)
          go_wp2_with fail
          go_roundw
          case rel => exact ⟨k + 1, by omega, by go_num, HN.out, by first | rfl | trivial⟩
          case measure => simp [intOf]; omega
    · have HN : Hid (((List.range L).all (fun y => !(fa y) || fb y)) = true) := by
        unfold Hid
        rw [List.all_eq_true]
        intro j hj
        have := HAll.out j (by have := List.mem_range.1 hj; omega)
        revert this
        cases fa j <;> cases fb j <;> decide
      go_wp2_with fail
      go_ret
      exact ⟨rb HN.out.symm, rfl⟩

end Go.Proofs.YtfbokljbmihlbaaGreat
