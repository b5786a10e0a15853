/- impl.AxiomOk, the way on which the first 0 of its tests pass. -/
import Derived.Test.YtfbokljbmihlbaaGreatAxImplM
namespace Go.Proofs.YtfbokljbmihlbaaGreat
open Go.RowKit
set_option linter.unusedVariables false

set_option maxRecDepth 100000 in
set_option maxHeartbeats 8000000 in
theorem implAxPath0 {dp : Nat} {c0 c1 c2 c3 d0 d1 d2 d3 : Value} {ra : Option Addr} {rn rc : Nat} {sa : Option Addr} {sn sc : Nat} {aa : Option Addr} {an ac : Nat} {ba : Option Addr} {bn bc : Nat} {x : AX} {w : World} {lo hi : Nat} (h : RdA lo hi w dp c0 c1 c2 c3 d0 d1 d2 d3 ra rn rc sa sn sc aa an ac ba bn bc x) (hhi : hi ≤ w.heap.size) (hbc : x.c.bulk ≤ 1048576) (hbd : x.d.bulk ≤ 1048576) (k : Int) (s : ByteArray) (HSs : Hid (s = fieldsS k)) {wantC' wantD' wantR' wantS' wantA' wantB' : Bool} (heC : inS s 67 = wantC') (heD : inS s 68 = wantD') (heR : inS s 82 = wantR') (heS : inS s 83 = wantS') (heA : inS s 65 = wantA') (heB : inS s 66 = wantB')
    (hsC : (([67] : List UInt8) == s.toList) = false) (hsD : (([68] : List UInt8) == s.toList) = false) (hsR : (([82] : List UInt8) == s.toList) = false) (hsS : (([83] : List UInt8) == s.toList) = false) (hsA : (([65] : List UInt8) == s.toList) = false) (hsB : (([66] : List UInt8) == s.toList) = false)
    (hn1 : (s.toList != []) = true) (hn2 : (s.toList == []) = false) (hFC : fitC x.c wantC' = false) (HE : Hid (axOk x = false)) : Calls Tryz.prog 32 #[.agg #[.int .i64 k, c0, c1, c2, c3, d0, d1, d2, d3, .slice ra rn rc, .slice sa sn sc, .slice aa an ac, .slice ba bn bc]] w fun e w' => e = .returned (.bool (axOk x)) ∧ Below w.heap.size w w' := by
  have HBkC : Hid (x.c.bulk ≤ 1048576) := hbc
  have HBkD : Hid (x.d.bulk ≤ 1048576) := hbd
  clear hbc hbd
  obtain ⟨W0, hW0⟩ : ∃ W0, W0 = (w.alloc (.cells #[.int .i64 k, c0, c1, c2, c3, d0, d1, d2, d3, .slice ra rn rc, .slice sa sn sc, .slice aa an ac, .slice ba bn bc] 42)).alloc (.cells #[.string s] 9) := ⟨_, rfl⟩
  have HW0 : Hid (W0 = (w.alloc (.cells #[.int .i64 k, c0, c1, c2, c3, d0, d1, d2, d3, .slice ra rn rc, .slice sa sn sc, .slice aa an ac, .slice ba bn bc] 42)).alloc (.cells #[.string s] 9)) := hW0
  have hb0 : Below w.heap.size w W0 := by rw [hW0]; exact ((Below.refl _ _).alloc (Nat.le_refl _) _).alloc (by simp) _
  have HB0 : Hid (Below w.heap.size w W0) := hb0
  have hs0 : W0.heap.size = w.heap.size + 2 := by rw [hW0]; simp
  have HB0d : Hid (Below W0.heap.size W0 W0.drew) := (Below.refl _ _).drew
  have hbx : BoxA 42 W0 w.heap.size k c0 c1 c2 c3 d0 d1 d2 d3 (.slice ra rn rc) (.slice sa sn sc) (.slice aa an ac) (.slice ba bn bc) := by rw [hW0]; exact (BoxA.new _ w _ _ _ _ _ _ _ _ _ _ _ _ _).below ((Below.refl _ _).alloc (Nat.le_refl _) _) (by simp)
  have hst : W0.heap[w.heap.size + 1]? = some (.cells #[.string s] 9 (0, 0)) := by
    rw [hW0]
    have := World.alloc_heap_new (w.alloc (.cells #[.int .i64 k, c0, c1, c2, c3, d0, d1, d2, d3, .slice ra rn rc, .slice sa sn sc, .slice aa an ac, .slice ba bn bc] 42)) (.cells #[.string s] 9)
    rwa [World.size_alloc] at this
  have hstr : ∀ W, Below W0.heap.size W0 W → W.cell? ⟨w.heap.size + 1, 0, none⟩ = some (.string s) := fun W hW => by
    have e := (hW.block (w.heap.size + 1) (by omega)).trans hst
    simp [World.cell?, e]
  have HStr : Hid (∀ W, Below W0.heap.size W0 W → W.cell? ⟨w.heap.size + 1, 0, none⟩ = some (.string s)) := hstr
  have hsat : ∀ W, Below W0.heap.size W0 W → W.cell? ⟨w.heap.size, 0, none⟩ = some (.int .i64 k) ∧ W.cell? ⟨w.heap.size, 1, none⟩ = some (c0) ∧ W.cell? ⟨w.heap.size, 2, none⟩ = some (c1) ∧ W.cell? ⟨w.heap.size, 3, none⟩ = some (c2) ∧ W.cell? ⟨w.heap.size, 4, none⟩ = some (c3) ∧ W.cell? ⟨w.heap.size, 5, none⟩ = some (d0) ∧ W.cell? ⟨w.heap.size, 6, none⟩ = some (d1) ∧ W.cell? ⟨w.heap.size, 7, none⟩ = some (d2) ∧ W.cell? ⟨w.heap.size, 8, none⟩ = some (d3) ∧ W.cell? ⟨w.heap.size, 9, none⟩ = some (.slice ra rn rc) ∧ W.cell? ⟨w.heap.size, 10, none⟩ = some (.slice sa sn sc) ∧ W.cell? ⟨w.heap.size, 11, none⟩ = some (.slice aa an ac) ∧ W.cell? ⟨w.heap.size, 12, none⟩ = some (.slice ba bn bc) ∧ W.cell? ⟨w.heap.size + 1, 0, none⟩ = some (.string s) := fun W hW => by
    obtain ⟨y0, y1, y2, y3, y4, y5, y6, y7, y8, y9, y10, y11, y12⟩ := (hbx.below hW (by omega)).cells
    exact ⟨y0, y1, y2, y3, y4, y5, y6, y7, y8, y9, y10, y11, y12, hstr W hW⟩
  have HSat : Hid (∀ W, Below W0.heap.size W0 W → W.cell? ⟨w.heap.size, 0, none⟩ = some (.int .i64 k) ∧ W.cell? ⟨w.heap.size, 1, none⟩ = some (c0) ∧ W.cell? ⟨w.heap.size, 2, none⟩ = some (c1) ∧ W.cell? ⟨w.heap.size, 3, none⟩ = some (c2) ∧ W.cell? ⟨w.heap.size, 4, none⟩ = some (c3) ∧ W.cell? ⟨w.heap.size, 5, none⟩ = some (d0) ∧ W.cell? ⟨w.heap.size, 6, none⟩ = some (d1) ∧ W.cell? ⟨w.heap.size, 7, none⟩ = some (d2) ∧ W.cell? ⟨w.heap.size, 8, none⟩ = some (d3) ∧ W.cell? ⟨w.heap.size, 9, none⟩ = some (.slice ra rn rc) ∧ W.cell? ⟨w.heap.size, 10, none⟩ = some (.slice sa sn sc) ∧ W.cell? ⟨w.heap.size, 11, none⟩ = some (.slice aa an ac) ∧ W.cell? ⟨w.heap.size, 12, none⟩ = some (.slice ba bn bc) ∧ W.cell? ⟨w.heap.size + 1, 0, none⟩ = some (.string s)) := hsat
  obtain ⟨y0, y1, y2, y3, y4, y5, y6, y7, y8, y9, y10, y11, y12, y13⟩ := hsat W0 (Below.refl _ _)
  have HRA : Hid (RdA lo hi W0 dp c0 c1 c2 c3 d0 d1 d2 d3 ra rn rc sa sn sc aa an ac ba bn bc x) := h.below hb0 hhi
  have hh0 : hi ≤ W0.heap.size := Nat.le_trans hhi hb0.size
  clear h hb0 hW0 hbx hst hstr hsat hs0
  go_enter Tryz.func32, Tryz.ntmps32
  go_upto_region 3 with (go_at_call 62; refine (axiomFields_any k _).mono ?_; rintro e w' ⟨rfl, hw⟩; rw [hw, ← HSs.out]; clear hw)
  rw [← HW0.out]
  refine wp_region_held_drew (S := (fun W => W.cell? ⟨w.heap.size, 0, none⟩ = some (.int .i64 k) ∧ W.cell? ⟨w.heap.size, 1, none⟩ = some (c0) ∧ W.cell? ⟨w.heap.size, 2, none⟩ = some (c1) ∧ W.cell? ⟨w.heap.size, 3, none⟩ = some (c2) ∧ W.cell? ⟨w.heap.size, 4, none⟩ = some (c3) ∧ W.cell? ⟨w.heap.size, 5, none⟩ = some (d0) ∧ W.cell? ⟨w.heap.size, 6, none⟩ = some (d1) ∧ W.cell? ⟨w.heap.size, 7, none⟩ = some (d2) ∧ W.cell? ⟨w.heap.size, 8, none⟩ = some (d3) ∧ W.cell? ⟨w.heap.size, 9, none⟩ = some (.slice ra rn rc) ∧ W.cell? ⟨w.heap.size, 10, none⟩ = some (.slice sa sn sc) ∧ W.cell? ⟨w.heap.size, 11, none⟩ = some (.slice aa an ac) ∧ W.cell? ⟨w.heap.size, 12, none⟩ = some (.slice ba bn bc) ∧ W.cell? ⟨w.heap.size + 1, 0, none⟩ = some (.string s))) (by kernel_rfl) ?_ (fun hHeld => ?_)
  · (try dsimp only)
    (first | with_reducible exact HSat.out _ HwB.out | with_reducible exact HSat.out _ HwA.out | with_reducible exact HSat.out _ HB0d.out)
  refine wpAnyH_take (i := 0) (v := ?_) rfl (by kernel_rfl) (by kernel_rfl) (by kernel_rfl) (fun _ _ _ h => h) (Or.inl ⟨by rfl, ?_⟩) (by assumption) ?_
  rotate_left
  · intro w hSw
    (try dsimp only at hSw)
    go_simp
    (try with_reducible rfl)
  (try simp only [Act.put])
  (try simp only [List.setIfInBounds_toArray])
  (try simp only [List.set_cons_succ])
  (try simp only [List.set_cons_zero])
  refine wpAnyH_take (i := 1) (v := ?_) rfl (by kernel_rfl) (by kernel_rfl) (by kernel_rfl) (fun _ _ _ h => h) (Or.inl ⟨by rfl, ?_⟩) (by assumption) ?_
  rotate_left
  · intro w hSw
    (try dsimp only at hSw)
    go_simp
    (try with_reducible rfl)
  (try simp only [Act.put])
  (try simp only [List.setIfInBounds_toArray])
  (try simp only [List.set_cons_succ])
  (try simp only [List.set_cons_zero])
  refine wpAnyH_take (i := 2) (v := ?_) rfl (by kernel_rfl) (by kernel_rfl) (by kernel_rfl) (fun _ _ _ h => h) (Or.inl ⟨by rfl, ?_⟩) (by assumption) ?_
  rotate_left
  · intro w hSw
    (try dsimp only at hSw)
    go_simp
    (try with_reducible rfl)
  (try simp only [Act.put])
  (try simp only [List.setIfInBounds_toArray])
  (try simp only [List.set_cons_succ])
  (try simp only [List.set_cons_zero])
  refine wpAnyH_take (i := 3) (v := ?_) rfl (by kernel_rfl) (by kernel_rfl) (by kernel_rfl) (fun _ _ _ h => h) (Or.inl ⟨by rfl, ?_⟩) (by assumption) ?_
  rotate_left
  · intro w hSw
    (try dsimp only at hSw)
    go_simp
    (try with_reducible rfl)
  (try simp only [Act.put])
  (try simp only [List.setIfInBounds_toArray])
  (try simp only [List.set_cons_succ])
  (try simp only [List.set_cons_zero])
  refine wpAnyH_take (i := 4) (v := ?_) rfl (by kernel_rfl) (by kernel_rfl) (by kernel_rfl) (fun _ _ _ h => h) (Or.inl ⟨by rfl, ?_⟩) (by assumption) ?_
  rotate_left
  · intro w hSw
    (try dsimp only at hSw)
    go_simp
    (try with_reducible rfl)
  (try simp only [Act.put])
  (try simp only [List.setIfInBounds_toArray])
  (try simp only [List.set_cons_succ])
  (try simp only [List.set_cons_zero])
  refine wpAnyH_take (i := 5) (v := ?_) rfl (by kernel_rfl) (by kernel_rfl) (by kernel_rfl) (fun _ _ _ h => h) (Or.inl ⟨by rfl, ?_⟩) (by assumption) ?_
  rotate_left
  · intro w hSw
    (try dsimp only at hSw)
    go_simp
    (try with_reducible rfl)
  (try simp only [Act.put])
  (try simp only [List.setIfInBounds_toArray])
  (try simp only [List.set_cons_succ])
  (try simp only [List.set_cons_zero])
  refine wpAnyH_ready (rs := [6]) (by kernel_rfl) (by simp) ?_
  refine AllReadyH.cons rfl (fun K hK => ?_) AllReadyH.nil
  go_simp
  go_wp2_with (first | (go_at_call_of 63 (Value.string ⟨#[67]⟩); refine (hasC s (w.heap.size + 1) _ ?_ hsC).mono ?_; (first | exact HStr.out _ HwB.out | exact HStr.out _ HwA.out | exact HStr.out _ HB0d.out); rintro e w' ⟨rfl, hw⟩; rw [hw, heC]; clear hw))
  refine hK.out _ _ ?_ (fun hHeld => ?_)
  · (try dsimp only)
    (first | with_reducible exact HSat.out _ HwB.out | with_reducible exact HSat.out _ HwA.out | with_reducible exact HSat.out _ HB0d.out)
  clear hK K
  refine wpAnyH_ready (rs := [7]) (by kernel_rfl) (by simp) ?_
  refine AllReadyH.cons rfl (fun K hK => ?_) AllReadyH.nil
  go_simp
  go_wp2_with (first | (go_at_call_of 65 c0; refine (conFits_any _ (HRA.out.below HB0d.out hh0).c (Nat.le_trans hh0 (HB0d.out).size) HBkC.out).mono ?_; rintro e wA ⟨rfl, hb⟩; rw [hFC]; have HwA : Hid (Below W0.heap.size W0 wA) := (HB0d.out).trans (hb.mono (HB0d.out).size); clear hb))
  refine hK.out _ _ ?_ (fun hHeld => ?_)
  · (try dsimp only)
    (first | with_reducible exact HSat.out _ HwB.out | with_reducible exact HSat.out _ HwA.out | with_reducible exact HSat.out _ HB0d.out)
  clear hK K
  refine wpAnyH_take (i := 8) (v := ?_) rfl (by kernel_rfl) (by kernel_rfl) (by kernel_rfl) (fun _ _ _ h => h) (Or.inl ⟨by rfl, ?_⟩) (by assumption) ?_
  rotate_left
  · intro w hSw
    (try dsimp only at hSw)
    go_simp
    (try with_reducible rfl)
  (try simp only [Act.put])
  (try simp only [List.setIfInBounds_toArray])
  (try simp only [List.set_cons_succ])
  (try simp only [List.set_cons_zero])
  refine wpAnyH_take (i := 9) (v := ?_) rfl (by kernel_rfl) (by kernel_rfl) (by kernel_rfl) (fun _ _ _ h => h) (Or.inl ⟨by rfl, ?_⟩) (by assumption) ?_
  rotate_left
  · intro w hSw
    (try dsimp only at hSw)
    go_simp
    (try with_reducible rfl)
  (try simp only [Act.put])
  (try simp only [List.setIfInBounds_toArray])
  (try simp only [List.set_cons_succ])
  (try simp only [List.set_cons_zero])
  refine wpAnyH_take (i := 10) (v := undef) rfl (by kernel_rfl) (by kernel_rfl) (by kernel_rfl) (fun _ _ _ h => h) (Or.inr ⟨by rfl, rfl⟩) (by assumption) ?_
  (try simp only [Act.put])
  (try simp only [List.setIfInBounds_toArray])
  (try simp only [List.set_cons_succ])
  (try simp only [List.set_cons_zero])
  refine wpAnyH_take (i := 11) (v := undef) rfl (by kernel_rfl) (by kernel_rfl) (by kernel_rfl) (fun _ _ _ h => h) (Or.inr ⟨by rfl, rfl⟩) (by assumption) ?_
  (try simp only [Act.put])
  (try simp only [List.setIfInBounds_toArray])
  (try simp only [List.set_cons_succ])
  (try simp only [List.set_cons_zero])
  refine wpAnyH_take (i := 12) (v := undef) rfl (by kernel_rfl) (by kernel_rfl) (by kernel_rfl) (fun _ _ _ h => h) (Or.inr ⟨by rfl, rfl⟩) (by assumption) ?_
  (try simp only [Act.put])
  (try simp only [List.setIfInBounds_toArray])
  (try simp only [List.set_cons_succ])
  (try simp only [List.set_cons_zero])
  refine wpAnyH_ready (rs := [13]) (by kernel_rfl) (by simp) ?_
  refine AllReadyH.cons rfl (fun K hK => ?_) AllReadyH.nil
  go_simp
  refine hK.out _ _ ?_ (fun hHeld => ?_)
  · (try dsimp only)
    (first | with_reducible exact HSat.out _ HwB.out | with_reducible exact HSat.out _ HwA.out | with_reducible exact HSat.out _ HB0d.out)
  clear hK K
  refine wpAnyH_ready (rs := [14]) (by kernel_rfl) (by simp) ?_
  refine AllReadyH.cons rfl (fun K hK => ?_) AllReadyH.nil
  go_simp
  refine hK.out _ _ ?_ (fun hHeld => ?_)
  · (try dsimp only)
    (first | with_reducible exact HSat.out _ HwB.out | with_reducible exact HSat.out _ HwA.out | with_reducible exact HSat.out _ HB0d.out)
  clear hK K
  refine wpAnyH_take (i := 15) (v := ?_) rfl (by kernel_rfl) (by kernel_rfl) (by kernel_rfl) (fun _ _ _ h => h) (Or.inl ⟨by rfl, ?_⟩) (by assumption) ?_
  rotate_left
  · intro w hSw
    (try dsimp only at hSw)
    go_simp
    (try with_reducible rfl)
  (try simp only [Act.put])
  (try simp only [List.setIfInBounds_toArray])
  (try simp only [List.set_cons_succ])
  (try simp only [List.set_cons_zero])
  refine wpAnyH_take (i := 16) (v := ?_) rfl (by kernel_rfl) (by kernel_rfl) (by kernel_rfl) (fun _ _ _ h => h) (Or.inl ⟨by rfl, ?_⟩) (by assumption) ?_
  rotate_left
  · intro w hSw
    (try dsimp only at hSw)
    go_simp
    (try with_reducible rfl)
  (try simp only [Act.put])
  (try simp only [List.setIfInBounds_toArray])
  (try simp only [List.set_cons_succ])
  (try simp only [List.set_cons_zero])
  refine wpAnyH_take (i := 17) (v := undef) rfl (by kernel_rfl) (by kernel_rfl) (by kernel_rfl) (fun _ _ _ h => h) (Or.inr ⟨by rfl, rfl⟩) (by assumption) ?_
  (try simp only [Act.put])
  (try simp only [List.setIfInBounds_toArray])
  (try simp only [List.set_cons_succ])
  (try simp only [List.set_cons_zero])
  refine wpAnyH_take (i := 18) (v := undef) rfl (by kernel_rfl) (by kernel_rfl) (by kernel_rfl) (fun _ _ _ h => h) (Or.inr ⟨by rfl, rfl⟩) (by assumption) ?_
  (try simp only [Act.put])
  (try simp only [List.setIfInBounds_toArray])
  (try simp only [List.set_cons_succ])
  (try simp only [List.set_cons_zero])
  refine wpAnyH_take (i := 19) (v := undef) rfl (by kernel_rfl) (by kernel_rfl) (by kernel_rfl) (fun _ _ _ h => h) (Or.inr ⟨by rfl, rfl⟩) (by assumption) ?_
  (try simp only [Act.put])
  (try simp only [List.setIfInBounds_toArray])
  (try simp only [List.set_cons_succ])
  (try simp only [List.set_cons_zero])
  refine wpAnyH_ready (rs := [20]) (by kernel_rfl) (by simp) ?_
  refine AllReadyH.cons rfl (fun K hK => ?_) AllReadyH.nil
  go_simp
  refine hK.out _ _ ?_ (fun hHeld => ?_)
  · (try dsimp only)
    (first | with_reducible exact HSat.out _ HwB.out | with_reducible exact HSat.out _ HwA.out | with_reducible exact HSat.out _ HB0d.out)
  clear hK K
  refine wpAnyH_ready (rs := [21]) (by kernel_rfl) (by simp) ?_
  refine AllReadyH.cons rfl (fun K hK => ?_) AllReadyH.nil
  go_simp
  refine hK.out _ _ ?_ (fun hHeld => ?_)
  · (try dsimp only)
    (first | with_reducible exact HSat.out _ HwB.out | with_reducible exact HSat.out _ HwA.out | with_reducible exact HSat.out _ HB0d.out)
  clear hK K
  refine wpAnyH_take (i := 22) (v := ?_) rfl (by kernel_rfl) (by kernel_rfl) (by kernel_rfl) (fun _ _ _ h => h) (Or.inl ⟨by rfl, ?_⟩) (by assumption) ?_
  rotate_left
  · intro w hSw
    (try dsimp only at hSw)
    go_simp
    (try with_reducible rfl)
  (try simp only [Act.put])
  (try simp only [List.setIfInBounds_toArray])
  (try simp only [List.set_cons_succ])
  (try simp only [List.set_cons_zero])
  refine wpAnyH_take (i := 23) (v := ?_) rfl (by kernel_rfl) (by kernel_rfl) (by kernel_rfl) (fun _ _ _ h => h) (Or.inl ⟨by rfl, ?_⟩) (by assumption) ?_
  rotate_left
  · intro w hSw
    (try dsimp only at hSw)
    go_simp
    (try with_reducible rfl)
  (try simp only [Act.put])
  (try simp only [List.setIfInBounds_toArray])
  (try simp only [List.set_cons_succ])
  (try simp only [List.set_cons_zero])
  refine wpAnyH_take (i := 24) (v := undef) rfl (by kernel_rfl) (by kernel_rfl) (by kernel_rfl) (fun _ _ _ h => h) (Or.inr ⟨by rfl, rfl⟩) (by assumption) ?_
  (try simp only [Act.put])
  (try simp only [List.setIfInBounds_toArray])
  (try simp only [List.set_cons_succ])
  (try simp only [List.set_cons_zero])
  refine wpAnyH_take (i := 25) (v := undef) rfl (by kernel_rfl) (by kernel_rfl) (by kernel_rfl) (fun _ _ _ h => h) (Or.inr ⟨by rfl, rfl⟩) (by assumption) ?_
  (try simp only [Act.put])
  (try simp only [List.setIfInBounds_toArray])
  (try simp only [List.set_cons_succ])
  (try simp only [List.set_cons_zero])
  refine wpAnyH_take (i := 26) (v := undef) rfl (by kernel_rfl) (by kernel_rfl) (by kernel_rfl) (fun _ _ _ h => h) (Or.inr ⟨by rfl, rfl⟩) (by assumption) ?_
  (try simp only [Act.put])
  (try simp only [List.setIfInBounds_toArray])
  (try simp only [List.set_cons_succ])
  (try simp only [List.set_cons_zero])
  refine wpAnyH_ready (rs := [27]) (by kernel_rfl) (by simp) ?_
  refine AllReadyH.cons rfl (fun K hK => ?_) AllReadyH.nil
  go_simp
  refine hK.out _ _ ?_ (fun hHeld => ?_)
  · (try dsimp only)
    (first | with_reducible exact HSat.out _ HwB.out | with_reducible exact HSat.out _ HwA.out | with_reducible exact HSat.out _ HB0d.out)
  clear hK K
  refine wpAnyH_ready (rs := [28]) (by kernel_rfl) (by simp) ?_
  refine AllReadyH.cons rfl (fun K hK => ?_) AllReadyH.nil
  go_simp
  refine hK.out _ _ ?_ (fun hHeld => ?_)
  · (try dsimp only)
    (first | with_reducible exact HSat.out _ HwB.out | with_reducible exact HSat.out _ HwA.out | with_reducible exact HSat.out _ HB0d.out)
  clear hK K
  refine wpAnyH_take (i := 29) (v := ?_) rfl (by kernel_rfl) (by kernel_rfl) (by kernel_rfl) (fun _ _ _ h => h) (Or.inl ⟨by rfl, ?_⟩) (by assumption) ?_
  rotate_left
  · intro w hSw
    (try dsimp only at hSw)
    go_simp
    (try with_reducible rfl)
  (try simp only [Act.put])
  (try simp only [List.setIfInBounds_toArray])
  (try simp only [List.set_cons_succ])
  (try simp only [List.set_cons_zero])
  refine wpAnyH_take (i := 30) (v := ?_) rfl (by kernel_rfl) (by kernel_rfl) (by kernel_rfl) (fun _ _ _ h => h) (Or.inl ⟨by rfl, ?_⟩) (by assumption) ?_
  rotate_left
  · intro w hSw
    (try dsimp only at hSw)
    go_simp
    (try with_reducible rfl)
  (try simp only [Act.put])
  (try simp only [List.setIfInBounds_toArray])
  (try simp only [List.set_cons_succ])
  (try simp only [List.set_cons_zero])
  refine wpAnyH_take (i := 31) (v := undef) rfl (by kernel_rfl) (by kernel_rfl) (by kernel_rfl) (fun _ _ _ h => h) (Or.inr ⟨by rfl, rfl⟩) (by assumption) ?_
  (try simp only [Act.put])
  (try simp only [List.setIfInBounds_toArray])
  (try simp only [List.set_cons_succ])
  (try simp only [List.set_cons_zero])
  refine wpAnyH_take (i := 32) (v := undef) rfl (by kernel_rfl) (by kernel_rfl) (by kernel_rfl) (fun _ _ _ h => h) (Or.inr ⟨by rfl, rfl⟩) (by assumption) ?_
  (try simp only [Act.put])
  (try simp only [List.setIfInBounds_toArray])
  (try simp only [List.set_cons_succ])
  (try simp only [List.set_cons_zero])
  refine wpAnyH_take (i := 33) (v := undef) rfl (by kernel_rfl) (by kernel_rfl) (by kernel_rfl) (fun _ _ _ h => h) (Or.inr ⟨by rfl, rfl⟩) (by assumption) ?_
  (try simp only [Act.put])
  (try simp only [List.setIfInBounds_toArray])
  (try simp only [List.set_cons_succ])
  (try simp only [List.set_cons_zero])
  refine wpAnyH_ready (rs := [34]) (by kernel_rfl) (by simp) ?_
  refine AllReadyH.cons rfl (fun K hK => ?_) AllReadyH.nil
  go_simp
  refine hK.out _ _ ?_ (fun hHeld => ?_)
  · (try dsimp only)
    (first | with_reducible exact HSat.out _ HwB.out | with_reducible exact HSat.out _ HwA.out | with_reducible exact HSat.out _ HB0d.out)
  clear hK K
  refine wpAnyH_ready (rs := [35]) (by kernel_rfl) (by simp) ?_
  refine AllReadyH.cons rfl (fun K hK => ?_) AllReadyH.nil
  go_simp
  refine hK.out _ _ ?_ (fun hHeld => ?_)
  · (try dsimp only)
    (first | with_reducible exact HSat.out _ HwB.out | with_reducible exact HSat.out _ HwA.out | with_reducible exact HSat.out _ HB0d.out)
  clear hK K
  refine wpAnyH_take (i := 36) (v := ?_) rfl (by kernel_rfl) (by kernel_rfl) (by kernel_rfl) (fun _ _ _ h => h) (Or.inl ⟨by rfl, ?_⟩) (by assumption) ?_
  rotate_left
  · intro w hSw
    (try dsimp only at hSw)
    go_simp
    (try with_reducible rfl)
  (try simp only [Act.put])
  (try simp only [List.setIfInBounds_toArray])
  (try simp only [List.set_cons_succ])
  (try simp only [List.set_cons_zero])
  refine wpAnyH_take (i := 37) (v := ?_) rfl (by kernel_rfl) (by kernel_rfl) (by kernel_rfl) (fun _ _ _ h => h) (Or.inl ⟨by rfl, ?_⟩) (by assumption) ?_
  rotate_left
  · intro w hSw
    (try dsimp only at hSw)
    go_simp
    (try with_reducible rfl)
  (try simp only [Act.put])
  (try simp only [List.setIfInBounds_toArray])
  (try simp only [List.set_cons_succ])
  (try simp only [List.set_cons_zero])
  refine wpAnyH_take (i := 38) (v := undef) rfl (by kernel_rfl) (by kernel_rfl) (by kernel_rfl) (fun _ _ _ h => h) (Or.inr ⟨by rfl, rfl⟩) (by assumption) ?_
  (try simp only [Act.put])
  (try simp only [List.setIfInBounds_toArray])
  (try simp only [List.set_cons_succ])
  (try simp only [List.set_cons_zero])
  refine wpAnyH_take (i := 39) (v := undef) rfl (by kernel_rfl) (by kernel_rfl) (by kernel_rfl) (fun _ _ _ h => h) (Or.inr ⟨by rfl, rfl⟩) (by assumption) ?_
  (try simp only [Act.put])
  (try simp only [List.setIfInBounds_toArray])
  (try simp only [List.set_cons_succ])
  (try simp only [List.set_cons_zero])
  refine wpAnyH_take (i := 40) (v := undef) rfl (by kernel_rfl) (by kernel_rfl) (by kernel_rfl) (fun _ _ _ h => h) (Or.inr ⟨by rfl, rfl⟩) (by assumption) ?_
  (try simp only [Act.put])
  (try simp only [List.setIfInBounds_toArray])
  (try simp only [List.set_cons_succ])
  (try simp only [List.set_cons_zero])
  refine wpAnyH_ready (rs := [41]) (by kernel_rfl) (by simp) ?_
  refine AllReadyH.cons rfl (fun K hK => ?_) AllReadyH.nil
  go_simp
  refine hK.out _ _ ?_ (fun hHeld => ?_)
  · (try dsimp only)
    (first | with_reducible exact HSat.out _ HwB.out | with_reducible exact HSat.out _ HwA.out | with_reducible exact HSat.out _ HB0d.out)
  clear hK K
  refine wpAnyH_ready (rs := [42]) (by kernel_rfl) (by simp) ?_
  refine AllReadyH.cons rfl (fun K hK => ?_) AllReadyH.nil
  go_simp
  refine hK.out _ _ ?_ (fun hHeld => ?_)
  · (try dsimp only)
    (first | with_reducible exact HSat.out _ HwB.out | with_reducible exact HSat.out _ HwA.out | with_reducible exact HSat.out _ HB0d.out)
  clear hK K
  refine wpAnyH_ready (rs := [43]) (by kernel_rfl) (by simp) ?_
  refine AllReadyH.cons rfl (fun K hK => ?_) AllReadyH.nil
  go_simp
  refine hK.out _ _ ?_ (fun hHeld => ?_)
  · (try dsimp only)
    (first | with_reducible exact HSat.out _ HwB.out | with_reducible exact HSat.out _ HwA.out | with_reducible exact HSat.out _ HB0d.out)
  clear hK K
  refine wpAnyH_ready (rs := [44]) (by kernel_rfl) (by simp) ?_
  refine AllReadyH.cons rfl (fun K hK => ?_) AllReadyH.nil
  go_simp
  refine hK.out _ _ ?_ (fun hHeld => ?_)
  · (try dsimp only)
    (first | with_reducible exact HSat.out _ HwB.out | with_reducible exact HSat.out _ HwA.out | with_reducible exact HSat.out _ HB0d.out)
  clear hK K
  refine wpAnyH_done (by kernel_rfl) ?_ _
  all_goals
    go_wp2_with fail
    go_ret
    exact ⟨rb HE.out.symm, by first | exact HB0.out.trans (HwB.out.mono HB0.out.size) | exact HB0.out.trans (HwA.out.mono HB0.out.size) | exact HB0.out⟩

end Go.Proofs.YtfbokljbmihlbaaGreat
