/- Two concepts that read alike are the same by their texts. -/
import Derived.Test.YthojlfcahhjfaaaSpoil
import Derived.Test.YthojlfcahhjfaaaReadBack
import Derived.Test.YthojlfcahhjfaaaNI678
namespace Go.Proofs.Ythojlfcahhjfaaa
open Go.RowKit

theorem textS_ok {d : Nat} {v : Value} {c : CN} {w : World} {lo hi : Nat} (h : RdC lo hi w d v c) (hhi : hi ≤ w.heap.size) (hbk : c.bulk ≤ 1048576) (hok : conOk c = true) :
    Calls Try.prog 28 #[v] w fun e w' => ∃ v', e = .returned v' ∧ OwnB w.heap.size w' v' (textC c) ∧ Below w.heap.size w w' := by
  have he : conText c = textC c := by unfold conText; rw [hok]; rfl
  have := specConText_any h hhi hbk
  rw [he] at this
  exact this
theorem textI_ok {d : Nat} {v : Value} {c : CN} {w : World} {lo hi : Nat} (h : RdC lo hi w d v c) (hhi : hi ≤ w.heap.size) (hbk : c.bulk ≤ 1048576) (hok : conOk c = true) :
    Calls Try.prog 19 #[v] w fun e w' => ∃ v', e = .returned v' ∧ OwnB w.heap.size w' v' (textC c) ∧ Below w.heap.size w w' := by
  have he : conText c = textC c := by unfold conText; rw [hok]; rfl
  have := implConText_any h hhi hbk
  rw [he] at this
  exact this

theorem not_nil {base : Nat} {w : World} {v : Value} {zs : List Int} (h : OwnB base w v zs) (hl : 1 ≤ zs.length) : v ≠ .slice none 0 0 := by
  intro e
  rw [e] at h
  rcases h.2 with ⟨_, q⟩ | ⟨_, _, _, q, _⟩
  · omega
  · simp at q

set_option maxRecDepth 100000 in
set_option maxHeartbeats 4000000 in
theorem sameCon_any {dA dB : Nat} {vA vB : Value} {c : CN} {w : World} {loA hiA loB hiB : Nat} (hA : RdC loA hiA w dA vA c) (hB : RdC loB hiB w dB vB c) (hhA : hiA ≤ w.heap.size) (hhB : hiB ≤ w.heap.size) (hbk : c.bulk ≤ 1048576) (hok : conOk c = true) :
    Calls Try.prog 24 #[vA, vB] w fun e w' => e = .returned (.bool true) ∧ Below w.heap.size w w' := by
  have HRA : Hid (RdC loA hiA w dA vA c) := hA
  have HRB : Hid (RdC loB hiB w dB vB c) := hB
  have HTb : Hid (∀ x ∈ textC c, 0 ≤ x ∧ x ≤ 255) := textC_byte hA
  obtain ⟨kA, naA, nnA, ncA, raA, rnA, rcA, kaA, knA, kcA, rfl⟩ := hA.shape
  obtain ⟨kB, naB, nnB, ncB, raB, rnB, rcB, kaB, knB, kcB, rfl⟩ := hB.shape
  have HBk : Hid (c.bulk ≤ 1048576) := hbk
  have HOk : Hid (conOk c = true) := hok
  obtain ⟨m, hm⟩ : ∃ m, m = (textC c).length := ⟨_, rfl⟩
  have HM : Hid (m = (textC c).length) := hm
  have hm1 : 1 ≤ m := by rw [hm]; exact text_some (wfC_of_ok hok)
  have HT1 : Hid (1 ≤ (textC c).length) := text_some (wfC_of_ok hok)
  have hmi : (0 : Int) < (m : Int) := by omega
  obtain ⟨W0, hW0⟩ : ∃ W0, W0 = (w.alloc (.cells #[.int .i64 kA, .slice naA nnA ncA, .slice raA rnA rcA, .slice kaA knA kcA] 35)).alloc (.cells #[.int .i64 kB, .slice naB nnB ncB, .slice raB rnB rcB, .slice kaB knB kcB] 35) := ⟨_, rfl⟩
  have HW0 : Hid (W0 = (w.alloc (.cells #[.int .i64 kA, .slice naA nnA ncA, .slice raA rnA rcA, .slice kaA knA kcA] 35)).alloc (.cells #[.int .i64 kB, .slice naB nnB ncB, .slice raB rnB rcB, .slice kaB knB kcB] 35)) := hW0
  have hb0 : Below w.heap.size w W0 := by rw [hW0]; exact ((Below.refl _ _).alloc (Nat.le_refl _) _).alloc (by simp) _
  have HB0 : Hid (Below w.heap.size w W0.drew) := hb0.drew
  have s0 : W0.heap.size = w.heap.size + 1 + 1 := by rw [hW0]; simp
  have s0d : W0.drew.heap.size = w.heap.size + 1 + 1 := s0
  have HxA : Hid (BoxC W0.drew (w.heap.size) (.int .i64 kA) (.slice naA nnA ncA) (.slice raA rnA rcA) (.slice kaA knA kcA)) := by unfold Hid; show BoxC W0 (w.heap.size) (.int .i64 kA) (.slice naA nnA ncA) (.slice raA rnA rcA) (.slice kaA knA kcA); rw [hW0]; exact (Below.heap_alloc _ _ _ (by simp)).trans (World.alloc_heap_new w _)
  have HxB : Hid (BoxC W0.drew (w.heap.size + 1) (.int .i64 kB) (.slice naB nnB ncB) (.slice raB rnB rcB) (.slice kaB knB kcB)) := by unfold Hid; show BoxC W0 (w.heap.size + 1) (.int .i64 kB) (.slice naB nnB ncB) (.slice raB rnB rcB) (.slice kaB knB kcB); rw [hW0]; have := BoxC.new (w.alloc (.cells #[.int .i64 kA, .slice naA nnA ncA, .slice raA rnA rcA, .slice kaA knA kcA] 35)) (.int .i64 kB) (.slice naB nnB ncB) (.slice raB rnB rcB) (.slice kaB knB kcB); simpa using this
  obtain ⟨p0, p1, p2, p3⟩ : W0.cell? ⟨w.heap.size, 0, none⟩ = some (.int .i64 kA) ∧ W0.cell? ⟨w.heap.size, 1, none⟩ = some (.slice naA nnA ncA) ∧ W0.cell? ⟨w.heap.size, 2, none⟩ = some (.slice raA rnA rcA) ∧ W0.cell? ⟨w.heap.size, 3, none⟩ = some (.slice kaA knA kcA) := HxA.out.cells
  obtain ⟨q0, q1, q2, q3⟩ : W0.cell? ⟨w.heap.size + 1, 0, none⟩ = some (.int .i64 kB) ∧ W0.cell? ⟨w.heap.size + 1, 1, none⟩ = some (.slice naB nnB ncB) ∧ W0.cell? ⟨w.heap.size + 1, 2, none⟩ = some (.slice raB rnB rcB) ∧ W0.cell? ⟨w.heap.size + 1, 3, none⟩ = some (.slice kaB knB kcB) := HxB.out.cells
  have hs0 : w.heap.size ≤ W0.drew.heap.size := by omega
  clear hA hB hbk hok hW0 hb0 hm
  go_enter Try.func24, Try.ntmps24
  go_upto_region 1 with fail
  rw [← HW0.out]
  first | go_region_with (first
    | (go_at_call_of 28 kA; first | (refine (textS_ok (w := w5) (HRA.out.below H5.out hhA) (Nat.le_trans hhA H5.out.size) HBk.out HOk.out).mono ?_; rintro e w6 ⟨u6, rfl, hO6, hb6⟩; obtain ⟨gA, cA, rfl, _, _, hrA⟩ := own_some hO6 (not_nil hO6 HT1.out) HTb.out; rw [← HM.out] at hrA ⊢; have HAx : Hid (∃ lo hi, Rd lo hi w6 (some ⟨gA, 0, none⟩) m cA (textC c)) := ⟨_, _, hrA⟩; have HBx : Hid (∃ lo hi, Rd lo hi w6 (some ⟨gB, 0, none⟩) m cB (textC c)) := ⟨_, _, HB5.out.below hb6 (Nat.le_refl _)⟩; have HBz : Hid (Below w.heap.size w w6) := H5.out.trans (hb6.mono H5.out.size); clear hO6 hrA hb6) | (refine (textS_ok (w := W0.drew) (HRA.out.below HB0.out hhA) (Nat.le_trans hhA hs0) HBk.out HOk.out).mono ?_; rintro e w3 ⟨u3, rfl, hO3, hb3⟩; obtain ⟨gA, cA, rfl, _, _, hrA⟩ := own_some hO3 (not_nil hO3 HT1.out) HTb.out; rw [← HM.out] at hrA ⊢; have HA3 : Hid (Rd W0.drew.heap.size w3.heap.size w3 (some ⟨gA, 0, none⟩) m cA (textC c)) := hrA; have H3 : Hid (Below w.heap.size w w3) := HB0.out.trans (hb3.mono hs0); have HxB3 : Hid (BoxC w3 (w.heap.size + 1) (.int .i64 kB) (.slice naB nnB ncB) (.slice raB rnB rcB) (.slice kaB knB kcB)) := HxB.out.below hb3 (by omega); obtain ⟨y0, y1, y2, y3⟩ := HxB3.out.cells; clear hO3 hrA hb3))
    | (go_at_call_of 28 kB; first | (refine (textS_ok (w := w3) (HRB.out.below H3.out hhB) (Nat.le_trans hhB H3.out.size) HBk.out HOk.out).mono ?_; rintro e w4 ⟨u4, rfl, hO4, hb4⟩; obtain ⟨gB, cB, rfl, _, _, hrB⟩ := own_some hO4 (not_nil hO4 HT1.out) HTb.out; rw [← HM.out] at hrB ⊢; have HBx : Hid (∃ lo hi, Rd lo hi w4 (some ⟨gB, 0, none⟩) m cB (textC c)) := ⟨_, _, hrB⟩; have HAx : Hid (∃ lo hi, Rd lo hi w4 (some ⟨gA, 0, none⟩) m cA (textC c)) := ⟨_, _, HA3.out.below hb4 (Nat.le_refl _)⟩; have HBz : Hid (Below w.heap.size w w4) := H3.out.trans (hb4.mono H3.out.size); clear hO4 hrB hb4) | (refine (textS_ok (w := W0.drew) (HRB.out.below HB0.out hhB) (Nat.le_trans hhB hs0) HBk.out HOk.out).mono ?_; rintro e w5 ⟨u5, rfl, hO5, hb5⟩; obtain ⟨gB, cB, rfl, _, _, hrB⟩ := own_some hO5 (not_nil hO5 HT1.out) HTb.out; rw [← HM.out] at hrB ⊢; have HB5 : Hid (Rd W0.drew.heap.size w5.heap.size w5 (some ⟨gB, 0, none⟩) m cB (textC c)) := hrB; have H5 : Hid (Below w.heap.size w w5) := HB0.out.trans (hb5.mono hs0); have HxA5 : Hid (BoxC w5 (w.heap.size) (.int .i64 kA) (.slice naA nnA ncA) (.slice raA rnA rcA) (.slice kaA knA kcA)) := HxA.out.below hb5 (by omega); obtain ⟨y0, y1, y2, y3⟩ := HxA5.out.cells; clear hO5 hrB hb5))) | fail
  all_goals
    go_wp2_with fail
    obtain ⟨_, _, hax⟩ := HAx.out
    obtain ⟨_, _, hbx⟩ := HBx.out
    refine (same_any _ _ _ _ _ _ _ _ hax hbx).mono ?_
    rintro e w8 ⟨rfl, hw8⟩
    subst hw8
    go_wp2
    go_ret
    exact ⟨rfl, HBz.out⟩

end Go.Proofs.Ythojlfcahhjfaaa
