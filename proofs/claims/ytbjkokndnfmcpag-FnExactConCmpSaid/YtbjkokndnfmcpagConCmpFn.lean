/- Two concepts compared by their texts: the model's function and the program's, a contract each. -/
import Derived.Test.YtbjkokndnfmcpagConTextFn
import Derived.Test.YtbjkokndnfmcpagCmpB
import Derived.Deep.RegionWith
namespace Go.Proofs.Ytbjkokndnfmcpag
open Go.RowKit

/-- -1, 0, 1: by their texts; 0: one may not be. -/
def conCmpZ (a b : CN) : Int := if (conOk a && conOk b) = true then cmpZ (textC a) (textC b) else 0

theorem getD_byte {zs : List Int} (h : ∀ x ∈ zs, 0 ≤ x ∧ x ≤ 255) : ∀ i, 0 ≤ zs.getD i 0 ∧ zs.getD i 0 ≤ 255 := by
  intro i
  by_cases hi : i < zs.length
  · have := h _ (List.getElem_mem hi)
    simpa [List.getD, hi] using this
  · rw [List.getD, List.getElem?_eq_none (by omega)]; simp

theorem say_nil {d : Nat} {v : Value} {c : CN} {w : World} {lo hi : Nat} (h : RdC lo hi w d v c) (hhi : hi ≤ w.heap.size) (hbk : c.bulk ≤ 1048576) (hok : conOk c = true) :
    Calls Try.prog 53 #[.slice none 0 0, v] w fun e w' => ∃ v', e = .returned v' ∧ OwnB w.heap.size w' v' (textC c) ∧ Below w.heap.size w w' := by
  have htl := textC_len c
  refine (sayC_any d v c (.slice none 0 0) [] w w.heap.size lo hi h hhi (Nat.le_refl _) (wfC_of_ok hok) (OwnB.nil _ _) (by simp; omega)).mono ?_
  rintro e w2 ⟨v2, rfl, hO2, hK2⟩
  exact ⟨v2, rfl, by simpa using hO2, hK2.1⟩

theorem text_ok {d : Nat} {v : Value} {c : CN} {w : World} {lo hi : Nat} (h : RdC lo hi w d v c) (hhi : hi ≤ w.heap.size) (hbk : c.bulk ≤ 1048576) (hok : conOk c = true) :
    Calls Try.prog 28 #[v] w fun e w' => ∃ v', e = .returned v' ∧ OwnB w.heap.size w' v' (textC c) ∧ Below w.heap.size w w' := by
  have he : conText c = textC c := by unfold conText; rw [hok]; rfl
  have := implConText_any h hhi hbk
  rw [he] at this
  exact this

set_option maxRecDepth 100000 in
set_option maxHeartbeats 4000000 in
theorem specConCmp_any {dA dB : Nat} {vA vB : Value} {a b : CN} {w : World} {loA hiA loB hiB : Nat} (hA : RdC loA hiA w dA vA a) (hB : RdC loB hiB w dB vB b) (hhA : hiA ≤ w.heap.size) (hhB : hiB ≤ w.heap.size) (hbA : a.bulk ≤ 1048576) (hbB : b.bulk ≤ 1048576) :
    Calls Try.prog 33 #[vA, vB] w fun e w' => e = .returned (.int .i64 (conCmpZ a b)) ∧ Below w.heap.size w w' := by
  have HRA : Hid (RdC loA hiA w dA vA a) := hA
  have HRB : Hid (RdC loB hiB w dB vB b) := hB
  obtain ⟨kA, naA, nnA, ncA, raA, rnA, rcA, kaA, knA, kcA, rfl⟩ := hA.shape
  obtain ⟨kB, naB, nnB, ncB, raB, rnB, rcB, kaB, knB, kcB, rfl⟩ := hB.shape
  have HBkA : Hid (a.bulk ≤ 1048576) := hbA
  have HBkB : Hid (b.bulk ≤ 1048576) := hbB
  obtain ⟨W0, hW0⟩ : ∃ W0, W0 = (w.alloc (.cells #[.int .i64 kA, .slice naA nnA ncA, .slice raA rnA rcA, .slice kaA knA kcA] 44)).alloc (.cells #[.int .i64 kB, .slice naB nnB ncB, .slice raB rnB rcB, .slice kaB knB kcB] 44) := ⟨_, rfl⟩
  have HW0 : Hid (W0 = (w.alloc (.cells #[.int .i64 kA, .slice naA nnA ncA, .slice raA rnA rcA, .slice kaA knA kcA] 44)).alloc (.cells #[.int .i64 kB, .slice naB nnB ncB, .slice raB rnB rcB, .slice kaB knB kcB] 44)) := hW0
  have hb0 : Below w.heap.size w W0 := by rw [hW0]; exact ((Below.refl _ _).alloc (Nat.le_refl _) _).alloc (by simp) _
  have HB0 : Hid (Below w.heap.size w W0) := hb0
  have s0 : W0.heap.size = w.heap.size + 1 + 1 := by rw [hW0]; simp
  have HxA : Hid (BoxC W0 w.heap.size (.int .i64 kA) (.slice naA nnA ncA) (.slice raA rnA rcA) (.slice kaA knA kcA)) := by unfold Hid; rw [hW0]; exact (Below.heap_alloc _ _ _ (by simp)).trans (World.alloc_heap_new w _)
  have HxB : Hid (BoxC W0 (w.heap.size + 1) (.int .i64 kB) (.slice naB nnB ncB) (.slice raB rnB rcB) (.slice kaB knB kcB)) := by unfold Hid; rw [hW0]; have := BoxC.new (w.alloc (.cells #[.int .i64 kA, .slice naA nnA ncA, .slice raA rnA rcA, .slice kaA knA kcA] 44)) (.int .i64 kB) (.slice naB nnB ncB) (.slice raB rnB rcB) (.slice kaB knB kcB); rwa [World.size_alloc] at this
  obtain ⟨p0, p1, p2, p3⟩ := HxA.out.cells
  obtain ⟨q0, q1, q2, q3⟩ := HxB.out.cells
  clear hA hB hbA hbB hW0 hb0
  go_enter Try.func33, Try.ntmps33
  go_wp2_with fail
  rw [← HW0.out]
  refine (specConOk_any (HRA.out.below HB0.out hhA) (by omega)).mono ?_
  rintro e w1 ⟨rfl, hb1⟩
  have H1 : Hid (Below W0.heap.size W0 w1) := hb1
  have s1 := hb1.size
  have HxA1 : Hid (BoxC w1 w.heap.size (.int .i64 kA) (.slice naA nnA ncA) (.slice raA rnA rcA) (.slice kaA knA kcA)) := HxA.out.below hb1 (by omega)
  have HxB1 : Hid (BoxC w1 (w.heap.size + 1) (.int .i64 kB) (.slice naB nnB ncB) (.slice raB rnB rcB) (.slice kaB knB kcB)) := HxB.out.below hb1 (by omega)
  have HB1 : Hid (Below w.heap.size w w1) := HB0.out.trans (hb1.mono (by omega))
  clear hb1 p0 p1 p2 p3 q0 q1 q2 q3
  obtain ⟨p0, p1, p2, p3⟩ := HxA1.out.cells
  obtain ⟨q0, q1, q2, q3⟩ := HxB1.out.cells
  cases hokA : conOk a
  · have HE : Hid (conCmpZ a b = 0) := by unfold Hid conCmpZ; rw [hokA]; rfl
    go_wp2_with fail
    go_ret
    exact ⟨ri HE.out.symm, HB1.out⟩
  · go_wp2_with fail
    refine (specConOk_any (HRB.out.below HB1.out hhB) (by omega)).mono ?_
    rintro e w2 ⟨rfl, hb2⟩
    have s2 := hb2.size
    have HxA2 : Hid (BoxC w2 w.heap.size (.int .i64 kA) (.slice naA nnA ncA) (.slice raA rnA rcA) (.slice kaA knA kcA)) := HxA1.out.below hb2 (by omega)
    have HxB2 : Hid (BoxC w2 (w.heap.size + 1) (.int .i64 kB) (.slice naB nnB ncB) (.slice raB rnB rcB) (.slice kaB knB kcB)) := HxB1.out.below hb2 (by omega)
    have HB2 : Hid (Below w.heap.size w w2) := HB1.out.trans (hb2.mono (by omega))
    clear hb2 p0 p1 p2 p3 q0 q1 q2 q3
    obtain ⟨p0, p1, p2, p3⟩ := HxA2.out.cells
    obtain ⟨q0, q1, q2, q3⟩ := HxB2.out.cells
    cases hokB : conOk b
    · have HE : Hid (conCmpZ a b = 0) := by unfold Hid conCmpZ; rw [hokA, hokB]; rfl
      go_wp2_with fail
      go_ret
      exact ⟨ri HE.out.symm, HB2.out⟩
    · have HE : Hid (conCmpZ a b = cmpZ (textC a) (textC b)) := by unfold Hid conCmpZ; rw [hokA, hokB]; rfl
      have HOkA : Hid (conOk a = true) := hokA
      have HOkB : Hid (conOk b = true) := hokB
      have HTA : Hid (∀ i, 0 ≤ (textC a).getD i 0 ∧ (textC a).getD i 0 ≤ 255) := getD_byte (textC_byte HRA.out)
      have HTB : Hid (∀ i, 0 ≤ (textC b).getD i 0 ∧ (textC b).getD i 0 ≤ 255) := getD_byte (textC_byte HRB.out)
      clear hokA hokB
      go_wp2_with fail
      have HB2d : Hid (Below w.heap.size w w2.drew) := HB2.out.drew
      have hs2 : w.heap.size ≤ w2.drew.heap.size := HB2d.out.size
      have HxA2d : Hid (BoxC w2.drew w.heap.size (.int .i64 kA) (.slice naA nnA ncA) (.slice raA rnA rcA) (.slice kaA knA kcA)) := HxA2.out
      have HxB2d : Hid (BoxC w2.drew (w.heap.size + 1) (.int .i64 kB) (.slice naB nnB ncB) (.slice raB rnB rcB) (.slice kaB knB kcB)) := HxB2.out
      have l1 : w.heap.size + 1 + 1 ≤ w2.drew.heap.size := by show _ ≤ w2.heap.size; omega
      first | go_region_with (first
        | (go_at_call_of 53 kA; first | (refine (say_nil (w := w2.drew) (HRA.out.below HB2d.out hhA) (Nat.le_trans hhA hs2) HBkA.out HOkA.out).mono ?_; rintro e w3 ⟨u3, rfl, hO3, hb3⟩; obtain ⟨aA, cA, _, rfl, hrA, _, _, _⟩ := hO3.form HTA.out; have HA3 : Hid (Rd w2.drew.heap.size w3.heap.size w3 aA (textC a).length cA (textC a)) := hrA; have H3 : Hid (Below w.heap.size w w3) := HB2d.out.trans (hb3.mono hs2); have HxB3 : Hid (BoxC w3 (w.heap.size + 1) (.int .i64 kB) (.slice naB nnB ncB) (.slice raB rnB rcB) (.slice kaB knB kcB)) := HxB2d.out.below hb3 (by omega); obtain ⟨y0, y1, y2, y3⟩ := HxB3.out.cells; clear hO3 hrA hb3) | (refine (say_nil (w := w5) (HRA.out.below H5.out hhA) (Nat.le_trans hhA H5.out.size) HBkA.out HOkA.out).mono ?_; rintro e w6 ⟨u6, rfl, hO6, hb6⟩; obtain ⟨aA, cA, _, rfl, hrA, _, _, _⟩ := hO6.form HTA.out; have HAx : Hid (∃ lo hi, Rd lo hi w6 aA (textC a).length cA (textC a)) := ⟨_, _, hrA⟩; have HBx : Hid (∃ lo hi, Rd lo hi w6 aB (textC b).length cB (textC b)) := ⟨_, _, HB5.out.below hb6 (Nat.le_refl _)⟩; have HBz : Hid (Below w.heap.size w w6) := H5.out.trans (hb6.mono H5.out.size); clear hO6 hrA hb6))
        | (go_at_call_of 53 kB; first | (refine (say_nil (w := w3) (HRB.out.below H3.out hhB) (Nat.le_trans hhB H3.out.size) HBkB.out HOkB.out).mono ?_; rintro e w4 ⟨u4, rfl, hO4, hb4⟩; obtain ⟨aB, cB, _, rfl, hrB, _, _, _⟩ := hO4.form HTB.out; have HBx : Hid (∃ lo hi, Rd lo hi w4 aB (textC b).length cB (textC b)) := ⟨_, _, hrB⟩; have HAx : Hid (∃ lo hi, Rd lo hi w4 aA (textC a).length cA (textC a)) := ⟨_, _, HA3.out.below hb4 (Nat.le_refl _)⟩; have HBz : Hid (Below w.heap.size w w4) := H3.out.trans (hb4.mono H3.out.size); clear hO4 hrB hb4) | (refine (say_nil (w := w2.drew) (HRB.out.below HB2d.out hhB) (Nat.le_trans hhB hs2) HBkB.out HOkB.out).mono ?_; rintro e w5 ⟨u5, rfl, hO5, hb5⟩; obtain ⟨aB, cB, _, rfl, hrB, _, _, _⟩ := hO5.form HTB.out; have HB5 : Hid (Rd w2.drew.heap.size w5.heap.size w5 aB (textC b).length cB (textC b)) := hrB; have H5 : Hid (Below w.heap.size w w5) := HB2d.out.trans (hb5.mono hs2); have HxA5 : Hid (BoxC w5 w.heap.size (.int .i64 kA) (.slice naA nnA ncA) (.slice raA rnA rcA) (.slice kaA knA kcA)) := HxA2d.out.below hb5 (by omega); obtain ⟨y0, y1, y2, y3⟩ := HxA5.out.cells; clear hO5 hrB hb5))
        | (go_at_call 62; obtain ⟨_, _, hrx⟩ := HAx.out; obtain ⟨_, _, hry⟩ := HBx.out; refine (l2bytes_any hrx hry).mono ?_; rintro e w9 ⟨rfl, hw9⟩; rw [hw9]; clear hw9 hrx hry)) | fail
      all_goals
        go_wp2_with fail
        go_ret
        exact ⟨ri HE.out.symm, HBz.out⟩

set_option maxRecDepth 100000 in
set_option maxHeartbeats 4000000 in
theorem implConCmp_any {dA dB : Nat} {vA vB : Value} {a b : CN} {w : World} {loA hiA loB hiB : Nat} (hA : RdC loA hiA w dA vA a) (hB : RdC loB hiB w dB vB b) (hhA : hiA ≤ w.heap.size) (hhB : hiB ≤ w.heap.size) (hbA : a.bulk ≤ 1048576) (hbB : b.bulk ≤ 1048576) :
    Calls Try.prog 34 #[vA, vB] w fun e w' => e = .returned (.int .i64 (conCmpZ a b)) ∧ Below w.heap.size w w' := by
  have HRA : Hid (RdC loA hiA w dA vA a) := hA
  have HRB : Hid (RdC loB hiB w dB vB b) := hB
  obtain ⟨kA, naA, nnA, ncA, raA, rnA, rcA, kaA, knA, kcA, rfl⟩ := hA.shape
  obtain ⟨kB, naB, nnB, ncB, raB, rnB, rcB, kaB, knB, kcB, rfl⟩ := hB.shape
  have HBkA : Hid (a.bulk ≤ 1048576) := hbA
  have HBkB : Hid (b.bulk ≤ 1048576) := hbB
  obtain ⟨W0, hW0⟩ : ∃ W0, W0 = (w.alloc (.cells #[.int .i64 kA, .slice naA nnA ncA, .slice raA rnA rcA, .slice kaA knA kcA] 44)).alloc (.cells #[.int .i64 kB, .slice naB nnB ncB, .slice raB rnB rcB, .slice kaB knB kcB] 44) := ⟨_, rfl⟩
  have HW0 : Hid (W0 = (w.alloc (.cells #[.int .i64 kA, .slice naA nnA ncA, .slice raA rnA rcA, .slice kaA knA kcA] 44)).alloc (.cells #[.int .i64 kB, .slice naB nnB ncB, .slice raB rnB rcB, .slice kaB knB kcB] 44)) := hW0
  have hb0 : Below w.heap.size w W0 := by rw [hW0]; exact ((Below.refl _ _).alloc (Nat.le_refl _) _).alloc (by simp) _
  have HB0 : Hid (Below w.heap.size w W0) := hb0
  have s0 : W0.heap.size = w.heap.size + 1 + 1 := by rw [hW0]; simp
  have HxA : Hid (BoxC W0 w.heap.size (.int .i64 kA) (.slice naA nnA ncA) (.slice raA rnA rcA) (.slice kaA knA kcA)) := by unfold Hid; rw [hW0]; exact (Below.heap_alloc _ _ _ (by simp)).trans (World.alloc_heap_new w _)
  have HxB : Hid (BoxC W0 (w.heap.size + 1) (.int .i64 kB) (.slice naB nnB ncB) (.slice raB rnB rcB) (.slice kaB knB kcB)) := by unfold Hid; rw [hW0]; have := BoxC.new (w.alloc (.cells #[.int .i64 kA, .slice naA nnA ncA, .slice raA rnA rcA, .slice kaA knA kcA] 44)) (.int .i64 kB) (.slice naB nnB ncB) (.slice raB rnB rcB) (.slice kaB knB kcB); rwa [World.size_alloc] at this
  obtain ⟨p0, p1, p2, p3⟩ := HxA.out.cells
  obtain ⟨q0, q1, q2, q3⟩ := HxB.out.cells
  clear hA hB hbA hbB hW0 hb0
  go_enter Try.func34, Try.ntmps34
  go_wp2_with fail
  rw [← HW0.out]
  refine (implConOk_any (HRA.out.below HB0.out hhA) (by omega) HBkA.out).mono ?_
  rintro e w1 ⟨rfl, hb1⟩
  have H1 : Hid (Below W0.heap.size W0 w1) := hb1
  have s1 := hb1.size
  have HxA1 : Hid (BoxC w1 w.heap.size (.int .i64 kA) (.slice naA nnA ncA) (.slice raA rnA rcA) (.slice kaA knA kcA)) := HxA.out.below hb1 (by omega)
  have HxB1 : Hid (BoxC w1 (w.heap.size + 1) (.int .i64 kB) (.slice naB nnB ncB) (.slice raB rnB rcB) (.slice kaB knB kcB)) := HxB.out.below hb1 (by omega)
  have HB1 : Hid (Below w.heap.size w w1) := HB0.out.trans (hb1.mono (by omega))
  clear hb1 p0 p1 p2 p3 q0 q1 q2 q3
  obtain ⟨p0, p1, p2, p3⟩ := HxA1.out.cells
  obtain ⟨q0, q1, q2, q3⟩ := HxB1.out.cells
  cases hokA : conOk a
  · have HE : Hid (conCmpZ a b = 0) := by unfold Hid conCmpZ; rw [hokA]; rfl
    go_wp2_with fail
    go_ret
    exact ⟨ri HE.out.symm, HB1.out⟩
  · go_wp2_with fail
    refine (implConOk_any (HRB.out.below HB1.out hhB) (by omega) HBkB.out).mono ?_
    rintro e w2 ⟨rfl, hb2⟩
    have s2 := hb2.size
    have HxA2 : Hid (BoxC w2 w.heap.size (.int .i64 kA) (.slice naA nnA ncA) (.slice raA rnA rcA) (.slice kaA knA kcA)) := HxA1.out.below hb2 (by omega)
    have HxB2 : Hid (BoxC w2 (w.heap.size + 1) (.int .i64 kB) (.slice naB nnB ncB) (.slice raB rnB rcB) (.slice kaB knB kcB)) := HxB1.out.below hb2 (by omega)
    have HB2 : Hid (Below w.heap.size w w2) := HB1.out.trans (hb2.mono (by omega))
    clear hb2 p0 p1 p2 p3 q0 q1 q2 q3
    obtain ⟨p0, p1, p2, p3⟩ := HxA2.out.cells
    obtain ⟨q0, q1, q2, q3⟩ := HxB2.out.cells
    cases hokB : conOk b
    · have HE : Hid (conCmpZ a b = 0) := by unfold Hid conCmpZ; rw [hokA, hokB]; rfl
      go_wp2_with fail
      go_ret
      exact ⟨ri HE.out.symm, HB2.out⟩
    · have HE : Hid (conCmpZ a b = cmpZ (textC a) (textC b)) := by unfold Hid conCmpZ; rw [hokA, hokB]; rfl
      have HOkA : Hid (conOk a = true) := hokA
      have HOkB : Hid (conOk b = true) := hokB
      have HTA : Hid (∀ i, 0 ≤ (textC a).getD i 0 ∧ (textC a).getD i 0 ≤ 255) := getD_byte (textC_byte HRA.out)
      have HTB : Hid (∀ i, 0 ≤ (textC b).getD i 0 ∧ (textC b).getD i 0 ≤ 255) := getD_byte (textC_byte HRB.out)
      clear hokA hokB
      go_wp2_with fail
      have HB2d : Hid (Below w.heap.size w w2.drew) := HB2.out.drew
      have hs2 : w.heap.size ≤ w2.drew.heap.size := HB2d.out.size
      have HxA2d : Hid (BoxC w2.drew w.heap.size (.int .i64 kA) (.slice naA nnA ncA) (.slice raA rnA rcA) (.slice kaA knA kcA)) := HxA2.out
      have HxB2d : Hid (BoxC w2.drew (w.heap.size + 1) (.int .i64 kB) (.slice naB nnB ncB) (.slice raB rnB rcB) (.slice kaB knB kcB)) := HxB2.out
      have l1 : w.heap.size + 1 + 1 ≤ w2.drew.heap.size := by show _ ≤ w2.heap.size; omega
      first | go_region_with (first
        | (go_at_call_of 28 kA; first | (refine (text_ok (w := w2.drew) (HRA.out.below HB2d.out hhA) (Nat.le_trans hhA hs2) HBkA.out HOkA.out).mono ?_; rintro e w3 ⟨u3, rfl, hO3, hb3⟩; obtain ⟨aA, cA, _, rfl, hrA, _, _, _⟩ := hO3.form HTA.out; have HA3 : Hid (Rd w2.drew.heap.size w3.heap.size w3 aA (textC a).length cA (textC a)) := hrA; have H3 : Hid (Below w.heap.size w w3) := HB2d.out.trans (hb3.mono hs2); have HxB3 : Hid (BoxC w3 (w.heap.size + 1) (.int .i64 kB) (.slice naB nnB ncB) (.slice raB rnB rcB) (.slice kaB knB kcB)) := HxB2d.out.below hb3 (by omega); obtain ⟨y0, y1, y2, y3⟩ := HxB3.out.cells; clear hO3 hrA hb3) | (refine (text_ok (w := w5) (HRA.out.below H5.out hhA) (Nat.le_trans hhA H5.out.size) HBkA.out HOkA.out).mono ?_; rintro e w6 ⟨u6, rfl, hO6, hb6⟩; obtain ⟨aA, cA, _, rfl, hrA, _, _, _⟩ := hO6.form HTA.out; have HAx : Hid (∃ lo hi, Rd lo hi w6 aA (textC a).length cA (textC a)) := ⟨_, _, hrA⟩; have HBx : Hid (∃ lo hi, Rd lo hi w6 aB (textC b).length cB (textC b)) := ⟨_, _, HB5.out.below hb6 (Nat.le_refl _)⟩; have HBz : Hid (Below w.heap.size w w6) := H5.out.trans (hb6.mono H5.out.size); clear hO6 hrA hb6))
        | (go_at_call_of 28 kB; first | (refine (text_ok (w := w3) (HRB.out.below H3.out hhB) (Nat.le_trans hhB H3.out.size) HBkB.out HOkB.out).mono ?_; rintro e w4 ⟨u4, rfl, hO4, hb4⟩; obtain ⟨aB, cB, _, rfl, hrB, _, _, _⟩ := hO4.form HTB.out; have HBx : Hid (∃ lo hi, Rd lo hi w4 aB (textC b).length cB (textC b)) := ⟨_, _, hrB⟩; have HAx : Hid (∃ lo hi, Rd lo hi w4 aA (textC a).length cA (textC a)) := ⟨_, _, HA3.out.below hb4 (Nat.le_refl _)⟩; have HBz : Hid (Below w.heap.size w w4) := H3.out.trans (hb4.mono H3.out.size); clear hO4 hrB hb4) | (refine (text_ok (w := w2.drew) (HRB.out.below HB2d.out hhB) (Nat.le_trans hhB hs2) HBkB.out HOkB.out).mono ?_; rintro e w5 ⟨u5, rfl, hO5, hb5⟩; obtain ⟨aB, cB, _, rfl, hrB, _, _, _⟩ := hO5.form HTB.out; have HB5 : Hid (Rd w2.drew.heap.size w5.heap.size w5 aB (textC b).length cB (textC b)) := hrB; have H5 : Hid (Below w.heap.size w w5) := HB2d.out.trans (hb5.mono hs2); have HxA5 : Hid (BoxC w5 w.heap.size (.int .i64 kA) (.slice naA nnA ncA) (.slice raA rnA rcA) (.slice kaA knA kcA)) := HxA2d.out.below hb5 (by omega); obtain ⟨y0, y1, y2, y3⟩ := HxA5.out.cells; clear hO5 hrB hb5))
        | (go_at_call 63; obtain ⟨_, _, hrx⟩ := HAx.out; obtain ⟨_, _, hry⟩ := HBx.out; refine (bytesCompare_any hrx hry).mono ?_; rintro e w9 ⟨rfl, hw9⟩; rw [hw9]; clear hw9 hrx hry)) | fail
      all_goals
        go_wp2_with fail
        go_ret
        exact ⟨ri HE.out.symm, HBz.out⟩

end Go.Proofs.Ytbjkokndnfmcpag
