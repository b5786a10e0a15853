/- Several texts in one: Spoil, LawCon, LawSub, LawSub2. -/
import Derived.Test.YtedihcjhfkdkjaaBent1
import Derived.Test.YtedihcjhfkdkjaaNG12
import Derived.Test.YtedihcjhfkdkjaaNG15
import Derived.Test.YtedihcjhfkdkjaaNG23
import Derived.Test.YtedihcjhfkdkjaaNG2
import Derived.Test.YtedihcjhfkdkjaaNG22
import Derived.Test.YtedihcjhfkdkjaaNG6
import Derived.Test.YtedihcjhfkdkjaaNG8
import Derived.Test.YtedihcjhfkdkjaaNG17
import Derived.Test.YtedihcjhfkdkjaaNG18
import Derived.Test.YtedihcjhfkdkjaaReadS8
namespace Go.Proofs.Ytedihcjhfkdkjaa

section
open Go.RowKit

theorem Rd.only {lo hi B : Nat} {w w' : World} {a : Option Addr} {n cap : Nat} {zs : List Int} (h : Rd lo hi w a n cap zs) (o : Only B w w') (hB : B < lo) (hh : hi ≤ w.heap.size) : Rd lo hi w' a n cap zs :=
  h.same (fun b h1 h2 => o.other b (by omega) (by omega))

/-- The rest of a slice from i on, as the model has it: where no room is left it points to the begin. -/
theorem Rd.rest {lo hi : Nat} {w : World} {b off n cap : Nat} {zs : List Int} (h : Rd lo hi w (some ⟨b, off, none⟩) n cap zs) {i o' : Nat} (hin : i ≤ n) (ho : (cap = i ∧ o' = off) ∨ (cap ≠ i ∧ o' = off + i)) : Rd lo hi w (some ⟨b, o', none⟩) (n - i) (cap - i) ((zs.drop i).take (n - i)) := by
  have hl := h.len
  have hf := h.fits
  rcases ho with ⟨h1, rfl⟩ | ⟨h1, rfl⟩
  · have e : n - i = 0 := by omega
    rw [e]
    exact ⟨by simp, ⟨by omega, by omega⟩, by simp, .inl rfl⟩
  · exact h.cut (by omega)

/-- Bytes that a call has made and that are not nil, as a slice. -/
theorem own_some {base : Nat} {w : World} {v : Value} {zs : List Int} (h : OwnB base w v zs) (hv : v ≠ .slice none 0 0) (hby : ∀ x ∈ zs, 0 ≤ x ∧ x ≤ 255) : ∃ g c, v = .slice (some ⟨g, 0, none⟩) zs.length c ∧ base ≤ g ∧ g < w.heap.size ∧ Rd base w.heap.size w (some ⟨g, 0, none⟩) zs.length c zs := by
  rcases h.2 with ⟨hn, _⟩ | ⟨g, cap, cur, rfl, hg, hh, h1, h2, h3, h4⟩
  · exact absurd hn hv
  · have hlt : g < w.heap.size := (Array.getElem?_eq_some_iff.1 hh).1
    refine ⟨g, cap, rfl, hg, hlt, rfl, ⟨h1, by unfold maxLen at h2; omega⟩, getD_byte hby, .inr ⟨g, 0, rfl, hg, hlt, fun i hi => ?_⟩⟩
    have := h.cellAt i (by omega)
    rw [Nat.zero_add, this, List.getElem?_map]
    simp [List.getD, hi]

theorem text_some {c : CN} (h : wfC c = true) : 1 ≤ (textC c).length := by
  rw [wfC_eq, Bool.and_eq_true] at h
  have hs := h.1
  unfold shapeB at hs
  simp only [Bool.and_eq_true, decide_eq_true_eq] at hs
  obtain ⟨hn, _, hk⟩ := hs
  rw [textC_eq]
  by_cases h2 : c.kind = 2
  · rw [if_pos h2]
    unfold nameFit at hn
    rw [if_pos h2] at hn
    simp only [upOk, longB, Bool.and_eq_true, decide_eq_true_eq] at hn
    exact hn.1.1.1
  · rw [if_neg h2]
    by_cases h0 : c.kids.length = 0
    · rw [if_pos h0]
      have hz : kidN c.kind = 0 := by omega
      have : c.kind = 0 ∨ c.kind = 1 := by
        unfold kidN at hz
        split at hz
        · omega
        · split at hz
          · omega
          · split at hz <;> omega
      rcases this with e | e <;> rw [e] <;> decide
    · rw [if_neg h0]; simp; omega
end

section
open Go.RowKit

theorem textS_ok {d : Nat} {v : Value} {c : CN} {w : World} {lo hi : Nat} (h : RdC lo hi w d v c) (hhi : hi ≤ w.heap.size) (hbk : c.bulk ≤ 1048576) (hok : conOk c = true) :
    Calls Try.prog 26 #[v] w fun e w' => ∃ v', e = .returned v' ∧ OwnB w.heap.size w' v' (textC c) ∧ Below w.heap.size w w' := by
  have he : conText c = textC c := by unfold conText; rw [hok]; rfl
  have := specConText_any h hhi hbk
  rw [he] at this
  exact this
theorem not_nil {base : Nat} {w : World} {v : Value} {zs : List Int} (h : OwnB base w v zs) (hl : 1 ≤ zs.length) : v ≠ .slice none 0 0 := by
  intro e
  rw [e] at h
  rcases h.2 with ⟨_, q⟩ | ⟨_, _, _, q, _⟩
  · omega
  · simp at q

set_option maxRecDepth 100000 in
set_option maxHeartbeats 4000000 in
theorem sameCon_any {dA dB : Nat} {vA vB : Value} {c : CN} {w : World} {loA hiA loB hiB : Nat} (hA : RdC loA hiA w dA vA c) (hB : RdC loB hiB w dB vB c) (hhA : hiA ≤ w.heap.size) (hhB : hiB ≤ w.heap.size) (hbk : c.bulk ≤ 1048576) (hok : conOk c = true) :
    Calls Try.prog 10 #[vA, vB] w fun e w' => e = .returned (.bool true) ∧ Below w.heap.size w w' := by
  have HRA : Hid (RdC loA hiA w dA vA c) := hA
  have HRB : Hid (RdC loB hiB w dB vB c) := hB
  have HTb : Hid (∀ x ∈ textC c, 0 ≤ x ∧ x ≤ 255) := textC_byte hA
  obtain ⟨kA, naA, nnA, ncA, raA, rnA, rcA, kaA, knA, kcA, rfl⟩ := hA.shape
  obtain ⟨kB, naB, nnB, ncB, raB, rnB, rcB, kaB, knB, kcB, rfl⟩ := hB.shape
  have HBk : Hid (c.bulk ≤ 1048576) := hbk
  have HOk : Hid (conOk c = true) := hok
  obtain ⟨m, hm⟩ : ∃ m, m = (textC c).length := ⟨_, rfl⟩
  have HM : Hid (m = (textC c).length) := hm
  have hm1 : 1 ≤ m := by rw [hm]; exact text_some (wfC_of_ok hok)
  have HT1 : Hid (1 ≤ (textC c).length) := text_some (wfC_of_ok hok)
  have hmi : (0 : Int) < (m : Int) := by omega
  obtain ⟨W0, hW0⟩ : ∃ W0, W0 = (w.alloc (.cells #[.int .i64 kA, .slice naA nnA ncA, .slice raA rnA rcA, .slice kaA knA kcA] 25)).alloc (.cells #[.int .i64 kB, .slice naB nnB ncB, .slice raB rnB rcB, .slice kaB knB kcB] 25) := ⟨_, rfl⟩
  have HW0 : Hid (W0 = (w.alloc (.cells #[.int .i64 kA, .slice naA nnA ncA, .slice raA rnA rcA, .slice kaA knA kcA] 25)).alloc (.cells #[.int .i64 kB, .slice naB nnB ncB, .slice raB rnB rcB, .slice kaB knB kcB] 25)) := hW0
  have hb0 : Below w.heap.size w W0 := by rw [hW0]; exact ((Below.refl _ _).alloc (Nat.le_refl _) _).alloc (by simp) _
  have HB0 : Hid (Below w.heap.size w W0.drew) := hb0.drew
  have s0 : W0.heap.size = w.heap.size + 1 + 1 := by rw [hW0]; simp
  have s0d : W0.drew.heap.size = w.heap.size + 1 + 1 := s0
  have HxA : Hid (BoxC W0.drew (w.heap.size) (.int .i64 kA) (.slice naA nnA ncA) (.slice raA rnA rcA) (.slice kaA knA kcA)) := by unfold Hid; show BoxC W0 (w.heap.size) (.int .i64 kA) (.slice naA nnA ncA) (.slice raA rnA rcA) (.slice kaA knA kcA); rw [hW0]; exact (Below.heap_alloc _ _ _ (by simp)).trans (World.alloc_heap_new w _)
  have HxB : Hid (BoxC W0.drew (w.heap.size + 1) (.int .i64 kB) (.slice naB nnB ncB) (.slice raB rnB rcB) (.slice kaB knB kcB)) := by unfold Hid; show BoxC W0 (w.heap.size + 1) (.int .i64 kB) (.slice naB nnB ncB) (.slice raB rnB rcB) (.slice kaB knB kcB); rw [hW0]; have := BoxC.new (w.alloc (.cells #[.int .i64 kA, .slice naA nnA ncA, .slice raA rnA rcA, .slice kaA knA kcA] 25)) (.int .i64 kB) (.slice naB nnB ncB) (.slice raB rnB rcB) (.slice kaB knB kcB); simpa using this
  obtain ⟨p0, p1, p2, p3⟩ : W0.cell? ⟨w.heap.size, 0, none⟩ = some (.int .i64 kA) ∧ W0.cell? ⟨w.heap.size, 1, none⟩ = some (.slice naA nnA ncA) ∧ W0.cell? ⟨w.heap.size, 2, none⟩ = some (.slice raA rnA rcA) ∧ W0.cell? ⟨w.heap.size, 3, none⟩ = some (.slice kaA knA kcA) := HxA.out.cells
  obtain ⟨q0, q1, q2, q3⟩ : W0.cell? ⟨w.heap.size + 1, 0, none⟩ = some (.int .i64 kB) ∧ W0.cell? ⟨w.heap.size + 1, 1, none⟩ = some (.slice naB nnB ncB) ∧ W0.cell? ⟨w.heap.size + 1, 2, none⟩ = some (.slice raB rnB rcB) ∧ W0.cell? ⟨w.heap.size + 1, 3, none⟩ = some (.slice kaB knB kcB) := HxB.out.cells
  have hs0 : w.heap.size ≤ W0.drew.heap.size := by omega
  clear hA hB hbk hok hW0 hb0 hm
  go_enter Try.func10, Try.ntmps10
  go_upto_region 1 with fail
  rw [← HW0.out]
  first | go_region_with (first
    | (go_at_call_of 26 kA; first | (refine (textS_ok (w := w5) (HRA.out.below H5.out hhA) (Nat.le_trans hhA H5.out.size) HBk.out HOk.out).mono ?_; rintro e w6 ⟨u6, rfl, hO6, hb6⟩; obtain ⟨gA, cA, rfl, _, _, hrA⟩ := own_some hO6 (not_nil hO6 HT1.out) HTb.out; rw [← HM.out] at hrA ⊢; have HAx : Hid (∃ lo hi, Rd lo hi w6 (some ⟨gA, 0, none⟩) m cA (textC c)) := ⟨_, _, hrA⟩; have HBx : Hid (∃ lo hi, Rd lo hi w6 (some ⟨gB, 0, none⟩) m cB (textC c)) := ⟨_, _, HB5.out.below hb6 (Nat.le_refl _)⟩; have HBz : Hid (Below w.heap.size w w6) := H5.out.trans (hb6.mono H5.out.size); clear hO6 hrA hb6) | (refine (textS_ok (w := W0.drew) (HRA.out.below HB0.out hhA) (Nat.le_trans hhA hs0) HBk.out HOk.out).mono ?_; rintro e w3 ⟨u3, rfl, hO3, hb3⟩; obtain ⟨gA, cA, rfl, _, _, hrA⟩ := own_some hO3 (not_nil hO3 HT1.out) HTb.out; rw [← HM.out] at hrA ⊢; have HA3 : Hid (Rd W0.drew.heap.size w3.heap.size w3 (some ⟨gA, 0, none⟩) m cA (textC c)) := hrA; have H3 : Hid (Below w.heap.size w w3) := HB0.out.trans (hb3.mono hs0); have HxB3 : Hid (BoxC w3 (w.heap.size + 1) (.int .i64 kB) (.slice naB nnB ncB) (.slice raB rnB rcB) (.slice kaB knB kcB)) := HxB.out.below hb3 (by omega); obtain ⟨y0, y1, y2, y3⟩ := HxB3.out.cells; clear hO3 hrA hb3))
    | (go_at_call_of 26 kB; first | (refine (textS_ok (w := w3) (HRB.out.below H3.out hhB) (Nat.le_trans hhB H3.out.size) HBk.out HOk.out).mono ?_; rintro e w4 ⟨u4, rfl, hO4, hb4⟩; obtain ⟨gB, cB, rfl, _, _, hrB⟩ := own_some hO4 (not_nil hO4 HT1.out) HTb.out; rw [← HM.out] at hrB ⊢; have HBx : Hid (∃ lo hi, Rd lo hi w4 (some ⟨gB, 0, none⟩) m cB (textC c)) := ⟨_, _, hrB⟩; have HAx : Hid (∃ lo hi, Rd lo hi w4 (some ⟨gA, 0, none⟩) m cA (textC c)) := ⟨_, _, HA3.out.below hb4 (Nat.le_refl _)⟩; have HBz : Hid (Below w.heap.size w w4) := H3.out.trans (hb4.mono H3.out.size); clear hO4 hrB hb4) | (refine (textS_ok (w := W0.drew) (HRB.out.below HB0.out hhB) (Nat.le_trans hhB hs0) HBk.out HOk.out).mono ?_; rintro e w5 ⟨u5, rfl, hO5, hb5⟩; obtain ⟨gB, cB, rfl, _, _, hrB⟩ := own_some hO5 (not_nil hO5 HT1.out) HTb.out; rw [← HM.out] at hrB ⊢; have HB5 : Hid (Rd W0.drew.heap.size w5.heap.size w5 (some ⟨gB, 0, none⟩) m cB (textC c)) := hrB; have H5 : Hid (Below w.heap.size w w5) := HB0.out.trans (hb5.mono hs0); have HxA5 : Hid (BoxC w5 (w.heap.size) (.int .i64 kA) (.slice naA nnA ncA) (.slice raA rnA rcA) (.slice kaA knA kcA)) := HxA.out.below hb5 (by omega); obtain ⟨y0, y1, y2, y3⟩ := HxA5.out.cells; clear hO5 hrB hb5))) | fail
  all_goals
    go_wp2_with fail
    obtain ⟨_, _, hax⟩ := HAx.out
    obtain ⟨_, _, hbx⟩ := HBx.out
    refine (same_any _ _ _ _ _ _ _ _ hax hbx).mono ?_
    rintro e w8 ⟨rfl, hw8⟩
    subst hw8
    go_wp2
    go_ret
    exact ⟨rfl, HBz.out⟩
end

section
open Go.RowKit

set_option maxHeartbeats 400000 in
theorem same_all (a a' : Option Addr) (n cap n' cap' : Nat) (xs ys : List Int) (w : World) {lo hi lo' hi' : Nat} (h : Rd lo hi w a n cap xs) (h' : Rd lo' hi' w a' n' cap' ys) :
    Calls Try.prog 23 #[.slice a n cap, .slice a' n' cap'] w fun e w' => e = .returned (.bool (decide (xs = ys))) ∧ w' = w := by
  have hc := conv_any h
  have hc' := conv_any h'
  have hq := str_inj h.byte h'.byte
  obtain ⟨s, hs⟩ : ∃ s, s = strOfNums xs := ⟨_, rfl⟩
  obtain ⟨t, ht⟩ : ∃ t, t = strOfNums ys := ⟨_, rfl⟩
  obtain ⟨r, hr⟩ : ∃ r, r = decide (xs = ys) := ⟨_, rfl⟩
  rw [← hs] at hc hq
  rw [← ht] at hc' hq
  rw [← hr] at hq ⊢
  clear hs ht hr h h'
  go_enter Try.func23, Try.ntmps23
  go_wp2
  go_ret
  exact ⟨rfl, rfl⟩

theorem text_same {a b : CN} (ha : conOk a = true) (hb : conOk b = true) : decide (textC a = textC b) = sameC a b := by
  cases e : sameC a b
  · exact decide_eq_false (fun q => by rw [(sameC_iff a b).2 (textC_inj (wfC_of_ok ha) (wfC_of_ok hb) q)] at e; cases e)
  · rw [(sameC_iff a b).1 e]; simp

set_option maxRecDepth 100000 in
set_option maxHeartbeats 4000000 in
theorem sameCon_all {dA dB : Nat} {vA vB : Value} {cA cB : CN} {w : World} {loA hiA loB hiB : Nat} (hA : RdC loA hiA w dA vA cA) (hB : RdC loB hiB w dB vB cB) (hhA : hiA ≤ w.heap.size) (hhB : hiB ≤ w.heap.size) (hbA : cA.bulk ≤ 1048576) (hbB : cB.bulk ≤ 1048576) (hokA : conOk cA = true) (hokB : conOk cB = true) :
    Calls Try.prog 10 #[vA, vB] w fun e w' => e = .returned (.bool (sameC cA cB)) ∧ Below w.heap.size w w' := by
  have HRA : Hid (RdC loA hiA w dA vA cA) := hA
  have HRB : Hid (RdC loB hiB w dB vB cB) := hB
  have HTbA : Hid (∀ x ∈ textC cA, 0 ≤ x ∧ x ≤ 255) := textC_byte hA
  have HTbB : Hid (∀ x ∈ textC cB, 0 ≤ x ∧ x ≤ 255) := textC_byte hB
  obtain ⟨kA, naA, nnA, ncA, raA, rnA, rcA, kaA, knA, kcA, rfl⟩ := hA.shape
  obtain ⟨kB, naB, nnB, ncB, raB, rnB, rcB, kaB, knB, kcB, rfl⟩ := hB.shape
  have HBkA : Hid (cA.bulk ≤ 1048576) := hbA
  have HBkB : Hid (cB.bulk ≤ 1048576) := hbB
  have HOkA : Hid (conOk cA = true) := hokA
  have HOkB : Hid (conOk cB = true) := hokB
  obtain ⟨mA, hmA⟩ : ∃ m, m = (textC cA).length := ⟨_, rfl⟩
  obtain ⟨mB, hmB⟩ : ∃ m, m = (textC cB).length := ⟨_, rfl⟩
  have HMA : Hid (mA = (textC cA).length) := hmA
  have HMB : Hid (mB = (textC cB).length) := hmB
  have hm1 : 1 ≤ mA := by rw [hmA]; exact text_some (wfC_of_ok hokA)
  have HT1A : Hid (1 ≤ (textC cA).length) := text_some (wfC_of_ok hokA)
  have HT1B : Hid (1 ≤ (textC cB).length) := text_some (wfC_of_ok hokB)
  have hmi : (0 : Int) < (mA : Int) := by omega
  obtain ⟨W0, hW0⟩ : ∃ W0, W0 = (w.alloc (.cells #[.int .i64 kA, .slice naA nnA ncA, .slice raA rnA rcA, .slice kaA knA kcA] 25)).alloc (.cells #[.int .i64 kB, .slice naB nnB ncB, .slice raB rnB rcB, .slice kaB knB kcB] 25) := ⟨_, rfl⟩
  have HW0 : Hid (W0 = (w.alloc (.cells #[.int .i64 kA, .slice naA nnA ncA, .slice raA rnA rcA, .slice kaA knA kcA] 25)).alloc (.cells #[.int .i64 kB, .slice naB nnB ncB, .slice raB rnB rcB, .slice kaB knB kcB] 25)) := hW0
  have hb0 : Below w.heap.size w W0 := by rw [hW0]; exact ((Below.refl _ _).alloc (Nat.le_refl _) _).alloc (by simp) _
  have HB0 : Hid (Below w.heap.size w W0.drew) := hb0.drew
  have s0 : W0.heap.size = w.heap.size + 1 + 1 := by rw [hW0]; simp
  have s0d : W0.drew.heap.size = w.heap.size + 1 + 1 := s0
  have HxA : Hid (BoxC W0.drew (w.heap.size) (.int .i64 kA) (.slice naA nnA ncA) (.slice raA rnA rcA) (.slice kaA knA kcA)) := by unfold Hid; show BoxC W0 (w.heap.size) (.int .i64 kA) (.slice naA nnA ncA) (.slice raA rnA rcA) (.slice kaA knA kcA); rw [hW0]; exact (Below.heap_alloc _ _ _ (by simp)).trans (World.alloc_heap_new w _)
  have HxB : Hid (BoxC W0.drew (w.heap.size + 1) (.int .i64 kB) (.slice naB nnB ncB) (.slice raB rnB rcB) (.slice kaB knB kcB)) := by unfold Hid; show BoxC W0 (w.heap.size + 1) (.int .i64 kB) (.slice naB nnB ncB) (.slice raB rnB rcB) (.slice kaB knB kcB); rw [hW0]; have := BoxC.new (w.alloc (.cells #[.int .i64 kA, .slice naA nnA ncA, .slice raA rnA rcA, .slice kaA knA kcA] 25)) (.int .i64 kB) (.slice naB nnB ncB) (.slice raB rnB rcB) (.slice kaB knB kcB); simpa using this
  obtain ⟨p0, p1, p2, p3⟩ : W0.cell? ⟨w.heap.size, 0, none⟩ = some (.int .i64 kA) ∧ W0.cell? ⟨w.heap.size, 1, none⟩ = some (.slice naA nnA ncA) ∧ W0.cell? ⟨w.heap.size, 2, none⟩ = some (.slice raA rnA rcA) ∧ W0.cell? ⟨w.heap.size, 3, none⟩ = some (.slice kaA knA kcA) := HxA.out.cells
  obtain ⟨q0, q1, q2, q3⟩ : W0.cell? ⟨w.heap.size + 1, 0, none⟩ = some (.int .i64 kB) ∧ W0.cell? ⟨w.heap.size + 1, 1, none⟩ = some (.slice naB nnB ncB) ∧ W0.cell? ⟨w.heap.size + 1, 2, none⟩ = some (.slice raB rnB rcB) ∧ W0.cell? ⟨w.heap.size + 1, 3, none⟩ = some (.slice kaB knB kcB) := HxB.out.cells
  have hs0 : w.heap.size ≤ W0.drew.heap.size := by omega
  clear hA hB hbA hbB hW0 hb0 hmA hmB hokA hokB
  go_enter Try.func10, Try.ntmps10
  go_upto_region 1 with fail
  rw [← HW0.out]
  first | go_region_with (first
    | (go_at_call_of 26 kA; first | (refine (textS_ok (w := w5) (HRA.out.below H5.out hhA) (Nat.le_trans hhA H5.out.size) HBkA.out HOkA.out).mono ?_; rintro e w6 ⟨u6, rfl, hO6, hb6⟩; obtain ⟨gA, cA', rfl, _, _, hrA⟩ := own_some hO6 (not_nil hO6 HT1A.out) HTbA.out; rw [← HMA.out] at hrA ⊢; have HAx : Hid (∃ lo hi, Rd lo hi w6 (some ⟨gA, 0, none⟩) mA cA' (textC cA)) := ⟨_, _, hrA⟩; have HBx : Hid (∃ lo hi, Rd lo hi w6 (some ⟨gB, 0, none⟩) mB cB' (textC cB)) := ⟨_, _, HB5.out.below hb6 (Nat.le_refl _)⟩; have HBz : Hid (Below w.heap.size w w6) := H5.out.trans (hb6.mono H5.out.size); clear hO6 hrA hb6) | (refine (textS_ok (w := W0.drew) (HRA.out.below HB0.out hhA) (Nat.le_trans hhA hs0) HBkA.out HOkA.out).mono ?_; rintro e w3 ⟨u3, rfl, hO3, hb3⟩; obtain ⟨gA, cA', rfl, _, _, hrA⟩ := own_some hO3 (not_nil hO3 HT1A.out) HTbA.out; rw [← HMA.out] at hrA ⊢; have HA3 : Hid (Rd W0.drew.heap.size w3.heap.size w3 (some ⟨gA, 0, none⟩) mA cA' (textC cA)) := hrA; have H3 : Hid (Below w.heap.size w w3) := HB0.out.trans (hb3.mono hs0); have HxB3 : Hid (BoxC w3 (w.heap.size + 1) (.int .i64 kB) (.slice naB nnB ncB) (.slice raB rnB rcB) (.slice kaB knB kcB)) := HxB.out.below hb3 (by omega); obtain ⟨y0, y1, y2, y3⟩ := HxB3.out.cells; clear hO3 hrA hb3))
    | (go_at_call_of 26 kB; first | (refine (textS_ok (w := w3) (HRB.out.below H3.out hhB) (Nat.le_trans hhB H3.out.size) HBkB.out HOkB.out).mono ?_; rintro e w4 ⟨u4, rfl, hO4, hb4⟩; obtain ⟨gB, cB', rfl, _, _, hrB⟩ := own_some hO4 (not_nil hO4 HT1B.out) HTbB.out; rw [← HMB.out] at hrB ⊢; have HBx : Hid (∃ lo hi, Rd lo hi w4 (some ⟨gB, 0, none⟩) mB cB' (textC cB)) := ⟨_, _, hrB⟩; have HAx : Hid (∃ lo hi, Rd lo hi w4 (some ⟨gA, 0, none⟩) mA cA' (textC cA)) := ⟨_, _, HA3.out.below hb4 (Nat.le_refl _)⟩; have HBz : Hid (Below w.heap.size w w4) := H3.out.trans (hb4.mono H3.out.size); clear hO4 hrB hb4) | (refine (textS_ok (w := W0.drew) (HRB.out.below HB0.out hhB) (Nat.le_trans hhB hs0) HBkB.out HOkB.out).mono ?_; rintro e w5 ⟨u5, rfl, hO5, hb5⟩; obtain ⟨gB, cB', rfl, _, _, hrB⟩ := own_some hO5 (not_nil hO5 HT1B.out) HTbB.out; rw [← HMB.out] at hrB ⊢; have HB5 : Hid (Rd W0.drew.heap.size w5.heap.size w5 (some ⟨gB, 0, none⟩) mB cB' (textC cB)) := hrB; have H5 : Hid (Below w.heap.size w w5) := HB0.out.trans (hb5.mono hs0); have HxA5 : Hid (BoxC w5 (w.heap.size) (.int .i64 kA) (.slice naA nnA ncA) (.slice raA rnA rcA) (.slice kaA knA kcA)) := HxA.out.below hb5 (by omega); obtain ⟨y0, y1, y2, y3⟩ := HxA5.out.cells; clear hO5 hrB hb5))) | fail
  all_goals
    go_wp2_with fail
    obtain ⟨_, _, hax⟩ := HAx.out
    obtain ⟨_, _, hbx⟩ := HBx.out
    refine (same_all _ _ _ _ _ _ _ _ _ hax hbx).mono ?_
    rintro e w8 ⟨rfl, hw8⟩
    subst hw8
    rw [text_same HOkA.out HOkB.out]
    obtain ⟨r, hr⟩ : ∃ r, r = sameC cA cB := ⟨_, rfl⟩
    rw [← hr]
    have HRr : Hid (r = sameC cA cB) := hr
    clear hr hax hbx
    go_wp2
    go_ret
    exact ⟨by rw [← HRr.out]; rfl, HBz.out⟩
end

section
open Go.RowKit

set_option maxRecDepth 100000 in
set_option maxHeartbeats 1000000 in
theorem has_yes {w : World} {base : Nat} {v : Value} {L : List (List Int)} {gs : List (Nat × Nat)} (hW : OwnW base w v L gs) {a : Option Addr} {n cap : Nat} {zs : List Int} {lo hi : Nat} (h : Rd lo hi w a n cap zs) (hm : zs ∈ L) (hL : L.length ≤ 1000000) :
    Calls Try.prog 13 #[v, .slice a n cap] w fun e w' => e = .returned (.bool true) ∧ w' = w := by
  have hpos : 0 < L.length := List.length_pos_of_mem hm
  obtain ⟨g, cp, rfl, hg, hgl⟩ := hW.row.form hpos
  have HW : Hid (OwnW base w (.slice (some ⟨g, 0, none⟩) L.length cp) L gs) := hW
  have HR : Hid (Rd lo hi w a n cap zs) := h
  have HM : Hid (zs ∈ L) := hm
  obtain ⟨q, hq⟩ : ∃ q, q = L.length := ⟨_, rfl⟩
  have HQ : Hid (q = L.length) := hq
  rw [← hq]
  have hqL : q ≤ 1000000 := by rw [hq]; exact hL
  clear hW h hm hq hpos hL
  go_enter Try.func13, Try.ntmps13
  go_wp2_with fail
  go_loopw [5] (fun i wr => ∃ k : Nat, k ≤ q ∧ i = .int .i64 k ∧ zs ∉ L.take k ∧ wr = w) (fun i _ => q - (intOf i).toNat)
  case atStart => exact ⟨0, Nat.zero_le _, rfl, by simp, rfl⟩
  case round =>
    obtain ⟨k, hk, rfl, hn, rfl⟩ := hrel
    have HN : Hid (zs ∉ L.take k) := hn
    clear hn
    by_cases hlt : k < q
    · have hki : (k : Int) < (q : Int) := by omega
      have hkL : k < L.length := by rw [← HQ.out]; exact hlt
      have hcell : wr.cell? ⟨g, k, none⟩ = some (wv (L.getD k []) (gs.getD k (0, 0))) := by
        have hgk : k < gs.length := by rw [HW.out.len]; exact hkL
        rw [HW.out.row.cellAt k (by omega), List.getElem?_zipWith]
        simp [List.getD, hkL, hgk]
      obtain ⟨t1, t2, t3⟩ := HW.out.txt k hkL
      have HRk : Hid (Rd 0 wr.heap.size wr (some ⟨(gs.getD k (0, 0)).1, 0, none⟩) (L.getD k []).length (gs.getD k (0, 0)).2 (L.getD k [])) := t2.rd (HW.out.byt k hkL) t3 (Nat.zero_le _) t2.lt
      unfold wv at hcell
      obtain ⟨gk, hgk⟩ : ∃ gk, gk = (gs.getD k (0, 0)).1 := ⟨_, rfl⟩
      obtain ⟨ck, hck⟩ : ∃ ck, ck = (gs.getD k (0, 0)).2 := ⟨_, rfl⟩
      obtain ⟨zk, hzk⟩ : ∃ zk, zk = L.getD k [] := ⟨_, rfl⟩
      obtain ⟨mk, hmk⟩ : ∃ mk, mk = zk.length := ⟨_, rfl⟩
      rw [← hgk, ← hck, ← hzk, ← hmk] at hcell HRk
      have HZ : Hid (zk = L.getD k []) := hzk
      clear hgk hck hzk hmk t1 t2 t3
      go_wp2_with fail
      refine (same_all _ _ _ _ _ _ _ _ _ HRk.out HR.out).mono ?_
      rintro e w8 ⟨rfl, hw8⟩
      subst hw8
      by_cases hz : zk = zs
      · rw [decide_eq_true hz]
        go_wp2
        go_ret
        exact ⟨rfl, rfl⟩
      · rw [decide_eq_false hz]
        have HNz : Hid (zs ∉ L.take (k + 1)) := by
          unfold Hid
          rw [take_succ_getD L [] k hkL, List.mem_append]
          rintro (q | q)
          · exact HN.out q
          · simp only [List.mem_singleton] at q
            exact hz (by rw [HZ.out, ← q])
        go_wp2_with fail
        go_roundw
        case rel => exact ⟨k + 1, by omega, by go_num, HNz.out, by first | rfl | trivial⟩
        case measure => simp [intOf]; omega
    · exfalso
      have hkq : k = L.length := by have := HQ.out; omega
      exact HN.out (by rw [hkq, List.take_length]; exact HM.out)

/-- A list of concepts that a call has made, as it is read. -/
theorem ansL_rd {base : Nat} {w : World} {d : Nat} {v : Value} {cs : List CN} {Ls : List (List (Addr × IntKind))} {xs : List Value} (h : AnsL base w d v cs Ls xs) : ∃ a cap, v = .slice a cs.length cap ∧ RdL (RdC 0 w.heap.size w d) 0 w.heap.size w a cs.length cap cs := by
  have hr := h.row
  rcases hr.row.2 with ⟨q, h0⟩ | ⟨g, cap, cur, rfl, hg, hh, h1, h2, h3, h4⟩
  · refine ⟨none, 0, by rw [q, h0], rfl, ⟨by omega, by omega⟩, .inl h0⟩
  · have hlt : g < w.heap.size := (Array.getElem?_eq_some_iff.1 hh).1
    refine ⟨_, _, rfl, rfl, ⟨h1, by unfold maxLen at h2; omega⟩, .inr ⟨g, 0, rfl, Nat.zero_le _, hlt, fun i hi => ?_⟩⟩
    obtain ⟨v0, v1, v2, v3, e0, e1, e2, e3, ho⟩ := hr.kid i hi
    have hc : ∀ t u, t < 4 → xs[i * 4 + t]? = some u → w.cell? ⟨g, 0 + i * 4 + t, none⟩ = some u := by
      intro t u ht hu
      rw [Nat.zero_add, hr.row.cellAt _ (by omega)]
      exact hu
    exact ⟨v0, v1, v2, v3, hc 0 _ (by omega) e0, hc 1 _ (by omega) e1, hc 2 _ (by omega) e2, hc 3 _ (by omega) e3, ho.rd (fun x hx => ⟨Nat.zero_le _, hr.lt x (by
      have hil : i < Ls.length := by rw [hr.len]; exact hi
      have : Ls.getD i [] = Ls[i] := by simp [List.getD, hil]
      rw [this] at hx
      exact List.mem_flatten.2 ⟨_, List.getElem_mem hil, hx⟩)⟩)⟩

theorem notA_read : conRead [78, 111, 116, 40, 65, 41] = (CN.mk 3 [] [] [CN.mk 2 [65] [] []], -1) := by kernel_rfl
theorem notA_subs : (subsN (CN.mk 3 [] [] [CN.mk 2 [65] [] []])).length = 2 := by kernel_rfl
end

end Go.Proofs.Ytedihcjhfkdkjaa
