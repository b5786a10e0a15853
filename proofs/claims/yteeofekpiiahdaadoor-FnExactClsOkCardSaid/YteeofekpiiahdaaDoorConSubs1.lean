/- spec.l2same: for two concepts that are as their kinds ask it tells whether they are the same. -/
import Derived.Test.YteeofekpiiahdaaDoorConSay
import Derived.Test.YteeofekpiiahdaaDoorConInj
import Derived.Test.YteeofekpiiahdaaDoorNSame
import Derived.Test.YteeofekpiiahdaaDoorConTo
import Derived.Deep.RegionHeld
namespace Go.Proofs.YteeofekpiiahdaaDoor
open Go.RowKit

theorem textJ_bytes {cs : List CN} (h : ∀ c ∈ cs, ∀ x ∈ textC c, 0 ≤ x ∧ x ≤ 255) : ∀ (i : Nat), ∀ x ∈ textJ i cs, 0 ≤ x ∧ x ≤ 255 := by
  induction cs with
  | nil => intro i x hx; simp [textJ] at hx
  | cons c cs ih =>
    intro i x hx
    simp only [textJ, List.mem_append] at hx
    rcases hx with (hx | hx) | hx
    · unfold gapT at hx; split at hx <;> simp at hx; omega
    · exact h c (by simp) x hx
    · exact ih (fun c hc => h c (by simp [hc])) _ x hx

theorem Rd.memB {lo hi : Nat} {w : World} {a : Option Addr} {n cap : Nat} {zs : List Int} (h : Rd lo hi w a n cap zs) : ∀ x ∈ zs, 0 ≤ x ∧ x ≤ 255 := by
  intro x hx
  obtain ⟨j, hj, rfl⟩ := List.mem_iff_getElem.1 hx
  have := h.byte j
  rwa [List.getD, List.getElem?_eq_getElem hj] at this

theorem textC_bytes {lo hi : Nat} {w : World} : ∀ {d : Nat} {v : Value} {c : CN}, RdC lo hi w d v c → ∀ x ∈ textC c, 0 ≤ x ∧ x ≤ 255 := by
  intro d
  induction d with
  | zero => intro v c h; exact h.elim
  | succ d ih =>
    intro v c h x hx
    obtain ⟨na, nn, nc, ra, rn, rc, ka, kn, kc, _, h1, h2, h3⟩ := h
    have hkids : ∀ c' ∈ c.kids, ∀ x ∈ textC c', 0 ≤ x ∧ x ≤ 255 := by
      intro c' hc'
      obtain ⟨j, hj, rfl⟩ := List.mem_iff_getElem.1 hc'
      rcases h3.cells with h0 | ⟨b, off, _, _, _, hc⟩
      · have := h3.len; omega
      · obtain ⟨v0, v1, v2, v3, _, _, _, _, hr⟩ := hc j (by have := h3.len; omega)
        rw [List.getD, List.getElem?_eq_getElem hj] at hr
        exact ih hr
    rw [textC_eq] at hx
    split at hx
    · exact h1.memB x hx
    · split at hx
      · exact wordOf_byte _ x hx
      · simp only [List.mem_append, List.mem_singleton] at hx
        rcases hx with (((hx | hx) | hx) | hx) | hx
        · exact wordOf_byte _ x hx
        · omega
        · unfold roleT at hx
          split at hx
          · simp at hx
          · simp only [List.mem_append, List.mem_singleton] at hx
            rcases hx with hx | hx
            · exact h2.memB x hx
            · omega
        · exact textJ_bytes hkids _ x hx
        · omega

theorem getD_bytes {zs : List Int} (h : ∀ x ∈ zs, 0 ≤ x ∧ x ≤ 255) : ∀ i, 0 ≤ zs.getD i 0 ∧ zs.getD i 0 ≤ 255 := by
  intro i
  by_cases hi : i < zs.length
  · have := h _ (List.getElem_mem hi)
    simpa [List.getD, hi] using this
  · rw [List.getD, List.getElem?_eq_none (by omega)]; simp

theorem sayW_any : ∀ d, SayC 44 d
  | 0 => fun _ _ _ _ _ _ _ _ h => h.elim
  | d + 1 => sayC_of (sayW_any d)

theorem sayW_nil {d : Nat} {v : Value} {c : CN} {w : World} {lo hi : Nat} (h : RdC lo hi w d v c) (hhi : hi ≤ w.heap.size) (hbk : c.bulk ≤ 1048576) (hwf : wfC c = true) :
    Calls Tryd.prog 44 #[.slice none 0 0, v] w fun e w' => ∃ a n cap, e = .returned (.slice a n cap) ∧ (∃ lo hi, Rd lo hi w' a n cap (textC c) ∧ hi ≤ w'.heap.size) ∧ Below w.heap.size w w' := by
  have htl := textC_len c
  refine (sayW_any d v c (.slice none 0 0) [] w w.heap.size lo hi h hhi (Nat.le_refl _) hwf (OwnB.nil _ _) (by simp; omega)).mono ?_
  rintro e w2 ⟨v2, rfl, hO2, hK2⟩
  have hO : OwnB w.heap.size w2 v2 (textC c) := by simpa using hO2
  obtain ⟨a, cap, _, rfl, hr, _, _, _⟩ := hO.form (getD_bytes (textC_bytes h))
  exact ⟨a, _, cap, rfl, ⟨_, _, hr, Nat.le_refl _⟩, hK2.1⟩

set_option maxRecDepth 100000 in
set_option maxHeartbeats 4000000 in
theorem l2same_any {dA dB : Nat} {vA vB : Value} {a b : CN} {w : World} {loA hiA loB hiB : Nat} (hA : RdC loA hiA w dA vA a) (hB : RdC loB hiB w dB vB b) (hhA : hiA ≤ w.heap.size) (hhB : hiB ≤ w.heap.size) (hbA : a.bulk ≤ 1048576) (hbB : b.bulk ≤ 1048576) (hwA : wfC a = true) (hwB : wfC b = true) :
    Calls Tryd.prog 20 #[vA, vB] w fun e w' => e = .returned (.bool (sameC a b)) ∧ Below w.heap.size w w' := by
  have HRA : Hid (RdC loA hiA w dA vA a) := hA
  have HRB : Hid (RdC loB hiB w dB vB b) := hB
  obtain ⟨kA, naA, nnA, ncA, raA, rnA, rcA, kaA, knA, kcA, rfl⟩ := hA.shape
  obtain ⟨kB, naB, nnB, ncB, raB, rnB, rcB, kaB, knB, kcB, rfl⟩ := hB.shape
  have HBy : Hid ((∀ i, 0 ≤ (textC a).getD i 0 ∧ (textC a).getD i 0 ≤ 255) ∧ (∀ i, 0 ≤ (textC b).getD i 0 ∧ (textC b).getD i 0 ≤ 255)) := ⟨getD_bytes (textC_bytes hA), getD_bytes (textC_bytes hB)⟩
  obtain ⟨W0, hW0⟩ : ∃ W0, W0 = (w.alloc (.cells #[.int .i64 kA, .slice naA nnA ncA, .slice raA rnA rcA, .slice kaA knA kcA] 42)).alloc (.cells #[.int .i64 kB, .slice naB nnB ncB, .slice raB rnB rcB, .slice kaB knB kcB] 42) := ⟨_, rfl⟩
  have HW0 : Hid (W0 = (w.alloc (.cells #[.int .i64 kA, .slice naA nnA ncA, .slice raA rnA rcA, .slice kaA knA kcA] 42)).alloc (.cells #[.int .i64 kB, .slice naB nnB ncB, .slice raB rnB rcB, .slice kaB knB kcB] 42)) := hW0
  have hb0 : Below w.heap.size w W0 := by rw [hW0]; exact ((Below.refl _ _).alloc (Nat.le_refl _) _).alloc (by simp) _
  have HB0 : Hid (Below w.heap.size w W0) := hb0
  have hs0 : W0.heap.size = w.heap.size + 2 := by rw [hW0]; simp
  have hbx : BoxC W0 w.heap.size (.int .i64 kA) (.slice naA nnA ncA) (.slice raA rnA rcA) (.slice kaA knA kcA) := by rw [hW0]; exact (BoxC.new w _ _ _ _).below ((Below.refl _ _).alloc (Nat.le_refl _) _) (by simp)
  have hby : BoxC W0 (w.heap.size + 1) (.int .i64 kB) (.slice naB nnB ncB) (.slice raB rnB rcB) (.slice kaB knB kcB) := by
    rw [hW0]
    have := BoxC.new (w.alloc (.cells #[.int .i64 kA, .slice naA nnA ncA, .slice raA rnA rcA, .slice kaA knA kcA] 42)) (.int .i64 kB) (.slice naB nnB ncB) (.slice raB rnB rcB) (.slice kaB knB kcB)
    rwa [World.size_alloc] at this
  have hsat : ∀ W, Below W0.heap.size W0 W → W.cell? ⟨w.heap.size, 0, none⟩ = some (.int .i64 kA) ∧ W.cell? ⟨w.heap.size, 1, none⟩ = some (.slice naA nnA ncA) ∧ W.cell? ⟨w.heap.size, 2, none⟩ = some (.slice raA rnA rcA) ∧ W.cell? ⟨w.heap.size, 3, none⟩ = some (.slice kaA knA kcA) ∧ W.cell? ⟨w.heap.size + 1, 0, none⟩ = some (.int .i64 kB) ∧ W.cell? ⟨w.heap.size + 1, 1, none⟩ = some (.slice naB nnB ncB) ∧ W.cell? ⟨w.heap.size + 1, 2, none⟩ = some (.slice raB rnB rcB) ∧ W.cell? ⟨w.heap.size + 1, 3, none⟩ = some (.slice kaB knB kcB) := fun W hW => by
    obtain ⟨x0, x1, x2, x3⟩ := (hbx.below hW (by omega)).cells
    obtain ⟨y0, y1, y2, y3⟩ := (hby.below hW (by omega)).cells
    exact ⟨x0, x1, x2, x3, y0, y1, y2, y3⟩
  have HSat : Hid (∀ W, Below W0.heap.size W0 W → W.cell? ⟨w.heap.size, 0, none⟩ = some (.int .i64 kA) ∧ W.cell? ⟨w.heap.size, 1, none⟩ = some (.slice naA nnA ncA) ∧ W.cell? ⟨w.heap.size, 2, none⟩ = some (.slice raA rnA rcA) ∧ W.cell? ⟨w.heap.size, 3, none⟩ = some (.slice kaA knA kcA) ∧ W.cell? ⟨w.heap.size + 1, 0, none⟩ = some (.int .i64 kB) ∧ W.cell? ⟨w.heap.size + 1, 1, none⟩ = some (.slice naB nnB ncB) ∧ W.cell? ⟨w.heap.size + 1, 2, none⟩ = some (.slice raB rnB rcB) ∧ W.cell? ⟨w.heap.size + 1, 3, none⟩ = some (.slice kaB knB kcB)) := hsat
  have HB0d : Hid (Below W0.heap.size W0 W0.drew) := (Below.refl _ _).drew
  have HhA : Hid (a.bulk ≤ 1048576 ∧ b.bulk ≤ 1048576 ∧ wfC a = true ∧ wfC b = true) := ⟨hbA, hbB, hwA, hwB⟩
  obtain ⟨s, hs⟩ : ∃ s, s = strOfNums (textC a) := ⟨_, rfl⟩
  obtain ⟨t, ht⟩ : ∃ t, t = strOfNums (textC b) := ⟨_, rfl⟩
  obtain ⟨r, hr⟩ : ∃ r, r = sameC a b := ⟨_, rfl⟩
  rw [← hr]
  have hE : (s.toList == t.toList) = r := by
    rw [hs, ht, hr, str_inj HBy.out.1 HBy.out.2]
    by_cases e : textC a = textC b
    · rw [textC_inj hwA hwB e]
      simp [(sameC_iff b b).2 rfl]
    · rw [decide_eq_false e]
      cases q : sameC a b
      · rfl
      · exact absurd (by rw [(sameC_iff a b).1 q]) e
  have Hs : Hid (s = strOfNums (textC a)) := hs
  have Ht : Hid (t = strOfNums (textC b)) := ht
  clear hA hB hbA hbB hwA hwB hW0 hb0 hbx hby hsat hs ht hr hs0
  go_enter Tryd.func20, Tryd.ntmps20
  go_upto_region 1 with fail
  rw [← HW0.out]
  first | go_region_held (fun W => W.cell? ⟨w.heap.size, 0, none⟩ = some (.int .i64 kA) ∧ W.cell? ⟨w.heap.size, 1, none⟩ = some (.slice naA nnA ncA) ∧ W.cell? ⟨w.heap.size, 2, none⟩ = some (.slice raA rnA rcA) ∧ W.cell? ⟨w.heap.size, 3, none⟩ = some (.slice kaA knA kcA) ∧ W.cell? ⟨w.heap.size + 1, 0, none⟩ = some (.int .i64 kB) ∧ W.cell? ⟨w.heap.size + 1, 1, none⟩ = some (.slice naB nnB ncB) ∧ W.cell? ⟨w.heap.size + 1, 2, none⟩ = some (.slice raB rnB rcB) ∧ W.cell? ⟨w.heap.size + 1, 3, none⟩ = some (.slice kaB knB kcB)) (first | with_reducible exact HSat.out _ Hw4.out | with_reducible exact HSat.out _ Hw3.out | with_reducible exact HSat.out _ HB0d.out) (first
    | (go_at_call_of 44 kA; refine (sayW_nil (HRA.out.below (HB0.out.trans (HB0d.out.mono HB0.out.size)) hhA) (Nat.le_trans hhA (HB0.out.trans (HB0d.out.mono HB0.out.size)).size) HhA.out.1 HhA.out.2.2.1).mono ?_; rintro e w3 ⟨aA, lA, cA, rfl, hrA, hb3⟩; have Hw3 : Hid (Below W0.heap.size W0 w3) := HB0d.out.trans (hb3.mono HB0d.out.size); have HrA : Hid (∃ lo hi, Rd lo hi w3 aA lA cA (textC a) ∧ hi ≤ w3.heap.size) := hrA; have hcv3 : (convert 36 9 (.slice aA lA cA)).run Tryd.prog w3 = .ok (.string s) w3 := (by obtain ⟨lo, hi, hr, _⟩ := HrA.out; rw [Hs.out]; exact conv_any hr); clear hb3 hrA)
    | (go_at_call_of 44 kB; refine (sayW_nil (HRB.out.below (HB0.out.trans (Hw3.out.mono HB0.out.size)) hhB) (Nat.le_trans hhB (HB0.out.trans (Hw3.out.mono HB0.out.size)).size) HhA.out.2.1 HhA.out.2.2.2).mono ?_; rintro e w4 ⟨aB, lB, cB, rfl, hrB, hb4⟩; have Hw4 : Hid (Below W0.heap.size W0 w4) := Hw3.out.trans (hb4.mono Hw3.out.size); have hcv4 : (convert 36 9 (.slice aA lA cA)).run Tryd.prog w4 = .ok (.string s) w4 := (by obtain ⟨lo, hi, hr, hh⟩ := HrA.out; rw [Hs.out]; exact conv_any (hr.below hb4 hh)); have hcv5 : (convert 36 9 (.slice aB lB cB)).run Tryd.prog w4 = .ok (.string t) w4 := (by obtain ⟨lo, hi, hr, _⟩ := hrB; rw [Ht.out]; exact conv_any hr); clear hb4 hrB)) | fail
  all_goals
    go_wp2_with fail
    go_ret
    exact ⟨by first | rfl | exact rb hE, HB0.out.trans (Hw4.out.mono HB0.out.size)⟩

end Go.Proofs.YteeofekpiiahdaaDoor
