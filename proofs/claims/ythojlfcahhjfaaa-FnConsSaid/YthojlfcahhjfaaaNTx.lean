/- Several texts in one: ConTo, ConTextFn. -/
import Derived.Test.YthojlfcahhjfaaaNW
import Derived.Test.YthojlfcahhjfaaaNBase
import Derived.Test.YthojlfcahhjfaaaConAdd
import Derived.Test.YthojlfcahhjfaaaConSpec2
import Derived.Test.YthojlfcahhjfaaaConOkImpl
namespace Go.Proofs.Ythojlfcahhjfaaa

section
open Go.RowKit

/-- A block of four cells, none frozen. -/
def Blk (w : World) (g : Nat) (t : TypeId) (x0 x1 x2 x3 : Value) : Prop := w.heap[g]? = some (.cells #[x0, x1, x2, x3] t (0, 0))

theorem Blk.cells {w : World} {g : Nat} {t : TypeId} {x0 x1 x2 x3 : Value} (h : Blk w g t x0 x1 x2 x3) :
    w.cell? ⟨g, 0, none⟩ = some x0 ∧ w.cell? ⟨g, 1, none⟩ = some x1 ∧ w.cell? ⟨g, 2, none⟩ = some x2 ∧ w.cell? ⟨g, 3, none⟩ = some x3 ∧ ∀ o, w.frozen? ⟨g, o, none⟩ = false := by
  unfold Blk at h
  refine ⟨by simp [World.cell?, h], by simp [World.cell?, h], by simp [World.cell?, h], by simp [World.cell?, h], fun o => by simp [World.frozen?, h]⟩

theorem Blk.lt {w : World} {g : Nat} {t : TypeId} {x0 x1 x2 x3 : Value} (h : Blk w g t x0 x1 x2 x3) : g < w.heap.size := (Array.getElem?_eq_some_iff.1 h).1
theorem Blk.of_block {w w' : World} {g : Nat} {t : TypeId} {x0 x1 x2 x3 : Value} (h : Blk w g t x0 x1 x2 x3) (e : w'.heap[g]? = w.heap[g]?) : Blk w' g t x0 x1 x2 x3 := e.trans h
theorem Blk.below {w w' : World} {B g : Nat} {t : TypeId} {x0 x1 x2 x3 : Value} (h : Blk w g t x0 x1 x2 x3) (hb : Below B w w') (hg : g < B) : Blk w' g t x0 x1 x2 x3 := h.of_block (hb.block g hg)
theorem Blk.alloc {w : World} {g : Nat} {t : TypeId} {x0 x1 x2 x3 : Value} (h : Blk w g t x0 x1 x2 x3) (o : Obj) : Blk (w.alloc o) g t x0 x1 x2 x3 := h.of_block (Below.heap_alloc _ _ _ h.lt)
theorem Blk.set {w : World} {g : Nat} {t : TypeId} {x0 x1 x2 x3 : Value} (h : Blk w g t x0 x1 x2 x3) (j : Nat) (v : Value) : (w.setCell ⟨g, j, none⟩ v).heap[g]? = some (.cells (#[x0, x1, x2, x3].setIfInBounds j v) t (0, 0)) := by
  unfold Blk at h
  simp [World.setCell, Array.getElem?_modify, h]
theorem Blk.set2 {w : World} {g : Nat} {t : TypeId} {x0 x1 x2 x3 : Value} (h : Blk w g t x0 x1 x2 x3) (v : Value) : Blk (w.setCell ⟨g, 2, none⟩ v) g t x0 x1 v x3 := h.set 2 v
theorem Blk.set3 {w : World} {g : Nat} {t : TypeId} {x0 x1 x2 x3 : Value} (h : Blk w g t x0 x1 x2 x3) (v : Value) : Blk (w.setCell ⟨g, 3, none⟩ v) g t x0 x1 x2 v := h.set 3 v

theorem RdC.shape {lo hi : Nat} {w : World} {d : Nat} {v : Value} {c : CN} (h : RdC lo hi w d v c) : ∃ k na nn nc ra rn rc ka kn kc, v = .agg #[.int .i64 k, .slice na nn nc, .slice ra rn rc, .slice ka kn kc] := by
  cases d with
  | zero => exact h.elim
  | succ d =>
    obtain ⟨na, nn, nc, ra, rn, rc, ka, kn, kc, hv, _⟩ := h
    exact ⟨_, na, nn, nc, ra, rn, rc, ka, kn, kc, hv⟩
end

section
open Go.RowKit

def conText (c : CN) : List Int := if conOk c = true then textC c else []

theorem textJ_byte {cs : List CN} (h : ∀ c ∈ cs, ∀ x ∈ textC c, 0 ≤ x ∧ x ≤ 255) : ∀ (i : Nat), ∀ x ∈ textJ i cs, 0 ≤ x ∧ x ≤ 255 := by
  induction cs with
  | nil => intro i x hx; simp [textJ] at hx
  | cons c cs ih =>
    intro i x hx
    simp only [textJ, List.mem_append] at hx
    rcases hx with (hx | hx) | hx
    · unfold gapT at hx; split at hx <;> simp at hx; omega
    · exact h c (by simp) x hx
    · exact ih (fun c hc => h c (by simp [hc])) _ x hx

theorem Rd.mem {lo hi : Nat} {w : World} {a : Option Addr} {n cap : Nat} {zs : List Int} (h : Rd lo hi w a n cap zs) : ∀ x ∈ zs, 0 ≤ x ∧ x ≤ 255 := by
  intro x hx
  obtain ⟨j, hj, rfl⟩ := List.mem_iff_getElem.1 hx
  have := h.byte j
  rwa [List.getD, List.getElem?_eq_getElem hj] at this

theorem textC_byte {lo hi : Nat} {w : World} : ∀ {d : Nat} {v : Value} {c : CN}, RdC lo hi w d v c → ∀ x ∈ textC c, 0 ≤ x ∧ x ≤ 255 := by
  intro d
  induction d with
  | zero => intro v c h; exact h.elim
  | succ d ih =>
    intro v c h x hx
    obtain ⟨na, nn, nc, ra, rn, rc, ka, kn, kc, _, h1, h2, h3⟩ := h
    have hkids : ∀ c' ∈ c.kids, ∀ x ∈ textC c', 0 ≤ x ∧ x ≤ 255 := by
      intro c' hc'
      obtain ⟨j, hj, rfl⟩ := List.mem_iff_getElem.1 hc'
      rcases h3.cells with h0 | ⟨b, off, _, _, _, hc⟩
      · have := h3.len; omega
      · obtain ⟨v0, v1, v2, v3, _, _, _, _, hr⟩ := hc j (by have := h3.len; omega)
        rw [List.getD, List.getElem?_eq_getElem hj] at hr
        exact ih hr
    rw [textC_eq] at hx
    split at hx
    · exact h1.mem x hx
    · split at hx
      · exact wordOf_byte _ x hx
      · simp only [List.mem_append, List.mem_singleton] at hx
        rcases hx with (((hx | hx) | hx) | hx) | hx
        · exact wordOf_byte _ x hx
        · omega
        · unfold roleT at hx
          split at hx
          · simp at hx
          · simp only [List.mem_append, List.mem_singleton] at hx
            rcases hx with hx | hx
            · exact h2.mem x hx
            · omega
        · exact textJ_byte hkids _ x hx
        · omega

theorem shape_short {c : CN} (h : shapeB c = true) : (c.kind = 2 → c.name.length ≤ 6) ∧ (roleT c.role).length ≤ 7 := by
  unfold shapeB at h
  simp only [Bool.and_eq_true] at h
  obtain ⟨h1, h2, _⟩ := h
  refine ⟨fun hk => ?_, ?_⟩
  · unfold nameFit at h1
    rw [if_pos hk, Bool.and_eq_true] at h1
    exact (longB_of_up h1.1).2
  · unfold roleT
    split
    · simp
    · rename_i hne
      unfold roleFit at h2
      split at h2
      · have := (longB_of_low h2).2
        simp only [List.length_append, List.length_cons, List.length_nil]; omega
      · exact absurd (List.eq_nil_of_length_eq_zero (by simpa using h2)) hne

mutual
theorem textC_short : ∀ (c : CN) (deep : Nat), wfC c = true → (textC c).length + 1 ≤ 20 * (parts c deep).length
  | .mk k n r ks, deep, h => by
    rw [wfC, Bool.and_eq_true] at h
    obtain ⟨s1, s2⟩ := shape_short h.1
    have h1 := textJ_short ks 0 (deep + 1) h.2
    have h2 := wordOf_len k
    have s1' : k = 2 → n.length ≤ 6 := s1
    have s2' : (roleT r).length ≤ 7 := s2
    rw [textC, parts, List.length_cons]
    split
    · rename_i hk; have := s1' hk; omega
    · split
      · omega
      · simp only [List.length_append, List.length_cons, List.length_nil]; omega
theorem textJ_short : ∀ (cs : List CN) (i deep : Nat), wfL cs = true → (textJ i cs).length ≤ 20 * (partsL cs deep).length
  | [], _, _, _ => by simp [textJ]
  | c :: cs, i, deep, h => by
    rw [wfL, Bool.and_eq_true] at h
    have h1 := textC_short c deep h.1
    have h2 := textJ_short cs (i + 1) deep h.2
    have h3 := gapT_len i
    rw [textJ, partsL]
    simp only [List.length_append]
    omega
end

theorem conText_short (c : CN) : (conText c).length ≤ 320 := by
  unfold conText
  split
  · rename_i h
    have h1 := textC_short c 1 (wfC_of_ok h)
    unfold conOk at h
    simp only [Bool.and_eq_true, decide_eq_true_eq] at h
    omega
  · simp

set_option maxHeartbeats 1000000 in
theorem specConText_any {d : Nat} {v : Value} {c : CN} {w : World} {lo hi : Nat} (h : RdC lo hi w d v c) (hhi : hi ≤ w.heap.size) (hbk : c.bulk ≤ 1048576) :
    Calls Try.prog 28 #[v] w fun e w' => ∃ v', e = .returned v' ∧ OwnB w.heap.size w' v' (conText c) ∧ Below w.heap.size w w' := by
  have HRd : Hid (RdC lo hi w d v c) := h
  obtain ⟨k, na, nn, nc, ra, rn, rc, ka, kn, kc, rfl⟩ := h.shape
  have hb0 : Below w.heap.size w (w.alloc (.cells #[.int .i64 k, .slice na nn nc, .slice ra rn rc, .slice ka kn kc] 35)) := (Below.refl _ _).alloc (Nat.le_refl _) _
  have HB0 : Hid (Below w.heap.size w (w.alloc (.cells #[.int .i64 k, .slice na nn nc, .slice ra rn rc, .slice ka kn kc] 35))) := hb0
  have HR0 : Hid (RdC lo hi (w.alloc (.cells #[.int .i64 k, .slice na nn nc, .slice ra rn rc, .slice ka kn kc] 35)) d (.agg #[.int .i64 k, .slice na nn nc, .slice ra rn rc, .slice ka kn kc]) c) := HRd.out.below hb0 hhi
  have HBx0 : Hid (BoxC (w.alloc (.cells #[.int .i64 k, .slice na nn nc, .slice ra rn rc, .slice ka kn kc] 35)) w.heap.size (.int .i64 k) (.slice na nn nc) (.slice ra rn rc) (.slice ka kn kc)) := BoxC.new w _ _ _ _
  clear hb0 h
  go_enter Try.func28, Try.ntmps28
  go_wp2_with fail
  refine (specConOk_any HR0.out (Nat.le_trans hhi HB0.out.size)).mono ?_
  rintro e w1 ⟨rfl, hb1⟩
  have HB1 : Hid (Below w.heap.size w w1) := HB0.out.trans (hb1.mono HB0.out.size)
  have HBx1 : Hid (BoxC w1 w.heap.size (.int .i64 k) (.slice na nn nc) (.slice ra rn rc) (.slice ka kn kc)) := HBx0.out.below hb1 HBx0.out.lt
  obtain ⟨q0, q1, q2, q3⟩ := HBx1.out.cells
  clear hb1
  cases hok : conOk c
  · have HE : Hid (conText c = []) := by unfold Hid conText; rw [hok]; rfl
    go_wp2_with fail
    go_ret
    exact ⟨_, rfl, by rw [HE.out]; exact OwnB.nil _ _, HB1.out⟩
  · have HE : Hid (conText c = textC c) := by unfold Hid conText; rw [hok]; rfl
    have HWf : Hid (wfC c = true) := wfC_of_ok hok
    have htl := textC_len c
    go_wp2_with fail
    refine (sayC_any d _ c (.slice none 0 0) [] w1 w.heap.size lo hi (HRd.out.below HB1.out hhi) hhi HB1.out.size HWf.out (OwnB.nil _ _) (by simp; omega)).mono ?_
    rintro e w2 ⟨v2, rfl, hO2, hK2⟩
    have HO2 : Hid (OwnB w.heap.size w2 v2 (textC c)) := by unfold Hid; simpa using hO2
    have HB2 : Hid (Below w.heap.size w w2) := HB1.out.trans hK2.1
    clear hO2 hK2
    go_wp2_with fail
    go_ret
    exact ⟨_, rfl, by rw [HE.out]; exact HO2.out, HB2.out⟩

set_option maxHeartbeats 1000000 in
theorem implConText_any {d : Nat} {v : Value} {c : CN} {w : World} {lo hi : Nat} (h : RdC lo hi w d v c) (hhi : hi ≤ w.heap.size) (hbk : c.bulk ≤ 1048576) :
    Calls Try.prog 19 #[v] w fun e w' => ∃ v', e = .returned v' ∧ OwnB w.heap.size w' v' (conText c) ∧ Below w.heap.size w w' := by
  have HRd : Hid (RdC lo hi w d v c) := h
  obtain ⟨k, na, nn, nc, ra, rn, rc, ka, kn, kc, rfl⟩ := h.shape
  have hb0 : Below w.heap.size w (w.alloc (.cells #[.int .i64 k, .slice na nn nc, .slice ra rn rc, .slice ka kn kc] 35)) := (Below.refl _ _).alloc (Nat.le_refl _) _
  have HB0 : Hid (Below w.heap.size w (w.alloc (.cells #[.int .i64 k, .slice na nn nc, .slice ra rn rc, .slice ka kn kc] 35))) := hb0
  have HR0 : Hid (RdC lo hi (w.alloc (.cells #[.int .i64 k, .slice na nn nc, .slice ra rn rc, .slice ka kn kc] 35)) d (.agg #[.int .i64 k, .slice na nn nc, .slice ra rn rc, .slice ka kn kc]) c) := HRd.out.below hb0 hhi
  have HBx0 : Hid (BoxC (w.alloc (.cells #[.int .i64 k, .slice na nn nc, .slice ra rn rc, .slice ka kn kc] 35)) w.heap.size (.int .i64 k) (.slice na nn nc) (.slice ra rn rc) (.slice ka kn kc)) := BoxC.new w _ _ _ _
  clear hb0 h
  go_enter Try.func19, Try.ntmps19
  go_wp2_with fail
  refine (implConOk_any HR0.out (Nat.le_trans hhi HB0.out.size) hbk).mono ?_
  rintro e w1 ⟨rfl, hb1⟩
  have HB1 : Hid (Below w.heap.size w w1) := HB0.out.trans (hb1.mono HB0.out.size)
  have HBx1 : Hid (BoxC w1 w.heap.size (.int .i64 k) (.slice na nn nc) (.slice ra rn rc) (.slice ka kn kc)) := HBx0.out.below hb1 HBx0.out.lt
  obtain ⟨q0, q1, q2, q3⟩ := HBx1.out.cells
  clear hb1
  cases hok : conOk c
  · have HE : Hid (conText c = []) := by unfold Hid conText; rw [hok]; rfl
    go_wp2_with fail
    go_ret
    exact ⟨_, rfl, by rw [HE.out]; exact OwnB.nil _ _, HB1.out⟩
  · have HE : Hid (conText c = textC c) := by unfold Hid conText; rw [hok]; rfl
    have HWf : Hid (wfC c = true) := wfC_of_ok hok
    have htl := textC_len c
    go_wp2_with fail
    refine (addC_any d _ c (.slice none 0 0) [] w1 w.heap.size lo hi (HRd.out.below HB1.out hhi) hhi HB1.out.size HWf.out (OwnB.nil _ _) (by simp; omega)).mono ?_
    rintro e w2 ⟨v2, rfl, hO2, hK2⟩
    have HO2 : Hid (OwnB w.heap.size w2 v2 (textC c)) := by unfold Hid; simpa using hO2
    have HB2 : Hid (Below w.heap.size w w2) := HB1.out.trans hK2.1
    clear hO2 hK2
    go_wp2_with fail
    go_ret
    exact ⟨_, rfl, by rw [HE.out]; exact HO2.out, HB2.out⟩
end

end Go.Proofs.Ythojlfcahhjfaaa
