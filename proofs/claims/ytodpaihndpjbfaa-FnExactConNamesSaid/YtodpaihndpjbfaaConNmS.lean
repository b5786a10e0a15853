/- ConNames of the specification: the names of a concept, each once, ascending, in memory of its own. -/
import Derived.Test.YtodpaihndpjbfaaWOwn
import Derived.Test.YtodpaihndpjbfaaConSpec2
namespace Go.Proofs.Ytodpaihndpjbfaa
open Go.RowKit Go.Maps Go.Shelf

/-- Words that are some, and short. -/
def WLen (l : List (List Int)) : Prop := ∀ z ∈ l, z ≠ [] ∧ z.length ≤ 6

theorem WLen.nil : WLen [] := fun _ h => absurd h (by simp)
theorem WLen.add {l : List (List Int)} {wd : List Int} (h : WLen l) (hg : Good l) (hw : Byt wd) (hl : wd.length ≤ 6) : WLen (addW l wd) := by
  unfold addW
  split
  · exact h
  · rename_i h0
    intro z hz
    rcases (insW_mem hw hg.srt hg.byt).1 hz with rfl | hz
    · exact ⟨fun e => h0 (by rw [e]; rfl), hl⟩
    · exact h z hz

theorem shape_len {c : CN} (h : shapeB c = true) : c.name.length ≤ 6 ∧ c.role.length ≤ 6 := by
  unfold shapeB at h
  simp only [Bool.and_eq_true] at h
  obtain ⟨h1, h2, _⟩ := h
  constructor
  · unfold nameFit at h1
    split at h1
    · rw [Bool.and_eq_true] at h1; exact (longB_of_up h1.1).2
    · have := of_decide_eq_true h1; omega
  · unfold roleFit at h2
    split at h2
    · exact (longB_of_low h2).2
    · have := of_decide_eq_true h2; omega

theorem conOk_shape {c : CN} (h : conOk c = true) : ∀ p ∈ parts c 1, shapeB p.2 = true := by
  intro p hp
  unfold conOk at h
  rw [Bool.and_eq_true, List.all_eq_true] at h
  have := h.2 p hp
  unfold okOne at this
  rw [Bool.and_eq_true] at this
  exact this.2

theorem wl_na {ps : List (Nat × CN)} : ∀ {l : List (List Int)}, WLen l → Good l → BytP ps → (∀ p ∈ ps, shapeB p.2 = true) → WLen (ps.foldl naP l) := by
  induction ps with
  | nil => intro l h _ _ _; exact h
  | cons p ps ih =>
    intro l h hg hb hs
    exact ih (l := naP l p) (h.add hg (hb p (by simp)).1 (shape_len (hs p (by simp))).1) (hg.add (hb p (by simp)).1) (fun q hq => hb q (by simp [hq])) (fun q hq => hs q (by simp [hq]))
theorem WLen.at {l : List (List Int)} (h : WLen l) (i : Nat) : (l.getD i []).length ≤ 1000 := by
  by_cases hi : i < l.length
  · have := (h _ (by rw [List.getD_eq_getElem?_getD, List.getElem?_eq_getElem hi]; exact List.getElem_mem hi : l.getD i [] ∈ l)).2; omega
  · rw [List.getD_eq_getElem?_getD, List.getElem?_eq_none (by omega)]; simp

/-- The answer. -/
def ansCN (c : CN) : List (List Int) := if conOk c = true then namesC c [] else []

theorem conOk_len {c : CN} (h : conOk c = true) : (parts c 1).length ≤ 16 := by
  unfold conOk at h
  rw [Bool.and_eq_true] at h
  exact of_decide_eq_true h.1

theorem ansCN_facts {lo hi d : Nat} {w : World} {v : Value} {c : CN} (h : RdC lo hi w d v c) : (ansCN c).length ≤ 16 ∧ Good (ansCN c) ∧ WLen (ansCN c) := by
  unfold ansCN
  cases hb : conOk c
  · exact ⟨by simp, Good.nil, WLen.nil⟩
  · have hby := h.byts 1
    have hl := conOk_len hb
    rw [if_pos rfl, namesC_ok hb]
    have hg := Good.nil.na hby
    refine ⟨by have := hg.2; simp only [List.length_nil] at this; omega, hg.1, wl_na WLen.nil Good.nil hby (conOk_shape hb)⟩

set_option maxRecDepth 100000 in
set_option maxHeartbeats 2000000 in
theorem specConNames_any {d : Nat} {v : Value} {c : CN} {w : World} {lo hi : Nat} (h : RdC lo hi w d v c) (hhi : hi ≤ w.heap.size) (hlo : lo ≤ w.heap.size) :
    Calls Try.prog 27 #[v] w fun e w' => ∃ u gs, e = .returned u ∧ OwnW w.heap.size w' u (ansCN c) gs ∧ Below w.heap.size w w' := by
  have HRd : Hid (RdC lo hi w d v c) := h
  obtain ⟨hf1, hf2, hf3⟩ := ansCN_facts h
  obtain ⟨k, na, nn, nc, ra, rn, rc, ka, kn, kc, rfl⟩ := h.shape
  obtain ⟨W0, hW0⟩ : ∃ W0, W0 = w.alloc (.cells #[.int .i64 k, .slice na nn nc, .slice ra rn rc, .slice ka kn kc] 40) := ⟨_, rfl⟩
  have HW0 : Hid (W0 = w.alloc (.cells #[.int .i64 k, .slice na nn nc, .slice ra rn rc, .slice ka kn kc] 40)) := hW0
  have hs0 : w.heap.size < W0.heap.size := by rw [hW0]; simp
  have hb0 : Below w.heap.size w W0 := by rw [hW0]; exact (Below.refl _ _).alloc (Nat.le_refl _) _
  have HB0 : Hid (Below w.heap.size w W0) := hb0
  have HBx : Hid (BoxC W0 w.heap.size (.int .i64 k) (.slice na nn nc) (.slice ra rn rc) (.slice ka kn kc)) := by unfold Hid; rw [hW0]; exact BoxC.new w _ _ _ _
  have HR0 : Hid (RdC lo hi W0 d (.agg #[.int .i64 k, .slice na nn nc, .slice ra rn rc, .slice ka kn kc]) c) := HRd.out.below hb0 hhi
  have hh0 : hi ≤ W0.heap.size := Nat.le_trans hhi hb0.size
  have HG : Hid (WLen (ansCN c)) := hf3
  obtain ⟨b0, b1, b2, b3⟩ := HBx.out.cells
  clear h hb0 hW0 hf2 hf3
  go_enter Try.func27, Try.ntmps27
  go_wp2_with fail
  rw [← HW0.out]
  refine (specConOk_any HR0.out hh0).mono ?_
  rintro e w1 ⟨rfl, hb1⟩
  have HB1 : Hid (Below w.heap.size w w1) := HB0.out.trans (hb1.mono HB0.out.size)
  have hbx1 := HBx.out.below hb1 hs0
  have hs1 := HB1.out.size
  clear hb1 b0 b1 b2 b3
  obtain ⟨b0, b1, b2, b3⟩ := hbx1.cells
  cases hok : conOk c
  · have HE : Hid (ansCN c = []) := by unfold Hid ansCN; rw [hok]; rfl
    clear hbx1
    go_wp2_with fail
    go_ret
    exact ⟨_, [], rfl, by rw [HE.out]; exact OwnW.nil _ _, HB1.out⟩
  · have HE : Hid (ansCN c = namesC c []) := by unfold Hid ansCN; rw [hok]; rfl
    have hpl := conOk_len hok
    have hlo1 : lo ≤ w1.heap.size := by omega
    have hhi1 : hi ≤ w1.heap.size := by omega
    clear hbx1
    go_wp2_with fail
    refine (NmP_any d 1 _ c w1 none 0 0 [] lo hi (HRd.out.below HB1.out hhi) (RSS.nil _ _ _) hhi1 hlo1 Good.nil (by omega)).mono ?_
    rintro e w2 ⟨a2, n2, c2, rfl, hr2, hb2⟩
    rw [← HE.out] at hr2
    have HR2 : Hid (RSS lo w2.heap.size w2 a2 n2 c2 (ansCN c)) := hr2
    have HB2 : Hid (Below w.heap.size w w2) := HB1.out.trans (hb2.mono HB1.out.size)
    have hn2 : n2 ≤ 1000 := by rw [← hr2.len]; omega
    clear hr2 hb2 b0 b1 b2 b3
    go_wp2_with fail
    refine (ownNames_any a2 n2 c2 (ansCN c) w2 HR2.out (Nat.le_refl _) hn2 HG.out.at (fun z hz => (HG.out z hz).1)).mono ?_
    rintro e w3 ⟨u, gs, rfl, hO, hb3⟩
    have HO : Hid (OwnW w.heap.size w3 u (ansCN c) gs) := hO.base HB2.out.size
    have HB3 : Hid (Below w.heap.size w w3) := HB2.out.trans (hb3.mono HB2.out.size)
    clear hO hb3
    go_wp2_with fail
    go_ret
    exact ⟨u, gs, rfl, HO.out, HB3.out⟩

end Go.Proofs.Ytodpaihndpjbfaa
