/- KbNames, KbRoles, KbInds of the specification and of the program: a contract each. -/
import Derived.Test.YtnmljalcndfjmaaGreatNG17
import Derived.Test.YtnmljalcndfjmaaGreatKbOkFn
namespace Go.Proofs.YtnmljalcndfjmaaGreat
open Go.RowKit Go.Maps Go.Shelf

/-- Words that are some, and short. -/
def WLen (l : List (List Int)) : Prop := ∀ z ∈ l, z ≠ [] ∧ z.length ≤ 6

theorem WLen.nil : WLen [] := fun _ h => absurd h (by simp)
theorem WLen.add {l : List (List Int)} {wd : List Int} (h : WLen l) (hg : GoodV l) (hw : Byt wd) (hl : wd.length ≤ 6) : WLen (addW l wd) := by
  unfold addW
  split
  · exact h
  · rename_i h0
    intro z hz
    rcases (insW_mem hw hg.srt hg.byt).1 hz with rfl | hz
    · exact ⟨fun e => h0 (by rw [e]; rfl), hl⟩
    · exact h z hz

theorem shape_lenK {c : CN} (h : shapeB c = true) : c.name.length ≤ 6 ∧ c.role.length ≤ 6 := by
  unfold shapeB at h
  simp only [Bool.and_eq_true] at h
  obtain ⟨h1, h2, _⟩ := h
  constructor
  · unfold nameFit at h1
    split at h1
    · rw [Bool.and_eq_true] at h1; exact (longB_of_up h1.1).2
    · have := of_decide_eq_true h1; omega
  · unfold roleFit at h2
    split at h2
    · exact (longB_of_low h2).2
    · have := of_decide_eq_true h2; omega

theorem conOk_shape {c : CN} (h : conOk c = true) : ∀ p ∈ parts c 1, shapeB p.2 = true := by
  intro p hp
  unfold conOk at h
  rw [Bool.and_eq_true, List.all_eq_true] at h
  have := h.2 p hp
  unfold okOne at this
  rw [Bool.and_eq_true] at this
  exact this.2

theorem wl_na {ps : List (Nat × CN)} : ∀ {l : List (List Int)}, WLen l → GoodV l → BytP ps → (∀ p ∈ ps, shapeB p.2 = true) → WLen (ps.foldl naP l) := by
  induction ps with
  | nil => intro l h _ _ _; exact h
  | cons p ps ih =>
    intro l h hg hb hs
    exact ih (l := naP l p) (h.add hg (hb p (by simp)).1 (shape_lenK (hs p (by simp))).1) (hg.add (hb p (by simp)).1) (fun q hq => hb q (by simp [hq])) (fun q hq => hs q (by simp [hq]))
theorem wl_rl {ps : List (Nat × CN)} : ∀ {l : List (List Int)}, WLen l → GoodV l → BytP ps → (∀ p ∈ ps, shapeB p.2 = true) → WLen (ps.foldl rlP l) := by
  induction ps with
  | nil => intro l h _ _ _; exact h
  | cons p ps ih =>
    intro l h hg hb hs
    exact ih (l := rlP l p) (h.add hg (hb p (by simp)).2 (shape_lenK (hs p (by simp))).2) (hg.add (hb p (by simp)).2) (fun q hq => hb q (by simp [hq])) (fun q hq => hs q (by simp [hq]))

theorem fitL_len {zs : List Int} {b : Bool} (h : fitL zs b = true) : zs.length ≤ 6 := by
  unfold fitL at h
  split at h
  · exact (longB_of_low h).2
  · have := of_decide_eq_true h; omega

theorem axOk_len {x : AX} (h : axOk x = true) : x.r.length ≤ 6 ∧ x.s.length ≤ 6 ∧ x.a.length ≤ 6 ∧ x.b.length ≤ 6 := by
  unfold axOk at h
  simp only [Bool.and_eq_true] at h
  obtain ⟨_, _, _, h1, h2, h3, h4⟩ := h
  exact ⟨fitL_len h1, fitL_len h2, fitL_len h3, fitL_len h4⟩

theorem stN_wl {l : List (List Int)} {x : AX} (h : WLen l) (hg : GoodV l) (hx : AxB x) (ho : axOk x = true) : WLen (stN l x) := by
  obtain ⟨h1, h2⟩ := axOk_con ho
  unfold stN
  rw [namesC_ok h1, namesC_ok h2]
  exact wl_na (wl_na h hg hx.c (conOk_shape h1)) (hg.na hx.c).1 hx.d (conOk_shape h2)
theorem stR_wl {l : List (List Int)} {x : AX} (h : WLen l) (hg : GoodV l) (hx : AxB x) (ho : axOk x = true) : WLen (stR l x) := by
  obtain ⟨h1, h2⟩ := axOk_con ho
  obtain ⟨l1, l2, _, _⟩ := axOk_len ho
  unfold stR
  rw [rolesC_parts x.c 1, rolesC_parts x.d 1]
  have g1 := (hg.rl hx.c).1
  have g2 := (g1.rl hx.d).1
  exact (((wl_rl (wl_rl h hg hx.c (conOk_shape h1)) g1 hx.d (conOk_shape h2)).add g2 hx.r l1).add (g2.add hx.r) hx.s l2)
theorem stI_wl {l : List (List Int)} {x : AX} (h : WLen l) (hg : GoodV l) (hx : AxB x) (ho : axOk x = true) : WLen (stI l x) := by
  obtain ⟨_, _, l3, l4⟩ := axOk_len ho
  unfold stI
  exact (h.add hg hx.a l3).add (hg.add hx.a) hx.b l4

theorem kb_wl {f : List (List Int) → AX → List (List Int)} (hw : ∀ l x, WLen l → GoodV l → AxB x → axOk x = true → WLen (f l x)) (hf : ∀ l x, GoodV l → AxB x → GoodV (f l x)) : ∀ (xs : List AX) (l : List (List Int)), WLen l → GoodV l → (∀ x ∈ xs, AxB x) → (∀ x ∈ xs, axOk x = true) → WLen (xs.foldl f l)
  | [], l, h, _, _, _ => h
  | x :: xs, l, h, hg, hx, ho => kb_wl hw hf xs (f l x) (hw l x h hg (hx x (by simp)) (ho x (by simp))) (hf l x hg (hx x (by simp))) (fun y hy => hx y (by simp [hy])) (fun y hy => ho y (by simp [hy]))

theorem kbN_wl {xs : List AX} (hx : ∀ x ∈ xs, AxB x) (ho : xs.all axOk = true) : WLen (kbN xs) := kb_wl (fun _ _ => stN_wl) (fun _ _ h k => (stN_good h k).1) xs [] WLen.nil GoodV.nil hx (List.all_eq_true.1 ho)
theorem kbR_wl {xs : List AX} (hx : ∀ x ∈ xs, AxB x) (ho : xs.all axOk = true) : WLen (kbR xs) := kb_wl (fun _ _ => stR_wl) (fun _ _ h k => (stR_good h k).1) xs [] WLen.nil GoodV.nil hx (List.all_eq_true.1 ho)
theorem kbI_wl {xs : List AX} (hx : ∀ x ∈ xs, AxB x) (ho : xs.all axOk = true) : WLen (kbI xs) := kb_wl (fun _ _ => stI_wl) (fun _ _ h k => (stI_good h k).1) xs [] WLen.nil GoodV.nil hx (List.all_eq_true.1 ho)

theorem WLen.at {l : List (List Int)} (h : WLen l) (i : Nat) : (l.getD i []).length ≤ 1000 := by
  by_cases hi : i < l.length
  · have := (h _ (by rw [List.getD_eq_getElem?_getD, List.getElem?_eq_getElem hi]; exact List.getElem_mem hi : l.getD i [] ∈ l)).2; omega
  · rw [List.getD_eq_getElem?_getD, List.getElem?_eq_none (by omega)]; simp

theorem kbB_true {xs : List AX} (h : kbB xs = true) : xs.length ≤ 8 ∧ xs.all axOk = true ∧ (kbN xs).length ≤ 5 ∧ (kbR xs).length ≤ 3 ∧ (kbI xs).length ≤ 3 := by
  unfold kbB at h
  simp only [Bool.and_eq_true] at h
  obtain ⟨h1, h2, h3, h4, h5⟩ := h
  exact ⟨of_decide_eq_true h1, h2, of_decide_eq_true h3, of_decide_eq_true h4, of_decide_eq_true h5⟩

theorem field0 (V : World) (x y z : Value) : (Instr.field 92 (.agg #[x, y, z]) 0).run Tryz.prog V = .ok x V := by
  kernel_rfl
theorem field1 (V : World) (x y z : Value) : (Instr.field 92 (.agg #[x, y, z]) 1).run Tryz.prog V = .ok y V := by
  kernel_rfl
theorem field2 (V : World) (x y z : Value) : (Instr.field 92 (.agg #[x, y, z]) 2).run Tryz.prog V = .ok z V := by
  kernel_rfl

/-- The answer. -/
def ansK (f : List AX → List (List Int)) (xs : List AX) : List (List Int) := if kbB xs = true then f xs else []

set_option maxRecDepth 100000 in
set_option maxHeartbeats 2000000 in
theorem implKbNames_any {a : Option Addr} {n cap : Nat} {xs : List AX} {dp : Nat} {w : World} {lo hi : Nat} (h : RdK lo hi w dp a n cap xs) (hhi : hi ≤ w.heap.size) (hbk : ∀ x ∈ xs, x.c.bulk ≤ 1048576 ∧ x.d.bulk ≤ 1048576) :
    Calls Tryz.prog 22 #[.agg #[.slice a n cap]] w fun e w' => ∃ v gs, e = .returned v ∧ OwnW w.heap.size w' v (ansK kbN xs) gs ∧ Below w.heap.size w w' := by
  have HK : Hid (RdK lo hi w dp a n cap xs) := h
  have HL : Hid (xs.length = n) := h.len
  have HBk : Hid (∀ x ∈ xs, x.c.bulk ≤ 1048576 ∧ x.d.bulk ≤ 1048576) := hbk
  have hb0 : Below w.heap.size w (w.alloc (.cells #[.slice a n cap] 42)) := (Below.refl _ _).alloc (Nat.le_refl _) _
  have HB0 : Hid (Below w.heap.size w (w.alloc (.cells #[.slice a n cap] 42))) := hb0
  have HBx0 : Hid (Boxed (w.alloc (.cells #[.slice a n cap] 42)) w.heap.size 42 (.slice a n cap)) := Boxed.new w _ _
  have HK0 : Hid (RdK lo hi (w.alloc (.cells #[.slice a n cap] 42)) dp a n cap xs) := h.below hb0 hhi
  clear h hb0 hbk
  go_enter Tryz.func22, Tryz.ntmps22
  go_wp2_with fail
  refine (implKbOk_any HK0.out (Nat.le_trans hhi HB0.out.size) HBk.out).mono ?_
  rintro e w1 ⟨rfl, hb1⟩
  have HB1 : Hid (Below w.heap.size w w1) := HB0.out.trans (hb1.mono HB0.out.size)
  have HBx1 : Hid (Boxed w1 w.heap.size 42 (.slice a n cap)) := (hb1.block _ HBx0.out.lt).trans HBx0.out
  have cB := HBx1.out.cell
  have hs1 := HB1.out.size
  clear hb1
  cases hok : kbB xs
  · have HE : Hid (ansK kbN xs = []) := by unfold Hid ansK; rw [hok]; rfl
    go_wp2_with fail
    go_ret
    exact ⟨_, [], rfl, by rw [HE.out]; exact OwnW.nil _ _, HB1.out⟩
  · have HE : Hid (ansK kbN xs = kbN xs) := by unfold Hid ansK; rw [hok]; rfl
    obtain ⟨k1, k2, k3, k4, k5⟩ := kbB_true hok
    have HAx : Hid (∀ x ∈ xs, AxB x) := HK.out.axb k2
    have HOk : Hid (∀ x ∈ xs, conOk x.c = true ∧ conOk x.d = true) := fun x hx => axOk_con (List.all_eq_true.1 k2 x hx)
    have HWl : Hid (WLen (kbN xs)) := kbN_wl HAx.out k2
    have hlen : (kbN xs).length ≤ 5 := by omega
    have hn8 : n ≤ 8 := by rw [← HL.out]; exact k1
    have hh1 : hi ≤ w1.heap.size := by omega
    clear k1 k2 k3 k4 k5
    go_wp2_with fail
    refine (vocabularyOf_any (HK.out.below HB1.out hhi) hh1 HAx.out HOk.out HBk.out hn8).mono ?_
    rintro e w2 ⟨rfl, hsN, hsR, hsI, hb2⟩
    have HS : Hid (WSet w2 (w1.heap.size + 2) (kbN xs)) := hsN
    have HB2 : Hid (Below w.heap.size w w2) := HB1.out.trans (hb2.mono HB1.out.size)
    have hfld : ∀ V : World, (Instr.field 92 (.agg #[.map (some (w1.heap.size + 2)), .map (some (w1.heap.size + 3)), .map (some (w1.heap.size + 4))]) 0).run Tryz.prog V = .ok (.map (some (w1.heap.size + 2))) V := fun V => field0 V _ _ _
    clear hsN hsR hsI hb2
    go_wp2_with fail
    refine (ascTexts_any HS.out (by omega) HWl.out.at).mono ?_
    rintro e w3 ⟨v, gs, rfl, hO, hb3⟩
    have HO : Hid (OwnW w.heap.size w3 v (kbN xs) gs) := hO.base HB2.out.size
    have HB3 : Hid (Below w.heap.size w w3) := HB2.out.trans (hb3.mono HB2.out.size)
    clear hO hb3
    go_wp2_with fail
    go_ret
    exact ⟨v, gs, rfl, by rw [HE.out]; exact HO.out, HB3.out⟩

set_option maxRecDepth 100000 in
set_option maxHeartbeats 2000000 in
theorem implKbRoles_any {a : Option Addr} {n cap : Nat} {xs : List AX} {dp : Nat} {w : World} {lo hi : Nat} (h : RdK lo hi w dp a n cap xs) (hhi : hi ≤ w.heap.size) (hbk : ∀ x ∈ xs, x.c.bulk ≤ 1048576 ∧ x.d.bulk ≤ 1048576) :
    Calls Tryz.prog 20 #[.agg #[.slice a n cap]] w fun e w' => ∃ v gs, e = .returned v ∧ OwnW w.heap.size w' v (ansK kbR xs) gs ∧ Below w.heap.size w w' := by
  have HK : Hid (RdK lo hi w dp a n cap xs) := h
  have HL : Hid (xs.length = n) := h.len
  have HBk : Hid (∀ x ∈ xs, x.c.bulk ≤ 1048576 ∧ x.d.bulk ≤ 1048576) := hbk
  have hb0 : Below w.heap.size w (w.alloc (.cells #[.slice a n cap] 42)) := (Below.refl _ _).alloc (Nat.le_refl _) _
  have HB0 : Hid (Below w.heap.size w (w.alloc (.cells #[.slice a n cap] 42))) := hb0
  have HBx0 : Hid (Boxed (w.alloc (.cells #[.slice a n cap] 42)) w.heap.size 42 (.slice a n cap)) := Boxed.new w _ _
  have HK0 : Hid (RdK lo hi (w.alloc (.cells #[.slice a n cap] 42)) dp a n cap xs) := h.below hb0 hhi
  clear h hb0 hbk
  go_enter Tryz.func20, Tryz.ntmps20
  go_wp2_with fail
  refine (implKbOk_any HK0.out (Nat.le_trans hhi HB0.out.size) HBk.out).mono ?_
  rintro e w1 ⟨rfl, hb1⟩
  have HB1 : Hid (Below w.heap.size w w1) := HB0.out.trans (hb1.mono HB0.out.size)
  have HBx1 : Hid (Boxed w1 w.heap.size 42 (.slice a n cap)) := (hb1.block _ HBx0.out.lt).trans HBx0.out
  have cB := HBx1.out.cell
  have hs1 := HB1.out.size
  clear hb1
  cases hok : kbB xs
  · have HE : Hid (ansK kbR xs = []) := by unfold Hid ansK; rw [hok]; rfl
    go_wp2_with fail
    go_ret
    exact ⟨_, [], rfl, by rw [HE.out]; exact OwnW.nil _ _, HB1.out⟩
  · have HE : Hid (ansK kbR xs = kbR xs) := by unfold Hid ansK; rw [hok]; rfl
    obtain ⟨k1, k2, k3, k4, k5⟩ := kbB_true hok
    have HAx : Hid (∀ x ∈ xs, AxB x) := HK.out.axb k2
    have HOk : Hid (∀ x ∈ xs, conOk x.c = true ∧ conOk x.d = true) := fun x hx => axOk_con (List.all_eq_true.1 k2 x hx)
    have HWl : Hid (WLen (kbR xs)) := kbR_wl HAx.out k2
    have hlen : (kbR xs).length ≤ 5 := by omega
    have hn8 : n ≤ 8 := by rw [← HL.out]; exact k1
    have hh1 : hi ≤ w1.heap.size := by omega
    clear k1 k2 k3 k4 k5
    go_wp2_with fail
    refine (vocabularyOf_any (HK.out.below HB1.out hhi) hh1 HAx.out HOk.out HBk.out hn8).mono ?_
    rintro e w2 ⟨rfl, hsN, hsR, hsI, hb2⟩
    have HS : Hid (WSet w2 (w1.heap.size + 3) (kbR xs)) := hsR
    have HB2 : Hid (Below w.heap.size w w2) := HB1.out.trans (hb2.mono HB1.out.size)
    have hfld : ∀ V : World, (Instr.field 92 (.agg #[.map (some (w1.heap.size + 2)), .map (some (w1.heap.size + 3)), .map (some (w1.heap.size + 4))]) 1).run Tryz.prog V = .ok (.map (some (w1.heap.size + 3))) V := fun V => field1 V _ _ _
    clear hsN hsR hsI hb2
    go_wp2_with fail
    refine (ascTexts_any HS.out (by omega) HWl.out.at).mono ?_
    rintro e w3 ⟨v, gs, rfl, hO, hb3⟩
    have HO : Hid (OwnW w.heap.size w3 v (kbR xs) gs) := hO.base HB2.out.size
    have HB3 : Hid (Below w.heap.size w w3) := HB2.out.trans (hb3.mono HB2.out.size)
    clear hO hb3
    go_wp2_with fail
    go_ret
    exact ⟨v, gs, rfl, by rw [HE.out]; exact HO.out, HB3.out⟩

set_option maxRecDepth 100000 in
set_option maxHeartbeats 2000000 in
theorem implKbInds_any {a : Option Addr} {n cap : Nat} {xs : List AX} {dp : Nat} {w : World} {lo hi : Nat} (h : RdK lo hi w dp a n cap xs) (hhi : hi ≤ w.heap.size) (hbk : ∀ x ∈ xs, x.c.bulk ≤ 1048576 ∧ x.d.bulk ≤ 1048576) :
    Calls Tryz.prog 21 #[.agg #[.slice a n cap]] w fun e w' => ∃ v gs, e = .returned v ∧ OwnW w.heap.size w' v (ansK kbI xs) gs ∧ Below w.heap.size w w' := by
  have HK : Hid (RdK lo hi w dp a n cap xs) := h
  have HL : Hid (xs.length = n) := h.len
  have HBk : Hid (∀ x ∈ xs, x.c.bulk ≤ 1048576 ∧ x.d.bulk ≤ 1048576) := hbk
  have hb0 : Below w.heap.size w (w.alloc (.cells #[.slice a n cap] 42)) := (Below.refl _ _).alloc (Nat.le_refl _) _
  have HB0 : Hid (Below w.heap.size w (w.alloc (.cells #[.slice a n cap] 42))) := hb0
  have HBx0 : Hid (Boxed (w.alloc (.cells #[.slice a n cap] 42)) w.heap.size 42 (.slice a n cap)) := Boxed.new w _ _
  have HK0 : Hid (RdK lo hi (w.alloc (.cells #[.slice a n cap] 42)) dp a n cap xs) := h.below hb0 hhi
  clear h hb0 hbk
  go_enter Tryz.func21, Tryz.ntmps21
  go_wp2_with fail
  refine (implKbOk_any HK0.out (Nat.le_trans hhi HB0.out.size) HBk.out).mono ?_
  rintro e w1 ⟨rfl, hb1⟩
  have HB1 : Hid (Below w.heap.size w w1) := HB0.out.trans (hb1.mono HB0.out.size)
  have HBx1 : Hid (Boxed w1 w.heap.size 42 (.slice a n cap)) := (hb1.block _ HBx0.out.lt).trans HBx0.out
  have cB := HBx1.out.cell
  have hs1 := HB1.out.size
  clear hb1
  cases hok : kbB xs
  · have HE : Hid (ansK kbI xs = []) := by unfold Hid ansK; rw [hok]; rfl
    go_wp2_with fail
    go_ret
    exact ⟨_, [], rfl, by rw [HE.out]; exact OwnW.nil _ _, HB1.out⟩
  · have HE : Hid (ansK kbI xs = kbI xs) := by unfold Hid ansK; rw [hok]; rfl
    obtain ⟨k1, k2, k3, k4, k5⟩ := kbB_true hok
    have HAx : Hid (∀ x ∈ xs, AxB x) := HK.out.axb k2
    have HOk : Hid (∀ x ∈ xs, conOk x.c = true ∧ conOk x.d = true) := fun x hx => axOk_con (List.all_eq_true.1 k2 x hx)
    have HWl : Hid (WLen (kbI xs)) := kbI_wl HAx.out k2
    have hlen : (kbI xs).length ≤ 5 := by omega
    have hn8 : n ≤ 8 := by rw [← HL.out]; exact k1
    have hh1 : hi ≤ w1.heap.size := by omega
    clear k1 k2 k3 k4 k5
    go_wp2_with fail
    refine (vocabularyOf_any (HK.out.below HB1.out hhi) hh1 HAx.out HOk.out HBk.out hn8).mono ?_
    rintro e w2 ⟨rfl, hsN, hsR, hsI, hb2⟩
    have HS : Hid (WSet w2 (w1.heap.size + 4) (kbI xs)) := hsI
    have HB2 : Hid (Below w.heap.size w w2) := HB1.out.trans (hb2.mono HB1.out.size)
    have hfld : ∀ V : World, (Instr.field 92 (.agg #[.map (some (w1.heap.size + 2)), .map (some (w1.heap.size + 3)), .map (some (w1.heap.size + 4))]) 2).run Tryz.prog V = .ok (.map (some (w1.heap.size + 4))) V := fun V => field2 V _ _ _
    clear hsN hsR hsI hb2
    go_wp2_with fail
    refine (ascTexts_any HS.out (by omega) HWl.out.at).mono ?_
    rintro e w3 ⟨v, gs, rfl, hO, hb3⟩
    have HO : Hid (OwnW w.heap.size w3 v (kbI xs) gs) := hO.base HB2.out.size
    have HB3 : Hid (Below w.heap.size w w3) := HB2.out.trans (hb3.mono HB2.out.size)
    clear hO hb3
    go_wp2_with fail
    go_ret
    exact ⟨v, gs, rfl, by rw [HE.out]; exact HO.out, HB3.out⟩

end Go.Proofs.YtnmljalcndfjmaaGreat
