/- Two parts compared; names of a part; a drawn concept; a concept written out. -/
import Derived.Test.YtedihcjhfkdkjaaNG28
import Derived.Test.YtedihcjhfkdkjaaNG17
namespace Go.Proofs.Ytedihcjhfkdkjaa
open Go.RowKit

theorem byt_of {zs : List Int} (h : ∀ x ∈ zs, 0 ≤ x ∧ x ≤ 255) : Byt zs := getD_byte h

theorem cmp_ne {a b : CN} (ha : conOk a = true) (hb : conOk b = true) (hta : ∀ x ∈ textC a, 0 ≤ x ∧ x ≤ 255) (htb : ∀ x ∈ textC b, 0 ≤ x ∧ x ≤ 255) (hne : a ≠ b) : conCmpZ a b ≠ 0 := by
  unfold conCmpZ
  rw [ha, hb, if_pos (by rfl : (true && true) = true), cmpZ_eq]
  cases h1 : ltW (textC a) (textC b)
  · cases h2 : ltW (textC b) (textC a)
    · exact absurd (textC_inj (wfC_of_ok ha) (wfC_of_ok hb) (ltW_tri (byt_of hta) (byt_of htb) h1 h2)) hne
    · simp
  · simp

theorem names_fold {ps : List (Nat × CN)} : ∀ {l : List (List Int)}, Srt l → Byts l → (∀ p ∈ ps, Byt p.2.name) → ∀ z, (z ∈ l ∨ ∃ p ∈ ps, p.2.kind = 2 ∧ p.2.name = z) → z ∈ ps.foldl nmP l := by
  induction ps with
  | nil => intro l _ _ _ z h; rcases h with h | ⟨p, hp, _⟩; exact h; simp at hp
  | cons p ps ih =>
    intro l hs hb hy z h
    rw [List.foldl_cons]
    have hp : Byt p.2.name := hy p List.mem_cons_self
    by_cases hk : p.2.kind = 2
    · have e : nmP l p = insW l p.2.name := if_pos hk
      rw [e]
      refine ih (insW_Srt hp hs hb) (insW_Byts hp hs hb) (fun q hq => hy q (List.mem_cons_of_mem _ hq)) z ?_
      rcases h with h | ⟨q, hq, h1, h2⟩
      · exact .inl ((insW_mem hp hs hb).2 (.inr h))
      · rcases List.mem_cons.1 hq with rfl | hq
        · exact .inl ((insW_mem hp hs hb).2 (.inl h2.symm))
        · exact .inr ⟨q, hq, h1, h2⟩
    · have e : nmP l p = l := if_neg hk
      rw [e]
      refine ih hs hb (fun q hq => hy q (List.mem_cons_of_mem _ hq)) z ?_
      rcases h with h | ⟨q, hq, h1, h2⟩
      · exact .inl h
      · rcases List.mem_cons.1 hq with rfl | hq
        · exact absurd h1 hk
        · exact .inr ⟨q, hq, h1, h2⟩

/-- The name of a part that is a name is among the names. -/
theorem names_part {c x : CN} (h : conOk c = true) (hy : ∀ p ∈ parts c 1, Byt p.2.name) (hx : x ∈ subsN c) (hk : x.kind = 2) : x.name ∈ ansCN c := by
  obtain ⟨p, hp, rfl⟩ := (subs_mem h x).1 hx
  unfold ansCN
  rw [if_pos h, namesC_parts c 1]
  exact names_fold Srt.nil Byts.nil hy _ (.inr ⟨p, hp, hk, rfl⟩)

set_option maxRecDepth 100000 in
set_option maxHeartbeats 1000000 in
theorem drawSubs_any {a : Option Addr} {n cap : Nat} {zs : List Int} {w : World} (h : Rd 0 w.heap.size w a n cap zs) :
    Calls Try.prog 4 #[.slice a n cap] w fun e w' => ∃ v c, e = .returned v ∧ RdC w.heap.size w'.heap.size w' 20 v c ∧ c.bulk ≤ 100000 ∧ Below w.heap.size w w' := by
  have hb0 : Below w.heap.size w (w.alloc (.cells #[.int .i64 0, .slice none 0 0, .slice none 0 0, .slice none 0 0] 25)) := (Below.refl _ _).alloc (Nat.le_refl _) _
  obtain ⟨W0, HW0⟩ : ∃ W, Hid (W = w.alloc (.cells #[.int .i64 0, .slice none 0 0, .slice none 0 0, .slice none 0 0] 25)) := ⟨_, rfl⟩
  have HB0 : Hid (Below w.heap.size w W0) := by unfold Hid; rw [HW0.out]; exact hb0
  have HX0 : Hid (BoxC W0 w.heap.size (.int .i64 0) (.slice none 0 0) (.slice none 0 0) (.slice none 0 0)) := by unfold Hid; rw [HW0.out]; exact BoxC.new w _ _ _ _
  have HR0 : Hid (Rd 0 w.heap.size W0 a n cap zs) := h.below HB0.out (Nat.le_refl _)
  have hs0 : w.heap.size < W0.heap.size := HX0.out.lt
  clear hb0 h
  go_enter Try.func4, Try.ntmps4
  go_wp2_with fail
  rw [← HW0.out]
  refine (l1New_any HR0.out (Nat.le_of_lt hs0)).mono ?_
  rintro e w1 ⟨rfl, hc1, hb1⟩
  have HC1 : Hid (Cur w1 W0.heap.size a n cap zs w.heap.size) := hc1
  have HB1 : Hid (Below W0.heap.size W0 w1) := hb1
  have hs1 := hb1.size
  clear hc1 hb1
  go_wp2_with fail
  refine (l2bent_any HC1.out).mono ?_
  rintro e w2 hD
  obtain ⟨v, c, rfl, hr, hbk, hc2, hbt⟩ := hD
  obtain ⟨k, na, nn, nc, ra, rn, rc, ka, kn, kc, rfl⟩ := hr.shape
  have HR2 : Hid (RdC w1.heap.size w2.heap.size w2 20 (.agg #[.int .i64 k, .slice na nn nc, .slice ra rn rc, .slice ka kn kc]) c) := hr
  have HK2 : Hid (c.bulk ≤ 100000) := hbk
  have HB2 : Hid (Below w.heap.size w w2) := (HB0.out.trans (HB1.out.mono (by omega))).trans (hbt.below (by omega) (by omega))
  have HX2 : Hid (BoxC w2 w.heap.size (.int .i64 0) (.slice none 0 0) (.slice none 0 0) (.slice none 0 0)) := (hbt.block _ (by omega) (by omega)).trans ((HB1.out.block _ hs0).trans HX0.out)
  obtain ⟨z0, z1, z2, z3⟩ := HX2.out.cells
  have zf0 := HX2.out.frz 0
  have zf1 := HX2.out.frz 1
  have zf2 := HX2.out.frz 2
  have zf3 := HX2.out.frz 3
  clear hr hbk hc2 hbt
  go_wp2
  obtain ⟨s0, s1, s2, s3⟩ := (HX2.out.set4 (.int .i64 k) (.slice na nn nc) (.slice ra rn rc) (.slice ka kn kc)).cells
  refine bodyPost_ret (v := .agg #[.int .i64 k, .slice na nn nc, .slice ra rn rc, .slice ka kn kc]) (by simp [results, Try.results4, go_sem, s0, s1, s2, s3]) rfl ?_
  have hsm : Same w1.heap.size w2.heap.size w2 ((((w2.setCell ⟨w.heap.size, 0, none⟩ (.int .i64 k)).setCell ⟨w.heap.size, 1, none⟩ (.slice na nn nc)).setCell ⟨w.heap.size, 2, none⟩ (.slice ra rn rc)).setCell ⟨w.heap.size, 3, none⟩ (.slice ka kn kc)) := fun q h1 h2 => heap_set4 _ _ _ _ _ (by omega)
  refine ⟨_, c, rfl, (HR2.out.same hsm).mono (by omega) (by simp), HK2.out, ?_⟩
  exact (((HB2.out.setCell (p := ⟨w.heap.size, 0, none⟩) (Nat.le_refl _) _).setCell (p := ⟨w.heap.size, 1, none⟩) (Nat.le_refl _) _).setCell (p := ⟨w.heap.size, 2, none⟩) (Nat.le_refl _) _).setCell (p := ⟨w.heap.size, 3, none⟩) (Nat.le_refl _) _

theorem ownC_shapeS {base : Nat} {w : World} {d : Nat} {v : Value} {c : CN} {L : List (Addr × IntKind)} (h : OwnC base w d v c L) : ∃ k na nn nc ra rn rc ka kn kc, v = .agg #[.int .i64 k, .slice na nn nc, .slice ra rn rc, .slice ka kn kc] := by
  obtain ⟨na, nn, nc, ra, rn, rc, ka, kn, kc, e⟩ := h.ow.agg
  exact ⟨_, na, nn, nc, ra, rn, rc, ka, kn, kc, e⟩

set_option maxRecDepth 100000 in
set_option maxHeartbeats 1000000 in
theorem con_any (s : ByteArray) (hs : s.size ≤ 255) (w : World) :
    Calls Try.prog 9 #[.string s] w fun e w' => ∃ v, e = .returned v ∧ RdC w.heap.size w'.heap.size w' 6 v (conRead (numsOf s)).1 ∧ Below w.heap.size w w' := by
  obtain ⟨W0, HW0⟩ : ∃ W, Hid (W = w.alloc (.cells #[.int .i64 0, .slice none 0 0, .slice none 0 0, .slice none 0 0] 25)) := ⟨_, rfl⟩
  have HB0 : Hid (Below w.heap.size w W0) := by unfold Hid; rw [HW0.out]; exact (Below.refl _ _).alloc (Nat.le_refl _) _
  have HX0 : Hid (BoxC W0 w.heap.size (.int .i64 0) (.slice none 0 0) (.slice none 0 0) (.slice none 0 0)) := by unfold Hid; rw [HW0.out]; exact BoxC.new w _ _ _ _
  obtain ⟨Wx, HWx⟩ : ∃ W, Hid (W = Lib.bytesWorld W0 5 s) := ⟨_, rfl⟩
  obtain ⟨cp, HCP⟩ : ∃ cp, Hid (cp = grownCap W0 s.size 0 5) := ⟨_, rfl⟩
  have hcv : (convert 9 22 (.string s)).run Try.prog W0 = .ok (.slice (some ⟨W0.heap.size, 0, none⟩) s.size cp) Wx := by
    rw [HWx.out, HCP.out]
    exact Lib.run_convert_string_bytes W0 9 22 5 s Try.underlying9 Try.underlying22 Try.underlying5
  have hbx : Below W0.heap.size W0 Wx := by rw [HWx.out]; exact bytes_below W0 5 s
  have hsx : W0.heap.size < Wx.heap.size := by rw [HWx.out, Lib.bytesWorld_size]; omega
  have HRx : Hid (Rd 0 Wx.heap.size Wx (some ⟨W0.heap.size, 0, none⟩) s.size cp (numsOf s)) := by
    have hr : RolR Wx (.slice (some ⟨W0.heap.size, 0, none⟩) s.size cp) (numsOf s) W0.heap.size := by rw [HWx.out, HCP.out]; exact rol_conv W0 s hs
    obtain ⟨a', c', e, h3, _⟩ := hr
    simp only [Value.slice.injEq] at e
    obtain ⟨e1, e2, e3⟩ := e
    rw [← e1, ← e2, ← e3] at h3
    refine h3.rd (fun x hx => ?_)
    obtain ⟨j, hj, rfl⟩ := mem_leafB.1 hx
    exact ⟨Nat.zero_le _, hsx⟩
  have HBx : Hid (Below w.heap.size w Wx) := HB0.out.trans (hbx.mono HB0.out.size)
  have HXx : Hid (BoxC Wx w.heap.size (.int .i64 0) (.slice none 0 0) (.slice none 0 0) (.slice none 0 0)) := HX0.out.below hbx HX0.out.lt
  clear hbx
  go_enter Try.func9, Try.ntmps9
  go_upto_region 1 with fail
  rw [← HW0.out]
  go_wp2_with fail
  refine (specConRead_any _ _ _ (numsOf s) Wx HRx.out (Nat.le_refl _)).mono ?_
  rintro e w2 hA
  obtain ⟨v2, L2, rfl, hO2, hb2⟩ := hA
  obtain ⟨k, na, nn, nc, ra, rn, rc, ka, kn, kc, rfl⟩ := ownC_shapeS hO2
  obtain ⟨W3, HW3⟩ : ∃ W, Hid (W = w2.alloc (.cells #[.int .i64 k, .slice na nn nc, .slice ra rn rc, .slice ka kn kc] 25)) := ⟨_, rfl⟩
  have hb3 : Below w2.heap.size w2 W3 := by rw [HW3.out]; exact (Below.refl _ _).alloc (Nat.le_refl _) _
  have HY3 : Hid (BoxC W3 w2.heap.size (.int .i64 k) (.slice na nn nc) (.slice ra rn rc) (.slice ka kn kc)) := by unfold Hid; rw [HW3.out]; exact BoxC.new w2 _ _ _ _
  have HX3 : Hid (BoxC W3 w.heap.size (.int .i64 0) (.slice none 0 0) (.slice none 0 0) (.slice none 0 0)) := (HXx.out.below hb2 HXx.out.lt).below hb3 (Nat.lt_of_lt_of_le HXx.out.lt hb2.size)
  have HR3 : Hid (RdC Wx.heap.size w2.heap.size W3 6 (.agg #[.int .i64 k, .slice na nn nc, .slice ra rn rc, .slice ka kn kc]) (conRead (numsOf s)).1) := hO2.rd.below hb3 (Nat.le_refl _)
  have HB3 : Hid (Below w.heap.size w W3) := (HBx.out.trans (hb2.mono HBx.out.size)).trans (hb3.mono (Nat.le_trans HBx.out.size hb2.size))
  have hs3 : w2.heap.size < W3.heap.size := HY3.out.lt
  have hsx' : w.heap.size < Wx.heap.size := HXx.out.lt
  clear hO2 hb2 hb3
  obtain ⟨y0, y1, y2, y3⟩ := HY3.out.cells
  obtain ⟨z0, z1, z2, z3⟩ := HX3.out.cells
  have zf0 := HX3.out.frz 0
  have zf1 := HX3.out.frz 1
  have zf2 := HX3.out.frz 2
  have zf3 := HX3.out.frz 3
  try dsimp only
  go_upto_region 2 with fail
  rw [← HW3.out]
  go_wp2
  obtain ⟨s0, s1, s2, s3⟩ := (HX3.out.set4 (.int .i64 k) (.slice na nn nc) (.slice ra rn rc) (.slice ka kn kc)).cells
  refine bodyPost_ret (v := .agg #[.int .i64 k, .slice na nn nc, .slice ra rn rc, .slice ka kn kc]) (by simp [results, Try.results9, go_sem, s0, s1, s2, s3]) rfl ?_
  have hsm : Same Wx.heap.size w2.heap.size W3 ((((W3.setCell ⟨w.heap.size, 0, none⟩ (.int .i64 k)).setCell ⟨w.heap.size, 1, none⟩ (.slice na nn nc)).setCell ⟨w.heap.size, 2, none⟩ (.slice ra rn rc)).setCell ⟨w.heap.size, 3, none⟩ (.slice ka kn kc)) := fun q h1 h2 => heap_set4 _ _ _ _ _ (by omega)
  refine ⟨_, rfl, (HR3.out.same hsm).mono (by omega) (by simp; omega), ?_⟩
  exact (((HB3.out.setCell (p := ⟨w.heap.size, 0, none⟩) (Nat.le_refl _) _).setCell (p := ⟨w.heap.size, 1, none⟩) (Nat.le_refl _) _).setCell (p := ⟨w.heap.size, 2, none⟩) (Nat.le_refl _) _).setCell (p := ⟨w.heap.size, 3, none⟩) (Nat.le_refl _) _

end Go.Proofs.Ytedihcjhfkdkjaa
