/- The law of concepts: what it asks holds at every list of bytes. -/
import Derived.Test.YthojlfcahhjfaaaLawCon
namespace Go.Proofs.Ythojlfcahhjfaaa
open Go.RowKit

theorem ownC_shape {base : Nat} {w : World} {d : Nat} {v : Value} {c : CN} {L : List (Addr × IntKind)} (h : OwnC base w d v c L) : ∃ k na nn nc ra rn rc ka kn kc, v = .agg #[.int .i64 k, .slice na nn nc, .slice ra rn rc, .slice ka kn kc] := by
  obtain ⟨na, nn, nc, ra, rn, rc, ka, kn, kc, e⟩ := h.ow.agg
  exact ⟨_, na, nn, nc, ra, rn, rc, ka, kn, kc, e⟩
theorem own_empty {base : Nat} {w : World} {v : Value} (h : OwnB base w v []) : ∃ a c, v = .slice a 0 c := by
  rcases h.2 with ⟨q, _⟩ | ⟨g, cap, cur, q, _⟩
  · exact ⟨_, _, q⟩
  · exact ⟨_, _, q⟩

set_option maxRecDepth 100000 in
set_option maxHeartbeats 8000000 in
theorem consWalk {a0 : Option Addr} {len0 cap0 : Nat} {zs : List Int} {w : World} (h : Rd 0 w.heap.size w a0 len0 cap0 zs) :
    Calls Try.prog 4 #[.slice a0 len0 cap0] w fun e w' => e = .returned (.bool true) ∧ Below w.heap.size w w' := by
  have HR : Hid (Rd 0 w.heap.size w a0 len0 cap0 zs) := h
  clear h
  go_enter Try.func4, Try.ntmps4
  go_wp2_with fail
  refine (drawConText_any HR.out).mono ?_
  rintro e w1 ⟨v1, c, rfl, hr1, hk1, hb1⟩
  obtain ⟨k, na, nn, nc, ra, rn, rc, ka, kn, kc, rfl⟩ := hr1.shape
  obtain ⟨Wa, HWa⟩ : ∃ W, Hid (W = w1.alloc (.cells #[.int .i64 k, .slice na nn nc, .slice ra rn rc, .slice ka kn kc] 35)) := ⟨_, rfl⟩
  have hba : Below w1.heap.size w1 Wa := by rw [HWa.out]; exact (Below.refl _ _).alloc (Nat.le_refl _) _
  have HX1 : Hid (BoxC Wa w1.heap.size (.int .i64 k) (.slice na nn nc) (.slice ra rn rc) (.slice ka kn kc)) := by unfold Hid; rw [HWa.out]; exact BoxC.new w1 _ _ _ _
  have HR1 : Hid (RdC w.heap.size w1.heap.size Wa 20 (.agg #[.int .i64 k, .slice na nn nc, .slice ra rn rc, .slice ka kn kc]) c) := hr1.below hba (Nat.le_refl _)
  have H1 : Hid (Below w.heap.size w Wa) := hb1.trans (hba.mono hb1.size)
  have hsa : w1.heap.size < Wa.heap.size := HX1.out.lt
  have HBk : Hid (c.bulk ≤ 1048576) := by unfold Hid; omega
  clear hr1 hk1 hb1 hba
  obtain ⟨x0, x1, x2, x3⟩ := HX1.out.cells
  go_wp2_with fail
  try dsimp only
  rw [← HWa.out]
  by_cases hok : conOk c = true
  · have HOk : Hid (conOk c = true) := hok
    have HTb : Hid (∀ x ∈ textC c, 0 ≤ x ∧ x ≤ 255) := textC_byte HR1.out
    have HT1 : Hid (1 ≤ (textC c).length) := text_some (wfC_of_ok hok)
    clear hok
    refine (textI_ok HR1.out (Nat.le_of_lt hsa) HBk.out HOk.out).mono ?_
    rintro e w2 ⟨u2, rfl, hO2, hb2⟩
    obtain ⟨g2, c2, rfl, _, hg2, hr2⟩ := own_some hO2 (not_nil hO2 HT1.out) HTb.out
    obtain ⟨m, hm⟩ : ∃ m, m = (textC c).length := ⟨_, rfl⟩
    have HM : Hid (m = (textC c).length) := hm
    have hm1 : 1 ≤ m := by rw [hm]; exact HT1.out
    have hmi : (0 : Int) < (m : Int) := by omega
    rw [← hm] at hr2 ⊢
    have HT2 : Hid (Rd Wa.heap.size w2.heap.size w2 (some ⟨g2, 0, none⟩) m c2 (textC c)) := hr2
    have H2 : Hid (Below w.heap.size w w2) := H1.out.trans (hb2.mono H1.out.size)
    have HX2 : Hid (BoxC w2 w1.heap.size (.int .i64 k) (.slice na nn nc) (.slice ra rn rc) (.slice ka kn kc)) := HX1.out.below hb2 HX1.out.lt
    have HR2 : Hid (RdC w.heap.size w1.heap.size w2 20 (.agg #[.int .i64 k, .slice na nn nc, .slice ra rn rc, .slice ka kn kc]) c) := HR1.out.below hb2 (Nat.le_of_lt hsa)
    clear hO2 hb2 hr2 hm x0 x1 x2 x3
    have H2d : Hid (Below w.heap.size w w2.drew) := H2.out.drew
    have HX2d : Hid (BoxC w2.drew w1.heap.size (.int .i64 k) (.slice na nn nc) (.slice ra rn rc) (.slice ka kn kc)) := HX2.out
    have HR2d : Hid (RdC w.heap.size w1.heap.size w2.drew 20 (.agg #[.int .i64 k, .slice na nn nc, .slice ra rn rc, .slice ka kn kc]) c) := RdC.same (w := w2) (w' := w2.drew) (fun _ _ _ => rfl) HR2.out
    have HT2d : Hid (Rd Wa.heap.size w2.heap.size w2.drew (some ⟨g2, 0, none⟩) m c2 (textC c)) := HT2.out.same (fun _ _ _ => rfl)
    have hs2d : w2.heap.size ≤ w2.drew.heap.size := Nat.le_refl _
    obtain ⟨p0, p1, p2, p3⟩ := HX2.out.cells
    go_upto_region 3 with fail
    first | go_region_with (first
      | (go_at_call 20; refine (specConOk_any (w := w6) HR6.out (Nat.le_of_lt HX6.out.lt)).mono ?_; rintro e w7 ⟨rfl, hb7⟩; rw [HOk.out]; have H7 : Hid (Below w.heap.size w w7) := H6.out.trans (hb7.mono H6.out.size); have HX7 : Hid (BoxC w7 w1.heap.size (.int .i64 k) (.slice na nn nc) (.slice ra rn rc) (.slice ka kn kc)) := HX6.out.below hb7 HX6.out.lt; have HR7 : Hid (RdC w.heap.size w1.heap.size w7 20 (.agg #[.int .i64 k, .slice na nn nc, .slice ra rn rc, .slice ka kn kc]) c) := HR6.out.below hb7 (Nat.le_of_lt HX6.out.lt); have HT7 : Hid (Rd Wa.heap.size w2.heap.size w7 (some ⟨g2, 0, none⟩) m c2 (textC c)) := HT6.out.below hb7 hs6; have hs7 : w2.heap.size ≤ w7.heap.size := Nat.le_trans hs6 hb7.size; obtain ⟨y0, y1, y2, y3⟩ := HX7.out.cells; clear hb7)
      | (go_at_call 21; refine (implConOk_any (w := w6) HR6.out (Nat.le_of_lt HX6.out.lt) HBk.out).mono ?_; rintro e w7 ⟨rfl, hb7⟩; rw [HOk.out]; have H7 : Hid (Below w.heap.size w w7) := H6.out.trans (hb7.mono H6.out.size); have HX7 : Hid (BoxC w7 w1.heap.size (.int .i64 k) (.slice na nn nc) (.slice ra rn rc) (.slice ka kn kc)) := HX6.out.below hb7 HX6.out.lt; have HR7 : Hid (RdC w.heap.size w1.heap.size w7 20 (.agg #[.int .i64 k, .slice na nn nc, .slice ra rn rc, .slice ka kn kc]) c) := HR6.out.below hb7 (Nat.le_of_lt HX6.out.lt); have HT7 : Hid (Rd Wa.heap.size w2.heap.size w7 (some ⟨g2, 0, none⟩) m c2 (textC c)) := HT6.out.below hb7 hs6; have hs7 : w2.heap.size ≤ w7.heap.size := Nat.le_trans hs6 hb7.size; obtain ⟨y0, y1, y2, y3⟩ := HX7.out.cells; clear hb7)
      | (go_at_call 21; refine (implConOk_any (w := w5) HR5.out (Nat.le_of_lt HX5.out.lt) HBk.out).mono ?_; rintro e w6 ⟨rfl, hb6⟩; rw [HOk.out]; have H6 : Hid (Below w.heap.size w w6) := H5.out.trans (hb6.mono H5.out.size); have HX6 : Hid (BoxC w6 w1.heap.size (.int .i64 k) (.slice na nn nc) (.slice ra rn rc) (.slice ka kn kc)) := HX5.out.below hb6 HX5.out.lt; have HR6 : Hid (RdC w.heap.size w1.heap.size w6 20 (.agg #[.int .i64 k, .slice na nn nc, .slice ra rn rc, .slice ka kn kc]) c) := HR5.out.below hb6 (Nat.le_of_lt HX5.out.lt); have HT6 : Hid (Rd Wa.heap.size w2.heap.size w6 (some ⟨g2, 0, none⟩) m c2 (textC c)) := HT5.out.below hb6 hs5; have hs6 : w2.heap.size ≤ w6.heap.size := Nat.le_trans hs5 hb6.size; obtain ⟨y0, y1, y2, y3⟩ := HX6.out.cells; clear hb6)
      | (go_at_call 20; refine (specConOk_any (w := w5) HR5.out (Nat.le_of_lt HX5.out.lt)).mono ?_; rintro e w6 ⟨rfl, hb6⟩; rw [HOk.out]; have H6 : Hid (Below w.heap.size w w6) := H5.out.trans (hb6.mono H5.out.size); have HX6 : Hid (BoxC w6 w1.heap.size (.int .i64 k) (.slice na nn nc) (.slice ra rn rc) (.slice ka kn kc)) := HX5.out.below hb6 HX5.out.lt; have HR6 : Hid (RdC w.heap.size w1.heap.size w6 20 (.agg #[.int .i64 k, .slice na nn nc, .slice ra rn rc, .slice ka kn kc]) c) := HR5.out.below hb6 (Nat.le_of_lt HX5.out.lt); have HT6 : Hid (Rd Wa.heap.size w2.heap.size w6 (some ⟨g2, 0, none⟩) m c2 (textC c)) := HT5.out.below hb6 hs5; have hs6 : w2.heap.size ≤ w6.heap.size := Nat.le_trans hs5 hb6.size; obtain ⟨y0, y1, y2, y3⟩ := HX6.out.cells; clear hb6)
      | (go_at_call 20; refine (specConOk_any (w := w2.drew) HR2d.out (Nat.le_of_lt HX2d.out.lt)).mono ?_; rintro e w5 ⟨rfl, hb5⟩; rw [HOk.out]; have H5 : Hid (Below w.heap.size w w5) := H2d.out.trans (hb5.mono H2d.out.size); have HX5 : Hid (BoxC w5 w1.heap.size (.int .i64 k) (.slice na nn nc) (.slice ra rn rc) (.slice ka kn kc)) := HX2d.out.below hb5 HX2d.out.lt; have HR5 : Hid (RdC w.heap.size w1.heap.size w5 20 (.agg #[.int .i64 k, .slice na nn nc, .slice ra rn rc, .slice ka kn kc]) c) := HR2d.out.below hb5 (Nat.le_of_lt HX2d.out.lt); have HT5 : Hid (Rd Wa.heap.size w2.heap.size w5 (some ⟨g2, 0, none⟩) m c2 (textC c)) := HT2d.out.below hb5 hs2d; have hs5 : w2.heap.size ≤ w5.heap.size := Nat.le_trans hs2d hb5.size; obtain ⟨y0, y1, y2, y3⟩ := HX5.out.cells; clear hb5)) | fail
    all_goals
      clear p0 p1 p2 p3 y0 y1 y2 y3
      have hg7 : g2 < w7.heap.size := Nat.lt_of_lt_of_le hg2 hs7
      go_wp2_with fail
      refine (implConRead_any g2 0 m c2 (textC c) w7 (HT7.out.mono (Nat.zero_le _) hs7) hg7).mono ?_
      rintro e w8 hA
      rw [conRead_text c HOk.out] at hA
      obtain ⟨v8, L8, rfl, hO8, hb8⟩ := hA
      obtain ⟨k8, na8, nn8, nc8, ra8, rn8, rc8, ka8, kn8, kc8, rfl⟩ := ownC_shape hO8
      obtain ⟨W8, HW8⟩ : ∃ W, Hid (W = w8.alloc (.cells #[.int .i64 k8, .slice na8 nn8 nc8, .slice ra8 rn8 rc8, .slice ka8 kn8 kc8] 35)) := ⟨_, rfl⟩
      have hbw8 : Below w8.heap.size w8 W8 := by rw [HW8.out]; exact (Below.refl _ _).alloc (Nat.le_refl _) _
      have HX8 : Hid (BoxC W8 w8.heap.size (.int .i64 k8) (.slice na8 nn8 nc8) (.slice ra8 rn8 rc8) (.slice ka8 kn8 kc8)) := by unfold Hid; rw [HW8.out]; exact BoxC.new w8 _ _ _ _
      have HR8 : Hid (RdC w7.heap.size w8.heap.size W8 6 (.agg #[.int .i64 k8, .slice na8 nn8 nc8, .slice ra8 rn8 rc8, .slice ka8 kn8 kc8]) c) := hO8.rd.below hbw8 (Nat.le_refl _)
      have H8 : Hid (Below w.heap.size w W8) := (H7.out.trans (hb8.mono H7.out.size)).trans (hbw8.mono (Nat.le_trans H7.out.size hb8.size))
      have HT8 : Hid (Rd Wa.heap.size w2.heap.size W8 (some ⟨g2, 0, none⟩) m c2 (textC c)) := (HT7.out.below hb8 hs7).below hbw8 (Nat.le_trans hs7 hb8.size)
      have hs8 : w2.heap.size ≤ W8.heap.size := Nat.le_trans (Nat.le_trans hs7 hb8.size) hbw8.size
      clear hO8 hb8 hbw8
      obtain ⟨y0, y1, y2, y3⟩ := HX8.out.cells
      try dsimp only
      go_wp2_with fail
      try rw [← HW8.out]
      refine (textI_ok HR8.out (Nat.le_of_lt HX8.out.lt) HBk.out HOk.out).mono ?_
      rintro e w9 ⟨u9, rfl, hO9, hb9⟩
      obtain ⟨g9, c9, rfl, _, hg9, hr9⟩ := own_some hO9 (not_nil hO9 HT1.out) HTb.out
      rw [← HM.out] at hr9 ⊢
      have HT9 : Hid (Rd W8.heap.size w9.heap.size w9 (some ⟨g9, 0, none⟩) m c9 (textC c)) := hr9
      have HU9 : Hid (Rd Wa.heap.size w2.heap.size w9 (some ⟨g2, 0, none⟩) m c2 (textC c)) := HT8.out.below hb9 hs8
      have H9 : Hid (Below w.heap.size w w9) := H8.out.trans (hb9.mono H8.out.size)
      clear hO9 hb9 hr9 y0 y1 y2 y3
      go_wp2_with fail
      refine (same_any _ _ _ _ _ _ _ _ HT9.out HU9.out).mono ?_
      rintro e wt ⟨rfl, hwt⟩
      have Ht : Hid (Below w.heap.size w wt) := by rw [hwt]; exact H9.out
      clear hwt
      -- the tail
      have HRt : Hid (Rd 0 wt.heap.size wt a0 len0 cap0 zs) := (HR.out.below Ht.out (Nat.le_refl _)).mono (Nat.le_refl _) Ht.out.size
      go_wp2_with fail
      refine (drawConRead_any HRt.out).mono ?_
      rintro e wa ⟨ga, ys, ca, rfl, hga, hra, hyl, hba⟩
      obtain ⟨ny, hny⟩ : ∃ ny, ny = ys.length := ⟨_, rfl⟩
      rw [← hny] at hra hyl ⊢
      have HNy : Hid (ny = ys.length) := hny
      have HRa : Hid (Rd 0 wa.heap.size wa (some ⟨ga, 0, none⟩) ny ca ys) := hra.mono (Nat.zero_le _) (Nat.le_refl _)
      have Ha : Hid (Below w.heap.size w wa) := Ht.out.trans (hba.mono Ht.out.size)
      obtain ⟨cy, p, hcp⟩ : ∃ cy p, conRead ys = (cy, p) := ⟨_, _, rfl⟩
      have HCP : Hid (conRead ys = (cy, p)) := hcp
      have HBy : Hid (cy.bulk ≤ 1048576) := by have := conRead_bulk ys (toks_bound ys).1; rw [hcp] at this; unfold Hid; exact Nat.le_trans this (by omega)
      have hfit := conRead_fits ys
      rw [hcp, ← hny] at hfit
      try dsimp only at hfit
      clear hra hba hny hcp
      go_wp2_with fail
      refine (implConRead_any ga 0 ny ca ys wa HRa.out hga).mono ?_
      rintro e wb hA
      rw [HCP.out] at hA
      obtain ⟨vy, Ly, rfl, hOy, hbb⟩ := hA
      obtain ⟨ky, nay, nny, ncy, ray, rny, rcy, kay, kny, kcy, rfl⟩ := ownC_shape hOy
      obtain ⟨Wb, HWb⟩ : ∃ W, Hid (W = wb.alloc (.cells #[.int .i64 ky, .slice nay nny ncy, .slice ray rny rcy, .slice kay kny kcy] 35)) := ⟨_, rfl⟩
      have hbwb : Below wb.heap.size wb Wb := by rw [HWb.out]; exact (Below.refl _ _).alloc (Nat.le_refl _) _
      have HYb : Hid (BoxC Wb wb.heap.size (.int .i64 ky) (.slice nay nny ncy) (.slice ray rny rcy) (.slice kay kny kcy)) := by unfold Hid; rw [HWb.out]; exact BoxC.new wb _ _ _ _
      have HRy : Hid (RdC wa.heap.size wb.heap.size Wb 6 (.agg #[.int .i64 ky, .slice nay nny ncy, .slice ray rny rcy, .slice kay kny kcy]) cy) := hOy.rd.below hbwb (Nat.le_refl _)
      have Hb : Hid (Below w.heap.size w Wb) := (Ha.out.trans (hbb.mono Ha.out.size)).trans (hbwb.mono (Nat.le_trans Ha.out.size hbb.size))
      have hsb : wb.heap.size < Wb.heap.size := HYb.out.lt
      clear hOy hbb hbwb
      try dsimp only
      rcases hfit with ⟨hp, hoky⟩ | ⟨hp0, hp1, _⟩
      · subst hp
        have HOy : Hid (conOk cy = true) := hoky
        have HTy : Hid (∀ x ∈ textC cy, 0 ≤ x ∧ x ≤ 255) := textC_byte HRy.out
        have HT1y : Hid (1 ≤ (textC cy).length) := text_some (wfC_of_ok hoky)
        clear hoky
        obtain ⟨y0, y1, y2, y3⟩ := HYb.out.cells
        go_wp2_with fail
        try rw [← HWb.out]
        refine (textI_ok HRy.out (Nat.le_of_lt hsb) HBy.out HOy.out).mono ?_
        rintro e wc ⟨uc, rfl, hOc, hbc⟩
        obtain ⟨gc, cc, rfl, _, hgc, hrc⟩ := own_some hOc (not_nil hOc HT1y.out) HTy.out
        have HRc : Hid (Rd 0 wc.heap.size wc (some ⟨gc, 0, none⟩) (textC cy).length cc (textC cy)) := hrc.mono (Nat.zero_le _) (Nat.le_refl _)
        have Hc : Hid (Below w.heap.size w wc) := Hb.out.trans (hbc.mono Hb.out.size)
        have HYc : Hid (BoxC wc wb.heap.size (.int .i64 ky) (.slice nay nny ncy) (.slice ray rny rcy) (.slice kay kny kcy)) := HYb.out.below hbc HYb.out.lt
        have HRyc : Hid (RdC wa.heap.size wb.heap.size wc 6 (.agg #[.int .i64 ky, .slice nay nny ncy, .slice ray rny rcy, .slice kay kny kcy]) cy) := HRy.out.below hbc (Nat.le_of_lt hsb)
        obtain ⟨nt, hnt⟩ : ∃ nt, nt = (textC cy).length := ⟨_, rfl⟩
        rw [← hnt] at HRc ⊢
        clear hOc hbc hrc hnt y0 y1 y2 y3
        go_wp2_with fail
        refine (implConRead_any gc 0 nt cc (textC cy) wc HRc.out hgc).mono ?_
        rintro e wd hA
        rw [conRead_text cy HOy.out] at hA
        obtain ⟨vz, Lz, rfl, hOz, hbd⟩ := hA
        obtain ⟨kz, naz, nnz, ncz, raz, rnz, rcz, kaz, knz, kcz, rfl⟩ := ownC_shape hOz
        obtain ⟨Wd, HWd⟩ : ∃ W, Hid (W = wd.alloc (.cells #[.int .i64 kz, .slice naz nnz ncz, .slice raz rnz rcz, .slice kaz knz kcz] 35)) := ⟨_, rfl⟩
        have hbwd : Below wd.heap.size wd Wd := by rw [HWd.out]; exact (Below.refl _ _).alloc (Nat.le_refl _) _
        have HZd : Hid (BoxC Wd wd.heap.size (.int .i64 kz) (.slice naz nnz ncz) (.slice raz rnz rcz) (.slice kaz knz kcz)) := by unfold Hid; rw [HWd.out]; exact BoxC.new wd _ _ _ _
        have HYd : Hid (BoxC Wd wb.heap.size (.int .i64 ky) (.slice nay nny ncy) (.slice ray rny rcy) (.slice kay kny kcy)) := (HYc.out.below hbd HYc.out.lt).below hbwd (Nat.lt_of_lt_of_le HYc.out.lt hbd.size)
        have HRz : Hid (RdC wc.heap.size wd.heap.size Wd 6 (.agg #[.int .i64 kz, .slice naz nnz ncz, .slice raz rnz rcz, .slice kaz knz kcz]) cy) := hOz.rd.below hbwd (Nat.le_refl _)
        have HRyd : Hid (RdC wa.heap.size wb.heap.size Wd 6 (.agg #[.int .i64 ky, .slice nay nny ncy, .slice ray rny rcy, .slice kay kny kcy]) cy) := (HRyc.out.below hbd (Nat.le_of_lt HYc.out.lt)).below hbwd (Nat.le_trans (Nat.le_of_lt HYc.out.lt) hbd.size)
        have Hd : Hid (Below w.heap.size w Wd) := (Hc.out.trans (hbd.mono Hc.out.size)).trans (hbwd.mono (Nat.le_trans Hc.out.size hbd.size))
        clear hOz hbd hbwd
        obtain ⟨y0, y1, y2, y3⟩ := HYd.out.cells
        obtain ⟨x0, x1, x2, x3⟩ := HZd.out.cells
        try dsimp only
        go_upto_region 14 with fail
        rw [← HWd.out]
        go_wp2_with fail
        refine (sameCon_any HRyd.out HRz.out (Nat.le_of_lt HYd.out.lt) (Nat.le_of_lt HZd.out.lt) HBy.out HOy.out).mono ?_
        rintro e we ⟨rfl, hbe⟩
        have He : Hid (Below w.heap.size w we) := Hd.out.trans (hbe.mono Hd.out.size)
        clear hbe y0 y1 y2 y3 x0 x1 x2 x3
        go_wp2_with fail
        refine (words_any we).mono ?_
        rintro e wf ⟨rfl, hbf⟩
        have Hf : Hid (Below w.heap.size w wf) := He.out.trans (hbf.mono He.out.size)
        clear hbf
        go_wp2
        go_ret
        exact ⟨rfl, Hf.out⟩
      · go_wp2_with fail
        try rw [← HWb.out]
        refine (words_any Wb).mono ?_
        rintro e wf ⟨rfl, hbf⟩
        have Hf : Hid (Below w.heap.size w wf) := Hb.out.trans (hbf.mono Hb.out.size)
        clear hbf
        go_wp2
        go_ret
        exact ⟨rfl, Hf.out⟩
  · have HOk : Hid (conOk c = false) := by unfold Hid; simpa using hok
    have HTn : Hid (conText c = []) := by unfold Hid conText; rw [if_neg hok]
    clear hok
    refine (implConText_any HR1.out (Nat.le_of_lt hsa) HBk.out).mono ?_
    rintro e w2 ⟨u2, rfl, hO2, hb2⟩
    rw [HTn.out] at hO2
    obtain ⟨a2, c2, rfl⟩ := own_empty hO2
    have H2 : Hid (Below w.heap.size w w2) := H1.out.trans (hb2.mono H1.out.size)
    have HX2 : Hid (BoxC w2 w1.heap.size (.int .i64 k) (.slice na nn nc) (.slice ra rn rc) (.slice ka kn kc)) := HX1.out.below hb2 HX1.out.lt
    have HR2 : Hid (RdC w.heap.size w1.heap.size w2 20 (.agg #[.int .i64 k, .slice na nn nc, .slice ra rn rc, .slice ka kn kc]) c) := HR1.out.below hb2 (Nat.le_of_lt hsa)
    clear hO2 hb2 x0 x1 x2 x3
    have H2d : Hid (Below w.heap.size w w2.drew) := H2.out.drew
    have HX2d : Hid (BoxC w2.drew w1.heap.size (.int .i64 k) (.slice na nn nc) (.slice ra rn rc) (.slice ka kn kc)) := HX2.out
    have HR2d : Hid (RdC w.heap.size w1.heap.size w2.drew 20 (.agg #[.int .i64 k, .slice na nn nc, .slice ra rn rc, .slice ka kn kc]) c) := RdC.same (w := w2) (w' := w2.drew) (fun _ _ _ => rfl) HR2.out
    obtain ⟨p0, p1, p2, p3⟩ := HX2.out.cells
    go_upto_region 3 with fail
    first | go_region_with (first
      | (go_at_call 20; refine (specConOk_any (w := w6) HR6.out (Nat.le_of_lt HX6.out.lt)).mono ?_; rintro e w7 ⟨rfl, hb7⟩; rw [HOk.out]; have H7 : Hid (Below w.heap.size w w7) := H6.out.trans (hb7.mono H6.out.size); have HX7 : Hid (BoxC w7 w1.heap.size (.int .i64 k) (.slice na nn nc) (.slice ra rn rc) (.slice ka kn kc)) := HX6.out.below hb7 HX6.out.lt; have HR7 : Hid (RdC w.heap.size w1.heap.size w7 20 (.agg #[.int .i64 k, .slice na nn nc, .slice ra rn rc, .slice ka kn kc]) c) := HR6.out.below hb7 (Nat.le_of_lt HX6.out.lt); obtain ⟨y0, y1, y2, y3⟩ := HX7.out.cells; clear hb7)
      | (go_at_call 21; refine (implConOk_any (w := w6) HR6.out (Nat.le_of_lt HX6.out.lt) HBk.out).mono ?_; rintro e w7 ⟨rfl, hb7⟩; rw [HOk.out]; have H7 : Hid (Below w.heap.size w w7) := H6.out.trans (hb7.mono H6.out.size); have HX7 : Hid (BoxC w7 w1.heap.size (.int .i64 k) (.slice na nn nc) (.slice ra rn rc) (.slice ka kn kc)) := HX6.out.below hb7 HX6.out.lt; have HR7 : Hid (RdC w.heap.size w1.heap.size w7 20 (.agg #[.int .i64 k, .slice na nn nc, .slice ra rn rc, .slice ka kn kc]) c) := HR6.out.below hb7 (Nat.le_of_lt HX6.out.lt); obtain ⟨y0, y1, y2, y3⟩ := HX7.out.cells; clear hb7)
      | (go_at_call 21; refine (implConOk_any (w := w5) HR5.out (Nat.le_of_lt HX5.out.lt) HBk.out).mono ?_; rintro e w6 ⟨rfl, hb6⟩; rw [HOk.out]; have H6 : Hid (Below w.heap.size w w6) := H5.out.trans (hb6.mono H5.out.size); have HX6 : Hid (BoxC w6 w1.heap.size (.int .i64 k) (.slice na nn nc) (.slice ra rn rc) (.slice ka kn kc)) := HX5.out.below hb6 HX5.out.lt; have HR6 : Hid (RdC w.heap.size w1.heap.size w6 20 (.agg #[.int .i64 k, .slice na nn nc, .slice ra rn rc, .slice ka kn kc]) c) := HR5.out.below hb6 (Nat.le_of_lt HX5.out.lt); obtain ⟨y0, y1, y2, y3⟩ := HX6.out.cells; clear hb6)
      | (go_at_call 20; refine (specConOk_any (w := w5) HR5.out (Nat.le_of_lt HX5.out.lt)).mono ?_; rintro e w6 ⟨rfl, hb6⟩; rw [HOk.out]; have H6 : Hid (Below w.heap.size w w6) := H5.out.trans (hb6.mono H5.out.size); have HX6 : Hid (BoxC w6 w1.heap.size (.int .i64 k) (.slice na nn nc) (.slice ra rn rc) (.slice ka kn kc)) := HX5.out.below hb6 HX5.out.lt; have HR6 : Hid (RdC w.heap.size w1.heap.size w6 20 (.agg #[.int .i64 k, .slice na nn nc, .slice ra rn rc, .slice ka kn kc]) c) := HR5.out.below hb6 (Nat.le_of_lt HX5.out.lt); obtain ⟨y0, y1, y2, y3⟩ := HX6.out.cells; clear hb6)
      | (go_at_call 20; refine (specConOk_any (w := w2.drew) HR2d.out (Nat.le_of_lt HX2d.out.lt)).mono ?_; rintro e w5 ⟨rfl, hb5⟩; rw [HOk.out]; have H5 : Hid (Below w.heap.size w w5) := H2d.out.trans (hb5.mono H2d.out.size); have HX5 : Hid (BoxC w5 w1.heap.size (.int .i64 k) (.slice na nn nc) (.slice ra rn rc) (.slice ka kn kc)) := HX2d.out.below hb5 HX2d.out.lt; have HR5 : Hid (RdC w.heap.size w1.heap.size w5 20 (.agg #[.int .i64 k, .slice na nn nc, .slice ra rn rc, .slice ka kn kc]) c) := HR2d.out.below hb5 (Nat.le_of_lt HX2d.out.lt); obtain ⟨y0, y1, y2, y3⟩ := HX5.out.cells; clear hb5)) | fail
    all_goals
      clear p0 p1 p2 p3 y0 y1 y2 y3
      obtain ⟨wt, hwt⟩ : ∃ wt, wt = w7 := ⟨_, rfl⟩
      have Ht : Hid (Below w.heap.size w wt) := by rw [hwt]; exact H7.out
      rw [← hwt]
      clear hwt
      -- the tail
      have HRt : Hid (Rd 0 wt.heap.size wt a0 len0 cap0 zs) := (HR.out.below Ht.out (Nat.le_refl _)).mono (Nat.le_refl _) Ht.out.size
      go_wp2_with fail
      refine (drawConRead_any HRt.out).mono ?_
      rintro e wa ⟨ga, ys, ca, rfl, hga, hra, hyl, hba⟩
      obtain ⟨ny, hny⟩ : ∃ ny, ny = ys.length := ⟨_, rfl⟩
      rw [← hny] at hra hyl ⊢
      have HNy : Hid (ny = ys.length) := hny
      have HRa : Hid (Rd 0 wa.heap.size wa (some ⟨ga, 0, none⟩) ny ca ys) := hra.mono (Nat.zero_le _) (Nat.le_refl _)
      have Ha : Hid (Below w.heap.size w wa) := Ht.out.trans (hba.mono Ht.out.size)
      obtain ⟨cy, p, hcp⟩ : ∃ cy p, conRead ys = (cy, p) := ⟨_, _, rfl⟩
      have HCP : Hid (conRead ys = (cy, p)) := hcp
      have HBy : Hid (cy.bulk ≤ 1048576) := by have := conRead_bulk ys (toks_bound ys).1; rw [hcp] at this; unfold Hid; exact Nat.le_trans this (by omega)
      have hfit := conRead_fits ys
      rw [hcp, ← hny] at hfit
      try dsimp only at hfit
      clear hra hba hny hcp
      go_wp2_with fail
      refine (implConRead_any ga 0 ny ca ys wa HRa.out hga).mono ?_
      rintro e wb hA
      rw [HCP.out] at hA
      obtain ⟨vy, Ly, rfl, hOy, hbb⟩ := hA
      obtain ⟨ky, nay, nny, ncy, ray, rny, rcy, kay, kny, kcy, rfl⟩ := ownC_shape hOy
      obtain ⟨Wb, HWb⟩ : ∃ W, Hid (W = wb.alloc (.cells #[.int .i64 ky, .slice nay nny ncy, .slice ray rny rcy, .slice kay kny kcy] 35)) := ⟨_, rfl⟩
      have hbwb : Below wb.heap.size wb Wb := by rw [HWb.out]; exact (Below.refl _ _).alloc (Nat.le_refl _) _
      have HYb : Hid (BoxC Wb wb.heap.size (.int .i64 ky) (.slice nay nny ncy) (.slice ray rny rcy) (.slice kay kny kcy)) := by unfold Hid; rw [HWb.out]; exact BoxC.new wb _ _ _ _
      have HRy : Hid (RdC wa.heap.size wb.heap.size Wb 6 (.agg #[.int .i64 ky, .slice nay nny ncy, .slice ray rny rcy, .slice kay kny kcy]) cy) := hOy.rd.below hbwb (Nat.le_refl _)
      have Hb : Hid (Below w.heap.size w Wb) := (Ha.out.trans (hbb.mono Ha.out.size)).trans (hbwb.mono (Nat.le_trans Ha.out.size hbb.size))
      have hsb : wb.heap.size < Wb.heap.size := HYb.out.lt
      clear hOy hbb hbwb
      try dsimp only
      rcases hfit with ⟨hp, hoky⟩ | ⟨hp0, hp1, _⟩
      · subst hp
        have HOy : Hid (conOk cy = true) := hoky
        have HTy : Hid (∀ x ∈ textC cy, 0 ≤ x ∧ x ≤ 255) := textC_byte HRy.out
        have HT1y : Hid (1 ≤ (textC cy).length) := text_some (wfC_of_ok hoky)
        clear hoky
        obtain ⟨y0, y1, y2, y3⟩ := HYb.out.cells
        go_wp2_with fail
        try rw [← HWb.out]
        refine (textI_ok HRy.out (Nat.le_of_lt hsb) HBy.out HOy.out).mono ?_
        rintro e wc ⟨uc, rfl, hOc, hbc⟩
        obtain ⟨gc, cc, rfl, _, hgc, hrc⟩ := own_some hOc (not_nil hOc HT1y.out) HTy.out
        have HRc : Hid (Rd 0 wc.heap.size wc (some ⟨gc, 0, none⟩) (textC cy).length cc (textC cy)) := hrc.mono (Nat.zero_le _) (Nat.le_refl _)
        have Hc : Hid (Below w.heap.size w wc) := Hb.out.trans (hbc.mono Hb.out.size)
        have HYc : Hid (BoxC wc wb.heap.size (.int .i64 ky) (.slice nay nny ncy) (.slice ray rny rcy) (.slice kay kny kcy)) := HYb.out.below hbc HYb.out.lt
        have HRyc : Hid (RdC wa.heap.size wb.heap.size wc 6 (.agg #[.int .i64 ky, .slice nay nny ncy, .slice ray rny rcy, .slice kay kny kcy]) cy) := HRy.out.below hbc (Nat.le_of_lt hsb)
        obtain ⟨nt, hnt⟩ : ∃ nt, nt = (textC cy).length := ⟨_, rfl⟩
        rw [← hnt] at HRc ⊢
        clear hOc hbc hrc hnt y0 y1 y2 y3
        go_wp2_with fail
        refine (implConRead_any gc 0 nt cc (textC cy) wc HRc.out hgc).mono ?_
        rintro e wd hA
        rw [conRead_text cy HOy.out] at hA
        obtain ⟨vz, Lz, rfl, hOz, hbd⟩ := hA
        obtain ⟨kz, naz, nnz, ncz, raz, rnz, rcz, kaz, knz, kcz, rfl⟩ := ownC_shape hOz
        obtain ⟨Wd, HWd⟩ : ∃ W, Hid (W = wd.alloc (.cells #[.int .i64 kz, .slice naz nnz ncz, .slice raz rnz rcz, .slice kaz knz kcz] 35)) := ⟨_, rfl⟩
        have hbwd : Below wd.heap.size wd Wd := by rw [HWd.out]; exact (Below.refl _ _).alloc (Nat.le_refl _) _
        have HZd : Hid (BoxC Wd wd.heap.size (.int .i64 kz) (.slice naz nnz ncz) (.slice raz rnz rcz) (.slice kaz knz kcz)) := by unfold Hid; rw [HWd.out]; exact BoxC.new wd _ _ _ _
        have HYd : Hid (BoxC Wd wb.heap.size (.int .i64 ky) (.slice nay nny ncy) (.slice ray rny rcy) (.slice kay kny kcy)) := (HYc.out.below hbd HYc.out.lt).below hbwd (Nat.lt_of_lt_of_le HYc.out.lt hbd.size)
        have HRz : Hid (RdC wc.heap.size wd.heap.size Wd 6 (.agg #[.int .i64 kz, .slice naz nnz ncz, .slice raz rnz rcz, .slice kaz knz kcz]) cy) := hOz.rd.below hbwd (Nat.le_refl _)
        have HRyd : Hid (RdC wa.heap.size wb.heap.size Wd 6 (.agg #[.int .i64 ky, .slice nay nny ncy, .slice ray rny rcy, .slice kay kny kcy]) cy) := (HRyc.out.below hbd (Nat.le_of_lt HYc.out.lt)).below hbwd (Nat.le_trans (Nat.le_of_lt HYc.out.lt) hbd.size)
        have Hd : Hid (Below w.heap.size w Wd) := (Hc.out.trans (hbd.mono Hc.out.size)).trans (hbwd.mono (Nat.le_trans Hc.out.size hbd.size))
        clear hOz hbd hbwd
        obtain ⟨y0, y1, y2, y3⟩ := HYd.out.cells
        obtain ⟨x0, x1, x2, x3⟩ := HZd.out.cells
        try dsimp only
        go_upto_region 14 with fail
        rw [← HWd.out]
        go_wp2_with fail
        refine (sameCon_any HRyd.out HRz.out (Nat.le_of_lt HYd.out.lt) (Nat.le_of_lt HZd.out.lt) HBy.out HOy.out).mono ?_
        rintro e we ⟨rfl, hbe⟩
        have He : Hid (Below w.heap.size w we) := Hd.out.trans (hbe.mono Hd.out.size)
        clear hbe y0 y1 y2 y3 x0 x1 x2 x3
        go_wp2_with fail
        refine (words_any we).mono ?_
        rintro e wf ⟨rfl, hbf⟩
        have Hf : Hid (Below w.heap.size w wf) := He.out.trans (hbf.mono He.out.size)
        clear hbf
        go_wp2
        go_ret
        exact ⟨rfl, Hf.out⟩
      · go_wp2_with fail
        try rw [← HWb.out]
        refine (words_any Wb).mono ?_
        rintro e wf ⟨rfl, hbf⟩
        have Hf : Hid (Below w.heap.size w wf) := Hb.out.trans (hbf.mono Hb.out.size)
        clear hbf
        go_wp2
        go_ret
        exact ⟨rfl, Hf.out⟩

end Go.Proofs.Ythojlfcahhjfaaa
