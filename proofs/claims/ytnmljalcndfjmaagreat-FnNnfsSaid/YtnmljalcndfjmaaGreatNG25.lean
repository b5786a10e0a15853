/- Several texts in one: HoldN, ExtW0. -/
import Derived.Test.YtnmljalcndfjmaaGreatNG13
import Derived.Test.YtnmljalcndfjmaaGreatHoldH
import Derived.Test.YtnmljalcndfjmaaGreatNG11
import Derived.Test.YtnmljalcndfjmaaGreatNG6
import Derived.Test.YtnmljalcndfjmaaGreatNG4
import Derived.Test.YtnmljalcndfjmaaGreatNG12
import Derived.Test.YtnmljalcndfjmaaGreatDrawWd0
namespace Go.Proofs.YtnmljalcndfjmaaGreat

section
open Go.RowKit Go.Deep
set_option linter.unusedVariables false

def holdsB (x : WD) (c : CN) (z : Int) : Bool := worldB x && (conOk c && (hasB x.n z && holdC x x.n.toNat c z.toNat))

set_option maxRecDepth 100000 in
set_option maxHeartbeats 8000000 in
theorem implHolds_any {na : Option Addr} {nn nc : Nat} {sa : Option Addr} {sn sc : Nat} {ra : Option Addr} {rn rc : Nat} {la : Option Addr} {ln lc : Nat} {ia : Option Addr} {im ic : Nat} {ta : Option Addr} {tn tc : Nat} {x : WD} {d : Nat} {v : Value} {c : CN} {w : World} {lo hi lo' hi' : Nat} {nx z : Int} (h : RdW lo hi w na nn nc sa sn sc ra rn rc la ln lc ia im ic ta tn tc x) (hc : RdC lo' hi' w d v c) (hn : x.n = nx) (hhi : hi ≤ w.heap.size) (hhi' : hi' ≤ w.heap.size) (hbk : c.bulk ≤ 1048576) :
    Calls Tryz.prog 14 #[.agg #[.int .i64 nx, .slice na nn nc, .slice sa sn sc, .slice ra rn rc, .slice la ln lc, .slice ia im ic, .slice ta tn tc], v, .int .i64 z] w fun r w' => r = .returned (.bool (holdsB x c z)) ∧ Below w.heap.size w w' := by
  obtain ⟨k, cna, cnn, cnc, cra, crn, crc, cka, ckn, ckc, rfl⟩ := hc.shape
  obtain ⟨W0, hW0⟩ : ∃ W0, W0 = (w.alloc (.cells #[.int .i64 nx, .slice na nn nc, .slice sa sn sc, .slice ra rn rc, .slice la ln lc, .slice ia im ic, .slice ta tn tc] 27)).alloc (.cells #[.int .i64 k, .slice cna cnn cnc, .slice cra crn crc, .slice cka ckn ckc] 30) := ⟨_, rfl⟩
  have HW0 : Hid (W0 = (w.alloc (.cells #[.int .i64 nx, .slice na nn nc, .slice sa sn sc, .slice ra rn rc, .slice la ln lc, .slice ia im ic, .slice ta tn tc] 27)).alloc (.cells #[.int .i64 k, .slice cna cnn cnc, .slice cra crn crc, .slice cka ckn ckc] 30)) := hW0
  have hs0 : W0.heap.size = w.heap.size + 2 := by rw [hW0]; simp
  have hb0 : Below w.heap.size w W0 := by rw [hW0]; exact ((Below.refl _ _).alloc (Nat.le_refl _) _).alloc (by simp) _
  have hbx : BoxW 27 W0 w.heap.size nx (.slice na nn nc) (.slice sa sn sc) (.slice ra rn rc) (.slice la ln lc) (.slice ia im ic) (.slice ta tn tc) := by rw [hW0]; exact (BoxW.new _ w _ _ _ _ _ _ _).below ((Below.refl _ _).alloc (Nat.le_refl _) _) (by simp)
  have hby : BoxC W0 (w.heap.size + 1) (.int .i64 k) (.slice cna cnn cnc) (.slice cra crn crc) (.slice cka ckn ckc) := by
    rw [hW0]
    have := BoxC.new (w.alloc (.cells #[.int .i64 nx, .slice na nn nc, .slice sa sn sc, .slice ra rn rc, .slice la ln lc, .slice ia im ic, .slice ta tn tc] 27)) (.int .i64 k) (.slice cna cnn cnc) (.slice cra crn crc) (.slice cka ckn ckc)
    rwa [World.size_alloc] at this
  have HB0 : Hid (Below w.heap.size w W0) := hb0
  have HBd : Hid (∀ {V : World}, Below W0.heap.size W0 V → Below w.heap.size w V) := fun {V} hV => hb0.trans (hV.mono (by omega))
  have HRd : Hid (∀ V, Below W0.heap.size W0 V → RdW lo hi V na nn nc sa sn sc ra rn rc la ln lc ia im ic ta tn tc x ∧ hi ≤ V.heap.size ∧ RdC lo' hi' V d (.agg #[.int .i64 k, .slice cna cnn cnc, .slice cra crn crc, .slice cka ckn ckc]) c ∧ hi' ≤ V.heap.size) := fun V hV => ⟨(h.below hb0 hhi).below hV (by omega), by have := hV.size; omega, (hc.below hb0 hhi').below hV (by omega), by have := hV.size; omega⟩
  have HCl : Hid (∀ V, Below W0.heap.size W0 V → (V.cell? ⟨w.heap.size, 0, none⟩ = some (.int .i64 nx) ∧ V.cell? ⟨w.heap.size, 1, none⟩ = some (.slice na nn nc) ∧ V.cell? ⟨w.heap.size, 2, none⟩ = some (.slice sa sn sc) ∧ V.cell? ⟨w.heap.size, 3, none⟩ = some (.slice ra rn rc) ∧ V.cell? ⟨w.heap.size, 4, none⟩ = some (.slice la ln lc) ∧ V.cell? ⟨w.heap.size, 5, none⟩ = some (.slice ia im ic) ∧ V.cell? ⟨w.heap.size, 6, none⟩ = some (.slice ta tn tc)) ∧ (V.cell? ⟨w.heap.size + 1, 0, none⟩ = some (.int .i64 k) ∧ V.cell? ⟨w.heap.size + 1, 1, none⟩ = some (.slice cna cnn cnc) ∧ V.cell? ⟨w.heap.size + 1, 2, none⟩ = some (.slice cra crn crc) ∧ V.cell? ⟨w.heap.size + 1, 3, none⟩ = some (.slice cka ckn ckc))) := fun V hV => ⟨(hbx.below hV (by omega)).cells, (hby.below hV (by omega)).cells⟩
  have HN : Hid (x.n = nx) := hn
  obtain ⟨⟨z0, z1, z2, z3, z4, z5, z6⟩, y0, y1, y2, y3⟩ := HCl.out W0 (Below.refl _ _)
  have HBk : Hid (c.bulk ≤ 1048576) := hbk
  clear h hc hn hb0 hbx hW0 hbk
  go_enter Tryz.func14, Tryz.ntmps14
  go_upto_region 1 with fail
  rw [← HW0.out]
  go_wp2_with fail
  refine (sceneOf_any (HRd.out _ (Below.refl _ _)).1 HN.out (HRd.out _ (Below.refl _ _)).2.1).mono ?_
  rintro e wA ⟨rfl, hA⟩
  have HwA : Hid (Below W0.heap.size W0 wA) := hA
  have hsA := hA.size
  have hl1 : w.heap.size + 1 < wA.heap.size := by omega
  clear hA hs0
  clear z0 z1 z2 z3 z4 z5 z6 y0 y1 y2 y3
  obtain ⟨⟨z0, z1, z2, z3, z4, z5, z6⟩, y0, y1, y2, y3⟩ := HCl.out wA HwA.out
  cases hok : worldB x
  · have HG : Hid (holdsB x c z = false) := by unfold Hid holdsB; rw [hok]; rfl
    rw [show ∀ u v, whichV false u v = v from fun _ _ => rfl]
    obtain ⟨U, hU⟩ : ∃ U, U = wA.alloc (.cells #[.int .i64 0, .slice none 0 0, .slice none 0 0, .int .i64 0, .slice none 0 0, .slice none 0 0, .slice none 0 0, .slice none 0 0, .slice none 0 0, .slice none 0 0] 74) := ⟨_, rfl⟩
    have HU : Hid (U = wA.alloc (.cells #[.int .i64 0, .slice none 0 0, .slice none 0 0, .int .i64 0, .slice none 0 0, .slice none 0 0, .slice none 0 0, .slice none 0 0, .slice none 0 0, .slice none 0 0] 74)) := hU
    have HB1 : Hid (Below w.heap.size w U.drew) := by unfold Hid; rw [hU]; exact (HBd.out (HwA.out.alloc HwA.out.size _)).drew
    clear hok hU
    go_upto_region 2 with fail
    rw [← HU.out]
    first | go_region | fail
    all_goals
      go_wp2_with fail
      go_ret
      exact ⟨rb HG.out.symm, HB1.out⟩
  · rw [show ∀ u v, whichV true u v = u from fun _ _ => rfl]
    obtain ⟨U, hU⟩ : ∃ U, U = wA.alloc (.cells #[.int .i64 nx, .slice ia im ic, .slice ta tn tc, .int .i64 nx, .slice na nn nc, .slice sa sn sc, .slice ra rn rc, .slice la ln lc, .slice ia im ic, .slice ta tn tc] 74) := ⟨_, rfl⟩
    have HU : Hid (U = wA.alloc (.cells #[.int .i64 nx, .slice ia im ic, .slice ta tn tc, .int .i64 nx, .slice na nn nc, .slice sa sn sc, .slice ra rn rc, .slice la ln lc, .slice ia im ic, .slice ta tn tc] 74)) := hU
    have hbs : BoxS U wA.heap.size (.int .i64 nx) (.slice ia im ic) (.slice ta tn tc) (.int .i64 nx) (.slice na nn nc) (.slice sa sn sc) (.slice ra rn rc) (.slice la ln lc) (.slice ia im ic) (.slice ta tn tc) := by rw [hU]; exact BoxS.new wA _ _ _ _ _ _ _ _ _ _
    have HwU : Hid (Below W0.heap.size W0 U) := by unfold Hid; rw [hU]; exact HwA.out.alloc HwA.out.size _
    have HBU : Hid (∀ {V : World}, Below U.heap.size U V → Below w.heap.size w V) := fun {V} hV => HBd.out (HwU.out.trans (hV.mono HwU.out.size))
    have HSc : Hid (∀ V, Below U.heap.size U V → (V.cell? ⟨wA.heap.size, 0, none⟩ = some (.int .i64 nx) ∧ V.cell? ⟨wA.heap.size, 1, none⟩ = some (.slice ia im ic) ∧ V.cell? ⟨wA.heap.size, 2, none⟩ = some (.slice ta tn tc) ∧ V.cell? ⟨wA.heap.size, 3, none⟩ = some (.int .i64 nx) ∧ V.cell? ⟨wA.heap.size, 4, none⟩ = some (.slice na nn nc) ∧ V.cell? ⟨wA.heap.size, 5, none⟩ = some (.slice sa sn sc) ∧ V.cell? ⟨wA.heap.size, 6, none⟩ = some (.slice ra rn rc) ∧ V.cell? ⟨wA.heap.size, 7, none⟩ = some (.slice la ln lc) ∧ V.cell? ⟨wA.heap.size, 8, none⟩ = some (.slice ia im ic) ∧ V.cell? ⟨wA.heap.size, 9, none⟩ = some (.slice ta tn tc)) ∧ (V.cell? ⟨w.heap.size + 1, 0, none⟩ = some (.int .i64 k) ∧ V.cell? ⟨w.heap.size + 1, 1, none⟩ = some (.slice cna cnn cnc) ∧ V.cell? ⟨w.heap.size + 1, 2, none⟩ = some (.slice cra crn crc) ∧ V.cell? ⟨w.heap.size + 1, 3, none⟩ = some (.slice cka ckn ckc))) := fun V hV => ⟨(hbs.below hV hbs.lt).cells, (HCl.out V (HwU.out.trans (hV.mono HwU.out.size))).2⟩
    have HRU : Hid (∀ V, Below U.heap.size U V → RdW lo hi V na nn nc sa sn sc ra rn rc la ln lc ia im ic ta tn tc x ∧ hi ≤ V.heap.size ∧ RdC lo' hi' V d (.agg #[.int .i64 k, .slice cna cnn cnc, .slice cra crn crc, .slice cka ckn ckc]) c ∧ hi' ≤ V.heap.size) := fun V hV => HRd.out V (HwU.out.trans (hV.mono HwU.out.size))
    have HZU : Hid (Below U.heap.size U U.drew) := (Below.refl _ _).drew
    have HOk : Hid (worldB x = true) := hok
    clear z0 z1 z2 z3 z4 z5 z6 y0 y1 y2 y3
    obtain ⟨⟨m0, m1, m2, m3, m4, m5, m6, m7, m8, m9⟩, y0, y1, y2, y3⟩ := HSc.out U (Below.refl _ _)
    clear hU hbs
    cases hck : conOk c
    · have HG : Hid (holdsB x c z = false) := by unfold Hid holdsB; rw [hok, hck]; rfl
      clear hok
      go_upto_region 2 with fail
      rw [← HU.out]
      first | go_region_with (go_at_call 32; refine (implConOk_any (HRU.out _ HZU.out).2.2.1 (HRU.out _ HZU.out).2.2.2 HBk.out).mono ?_; rintro e wB ⟨rfl, hq⟩; rw [hck]; have HwB : Hid (Below U.heap.size U wB) := HZU.out.trans (hq.mono HZU.out.size); clear hq; clear m0 m1 m2 m3 m4 m5 m6 m7 m8 m9 y0 y1 y2 y3; obtain ⟨⟨m0, m1, m2, m3, m4, m5, m6, m7, m8, m9⟩, y0, y1, y2, y3⟩ := HSc.out _ HwB.out; go_wp2_with fail; (refine wpAny_take (i := 4) (v := (.bool false)) rfl (by kernel_rfl) (by kernel_rfl) (by kernel_rfl) (fun _ _ _ h => h) (Or.inl ⟨by rfl, fun w => by first | rfl | go_simp⟩) ?_; try simp only [List.getElem_toArray, List.getElem_cons_succ, List.getElem_cons_zero, Act.put, List.setIfInBounds_toArray, List.set_cons_zero, List.set_cons_succ]); (refine wpAny_take (i := 5) (v := (.bool false)) rfl (by kernel_rfl) (by kernel_rfl) (by kernel_rfl) (fun _ _ _ h => h) (Or.inl ⟨by rfl, fun w => by first | rfl | go_simp⟩) ?_; try simp only [List.getElem_toArray, List.getElem_cons_succ, List.getElem_cons_zero, Act.put, List.setIfInBounds_toArray, List.set_cons_zero, List.set_cons_succ]); (refine wpAny_take (i := 6) (v := undef) rfl (by kernel_rfl) (by kernel_rfl) (by kernel_rfl) (fun _ _ _ h => h) (Or.inr ⟨by rfl, rfl⟩) ?_; try simp only [List.getElem_toArray, List.getElem_cons_succ, List.getElem_cons_zero, Act.put, List.setIfInBounds_toArray, List.set_cons_zero, List.set_cons_succ]); (refine wpAny_take (i := 7) (v := undef) rfl (by kernel_rfl) (by kernel_rfl) (by kernel_rfl) (fun _ _ _ h => h) (Or.inr ⟨by rfl, rfl⟩) ?_; try simp only [List.getElem_toArray, List.getElem_cons_succ, List.getElem_cons_zero, Act.put, List.setIfInBounds_toArray, List.set_cons_zero, List.set_cons_succ]); (refine wpAny_take (i := 8) (v := undef) rfl (by kernel_rfl) (by kernel_rfl) (by kernel_rfl) (fun _ _ _ h => h) (Or.inr ⟨by rfl, rfl⟩) ?_; try simp only [List.getElem_toArray, List.getElem_cons_succ, List.getElem_cons_zero, Act.put, List.setIfInBounds_toArray, List.set_cons_zero, List.set_cons_succ]); (refine wpAny_all (rs := [9]) (by kernel_rfl) (by simp) ?_; intro jop hjop; (have hkop := List.mem_singleton.1 hjop); subst hkop; clear hjop; refine Yields.wpOp (v := undef) rfl (Or.inr ⟨by rfl, rfl⟩) ?_; try simp only [List.getElem_toArray, List.getElem_cons_succ, List.getElem_cons_zero, Act.put, List.setIfInBounds_toArray, List.set_cons_zero, List.set_cons_succ]); (refine wpAny_take (i := 10) (v := (.bool false)) rfl (by kernel_rfl) (by kernel_rfl) (by kernel_rfl) (fun _ _ _ h => h) (Or.inl ⟨by rfl, fun w => by first | rfl | go_simp⟩) ?_; try simp only [List.getElem_toArray, List.getElem_cons_succ, List.getElem_cons_zero, Act.put, List.setIfInBounds_toArray, List.set_cons_zero, List.set_cons_succ]); (refine wpAny_take (i := 11) (v := (.bool false)) rfl (by kernel_rfl) (by kernel_rfl) (by kernel_rfl) (fun _ _ _ h => h) (Or.inl ⟨by rfl, fun w => by first | rfl | go_simp⟩) ?_; try simp only [List.getElem_toArray, List.getElem_cons_succ, List.getElem_cons_zero, Act.put, List.setIfInBounds_toArray, List.set_cons_zero, List.set_cons_succ]); (refine wpAny_take (i := 12) (v := undef) rfl (by kernel_rfl) (by kernel_rfl) (by kernel_rfl) (fun _ _ _ h => h) (Or.inr ⟨by rfl, rfl⟩) ?_; try simp only [List.getElem_toArray, List.getElem_cons_succ, List.getElem_cons_zero, Act.put, List.setIfInBounds_toArray, List.set_cons_zero, List.set_cons_succ]); (refine wpAny_take (i := 13) (v := undef) rfl (by kernel_rfl) (by kernel_rfl) (by kernel_rfl) (fun _ _ _ h => h) (Or.inr ⟨by rfl, rfl⟩) ?_; try simp only [List.getElem_toArray, List.getElem_cons_succ, List.getElem_cons_zero, Act.put, List.setIfInBounds_toArray, List.set_cons_zero, List.set_cons_succ]); (refine wpAny_take (i := 16) (v := undef) rfl (by kernel_rfl) (by kernel_rfl) (by kernel_rfl) (fun _ _ _ h => h) (Or.inr ⟨by rfl, rfl⟩) ?_; try simp only [List.getElem_toArray, List.getElem_cons_succ, List.getElem_cons_zero, Act.put, List.setIfInBounds_toArray, List.set_cons_zero, List.set_cons_succ]); (refine wpAny_all (rs := [14]) (by kernel_rfl) (by simp) ?_; intro jop hjop; (have hkop := List.mem_singleton.1 hjop); subst hkop; clear hjop; refine Yields.wpOp (v := undef) rfl (Or.inr ⟨by rfl, rfl⟩) ?_; try simp only [List.getElem_toArray, List.getElem_cons_succ, List.getElem_cons_zero, Act.put, List.setIfInBounds_toArray, List.set_cons_zero, List.set_cons_succ]); (refine wpAny_all (rs := [15]) (by kernel_rfl) (by simp) ?_; intro jop hjop; (have hkop := List.mem_singleton.1 hjop); subst hkop; clear hjop; refine Yields.wpOp (v := undef) rfl (Or.inr ⟨by rfl, rfl⟩) ?_; try simp only [List.getElem_toArray, List.getElem_cons_succ, List.getElem_cons_zero, Act.put, List.setIfInBounds_toArray, List.set_cons_zero, List.set_cons_succ]); (refine wpAny_take (i := 17) (v := undef) rfl (by kernel_rfl) (by kernel_rfl) (by kernel_rfl) (fun _ _ _ h => h) (Or.inr ⟨by rfl, rfl⟩) ?_; try simp only [List.getElem_toArray, List.getElem_cons_succ, List.getElem_cons_zero, Act.put, List.setIfInBounds_toArray, List.set_cons_zero, List.set_cons_succ]); (refine wpAny_take (i := 18) (v := undef) rfl (by kernel_rfl) (by kernel_rfl) (by kernel_rfl) (fun _ _ _ h => h) (Or.inr ⟨by rfl, rfl⟩) ?_; try simp only [List.getElem_toArray, List.getElem_cons_succ, List.getElem_cons_zero, Act.put, List.setIfInBounds_toArray, List.set_cons_zero, List.set_cons_succ])) | fail
      all_goals
        go_wp2_with fail
        go_ret
        exact ⟨rb HG.out.symm, HBU.out HwB.out⟩
    cases hha : hasB nx z
    · have HG : Hid (holdsB x c z = false) := by unfold Hid holdsB; rw [hok, hck, HN.out, hha]; rfl
      clear hok
      go_upto_region 2 with fail
      rw [← HU.out]
      first | go_region_with (first | (go_at_call 32; refine (implConOk_any (HRU.out _ HZU.out).2.2.1 (HRU.out _ HZU.out).2.2.2 HBk.out).mono ?_; rintro e wB ⟨rfl, hq⟩; rw [hck]; have HwB : Hid (Below U.heap.size U wB) := HZU.out.trans (hq.mono HZU.out.size); clear hq; clear m0 m1 m2 m3 m4 m5 m6 m7 m8 m9 y0 y1 y2 y3; obtain ⟨⟨m0, m1, m2, m3, m4, m5, m6, m7, m8, m9⟩, y0, y1, y2, y3⟩ := HSc.out _ HwB.out) | (go_at_call 42; refine (has_any _ _ wB).mono ?_; rintro e wC ⟨rfl, hq⟩; rw [hha]; have HwC : Hid (Below U.heap.size U wC) := HwB.out.trans (hq.mono HwB.out.size); clear hq; clear m0 m1 m2 m3 m4 m5 m6 m7 m8 m9 y0 y1 y2 y3; obtain ⟨⟨m0, m1, m2, m3, m4, m5, m6, m7, m8, m9⟩, y0, y1, y2, y3⟩ := HSc.out _ HwC.out; go_wp2_with fail; (refine wpAny_take (i := 10) (v := (.bool false)) rfl (by kernel_rfl) (by kernel_rfl) (by kernel_rfl) (fun _ _ _ h => h) (Or.inl ⟨by rfl, fun w => by first | rfl | go_simp⟩) ?_; try simp only [List.getElem_toArray, List.getElem_cons_succ, List.getElem_cons_zero, Act.put, List.setIfInBounds_toArray, List.set_cons_zero, List.set_cons_succ]); (refine wpAny_take (i := 11) (v := (.bool false)) rfl (by kernel_rfl) (by kernel_rfl) (by kernel_rfl) (fun _ _ _ h => h) (Or.inl ⟨by rfl, fun w => by first | rfl | go_simp⟩) ?_; try simp only [List.getElem_toArray, List.getElem_cons_succ, List.getElem_cons_zero, Act.put, List.setIfInBounds_toArray, List.set_cons_zero, List.set_cons_succ]); (refine wpAny_take (i := 12) (v := undef) rfl (by kernel_rfl) (by kernel_rfl) (by kernel_rfl) (fun _ _ _ h => h) (Or.inr ⟨by rfl, rfl⟩) ?_; try simp only [List.getElem_toArray, List.getElem_cons_succ, List.getElem_cons_zero, Act.put, List.setIfInBounds_toArray, List.set_cons_zero, List.set_cons_succ]); (refine wpAny_take (i := 13) (v := undef) rfl (by kernel_rfl) (by kernel_rfl) (by kernel_rfl) (fun _ _ _ h => h) (Or.inr ⟨by rfl, rfl⟩) ?_; try simp only [List.getElem_toArray, List.getElem_cons_succ, List.getElem_cons_zero, Act.put, List.setIfInBounds_toArray, List.set_cons_zero, List.set_cons_succ]); (refine wpAny_take (i := 16) (v := undef) rfl (by kernel_rfl) (by kernel_rfl) (by kernel_rfl) (fun _ _ _ h => h) (Or.inr ⟨by rfl, rfl⟩) ?_; try simp only [List.getElem_toArray, List.getElem_cons_succ, List.getElem_cons_zero, Act.put, List.setIfInBounds_toArray, List.set_cons_zero, List.set_cons_succ]); (refine wpAny_all (rs := [14]) (by kernel_rfl) (by simp) ?_; intro jop hjop; (have hkop := List.mem_singleton.1 hjop); subst hkop; clear hjop; refine Yields.wpOp (v := undef) rfl (Or.inr ⟨by rfl, rfl⟩) ?_; try simp only [List.getElem_toArray, List.getElem_cons_succ, List.getElem_cons_zero, Act.put, List.setIfInBounds_toArray, List.set_cons_zero, List.set_cons_succ]); (refine wpAny_all (rs := [15]) (by kernel_rfl) (by simp) ?_; intro jop hjop; (have hkop := List.mem_singleton.1 hjop); subst hkop; clear hjop; refine Yields.wpOp (v := undef) rfl (Or.inr ⟨by rfl, rfl⟩) ?_; try simp only [List.getElem_toArray, List.getElem_cons_succ, List.getElem_cons_zero, Act.put, List.setIfInBounds_toArray, List.set_cons_zero, List.set_cons_succ]); (refine wpAny_take (i := 17) (v := undef) rfl (by kernel_rfl) (by kernel_rfl) (by kernel_rfl) (fun _ _ _ h => h) (Or.inr ⟨by rfl, rfl⟩) ?_; try simp only [List.getElem_toArray, List.getElem_cons_succ, List.getElem_cons_zero, Act.put, List.setIfInBounds_toArray, List.set_cons_zero, List.set_cons_succ]); (refine wpAny_take (i := 18) (v := undef) rfl (by kernel_rfl) (by kernel_rfl) (by kernel_rfl) (fun _ _ _ h => h) (Or.inr ⟨by rfl, rfl⟩) ?_; try simp only [List.getElem_toArray, List.getElem_cons_succ, List.getElem_cons_zero, Act.put, List.setIfInBounds_toArray, List.set_cons_zero, List.set_cons_succ]))) | fail
      all_goals
        go_wp2_with fail
        go_ret
        exact ⟨rb HG.out.symm, HBU.out HwC.out⟩
    · have hz := hha
      unfold hasB at hz
      rw [decide_eq_true_eq] at hz
      obtain ⟨q, HQ⟩ : ∃ q : Nat, Hid (z = (q : Int)) := ⟨z.toNat, by unfold Hid; omega⟩
      obtain ⟨L, HLn⟩ : ∃ L : Nat, Hid (nx = (L : Int)) := ⟨nx.toNat, by unfold Hid; omega⟩
      have hql : q < L := by have h1 := HQ.out; have h2 := HLn.out; omega
      have hzq : z = (q : Int) := HQ.out
      have hnl : nx = (L : Int) := HLn.out
      subst hzq
      subst hnl
      have hL128 : 1 ≤ L ∧ L ≤ 128 := by have h1 := ((worldB_iff x).1 hok).1.1; rw [HN.out] at h1; omega
      have HG : Hid (holdsB x c (q : Int) = holdC x L c q) := by unfold Hid holdsB; rw [hok, hck, HN.out, hha]; simp
      have HWf : Hid (wfC c = true) := wfC_of_ok hck
      have hqi : (q : Int) < (L : Int) := by omega
      clear hz HQ HLn hok
      go_upto_region 2 with fail
      rw [← HU.out]
      first | go_region_with (first | (go_at_call 32; refine (implConOk_any (HRU.out _ HZU.out).2.2.1 (HRU.out _ HZU.out).2.2.2 HBk.out).mono ?_; rintro e wB ⟨rfl, hq⟩; rw [hck]; have HwB : Hid (Below U.heap.size U wB) := HZU.out.trans (hq.mono HZU.out.size); clear hq; clear m0 m1 m2 m3 m4 m5 m6 m7 m8 m9 y0 y1 y2 y3; obtain ⟨⟨m0, m1, m2, m3, m4, m5, m6, m7, m8, m9⟩, y0, y1, y2, y3⟩ := HSc.out _ HwB.out) | (go_at_call 42; refine (has_any _ _ wB).mono ?_; rintro e wC ⟨rfl, hq⟩; rw [hha]; have HwC : Hid (Below U.heap.size U wC) := HwB.out.trans (hq.mono HwB.out.size); clear hq; clear m0 m1 m2 m3 m4 m5 m6 m7 m8 m9 y0 y1 y2 y3; obtain ⟨⟨m0, m1, m2, m3, m4, m5, m6, m7, m8, m9⟩, y0, y1, y2, y3⟩ := HSc.out _ HwC.out) | (go_at_call 44; refine (claimOf_any d _ c wC lo' hi' (HRU.out wC HwC.out).2.2.1 (HRU.out wC HwC.out).2.2.2 HWf.out).mono ?_; rintro e wD ⟨vq, rfl, hq, hbD⟩; obtain ⟨qt, qz, rfl⟩ := hq.iface; have HQD : Hid (RdQ (fun b => b < wD.heap.size) lo' hi' wD d (.iface qt qz) c) := hq.keep (fun b hb => ⟨hb.2, rfl⟩) (fun _ _ _ => rfl); have HwD : Hid (Below U.heap.size U wD) := HwC.out.trans (hbD.mono HwC.out.size); clear hq hbD; clear m0 m1 m2 m3 m4 m5 m6 m7 m8 m9 y0 y1 y2 y3; obtain ⟨⟨m0, m1, m2, m3, m4, m5, m6, m7, m8, m9⟩, y0, y1, y2, y3⟩ := HSc.out _ HwD.out) | (go_at_call 43; refine (hqP_any HOk.out HN.out hL128 d _ c wD wD.heap.size lo' hi' HQD.out (Nat.le_refl _) (HRU.out wD HwD.out).2.2.2 (HRU.out wD HwD.out).1 (HRU.out wD HwD.out).2.1 HWf.out).mono ?_; rintro e wE ⟨fb, fo, fc, rfl, hfc, hfl, hbE⟩; have HwE : Hid (Below U.heap.size U wE) := HwD.out.trans (hbE.mono HwD.out.size); have f0 := hfl.2 q hql; have hcc := hfc.1; clear hfc hfl hbE; clear m0 m1 m2 m3 m4 m5 m6 m7 m8 m9 y0 y1 y2 y3; obtain ⟨⟨m0, m1, m2, m3, m4, m5, m6, m7, m8, m9⟩, y0, y1, y2, y3⟩ := HSc.out _ HwE.out)) | fail
      all_goals
        go_wp2_with fail
        go_ret
        exact ⟨rb HG.out.symm, HBU.out HwE.out⟩
end

section
open Go.RowKit

theorem worldB_n {x : WD} (h : worldB x = true) : 1 ≤ x.n ∧ x.n ≤ 128 := by
  unfold worldB at h
  simp only [Bool.and_eq_true, decide_eq_true_eq] at h
  exact h.1.1
theorem holdsB_at {x : WD} {c : CN} {N e : Nat} (hw : worldB x = true) (hc : conOk c = true) (hN : x.n = (N : Int)) (he : e < N) : holdsB x c (e : Int) = holdC x N c e := by
  unfold holdsB hasB
  rw [hw, hc, hN]
  have : decide ((0 : Int) ≤ (e : Int) ∧ (e : Int) < (N : Int)) = true := decide_eq_true (by omega)
  rw [this]
  simp
end

end Go.Proofs.YtnmljalcndfjmaaGreat
