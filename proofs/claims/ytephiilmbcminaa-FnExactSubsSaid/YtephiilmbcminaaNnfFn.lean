/- Nnf and Opposite, the model's and the program's: a contract each. -/
import Derived.Test.YtephiilmbcminaaConPush
import Derived.Test.YtephiilmbcminaaConOwnS
import Derived.Test.YtephiilmbcminaaConSpec2
import Derived.Test.YtephiilmbcminaaConOkImpl
import Derived.Test.YtephiilmbcminaaConTo
namespace Go.Proofs.Ytephiilmbcminaa
open Go.RowKit

/-- What is answered. -/
def ansC (no : Bool) (c : CN) : CN := if conOk c = true then nnfC no c else CN.zero

theorem ansC_bulk (no : Bool) (c : CN) : (ansC no c).bulk ≤ 1000 := by
  unfold ansC
  split
  · rename_i h; exact nnf_bulk_of_ok h no
  · simp [CN.zero, CN.bulk, bulks]

theorem OwnC.zero (base : Nat) (w : World) (d : Nat) : OwnC base w (d + 1) (.agg #[.int .i64 0, .slice none 0 0, .slice none 0 0, .slice none 0 0]) CN.zero [] :=
  ⟨⟨none, 0, 0, none, 0, 0, none, 0, 0, 0, 0, 0, 0, 0, 0, fun _ => [], rfl, ⟨rfl, by simp, by simp [CN.zero, CN.name], .inl rfl⟩, ⟨rfl, by simp, by simp [CN.zero, CN.role], .inl rfl⟩, ⟨rfl, by simp, .inl rfl⟩, rfl⟩, by simp, fun x hx => by simp at hx, fun x hx => by simp at hx⟩

set_option maxRecDepth 100000 in
set_option maxHeartbeats 2000000 in
theorem specNnf_any {d : Nat} {v : Value} {c : CN} {w : World} {lo hi : Nat} (h : RdC lo hi w d v c) (hhi : hi ≤ w.heap.size) (hbk : c.bulk ≤ 1048576) :
    Calls Try.prog 23 #[v] w fun e w' => ∃ v', e = .returned (.tuple #[v', .bool (conOk c)]) ∧ RdC w.heap.size w'.heap.size w' (d + 1) v' (ansC false c) ∧ Below w.heap.size w w' := by
  have HRd : Hid (RdC lo hi w d v c) := h
  obtain ⟨k, na, nn, nc, ra, rn, rc, ka, kn, kc, rfl⟩ := h.shape
  obtain ⟨W0, hW0⟩ : ∃ W0, W0 = (w.alloc (.cells #[.int .i64 k, .slice na nn nc, .slice ra rn rc, .slice ka kn kc] 30)).alloc (.cells #[.int .i64 0, .slice none 0 0, .slice none 0 0, .slice none 0 0] 30) := ⟨_, rfl⟩
  have HW0 : Hid (W0 = (w.alloc (.cells #[.int .i64 k, .slice na nn nc, .slice ra rn rc, .slice ka kn kc] 30)).alloc (.cells #[.int .i64 0, .slice none 0 0, .slice none 0 0, .slice none 0 0] 30)) := hW0
  have hs0 : W0.heap.size = w.heap.size + 2 := by rw [hW0]; simp
  have HS0 : Hid (W0.heap.size = w.heap.size + 2) := hs0
  have hb0 : Below w.heap.size w W0 := by rw [hW0]; exact ((Below.refl _ _).alloc (Nat.le_refl _) _).alloc (by simp) _
  have HB0 : Hid (Below w.heap.size w W0) := hb0
  have HBx : Hid (BoxC W0 w.heap.size (.int .i64 k) (.slice na nn nc) (.slice ra rn rc) (.slice ka kn kc)) := by unfold Hid; rw [hW0]; exact (BoxC.new w _ _ _ _).below ((Below.refl _ _).alloc (Nat.le_refl _) _) (by simp)
  have HBr : Hid (BoxC W0 (w.heap.size + 1) (.int .i64 0) (.slice none 0 0) (.slice none 0 0) (.slice none 0 0)) := by
    unfold Hid
    rw [hW0]
    have := BoxC.new (w.alloc (.cells #[.int .i64 k, .slice na nn nc, .slice ra rn rc, .slice ka kn kc] 30)) (.int .i64 0) (.slice none 0 0) (.slice none 0 0) (.slice none 0 0)
    rwa [World.size_alloc] at this
  have HR0 : Hid (RdC lo hi W0 d (.agg #[.int .i64 k, .slice na nn nc, .slice ra rn rc, .slice ka kn kc]) c) := HRd.out.below hb0 hhi
  have hh0 : hi ≤ W0.heap.size := Nat.le_trans hhi hb0.size
  have hl0 : w.heap.size < W0.heap.size := by omega
  have HBk : Hid (c.bulk ≤ 1048576) := hbk
  obtain ⟨b0, b1, b2, b3⟩ := HBx.out.cells
  clear h hb0 hW0 hs0
  go_enter Try.func23, Try.ntmps23
  go_upto_region 1 with fail
  rw [← HW0.out]
  go_wp2_with fail
  refine (specConOk_any HR0.out hh0).mono ?_
  rintro e w1 ⟨rfl, hb1⟩
  have H01 : Hid (Below W0.heap.size W0 w1) := hb1
  have HB1 : Hid (Below w.heap.size w w1) := HB0.out.trans (hb1.mono HB0.out.size)
  have hbr1 := HBr.out.below hb1 (by have := HS0.out; omega)
  obtain ⟨q0, q1, q2, q3⟩ := (HBx.out.below hb1 hl0).cells
  clear hb1 b0 b1 b2 b3
  cases hok : conOk c
  · have HE : Hid (ansC false c = CN.zero) := by unfold Hid ansC; rw [hok]; rfl
    have hset : Below w.heap.size w ((((w1.setCell ⟨w.heap.size + 1, 0, none⟩ (.int .i64 0)).setCell ⟨w.heap.size + 1, 1, none⟩ (.slice none 0 0)).setCell ⟨w.heap.size + 1, 2, none⟩ (.slice none 0 0)).setCell ⟨w.heap.size + 1, 3, none⟩ (.slice none 0 0)) := (((HB1.out.setCell (by show w.heap.size ≤ w.heap.size + 1; omega) _).setCell (by show w.heap.size ≤ w.heap.size + 1; omega) _).setCell (by show w.heap.size ≤ w.heap.size + 1; omega) _).setCell (by show w.heap.size ≤ w.heap.size + 1; omega) _
    have HSet : Hid (Below w.heap.size w ((((w1.setCell ⟨w.heap.size + 1, 0, none⟩ (.int .i64 0)).setCell ⟨w.heap.size + 1, 1, none⟩ (.slice none 0 0)).setCell ⟨w.heap.size + 1, 2, none⟩ (.slice none 0 0)).setCell ⟨w.heap.size + 1, 3, none⟩ (.slice none 0 0))) := hset
    obtain ⟨r0, r1, r2, r3⟩ := hbr1.cells
    have f0 := hbr1.frz 0
    have f1 := hbr1.frz 1
    have f2 := hbr1.frz 2
    have f3 := hbr1.frz 3
    obtain ⟨s0, s1, s2, s3⟩ := (hbr1.set4 (.int .i64 0) (.slice none 0 0) (.slice none 0 0) (.slice none 0 0)).cells
    clear hbr1 hset
    go_wp2_with fail
    refine bodyPost_ret (v := .tuple #[.agg #[.int .i64 0, .slice none 0 0, .slice none 0 0, .slice none 0 0], .bool false]) (by simp [results, Try.results23, go_sem, s0, s1, s2, s3]) rfl ?_
    exact ⟨_, by rw [hok], by rw [HE.out]; exact (OwnC.zero w.heap.size _ d).rd, HSet.out⟩
  · have HE : Hid (ansC false c = nnfC false c) := by unfold Hid ansC; rw [hok]; rfl
    have HWf : Hid (wfC c = true) := wfC_of_ok hok
    clear hbr1
    go_wp2_with fail
    refine (nfP_any d _ c false w1 lo hi (HRd.out.below HB1.out hhi) (Nat.le_trans hhi HB1.out.size) HBk.out HWf.out).mono ?_
    rintro e w2 ⟨v2, L2, rfl, hO2, hl2, hb2⟩
    obtain ⟨yna, ynn, ync, yra, yrn, yrc, yka, ykn, ykc, rfl⟩ := hO2.agg
    obtain ⟨yk, hyk⟩ : ∃ yk, yk = (nnfC false c).kind := ⟨_, rfl⟩
    rw [← hyk] at hO2
    rw [← hyk]
    have HO2 : Hid (RdC 0 w2.heap.size w2 (d + 1) (.agg #[.int .i64 yk, .slice yna ynn ync, .slice yra yrn yrc, .slice yka ykn ykc]) (nnfC false c)) := hO2.rd (fun x hx => ⟨Nat.zero_le _, (hl2 x hx).2⟩)
    have HB2 : Hid (Below W0.heap.size W0 w2) := H01.out.trans (hb2.mono H01.out.size)
    have HNb : Hid ((nnfC false c).bulk ≤ 1048576) := by have := nnf_bulk_of_ok hok false; unfold Hid; omega
    clear hO2 hl2 hb2 hyk q0 q1 q2 q3
    go_wp2_with fail
    refine (owP_any (d + 1) _ (nnfC false c) w2 0 w2.heap.size HO2.out (Nat.le_refl _) HNb.out).mono ?_
    rintro e w5 ⟨v5, L5, rfl, hO5, hl5, hb5⟩
    obtain ⟨zna, znn, znc, zra, zrn, zrc, zka, zkn, zkc, rfl⟩ := hO5.agg
    obtain ⟨zk, hzk⟩ : ∃ zk, zk = (nnfC false c).kind := ⟨_, rfl⟩
    rw [← hzk] at hO5
    rw [← hzk]
    have HB5 : Hid (Below W0.heap.size W0 w5) := HB2.out.trans (hb5.mono HB2.out.size)
    have s2 := HB2.out.size
    have HO5 : Hid (OwC w5 (d + 1) (.agg #[.int .i64 zk, .slice zna znn znc, .slice zra zrn zrc, .slice zka zkn zkc]) (ansC false c) L5 ∧ ∀ x ∈ L5, (x.1.block < 0 ∨ W0.heap.size ≤ x.1.block) ∧ x.1.block < w5.heap.size ∧ x.1.block ≠ w.heap.size + 1) := by
      refine ⟨by rw [HE.out]; exact hO5, fun x hx => ?_⟩
      have h1 := hl5 x hx
      have h2 := HS0.out
      omega
    have hbr5 := HBr.out.below HB5.out (by have := HS0.out; omega)
    obtain ⟨r0, r1, r2, r3⟩ := hbr5.cells
    have f0 := hbr5.frz 0
    have f1 := hbr5.frz 1
    have f2 := hbr5.frz 2
    have f3 := hbr5.frz 3
    obtain ⟨s0, s1, s2, s3⟩ := (hbr5.set4 (.int .i64 zk) (.slice zna znn znc) (.slice zra zrn zrc) (.slice zka zkn zkc)).cells
    clear hO5 hb5 hzk hbr5 hl5
    go_wp2_with fail
    refine bodyPost_ret (v := .tuple #[.agg #[.int .i64 zk, .slice zna znn znc, .slice zra zrn zrc, .slice zka zkn zkc], .bool true]) (by simp [results, Try.results23, go_sem, s0, s1, s2, s3]) rfl ?_
    obtain ⟨L', h1, h2, h3, h4⟩ : ∃ L', OwC ((((w5.setCell ⟨w.heap.size + 1, 0, none⟩ (.int .i64 zk)).setCell ⟨w.heap.size + 1, 1, none⟩ (.slice zna znn znc)).setCell ⟨w.heap.size + 1, 2, none⟩ (.slice zra zrn zrc)).setCell ⟨w.heap.size + 1, 3, none⟩ (.slice zka zkn zkc)) (d + 1) (.agg #[.int .i64 zk, .slice zna znn znc, .slice zra zrn zrc, .slice zka zkn zkc]) (ansC false c) L' ∧ (∀ x ∈ L', (x.1.block < 0 ∨ w.heap.size ≤ x.1.block) ∧ x.1.block < ((((w5.setCell ⟨w.heap.size + 1, 0, none⟩ (.int .i64 zk)).setCell ⟨w.heap.size + 1, 1, none⟩ (.slice zna znn znc)).setCell ⟨w.heap.size + 1, 2, none⟩ (.slice zra zrn zrc)).setCell ⟨w.heap.size + 1, 3, none⟩ (.slice zka zkn zkc)).heap.size) ∧ Below w.heap.size w ((((w5.setCell ⟨w.heap.size + 1, 0, none⟩ (.int .i64 zk)).setCell ⟨w.heap.size + 1, 1, none⟩ (.slice zna znn znc)).setCell ⟨w.heap.size + 1, 2, none⟩ (.slice zra zrn zrc)).setCell ⟨w.heap.size + 1, 3, none⟩ (.slice zka zkn zkc)) ∧ True := by
      obtain ⟨v', L', e1, e2, e3, e4⟩ := fin_postS (hi := 0) (w := w) HO5.out.1 (fun x hx => by have := HO5.out.2 x hx; have := HS0.out; omega) (HB0.out.trans (HB5.out.mono HB0.out.size))
      simp only [Ending.returned.injEq] at e1
      subst e1
      exact ⟨L', e2, e3, e4, trivial⟩
    exact ⟨_, by rw [hok], h1.rd (fun x hx => by have := h2 x hx; omega), h3⟩

set_option maxRecDepth 100000 in
set_option maxHeartbeats 2000000 in
theorem implNnf_any {d : Nat} {v : Value} {c : CN} {w : World} {lo hi : Nat} (h : RdC lo hi w d v c) (hhi : hi ≤ w.heap.size) (hbk : c.bulk ≤ 1048576) :
    Calls Try.prog 24 #[v] w fun e w' => ∃ v' L, e = .returned (.tuple #[v', .bool (conOk c)]) ∧ OwnC w.heap.size w' (d + 1) v' (ansC false c) L ∧ Below w.heap.size w w' := by
  have HRd : Hid (RdC lo hi w d v c) := h
  obtain ⟨k, na, nn, nc, ra, rn, rc, ka, kn, kc, rfl⟩ := h.shape
  obtain ⟨W0, hW0⟩ : ∃ W0, W0 = (w.alloc (.cells #[.int .i64 k, .slice na nn nc, .slice ra rn rc, .slice ka kn kc] 30)).alloc (.cells #[.int .i64 0, .slice none 0 0, .slice none 0 0, .slice none 0 0] 30) := ⟨_, rfl⟩
  have HW0 : Hid (W0 = (w.alloc (.cells #[.int .i64 k, .slice na nn nc, .slice ra rn rc, .slice ka kn kc] 30)).alloc (.cells #[.int .i64 0, .slice none 0 0, .slice none 0 0, .slice none 0 0] 30)) := hW0
  have hs0 : W0.heap.size = w.heap.size + 2 := by rw [hW0]; simp
  have HS0 : Hid (W0.heap.size = w.heap.size + 2) := hs0
  have hb0 : Below w.heap.size w W0 := by rw [hW0]; exact ((Below.refl _ _).alloc (Nat.le_refl _) _).alloc (by simp) _
  have HB0 : Hid (Below w.heap.size w W0) := hb0
  have HBx : Hid (BoxC W0 w.heap.size (.int .i64 k) (.slice na nn nc) (.slice ra rn rc) (.slice ka kn kc)) := by unfold Hid; rw [hW0]; exact (BoxC.new w _ _ _ _).below ((Below.refl _ _).alloc (Nat.le_refl _) _) (by simp)
  have HBr : Hid (BoxC W0 (w.heap.size + 1) (.int .i64 0) (.slice none 0 0) (.slice none 0 0) (.slice none 0 0)) := by
    unfold Hid
    rw [hW0]
    have := BoxC.new (w.alloc (.cells #[.int .i64 k, .slice na nn nc, .slice ra rn rc, .slice ka kn kc] 30)) (.int .i64 0) (.slice none 0 0) (.slice none 0 0) (.slice none 0 0)
    rwa [World.size_alloc] at this
  have HR0 : Hid (RdC lo hi W0 d (.agg #[.int .i64 k, .slice na nn nc, .slice ra rn rc, .slice ka kn kc]) c) := HRd.out.below hb0 hhi
  have hh0 : hi ≤ W0.heap.size := Nat.le_trans hhi hb0.size
  have hl0 : w.heap.size < W0.heap.size := by omega
  have HBk : Hid (c.bulk ≤ 1048576) := hbk
  obtain ⟨b0, b1, b2, b3⟩ := HBx.out.cells
  clear h hb0 hW0 hs0
  go_enter Try.func24, Try.ntmps24
  go_upto_region 1 with fail
  rw [← HW0.out]
  go_wp2_with fail
  refine (implConOk_any HR0.out hh0 hbk).mono ?_
  rintro e w1 ⟨rfl, hb1⟩
  have H01 : Hid (Below W0.heap.size W0 w1) := hb1
  have HB1 : Hid (Below w.heap.size w w1) := HB0.out.trans (hb1.mono HB0.out.size)
  have hbr1 := HBr.out.below hb1 (by have := HS0.out; omega)
  obtain ⟨q0, q1, q2, q3⟩ := (HBx.out.below hb1 hl0).cells
  clear hb1 b0 b1 b2 b3
  cases hok : conOk c
  · have HE : Hid (ansC false c = CN.zero) := by unfold Hid ansC; rw [hok]; rfl
    have hset : Below w.heap.size w ((((w1.setCell ⟨w.heap.size + 1, 0, none⟩ (.int .i64 0)).setCell ⟨w.heap.size + 1, 1, none⟩ (.slice none 0 0)).setCell ⟨w.heap.size + 1, 2, none⟩ (.slice none 0 0)).setCell ⟨w.heap.size + 1, 3, none⟩ (.slice none 0 0)) := (((HB1.out.setCell (by show w.heap.size ≤ w.heap.size + 1; omega) _).setCell (by show w.heap.size ≤ w.heap.size + 1; omega) _).setCell (by show w.heap.size ≤ w.heap.size + 1; omega) _).setCell (by show w.heap.size ≤ w.heap.size + 1; omega) _
    have HSet : Hid (Below w.heap.size w ((((w1.setCell ⟨w.heap.size + 1, 0, none⟩ (.int .i64 0)).setCell ⟨w.heap.size + 1, 1, none⟩ (.slice none 0 0)).setCell ⟨w.heap.size + 1, 2, none⟩ (.slice none 0 0)).setCell ⟨w.heap.size + 1, 3, none⟩ (.slice none 0 0))) := hset
    obtain ⟨r0, r1, r2, r3⟩ := hbr1.cells
    have f0 := hbr1.frz 0
    have f1 := hbr1.frz 1
    have f2 := hbr1.frz 2
    have f3 := hbr1.frz 3
    obtain ⟨s0, s1, s2, s3⟩ := (hbr1.set4 (.int .i64 0) (.slice none 0 0) (.slice none 0 0) (.slice none 0 0)).cells
    clear hbr1 hset
    go_wp2_with fail
    refine bodyPost_ret (v := .tuple #[.agg #[.int .i64 0, .slice none 0 0, .slice none 0 0, .slice none 0 0], .bool false]) (by simp [results, Try.results24, go_sem, s0, s1, s2, s3]) rfl ?_
    exact ⟨_, [], by rw [hok], by rw [HE.out]; exact OwnC.zero _ _ d, HSet.out⟩
  · have HE : Hid (ansC false c = nnfC false c) := by unfold Hid ansC; rw [hok]; rfl
    have HWf : Hid (wfC c = true) := wfC_of_ok hok
    clear hbr1
    go_wp2_with fail
    refine (pnP_any d _ c false w1 lo hi (HRd.out.below HB1.out hhi) (Nat.le_trans hhi HB1.out.size) HBk.out HWf.out).mono ?_
    rintro e w5 ⟨v5, L5, rfl, hO5, hb5⟩
    obtain ⟨zna, znn, znc, zra, zrn, zrc, zka, zkn, zkc, rfl⟩ := hO5.ow.agg
    obtain ⟨zk, hzk⟩ : ∃ zk, zk = (nnfC false c).kind := ⟨_, rfl⟩
    rw [← hzk] at hO5
    rw [← hzk]
    have HB5 : Hid (Below W0.heap.size W0 w5) := H01.out.trans (hb5.mono H01.out.size)
    have HO5 : Hid (OwnC W0.heap.size w5 (d + 1) (.agg #[.int .i64 zk, .slice zna znn znc, .slice zra zrn zrc, .slice zka zkn zkc]) (ansC false c) L5) := by unfold Hid; rw [HE.out]; exact hO5.mono H01.out.size
    have hbr5 := HBr.out.below HB5.out (by have := HS0.out; omega)
    obtain ⟨r0, r1, r2, r3⟩ := hbr5.cells
    have f0 := hbr5.frz 0
    have f1 := hbr5.frz 1
    have f2 := hbr5.frz 2
    have f3 := hbr5.frz 3
    obtain ⟨s0, s1, s2, s3⟩ := (hbr5.set4 (.int .i64 zk) (.slice zna znn znc) (.slice zra zrn zrc) (.slice zka zkn zkc)).cells
    clear hO5 hb5 hzk hbr5
    go_wp2_with fail
    refine bodyPost_ret (v := .tuple #[.agg #[.int .i64 zk, .slice zna znn znc, .slice zra zrn zrc, .slice zka zkn zkc], .bool true]) (by simp [results, Try.results24, go_sem, s0, s1, s2, s3]) rfl ?_
    obtain ⟨v', L', e1, e2, e3⟩ := fin_post HO5.out HS0.out HB0.out HB5.out _ rfl
    simp only [Ending.returned.injEq] at e1
    subst e1
    exact ⟨_, L', by rw [hok], e2, e3⟩

set_option maxRecDepth 100000 in
set_option maxHeartbeats 2000000 in
theorem specOpposite_any {d : Nat} {v : Value} {c : CN} {w : World} {lo hi : Nat} (h : RdC lo hi w d v c) (hhi : hi ≤ w.heap.size) (hbk : c.bulk ≤ 1048576) :
    Calls Try.prog 26 #[v] w fun e w' => ∃ v', e = .returned (.tuple #[v', .bool (conOk c)]) ∧ RdC w.heap.size w'.heap.size w' (d + 1) v' (ansC true c) ∧ Below w.heap.size w w' := by
  have HRd : Hid (RdC lo hi w d v c) := h
  obtain ⟨k, na, nn, nc, ra, rn, rc, ka, kn, kc, rfl⟩ := h.shape
  obtain ⟨W0, hW0⟩ : ∃ W0, W0 = (w.alloc (.cells #[.int .i64 k, .slice na nn nc, .slice ra rn rc, .slice ka kn kc] 30)).alloc (.cells #[.int .i64 0, .slice none 0 0, .slice none 0 0, .slice none 0 0] 30) := ⟨_, rfl⟩
  have HW0 : Hid (W0 = (w.alloc (.cells #[.int .i64 k, .slice na nn nc, .slice ra rn rc, .slice ka kn kc] 30)).alloc (.cells #[.int .i64 0, .slice none 0 0, .slice none 0 0, .slice none 0 0] 30)) := hW0
  have hs0 : W0.heap.size = w.heap.size + 2 := by rw [hW0]; simp
  have HS0 : Hid (W0.heap.size = w.heap.size + 2) := hs0
  have hb0 : Below w.heap.size w W0 := by rw [hW0]; exact ((Below.refl _ _).alloc (Nat.le_refl _) _).alloc (by simp) _
  have HB0 : Hid (Below w.heap.size w W0) := hb0
  have HBx : Hid (BoxC W0 w.heap.size (.int .i64 k) (.slice na nn nc) (.slice ra rn rc) (.slice ka kn kc)) := by unfold Hid; rw [hW0]; exact (BoxC.new w _ _ _ _).below ((Below.refl _ _).alloc (Nat.le_refl _) _) (by simp)
  have HBr : Hid (BoxC W0 (w.heap.size + 1) (.int .i64 0) (.slice none 0 0) (.slice none 0 0) (.slice none 0 0)) := by
    unfold Hid
    rw [hW0]
    have := BoxC.new (w.alloc (.cells #[.int .i64 k, .slice na nn nc, .slice ra rn rc, .slice ka kn kc] 30)) (.int .i64 0) (.slice none 0 0) (.slice none 0 0) (.slice none 0 0)
    rwa [World.size_alloc] at this
  have HR0 : Hid (RdC lo hi W0 d (.agg #[.int .i64 k, .slice na nn nc, .slice ra rn rc, .slice ka kn kc]) c) := HRd.out.below hb0 hhi
  have hh0 : hi ≤ W0.heap.size := Nat.le_trans hhi hb0.size
  have hl0 : w.heap.size < W0.heap.size := by omega
  have HBk : Hid (c.bulk ≤ 1048576) := hbk
  obtain ⟨b0, b1, b2, b3⟩ := HBx.out.cells
  clear h hb0 hW0 hs0
  go_enter Try.func26, Try.ntmps26
  go_upto_region 1 with fail
  rw [← HW0.out]
  go_wp2_with fail
  refine (specConOk_any HR0.out hh0).mono ?_
  rintro e w1 ⟨rfl, hb1⟩
  have H01 : Hid (Below W0.heap.size W0 w1) := hb1
  have HB1 : Hid (Below w.heap.size w w1) := HB0.out.trans (hb1.mono HB0.out.size)
  have hbr1 := HBr.out.below hb1 (by have := HS0.out; omega)
  obtain ⟨q0, q1, q2, q3⟩ := (HBx.out.below hb1 hl0).cells
  clear hb1 b0 b1 b2 b3
  cases hok : conOk c
  · have HE : Hid (ansC true c = CN.zero) := by unfold Hid ansC; rw [hok]; rfl
    have hset : Below w.heap.size w ((((w1.setCell ⟨w.heap.size + 1, 0, none⟩ (.int .i64 0)).setCell ⟨w.heap.size + 1, 1, none⟩ (.slice none 0 0)).setCell ⟨w.heap.size + 1, 2, none⟩ (.slice none 0 0)).setCell ⟨w.heap.size + 1, 3, none⟩ (.slice none 0 0)) := (((HB1.out.setCell (by show w.heap.size ≤ w.heap.size + 1; omega) _).setCell (by show w.heap.size ≤ w.heap.size + 1; omega) _).setCell (by show w.heap.size ≤ w.heap.size + 1; omega) _).setCell (by show w.heap.size ≤ w.heap.size + 1; omega) _
    have HSet : Hid (Below w.heap.size w ((((w1.setCell ⟨w.heap.size + 1, 0, none⟩ (.int .i64 0)).setCell ⟨w.heap.size + 1, 1, none⟩ (.slice none 0 0)).setCell ⟨w.heap.size + 1, 2, none⟩ (.slice none 0 0)).setCell ⟨w.heap.size + 1, 3, none⟩ (.slice none 0 0))) := hset
    obtain ⟨r0, r1, r2, r3⟩ := hbr1.cells
    have f0 := hbr1.frz 0
    have f1 := hbr1.frz 1
    have f2 := hbr1.frz 2
    have f3 := hbr1.frz 3
    obtain ⟨s0, s1, s2, s3⟩ := (hbr1.set4 (.int .i64 0) (.slice none 0 0) (.slice none 0 0) (.slice none 0 0)).cells
    clear hbr1 hset
    go_wp2_with fail
    refine bodyPost_ret (v := .tuple #[.agg #[.int .i64 0, .slice none 0 0, .slice none 0 0, .slice none 0 0], .bool false]) (by simp [results, Try.results26, go_sem, s0, s1, s2, s3]) rfl ?_
    exact ⟨_, by rw [hok], by rw [HE.out]; exact (OwnC.zero w.heap.size _ d).rd, HSet.out⟩
  · have HE : Hid (ansC true c = nnfC true c) := by unfold Hid ansC; rw [hok]; rfl
    have HWf : Hid (wfC c = true) := wfC_of_ok hok
    clear hbr1
    go_wp2_with fail
    refine (nfP_any d _ c true w1 lo hi (HRd.out.below HB1.out hhi) (Nat.le_trans hhi HB1.out.size) HBk.out HWf.out).mono ?_
    rintro e w2 ⟨v2, L2, rfl, hO2, hl2, hb2⟩
    obtain ⟨yna, ynn, ync, yra, yrn, yrc, yka, ykn, ykc, rfl⟩ := hO2.agg
    obtain ⟨yk, hyk⟩ : ∃ yk, yk = (nnfC true c).kind := ⟨_, rfl⟩
    rw [← hyk] at hO2
    rw [← hyk]
    have HO2 : Hid (RdC 0 w2.heap.size w2 (d + 1) (.agg #[.int .i64 yk, .slice yna ynn ync, .slice yra yrn yrc, .slice yka ykn ykc]) (nnfC true c)) := hO2.rd (fun x hx => ⟨Nat.zero_le _, (hl2 x hx).2⟩)
    have HB2 : Hid (Below W0.heap.size W0 w2) := H01.out.trans (hb2.mono H01.out.size)
    have HNb : Hid ((nnfC true c).bulk ≤ 1048576) := by have := nnf_bulk_of_ok hok true; unfold Hid; omega
    clear hO2 hl2 hb2 hyk q0 q1 q2 q3
    go_wp2_with fail
    refine (owP_any (d + 1) _ (nnfC true c) w2 0 w2.heap.size HO2.out (Nat.le_refl _) HNb.out).mono ?_
    rintro e w5 ⟨v5, L5, rfl, hO5, hl5, hb5⟩
    obtain ⟨zna, znn, znc, zra, zrn, zrc, zka, zkn, zkc, rfl⟩ := hO5.agg
    obtain ⟨zk, hzk⟩ : ∃ zk, zk = (nnfC true c).kind := ⟨_, rfl⟩
    rw [← hzk] at hO5
    rw [← hzk]
    have HB5 : Hid (Below W0.heap.size W0 w5) := HB2.out.trans (hb5.mono HB2.out.size)
    have s2 := HB2.out.size
    have HO5 : Hid (OwC w5 (d + 1) (.agg #[.int .i64 zk, .slice zna znn znc, .slice zra zrn zrc, .slice zka zkn zkc]) (ansC true c) L5 ∧ ∀ x ∈ L5, (x.1.block < 0 ∨ W0.heap.size ≤ x.1.block) ∧ x.1.block < w5.heap.size ∧ x.1.block ≠ w.heap.size + 1) := by
      refine ⟨by rw [HE.out]; exact hO5, fun x hx => ?_⟩
      have h1 := hl5 x hx
      have h2 := HS0.out
      omega
    have hbr5 := HBr.out.below HB5.out (by have := HS0.out; omega)
    obtain ⟨r0, r1, r2, r3⟩ := hbr5.cells
    have f0 := hbr5.frz 0
    have f1 := hbr5.frz 1
    have f2 := hbr5.frz 2
    have f3 := hbr5.frz 3
    obtain ⟨s0, s1, s2, s3⟩ := (hbr5.set4 (.int .i64 zk) (.slice zna znn znc) (.slice zra zrn zrc) (.slice zka zkn zkc)).cells
    clear hO5 hb5 hzk hbr5 hl5
    go_wp2_with fail
    refine bodyPost_ret (v := .tuple #[.agg #[.int .i64 zk, .slice zna znn znc, .slice zra zrn zrc, .slice zka zkn zkc], .bool true]) (by simp [results, Try.results26, go_sem, s0, s1, s2, s3]) rfl ?_
    obtain ⟨L', h1, h2, h3, h4⟩ : ∃ L', OwC ((((w5.setCell ⟨w.heap.size + 1, 0, none⟩ (.int .i64 zk)).setCell ⟨w.heap.size + 1, 1, none⟩ (.slice zna znn znc)).setCell ⟨w.heap.size + 1, 2, none⟩ (.slice zra zrn zrc)).setCell ⟨w.heap.size + 1, 3, none⟩ (.slice zka zkn zkc)) (d + 1) (.agg #[.int .i64 zk, .slice zna znn znc, .slice zra zrn zrc, .slice zka zkn zkc]) (ansC true c) L' ∧ (∀ x ∈ L', (x.1.block < 0 ∨ w.heap.size ≤ x.1.block) ∧ x.1.block < ((((w5.setCell ⟨w.heap.size + 1, 0, none⟩ (.int .i64 zk)).setCell ⟨w.heap.size + 1, 1, none⟩ (.slice zna znn znc)).setCell ⟨w.heap.size + 1, 2, none⟩ (.slice zra zrn zrc)).setCell ⟨w.heap.size + 1, 3, none⟩ (.slice zka zkn zkc)).heap.size) ∧ Below w.heap.size w ((((w5.setCell ⟨w.heap.size + 1, 0, none⟩ (.int .i64 zk)).setCell ⟨w.heap.size + 1, 1, none⟩ (.slice zna znn znc)).setCell ⟨w.heap.size + 1, 2, none⟩ (.slice zra zrn zrc)).setCell ⟨w.heap.size + 1, 3, none⟩ (.slice zka zkn zkc)) ∧ True := by
      obtain ⟨v', L', e1, e2, e3, e4⟩ := fin_postS (hi := 0) (w := w) HO5.out.1 (fun x hx => by have := HO5.out.2 x hx; have := HS0.out; omega) (HB0.out.trans (HB5.out.mono HB0.out.size))
      simp only [Ending.returned.injEq] at e1
      subst e1
      exact ⟨L', e2, e3, e4, trivial⟩
    exact ⟨_, by rw [hok], h1.rd (fun x hx => by have := h2 x hx; omega), h3⟩

set_option maxRecDepth 100000 in
set_option maxHeartbeats 2000000 in
theorem implOpposite_any {d : Nat} {v : Value} {c : CN} {w : World} {lo hi : Nat} (h : RdC lo hi w d v c) (hhi : hi ≤ w.heap.size) (hbk : c.bulk ≤ 1048576) :
    Calls Try.prog 27 #[v] w fun e w' => ∃ v' L, e = .returned (.tuple #[v', .bool (conOk c)]) ∧ OwnC w.heap.size w' (d + 1) v' (ansC true c) L ∧ Below w.heap.size w w' := by
  have HRd : Hid (RdC lo hi w d v c) := h
  obtain ⟨k, na, nn, nc, ra, rn, rc, ka, kn, kc, rfl⟩ := h.shape
  obtain ⟨W0, hW0⟩ : ∃ W0, W0 = (w.alloc (.cells #[.int .i64 k, .slice na nn nc, .slice ra rn rc, .slice ka kn kc] 30)).alloc (.cells #[.int .i64 0, .slice none 0 0, .slice none 0 0, .slice none 0 0] 30) := ⟨_, rfl⟩
  have HW0 : Hid (W0 = (w.alloc (.cells #[.int .i64 k, .slice na nn nc, .slice ra rn rc, .slice ka kn kc] 30)).alloc (.cells #[.int .i64 0, .slice none 0 0, .slice none 0 0, .slice none 0 0] 30)) := hW0
  have hs0 : W0.heap.size = w.heap.size + 2 := by rw [hW0]; simp
  have HS0 : Hid (W0.heap.size = w.heap.size + 2) := hs0
  have hb0 : Below w.heap.size w W0 := by rw [hW0]; exact ((Below.refl _ _).alloc (Nat.le_refl _) _).alloc (by simp) _
  have HB0 : Hid (Below w.heap.size w W0) := hb0
  have HBx : Hid (BoxC W0 w.heap.size (.int .i64 k) (.slice na nn nc) (.slice ra rn rc) (.slice ka kn kc)) := by unfold Hid; rw [hW0]; exact (BoxC.new w _ _ _ _).below ((Below.refl _ _).alloc (Nat.le_refl _) _) (by simp)
  have HBr : Hid (BoxC W0 (w.heap.size + 1) (.int .i64 0) (.slice none 0 0) (.slice none 0 0) (.slice none 0 0)) := by
    unfold Hid
    rw [hW0]
    have := BoxC.new (w.alloc (.cells #[.int .i64 k, .slice na nn nc, .slice ra rn rc, .slice ka kn kc] 30)) (.int .i64 0) (.slice none 0 0) (.slice none 0 0) (.slice none 0 0)
    rwa [World.size_alloc] at this
  have HR0 : Hid (RdC lo hi W0 d (.agg #[.int .i64 k, .slice na nn nc, .slice ra rn rc, .slice ka kn kc]) c) := HRd.out.below hb0 hhi
  have hh0 : hi ≤ W0.heap.size := Nat.le_trans hhi hb0.size
  have hl0 : w.heap.size < W0.heap.size := by omega
  have HBk : Hid (c.bulk ≤ 1048576) := hbk
  obtain ⟨b0, b1, b2, b3⟩ := HBx.out.cells
  clear h hb0 hW0 hs0
  go_enter Try.func27, Try.ntmps27
  go_upto_region 1 with fail
  rw [← HW0.out]
  go_wp2_with fail
  refine (implConOk_any HR0.out hh0 hbk).mono ?_
  rintro e w1 ⟨rfl, hb1⟩
  have H01 : Hid (Below W0.heap.size W0 w1) := hb1
  have HB1 : Hid (Below w.heap.size w w1) := HB0.out.trans (hb1.mono HB0.out.size)
  have hbr1 := HBr.out.below hb1 (by have := HS0.out; omega)
  obtain ⟨q0, q1, q2, q3⟩ := (HBx.out.below hb1 hl0).cells
  clear hb1 b0 b1 b2 b3
  cases hok : conOk c
  · have HE : Hid (ansC true c = CN.zero) := by unfold Hid ansC; rw [hok]; rfl
    have hset : Below w.heap.size w ((((w1.setCell ⟨w.heap.size + 1, 0, none⟩ (.int .i64 0)).setCell ⟨w.heap.size + 1, 1, none⟩ (.slice none 0 0)).setCell ⟨w.heap.size + 1, 2, none⟩ (.slice none 0 0)).setCell ⟨w.heap.size + 1, 3, none⟩ (.slice none 0 0)) := (((HB1.out.setCell (by show w.heap.size ≤ w.heap.size + 1; omega) _).setCell (by show w.heap.size ≤ w.heap.size + 1; omega) _).setCell (by show w.heap.size ≤ w.heap.size + 1; omega) _).setCell (by show w.heap.size ≤ w.heap.size + 1; omega) _
    have HSet : Hid (Below w.heap.size w ((((w1.setCell ⟨w.heap.size + 1, 0, none⟩ (.int .i64 0)).setCell ⟨w.heap.size + 1, 1, none⟩ (.slice none 0 0)).setCell ⟨w.heap.size + 1, 2, none⟩ (.slice none 0 0)).setCell ⟨w.heap.size + 1, 3, none⟩ (.slice none 0 0))) := hset
    obtain ⟨r0, r1, r2, r3⟩ := hbr1.cells
    have f0 := hbr1.frz 0
    have f1 := hbr1.frz 1
    have f2 := hbr1.frz 2
    have f3 := hbr1.frz 3
    obtain ⟨s0, s1, s2, s3⟩ := (hbr1.set4 (.int .i64 0) (.slice none 0 0) (.slice none 0 0) (.slice none 0 0)).cells
    clear hbr1 hset
    go_wp2_with fail
    refine bodyPost_ret (v := .tuple #[.agg #[.int .i64 0, .slice none 0 0, .slice none 0 0, .slice none 0 0], .bool false]) (by simp [results, Try.results27, go_sem, s0, s1, s2, s3]) rfl ?_
    exact ⟨_, [], by rw [hok], by rw [HE.out]; exact OwnC.zero _ _ d, HSet.out⟩
  · have HE : Hid (ansC true c = nnfC true c) := by unfold Hid ansC; rw [hok]; rfl
    have HWf : Hid (wfC c = true) := wfC_of_ok hok
    clear hbr1
    go_wp2_with fail
    refine (pnP_any d _ c true w1 lo hi (HRd.out.below HB1.out hhi) (Nat.le_trans hhi HB1.out.size) HBk.out HWf.out).mono ?_
    rintro e w5 ⟨v5, L5, rfl, hO5, hb5⟩
    obtain ⟨zna, znn, znc, zra, zrn, zrc, zka, zkn, zkc, rfl⟩ := hO5.ow.agg
    obtain ⟨zk, hzk⟩ : ∃ zk, zk = (nnfC true c).kind := ⟨_, rfl⟩
    rw [← hzk] at hO5
    rw [← hzk]
    have HB5 : Hid (Below W0.heap.size W0 w5) := H01.out.trans (hb5.mono H01.out.size)
    have HO5 : Hid (OwnC W0.heap.size w5 (d + 1) (.agg #[.int .i64 zk, .slice zna znn znc, .slice zra zrn zrc, .slice zka zkn zkc]) (ansC true c) L5) := by unfold Hid; rw [HE.out]; exact hO5.mono H01.out.size
    have hbr5 := HBr.out.below HB5.out (by have := HS0.out; omega)
    obtain ⟨r0, r1, r2, r3⟩ := hbr5.cells
    have f0 := hbr5.frz 0
    have f1 := hbr5.frz 1
    have f2 := hbr5.frz 2
    have f3 := hbr5.frz 3
    obtain ⟨s0, s1, s2, s3⟩ := (hbr5.set4 (.int .i64 zk) (.slice zna znn znc) (.slice zra zrn zrc) (.slice zka zkn zkc)).cells
    clear hO5 hb5 hzk hbr5
    go_wp2_with fail
    refine bodyPost_ret (v := .tuple #[.agg #[.int .i64 zk, .slice zna znn znc, .slice zra zrn zrc, .slice zka zkn zkc], .bool true]) (by simp [results, Try.results27, go_sem, s0, s1, s2, s3]) rfl ?_
    obtain ⟨v', L', e1, e2, e3⟩ := fin_post HO5.out HS0.out HB0.out HB5.out _ rfl
    simp only [Ending.returned.injEq] at e1
    subst e1
    exact ⟨_, L', by rw [hok], e2, e3⟩

end Go.Proofs.Ytephiilmbcminaa
