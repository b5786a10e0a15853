/- Several texts in one: WdRel1, NnfFn, InSetA. -/
import Derived.Test.YtnmljalcndfjmaaGreatNG12
import Derived.Test.YtnmljalcndfjmaaGreatNG17
import Derived.Deep.RegionHeld3
import Derived.Test.YtnmljalcndfjmaaGreatConPush
import Derived.Test.YtnmljalcndfjmaaGreatNG13
import Derived.Test.YtnmljalcndfjmaaGreatNG6
import Derived.Test.YtnmljalcndfjmaaGreatNG11
import Derived.Test.YtnmljalcndfjmaaGreatNG1
namespace Go.Proofs.YtnmljalcndfjmaaGreat

section
open Go.RowKit

set_option maxRecDepth 100000 in
set_option maxHeartbeats 8000000 in
theorem related_any {na : Option Addr} {nn nc : Nat} {sa : Option Addr} {sn sc : Nat} {ra : Option Addr} {rn rc : Nat} {la : Option Addr} {ln lc : Nat} {ia : Option Addr} {im ic : Nat} {ta : Option Addr} {tn tc : Nat} {x : WD} {wa : Option Addr} {wn wc : Nat} {wd : List Int} {w : World} {lo hi lo' hi' : Nat} {L : Nat} (h : RdW lo hi w na nn nc sa sn sc ra rn rc la ln lc ia im ic ta tn tc x) (h' : Rd lo' hi' w wa wn wc wd) (hn : x.n = (L : Int)) (hhi : hi ≤ w.heap.size) (hhi' : hi' ≤ w.heap.size) (hok : worldB x = true) :
    Calls Tryz.prog 97 #[.agg #[.int .i64 (L : Int), .slice ia im ic, .slice ta tn tc, .int .i64 (L : Int), .slice na nn nc, .slice sa sn sc, .slice ra rn rc, .slice la ln lc, .slice ia im ic, .slice ta tn tc], .slice wa wn wc] w fun e w' => ∃ b2 o2 c, e = .returned (.slice (some ⟨b2, o2, none⟩) (L * L) c) ∧ ((L * L ≤ c ∧ c ≤ 9223372036854775807) ∧ (b2 < hi ∨ w.heap.size ≤ b2)) ∧ (∀ q, q < L * L → w'.cell? ⟨b2, o2 + q, none⟩ = some (.bool (flagO x.roles x.rels wd q))) ∧ Below w.heap.size w w' := by
  obtain ⟨W0, hW0⟩ : ∃ W0, W0 = w.alloc (.cells #[.int .i64 (L : Int), .slice ia im ic, .slice ta tn tc, .int .i64 (L : Int), .slice na nn nc, .slice sa sn sc, .slice ra rn rc, .slice la ln lc, .slice ia im ic, .slice ta tn tc] 74) := ⟨_, rfl⟩
  have HW0 : Hid (W0 = w.alloc (.cells #[.int .i64 (L : Int), .slice ia im ic, .slice ta tn tc, .int .i64 (L : Int), .slice na nn nc, .slice sa sn sc, .slice ra rn rc, .slice la ln lc, .slice ia im ic, .slice ta tn tc] 74)) := hW0
  have hb0 : Below w.heap.size w W0 := by rw [hW0]; exact (Below.refl _ _).alloc (Nat.le_refl _) _
  have HB0 : Hid (Below w.heap.size w W0) := hb0
  have HR : Hid (RdW lo hi W0 na nn nc sa sn sc ra rn rc la ln lc ia im ic ta tn tc x) := h.below hb0 hhi
  have HW : Hid (Rd lo' hi' W0 wa wn wc wd) := h'.below hb0 hhi'
  have HI : Hid _ := (worldB_iff x).1 hok
  have hL1 : 1 ≤ L ∧ L ≤ 128 := by have h1 := HI.out.1.1; rw [hn] at h1; omega
  obtain ⟨sq, hsq⟩ : ∃ sq, sq = L * L := ⟨_, rfl⟩
  have hmul : (L : Int) * (L : Int) = (sq : Int) := by rw [hsq]; simp
  have hsql : 1 ≤ sq ∧ sq ≤ 16384 := by
    rw [hsq]
    exact ⟨Nat.mul_le_mul hL1.1 hL1.1, Nat.le_trans (Nat.mul_le_mul hL1.2 hL1.2) (by decide)⟩
  rw [← hsq]
  have hln : ln = rn := by have h1 := HI.out.1.2.2.2.2.2.1; rw [h.rels.len, h.roles.len] at h1; exact h1
  subst hln
  have HLs : Hid (∀ i, i < ln → (x.rels.getD i []).length = sq) := fun i hi => by
    have h1 := flags_long HI.out.2.2.2.1 (i := i) (by rw [h.rels.len]; exact hi)
    rw [hn, hmul] at h1
    omega
  have HA : Hid (Asc x.roles) := asc_of HI.out.2.1.2.1
  have HN12 : Hid (ln ≤ 1048576) := by have h1 := HI.out.1.2.2.1; rw [h.roles.len] at h1; unfold Hid; omega
  have HSq : Hid (1 ≤ sq ∧ sq ≤ 16384) := hsql
  clear h h' hb0 hW0 hn hok hsq
  go_enter Tryz.func97, Tryz.ntmps97
  go_wp2_with fail
  rw [← HW0.out]
  refine (flagsOf_any ra ln rc x.roles la lc x.rels wa wn wc wd sq W0 HR.out.roles HR.out.rels HW.out HA.out HN12.out HLs.out HSq.out).mono ?_
  rintro e w5 ⟨b2, o2, c, rfl, hf, hc, hb5⟩
  have HC : Hid (∀ q, q < sq → w5.cell? ⟨b2, o2 + q, none⟩ = some (.bool (flagO x.roles x.rels wd q))) := hc
  have HB5 : Hid (Below w.heap.size w w5) := HB0.out.trans (hb5.mono HB0.out.size)
  clear hc hb5
  go_wp2_with fail
  go_ret
  exact ⟨b2, o2, c, rfl, ⟨hf.1, hf.2.imp id (fun h => Nat.le_trans HB0.out.size h)⟩, HC.out, HB5.out⟩

set_option maxRecDepth 100000 in
set_option maxHeartbeats 4000000 in
theorem row_any {na : Option Addr} {nn nc : Nat} {sa : Option Addr} {sn sc : Nat} {ra : Option Addr} {rn rc : Nat} {la : Option Addr} {ln lc : Nat} {ia : Option Addr} {im ic : Nat} {ta : Option Addr} {tn tc : Nat} {w : World} {L p b2 o2 c : Nat} (hL : L ≤ 128) (hp : p < L) (hc : L * L ≤ c ∧ c ≤ 9223372036854775807) :
    Calls Tryz.prog 100 #[.agg #[.int .i64 (L : Int), .slice ia im ic, .slice ta tn tc, .int .i64 (L : Int), .slice na nn nc, .slice sa sn sc, .slice ra rn rc, .slice la ln lc, .slice ia im ic, .slice ta tn tc], .slice (some ⟨b2, o2, none⟩) (L * L) c, .int .i64 p] w fun e w' => e = .returned (.slice (some ⟨b2, o2 + p * L, none⟩) L (c - p * L)) ∧ Below w.heap.size w w' := by
  obtain ⟨W0, hW0⟩ : ∃ W0, W0 = w.alloc (.cells #[.int .i64 (L : Int), .slice ia im ic, .slice ta tn tc, .int .i64 (L : Int), .slice na nn nc, .slice sa sn sc, .slice ra rn rc, .slice la ln lc, .slice ia im ic, .slice ta tn tc] 74) := ⟨_, rfl⟩
  have HW0 : Hid (W0 = w.alloc (.cells #[.int .i64 (L : Int), .slice ia im ic, .slice ta tn tc, .int .i64 (L : Int), .slice na nn nc, .slice sa sn sc, .slice ra rn rc, .slice la ln lc, .slice ia im ic, .slice ta tn tc] 74)) := hW0
  have HB0 : Hid (Below w.heap.size w W0) := by rw [hW0]; exact (Below.refl _ _).alloc (Nat.le_refl _) _
  have hbs : BoxS W0 w.heap.size (.int .i64 (L : Int)) (.slice ia im ic) (.slice ta tn tc) (.int .i64 (L : Int)) (.slice na nn nc) (.slice sa sn sc) (.slice ra rn rc) (.slice la ln lc) (.slice ia im ic) (.slice ta tn tc) := by rw [hW0]; exact BoxS.new w _ _ _ _ _ _ _ _ _ _
  obtain ⟨m0, m1, m2, m3, m4, m5, m6, m7, m8, m9⟩ := hbs.cells
  obtain ⟨sq, hsq⟩ : ∃ sq, sq = L * L := ⟨_, rfl⟩
  obtain ⟨pp, hpp⟩ : ∃ pp, pp = p * L := ⟨_, rfl⟩
  have hmul : (p : Int) * (L : Int) = (pp : Int) := by rw [hpp]; simp
  have hle : pp + L ≤ sq := by
    rw [hpp, hsq]
    have h1 : (p + 1) * L ≤ L * L := Nat.mul_le_mul_right L hp
    have h2 : (p + 1) * L = p * L + L := by rw [Nat.add_mul, Nat.one_mul]
    omega
  have hsm : sq ≤ 16384 := by rw [hsq]; exact Nat.le_trans (Nat.mul_le_mul hL hL) (by decide)
  rw [← hsq] at hc ⊢
  rw [← hpp]
  obtain ⟨hc1, hc2⟩ := hc
  clear hsq hpp hW0 hbs
  go_enter Tryz.func100, Tryz.ntmps100
  go_upto_region 1 with fail
  rw [← HW0.out]
  first | go_region | fail
  all_goals
    go_wp2_with fail
    go_ret
    exact ⟨rfl, HB0.out.drew⟩
end

section
open Go.RowKit

/-- What is answered. -/
def ansC (no : Bool) (c : CN) : CN := if conOk c = true then nnfC no c else CN.zero

theorem ansC_bulk (no : Bool) (c : CN) : (ansC no c).bulk ≤ 1000 := by
  unfold ansC
  split
  · rename_i h; exact nnf_bulk_of_ok h no
  · simp [CN.zero, CN.bulk, bulks]

theorem OwnC.zero (base : Nat) (w : World) (d : Nat) : OwnC base w (d + 1) (.agg #[.int .i64 0, .slice none 0 0, .slice none 0 0, .slice none 0 0]) CN.zero [] :=
  ⟨⟨none, 0, 0, none, 0, 0, none, 0, 0, 0, 0, 0, 0, 0, 0, fun _ => [], rfl, ⟨rfl, by simp, by simp [CN.zero, CN.name], .inl rfl⟩, ⟨rfl, by simp, by simp [CN.zero, CN.role], .inl rfl⟩, ⟨rfl, by simp, .inl rfl⟩, rfl⟩, by simp, fun x hx => by simp at hx, fun x hx => by simp at hx⟩

set_option maxRecDepth 100000 in
set_option maxHeartbeats 2000000 in
theorem implNnf_any {d : Nat} {v : Value} {c : CN} {w : World} {lo hi : Nat} (h : RdC lo hi w d v c) (hhi : hi ≤ w.heap.size) (hbk : c.bulk ≤ 1048576) :
    Calls Tryz.prog 7 #[v] w fun e w' => ∃ v' L, e = .returned (.tuple #[v', .bool (conOk c)]) ∧ OwnC w.heap.size w' (d + 1) v' (ansC false c) L ∧ Below w.heap.size w w' := by
  have HRd : Hid (RdC lo hi w d v c) := h
  obtain ⟨k, na, nn, nc, ra, rn, rc, ka, kn, kc, rfl⟩ := h.shape
  obtain ⟨W0, hW0⟩ : ∃ W0, W0 = (w.alloc (.cells #[.int .i64 k, .slice na nn nc, .slice ra rn rc, .slice ka kn kc] 30)).alloc (.cells #[.int .i64 0, .slice none 0 0, .slice none 0 0, .slice none 0 0] 30) := ⟨_, rfl⟩
  have HW0 : Hid (W0 = (w.alloc (.cells #[.int .i64 k, .slice na nn nc, .slice ra rn rc, .slice ka kn kc] 30)).alloc (.cells #[.int .i64 0, .slice none 0 0, .slice none 0 0, .slice none 0 0] 30)) := hW0
  have hs0 : W0.heap.size = w.heap.size + 2 := by rw [hW0]; simp
  have HS0 : Hid (W0.heap.size = w.heap.size + 2) := hs0
  have hb0 : Below w.heap.size w W0 := by rw [hW0]; exact ((Below.refl _ _).alloc (Nat.le_refl _) _).alloc (by simp) _
  have HB0 : Hid (Below w.heap.size w W0) := hb0
  have HBx : Hid (BoxC W0 w.heap.size (.int .i64 k) (.slice na nn nc) (.slice ra rn rc) (.slice ka kn kc)) := by unfold Hid; rw [hW0]; exact (BoxC.new w _ _ _ _).below ((Below.refl _ _).alloc (Nat.le_refl _) _) (by simp)
  have HBr : Hid (BoxC W0 (w.heap.size + 1) (.int .i64 0) (.slice none 0 0) (.slice none 0 0) (.slice none 0 0)) := by
    unfold Hid
    rw [hW0]
    have := BoxC.new (w.alloc (.cells #[.int .i64 k, .slice na nn nc, .slice ra rn rc, .slice ka kn kc] 30)) (.int .i64 0) (.slice none 0 0) (.slice none 0 0) (.slice none 0 0)
    rwa [World.size_alloc] at this
  have HR0 : Hid (RdC lo hi W0 d (.agg #[.int .i64 k, .slice na nn nc, .slice ra rn rc, .slice ka kn kc]) c) := HRd.out.below hb0 hhi
  have hh0 : hi ≤ W0.heap.size := Nat.le_trans hhi hb0.size
  have hl0 : w.heap.size < W0.heap.size := by omega
  have HBk : Hid (c.bulk ≤ 1048576) := hbk
  obtain ⟨b0, b1, b2, b3⟩ := HBx.out.cells
  clear h hb0 hW0 hs0
  go_enter Tryz.func7, Tryz.ntmps7
  go_upto_region 1 with fail
  rw [← HW0.out]
  go_wp2_with fail
  refine (implConOk_any HR0.out hh0 hbk).mono ?_
  rintro e w1 ⟨rfl, hb1⟩
  have H01 : Hid (Below W0.heap.size W0 w1) := hb1
  have HB1 : Hid (Below w.heap.size w w1) := HB0.out.trans (hb1.mono HB0.out.size)
  have hbr1 := HBr.out.below hb1 (by have := HS0.out; omega)
  obtain ⟨q0, q1, q2, q3⟩ := (HBx.out.below hb1 hl0).cells
  clear hb1 b0 b1 b2 b3
  cases hok : conOk c
  · have HE : Hid (ansC false c = CN.zero) := by unfold Hid ansC; rw [hok]; rfl
    have hset : Below w.heap.size w ((((w1.setCell ⟨w.heap.size + 1, 0, none⟩ (.int .i64 0)).setCell ⟨w.heap.size + 1, 1, none⟩ (.slice none 0 0)).setCell ⟨w.heap.size + 1, 2, none⟩ (.slice none 0 0)).setCell ⟨w.heap.size + 1, 3, none⟩ (.slice none 0 0)) := (((HB1.out.setCell (by show w.heap.size ≤ w.heap.size + 1; omega) _).setCell (by show w.heap.size ≤ w.heap.size + 1; omega) _).setCell (by show w.heap.size ≤ w.heap.size + 1; omega) _).setCell (by show w.heap.size ≤ w.heap.size + 1; omega) _
    have HSet : Hid (Below w.heap.size w ((((w1.setCell ⟨w.heap.size + 1, 0, none⟩ (.int .i64 0)).setCell ⟨w.heap.size + 1, 1, none⟩ (.slice none 0 0)).setCell ⟨w.heap.size + 1, 2, none⟩ (.slice none 0 0)).setCell ⟨w.heap.size + 1, 3, none⟩ (.slice none 0 0))) := hset
    obtain ⟨r0, r1, r2, r3⟩ := hbr1.cells
    have f0 := hbr1.frz 0
    have f1 := hbr1.frz 1
    have f2 := hbr1.frz 2
    have f3 := hbr1.frz 3
    obtain ⟨s0, s1, s2, s3⟩ := (hbr1.set4 (.int .i64 0) (.slice none 0 0) (.slice none 0 0) (.slice none 0 0)).cells
    clear hbr1 hset
    go_wp2_with fail
    refine bodyPost_ret (v := .tuple #[.agg #[.int .i64 0, .slice none 0 0, .slice none 0 0, .slice none 0 0], .bool false]) (by simp [results, Tryz.results7, go_sem, s0, s1, s2, s3]) rfl ?_
    exact ⟨_, [], by rw [hok], by rw [HE.out]; exact OwnC.zero _ _ d, HSet.out⟩
  · have HE : Hid (ansC false c = nnfC false c) := by unfold Hid ansC; rw [hok]; rfl
    have HWf : Hid (wfC c = true) := wfC_of_ok hok
    clear hbr1
    go_wp2_with fail
    refine (pnP_any d _ c false w1 lo hi (HRd.out.below HB1.out hhi) (Nat.le_trans hhi HB1.out.size) HBk.out HWf.out).mono ?_
    rintro e w5 ⟨v5, L5, rfl, hO5, hb5⟩
    obtain ⟨zna, znn, znc, zra, zrn, zrc, zka, zkn, zkc, rfl⟩ := hO5.ow.agg
    obtain ⟨zk, hzk⟩ : ∃ zk, zk = (nnfC false c).kind := ⟨_, rfl⟩
    rw [← hzk] at hO5
    rw [← hzk]
    have HB5 : Hid (Below W0.heap.size W0 w5) := H01.out.trans (hb5.mono H01.out.size)
    have HO5 : Hid (OwnC W0.heap.size w5 (d + 1) (.agg #[.int .i64 zk, .slice zna znn znc, .slice zra zrn zrc, .slice zka zkn zkc]) (ansC false c) L5) := by unfold Hid; rw [HE.out]; exact hO5.mono H01.out.size
    have hbr5 := HBr.out.below HB5.out (by have := HS0.out; omega)
    obtain ⟨r0, r1, r2, r3⟩ := hbr5.cells
    have f0 := hbr5.frz 0
    have f1 := hbr5.frz 1
    have f2 := hbr5.frz 2
    have f3 := hbr5.frz 3
    obtain ⟨s0, s1, s2, s3⟩ := (hbr5.set4 (.int .i64 zk) (.slice zna znn znc) (.slice zra zrn zrc) (.slice zka zkn zkc)).cells
    clear hO5 hb5 hzk hbr5
    go_wp2_with fail
    refine bodyPost_ret (v := .tuple #[.agg #[.int .i64 zk, .slice zna znn znc, .slice zra zrn zrc, .slice zka zkn zkc], .bool true]) (by simp [results, Tryz.results7, go_sem, s0, s1, s2, s3]) rfl ?_
    obtain ⟨v', L', e1, e2, e3⟩ := fin_post HO5.out HS0.out HB0.out HB5.out _ rfl
    simp only [Ending.returned.injEq] at e1
    subst e1
    exact ⟨_, L', by rw [hok], e2, e3⟩

set_option maxRecDepth 100000 in
set_option maxHeartbeats 2000000 in
theorem implOpposite_any {d : Nat} {v : Value} {c : CN} {w : World} {lo hi : Nat} (h : RdC lo hi w d v c) (hhi : hi ≤ w.heap.size) (hbk : c.bulk ≤ 1048576) :
    Calls Tryz.prog 8 #[v] w fun e w' => ∃ v' L, e = .returned (.tuple #[v', .bool (conOk c)]) ∧ OwnC w.heap.size w' (d + 1) v' (ansC true c) L ∧ Below w.heap.size w w' := by
  have HRd : Hid (RdC lo hi w d v c) := h
  obtain ⟨k, na, nn, nc, ra, rn, rc, ka, kn, kc, rfl⟩ := h.shape
  obtain ⟨W0, hW0⟩ : ∃ W0, W0 = (w.alloc (.cells #[.int .i64 k, .slice na nn nc, .slice ra rn rc, .slice ka kn kc] 30)).alloc (.cells #[.int .i64 0, .slice none 0 0, .slice none 0 0, .slice none 0 0] 30) := ⟨_, rfl⟩
  have HW0 : Hid (W0 = (w.alloc (.cells #[.int .i64 k, .slice na nn nc, .slice ra rn rc, .slice ka kn kc] 30)).alloc (.cells #[.int .i64 0, .slice none 0 0, .slice none 0 0, .slice none 0 0] 30)) := hW0
  have hs0 : W0.heap.size = w.heap.size + 2 := by rw [hW0]; simp
  have HS0 : Hid (W0.heap.size = w.heap.size + 2) := hs0
  have hb0 : Below w.heap.size w W0 := by rw [hW0]; exact ((Below.refl _ _).alloc (Nat.le_refl _) _).alloc (by simp) _
  have HB0 : Hid (Below w.heap.size w W0) := hb0
  have HBx : Hid (BoxC W0 w.heap.size (.int .i64 k) (.slice na nn nc) (.slice ra rn rc) (.slice ka kn kc)) := by unfold Hid; rw [hW0]; exact (BoxC.new w _ _ _ _).below ((Below.refl _ _).alloc (Nat.le_refl _) _) (by simp)
  have HBr : Hid (BoxC W0 (w.heap.size + 1) (.int .i64 0) (.slice none 0 0) (.slice none 0 0) (.slice none 0 0)) := by
    unfold Hid
    rw [hW0]
    have := BoxC.new (w.alloc (.cells #[.int .i64 k, .slice na nn nc, .slice ra rn rc, .slice ka kn kc] 30)) (.int .i64 0) (.slice none 0 0) (.slice none 0 0) (.slice none 0 0)
    rwa [World.size_alloc] at this
  have HR0 : Hid (RdC lo hi W0 d (.agg #[.int .i64 k, .slice na nn nc, .slice ra rn rc, .slice ka kn kc]) c) := HRd.out.below hb0 hhi
  have hh0 : hi ≤ W0.heap.size := Nat.le_trans hhi hb0.size
  have hl0 : w.heap.size < W0.heap.size := by omega
  have HBk : Hid (c.bulk ≤ 1048576) := hbk
  obtain ⟨b0, b1, b2, b3⟩ := HBx.out.cells
  clear h hb0 hW0 hs0
  go_enter Tryz.func8, Tryz.ntmps8
  go_upto_region 1 with fail
  rw [← HW0.out]
  go_wp2_with fail
  refine (implConOk_any HR0.out hh0 hbk).mono ?_
  rintro e w1 ⟨rfl, hb1⟩
  have H01 : Hid (Below W0.heap.size W0 w1) := hb1
  have HB1 : Hid (Below w.heap.size w w1) := HB0.out.trans (hb1.mono HB0.out.size)
  have hbr1 := HBr.out.below hb1 (by have := HS0.out; omega)
  obtain ⟨q0, q1, q2, q3⟩ := (HBx.out.below hb1 hl0).cells
  clear hb1 b0 b1 b2 b3
  cases hok : conOk c
  · have HE : Hid (ansC true c = CN.zero) := by unfold Hid ansC; rw [hok]; rfl
    have hset : Below w.heap.size w ((((w1.setCell ⟨w.heap.size + 1, 0, none⟩ (.int .i64 0)).setCell ⟨w.heap.size + 1, 1, none⟩ (.slice none 0 0)).setCell ⟨w.heap.size + 1, 2, none⟩ (.slice none 0 0)).setCell ⟨w.heap.size + 1, 3, none⟩ (.slice none 0 0)) := (((HB1.out.setCell (by show w.heap.size ≤ w.heap.size + 1; omega) _).setCell (by show w.heap.size ≤ w.heap.size + 1; omega) _).setCell (by show w.heap.size ≤ w.heap.size + 1; omega) _).setCell (by show w.heap.size ≤ w.heap.size + 1; omega) _
    have HSet : Hid (Below w.heap.size w ((((w1.setCell ⟨w.heap.size + 1, 0, none⟩ (.int .i64 0)).setCell ⟨w.heap.size + 1, 1, none⟩ (.slice none 0 0)).setCell ⟨w.heap.size + 1, 2, none⟩ (.slice none 0 0)).setCell ⟨w.heap.size + 1, 3, none⟩ (.slice none 0 0))) := hset
    obtain ⟨r0, r1, r2, r3⟩ := hbr1.cells
    have f0 := hbr1.frz 0
    have f1 := hbr1.frz 1
    have f2 := hbr1.frz 2
    have f3 := hbr1.frz 3
    obtain ⟨s0, s1, s2, s3⟩ := (hbr1.set4 (.int .i64 0) (.slice none 0 0) (.slice none 0 0) (.slice none 0 0)).cells
    clear hbr1 hset
    go_wp2_with fail
    refine bodyPost_ret (v := .tuple #[.agg #[.int .i64 0, .slice none 0 0, .slice none 0 0, .slice none 0 0], .bool false]) (by simp [results, Tryz.results8, go_sem, s0, s1, s2, s3]) rfl ?_
    exact ⟨_, [], by rw [hok], by rw [HE.out]; exact OwnC.zero _ _ d, HSet.out⟩
  · have HE : Hid (ansC true c = nnfC true c) := by unfold Hid ansC; rw [hok]; rfl
    have HWf : Hid (wfC c = true) := wfC_of_ok hok
    clear hbr1
    go_wp2_with fail
    refine (pnP_any d _ c true w1 lo hi (HRd.out.below HB1.out hhi) (Nat.le_trans hhi HB1.out.size) HBk.out HWf.out).mono ?_
    rintro e w5 ⟨v5, L5, rfl, hO5, hb5⟩
    obtain ⟨zna, znn, znc, zra, zrn, zrc, zka, zkn, zkc, rfl⟩ := hO5.ow.agg
    obtain ⟨zk, hzk⟩ : ∃ zk, zk = (nnfC true c).kind := ⟨_, rfl⟩
    rw [← hzk] at hO5
    rw [← hzk]
    have HB5 : Hid (Below W0.heap.size W0 w5) := H01.out.trans (hb5.mono H01.out.size)
    have HO5 : Hid (OwnC W0.heap.size w5 (d + 1) (.agg #[.int .i64 zk, .slice zna znn znc, .slice zra zrn zrc, .slice zka zkn zkc]) (ansC true c) L5) := by unfold Hid; rw [HE.out]; exact hO5.mono H01.out.size
    have hbr5 := HBr.out.below HB5.out (by have := HS0.out; omega)
    obtain ⟨r0, r1, r2, r3⟩ := hbr5.cells
    have f0 := hbr5.frz 0
    have f1 := hbr5.frz 1
    have f2 := hbr5.frz 2
    have f3 := hbr5.frz 3
    obtain ⟨s0, s1, s2, s3⟩ := (hbr5.set4 (.int .i64 zk) (.slice zna znn znc) (.slice zra zrn zrc) (.slice zka zkn zkc)).cells
    clear hO5 hb5 hzk hbr5
    go_wp2_with fail
    refine bodyPost_ret (v := .tuple #[.agg #[.int .i64 zk, .slice zna znn znc, .slice zra zrn zrc, .slice zka zkn zkc], .bool true]) (by simp [results, Tryz.results8, go_sem, s0, s1, s2, s3]) rfl ?_
    obtain ⟨v', L', e1, e2, e3⟩ := fin_post HO5.out HS0.out HB0.out HB5.out _ rfl
    simp only [Ending.returned.injEq] at e1
    subst e1
    exact ⟨_, L', by rw [hok], e2, e3⟩
end

section
open Go.RowKit

theorem inSet_no {x : WD} {wd : List Int} {z : Int} (h : worldB x = false ∨ hasB x.n z = false) : inSetB x wd z = false := by
  unfold inSetB
  rcases h with h | h <;> simp [h]

set_option maxRecDepth 100000 in
set_option maxHeartbeats 2000000 in
theorem implInSet_any {na : Option Addr} {nn nc : Nat} {sa : Option Addr} {sn sc : Nat} {ra : Option Addr} {rn rc : Nat} {la : Option Addr} {ln lc : Nat} {ia : Option Addr} {im ic : Nat} {ta : Option Addr} {tn tc : Nat} {x : WD} {wa : Option Addr} {wn wc : Nat} {wd : List Int} {w : World} {lo hi lo' hi' : Nat} {nx z : Int} (h : RdW lo hi w na nn nc sa sn sc ra rn rc la ln lc ia im ic ta tn tc x) (h' : Rd lo' hi' w wa wn wc wd) (hn : x.n = nx) (hhi : hi ≤ w.heap.size) (hhi' : hi' ≤ w.heap.size) :
    Calls Tryz.prog 36 #[.agg #[.int .i64 nx, .slice na nn nc, .slice sa sn sc, .slice ra rn rc, .slice la ln lc, .slice ia im ic, .slice ta tn tc], .slice wa wn wc, .int .i64 z] w fun e w' => e = .returned (.bool (inSetB x wd z)) ∧ Below w.heap.size w w' := by
  obtain ⟨W0, hW0⟩ : ∃ W0, W0 = w.alloc (.cells #[.int .i64 nx, .slice na nn nc, .slice sa sn sc, .slice ra rn rc, .slice la ln lc, .slice ia im ic, .slice ta tn tc] 27) := ⟨_, rfl⟩
  have HW0 : Hid (W0 = w.alloc (.cells #[.int .i64 nx, .slice na nn nc, .slice sa sn sc, .slice ra rn rc, .slice la ln lc, .slice ia im ic, .slice ta tn tc] 27)) := hW0
  have hb0 : Below w.heap.size w W0 := by rw [hW0]; exact (Below.refl _ _).alloc (Nat.le_refl _) _
  have HB0 : Hid (Below w.heap.size w W0) := hb0
  have hbx : BoxW 27 W0 w.heap.size nx (.slice na nn nc) (.slice sa sn sc) (.slice ra rn rc) (.slice la ln lc) (.slice ia im ic) (.slice ta tn tc) := by rw [hW0]; exact BoxW.new _ w _ _ _ _ _ _ _
  have HR : Hid (RdW lo hi W0 na nn nc sa sn sc ra rn rc la ln lc ia im ic ta tn tc x) := h.below hb0 hhi
  have HWd : Hid (Rd lo' hi' W0 wa wn wc wd) := h'.below hb0 hhi'
  have HHi : Hid (hi ≤ W0.heap.size ∧ hi' ≤ W0.heap.size) := ⟨Nat.le_trans hhi hb0.size, Nat.le_trans hhi' hb0.size⟩
  have HN : Hid (x.n = nx) := hn
  obtain ⟨z0, z1, z2, z3, z4, z5, z6⟩ := hbx.cells
  clear h h' hb0 hW0 hbx hn
  go_enter Tryz.func36, Tryz.ntmps36
  go_upto_region 1 with fail
  rw [← HW0.out]
  go_wp2_with fail
  refine (sceneOf_any HR.out HN.out HHi.out.1).mono ?_
  rintro e wA ⟨rfl, hA⟩
  have HwA : Hid (Below W0.heap.size W0 wA) := hA
  clear hA z0 z1 z2 z3 z4 z5 z6
  cases hok : worldB x
  · have HG : Hid (inSetB x wd z = false) := inSet_no (.inl hok)
    rw [show ∀ u v, whichV false u v = v from fun _ _ => rfl]
    have HB1 : Hid (Below w.heap.size w (wA.alloc (.cells #[.int .i64 0, .slice none 0 0, .slice none 0 0, .int .i64 0, .slice none 0 0, .slice none 0 0, .slice none 0 0, .slice none 0 0, .slice none 0 0, .slice none 0 0] 74))) := (HB0.out.trans (HwA.out.mono HB0.out.size)).alloc (Nat.le_trans HB0.out.size HwA.out.size) _
    clear hok
    go_wp2_with fail
    go_ret
    exact ⟨rb HG.out.symm, HB1.out⟩
  · rw [show ∀ u v, whichV true u v = u from fun _ _ => rfl]
    obtain ⟨U, hU⟩ : ∃ U, U = wA.alloc (.cells #[.int .i64 nx, .slice ia im ic, .slice ta tn tc, .int .i64 nx, .slice na nn nc, .slice sa sn sc, .slice ra rn rc, .slice la ln lc, .slice ia im ic, .slice ta tn tc] 74) := ⟨_, rfl⟩
    have HU : Hid (U = wA.alloc (.cells #[.int .i64 nx, .slice ia im ic, .slice ta tn tc, .int .i64 nx, .slice na nn nc, .slice sa sn sc, .slice ra rn rc, .slice la ln lc, .slice ia im ic, .slice ta tn tc] 74)) := hU
    have hbs : BoxS U wA.heap.size (.int .i64 nx) (.slice ia im ic) (.slice ta tn tc) (.int .i64 nx) (.slice na nn nc) (.slice sa sn sc) (.slice ra rn rc) (.slice la ln lc) (.slice ia im ic) (.slice ta tn tc) := by rw [hU]; exact BoxS.new wA _ _ _ _ _ _ _ _ _ _
    have HwU : Hid (Below W0.heap.size W0 U) := by unfold Hid; rw [hU]; exact HwA.out.alloc HwA.out.size _
    have HBU : Hid (∀ W, Below U.heap.size U W → Below w.heap.size w W) := fun W hW => (HB0.out.trans (HwU.out.mono HB0.out.size)).trans (hW.mono (Nat.le_trans HB0.out.size HwU.out.size))
    have HSc : Hid (∀ W, Below U.heap.size U W → BoxS W wA.heap.size (.int .i64 nx) (.slice ia im ic) (.slice ta tn tc) (.int .i64 nx) (.slice na nn nc) (.slice sa sn sc) (.slice ra rn rc) (.slice la ln lc) (.slice ia im ic) (.slice ta tn tc)) := fun W hW => hbs.below hW hbs.lt
    have HRU : Hid (∀ W, Below U.heap.size U W → RdW lo hi W na nn nc sa sn sc ra rn rc la ln lc ia im ic ta tn tc x ∧ Rd lo' hi' W wa wn wc wd ∧ hi ≤ W.heap.size ∧ hi' ≤ W.heap.size) := fun W hW => ⟨(HR.out.below HwU.out HHi.out.1).below hW (Nat.le_trans HHi.out.1 HwU.out.size), (HWd.out.below HwU.out HHi.out.2).below hW (Nat.le_trans HHi.out.2 HwU.out.size), Nat.le_trans (Nat.le_trans HHi.out.1 HwU.out.size) hW.size, Nat.le_trans (Nat.le_trans HHi.out.2 HwU.out.size) hW.size⟩
    have HZU : Hid (Below U.heap.size U U) := Below.refl _ _
    have HOk : Hid (worldB x = true) := hok
    obtain ⟨m0, m1, m2, m3, m4, m5, m6, m7, m8, m9⟩ := hbs.cells
    clear hU hbs
    cases hha : hasB nx z
    · have HG : Hid (inSetB x wd z = false) := inSet_no (.inr (by rw [HN.out]; exact hha))
      clear hok
      go_upto_region 2 with fail
      rw [← HU.out]
      go_wp2_with (go_at_call 42; refine (has_any _ _ U).mono ?_; rintro e wB ⟨rfl, hq⟩; rw [hha]; have HwB : Hid (Below U.heap.size U wB) := hq; clear hq m0 m1 m2 m3 m4 m5 m6 m7 m8 m9; obtain ⟨m0, m1, m2, m3, m4, m5, m6, m7, m8, m9⟩ := (HSc.out _ HwB.out).cells)
      go_ret
      exact ⟨rb HG.out.symm, HBU.out _ HwB.out⟩
    · have hz := hha
      unfold hasB at hz
      rw [decide_eq_true_eq] at hz
      obtain ⟨q, HQ⟩ : ∃ q : Nat, Hid (z = (q : Int)) := ⟨z.toNat, by unfold Hid; omega⟩
      obtain ⟨Ln, HLn⟩ : ∃ Ln : Nat, Hid (nx = (Ln : Int)) := ⟨nx.toNat, by unfold Hid; omega⟩
      have hql : q < Ln := by have h1 := HQ.out; have h2 := HLn.out; omega
      have hzq : z = (q : Int) := HQ.out
      have hnl : nx = (Ln : Int) := HLn.out
      subst hzq
      subst hnl
      have HG : Hid (inSetB x wd (q : Int) = flagO x.names x.sets wd q) := by unfold Hid inSetB; rw [hok, HN.out, hha]; simp
      have hqi : (q : Int) < (Ln : Int) := by omega
      clear hz HQ HLn hok
      go_upto_region 2 with fail
      rw [← HU.out]
      go_wp2_with (first | (go_at_call 42; refine (has_any _ _ U).mono ?_; rintro e wB ⟨rfl, hq⟩; rw [hha]; have HwB : Hid (Below U.heap.size U wB) := hq; clear hq m0 m1 m2 m3 m4 m5 m6 m7 m8 m9; obtain ⟨m0, m1, m2, m3, m4, m5, m6, m7, m8, m9⟩ := (HSc.out _ HwB.out).cells) | (go_at_call 87; refine (members_any (HRU.out _ HwB.out).1 (HRU.out _ HwB.out).2.1 HN.out (HRU.out _ HwB.out).2.2.1 (HRU.out _ HwB.out).2.2.2 HOk.out).mono ?_; rintro e wC ⟨b2, o2, c, rfl, hfc, hce, hq⟩; have HwC : Hid (Below U.heap.size U wC) := HwB.out.trans (hq.mono HwB.out.size); have hcq := hce q hql; clear hq hce))
      go_ret
      exact ⟨rb HG.out.symm, HBU.out _ HwC.out⟩
end

end Go.Proofs.YtnmljalcndfjmaaGreat
