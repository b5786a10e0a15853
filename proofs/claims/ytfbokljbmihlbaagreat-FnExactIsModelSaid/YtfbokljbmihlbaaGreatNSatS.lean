/- Several texts in one: SatS2, SatS3. -/
import Derived.Test.YtfbokljbmihlbaaGreatSatS1
import Derived.Test.YtfbokljbmihlbaaGreatAxSpec2
import Derived.Deep.RegionHeld3
import Derived.Deep.DeepCutAuto
import Derived.BigQuiet
namespace Go.Proofs.YtfbokljbmihlbaaGreat

section
open Go.RowKit Go.Deep
set_option linter.unusedVariables false

theorem idxZ_some {l : List (List Int)} {wd : List Int} {i : Nat} (h : idxO l wd = some i) : idxZ l wd = (i : Int) := by unfold idxZ; rw [h]
theorem idxZ_none {l : List (List Int)} {wd : List Int} (h : idxO l wd = none) : idxZ l wd = -1 := by unfold idxZ; rw [h]
theorem seatZ_some {x : WD} {wd : List Int} {i : Nat} (h : idxO x.inds wd = some i) : seatZ x wd = x.at'.getD i 0 := by unfold seatZ; rw [h]
theorem seatZ_none {x : WD} {wd : List Int} (h : idxO x.inds wd = none) : seatZ x wd = -1 := by unfold seatZ; rw [h]

/-- The seat of somebody whom the world knows: its cell, and that it is an element. -/
theorem seat_cell {lo hi : Nat} {w : World} {na : Option Addr} {nn nc : Nat} {sa : Option Addr} {sn sc : Nat} {ra : Option Addr} {rn rc : Nat} {la : Option Addr} {ln lc : Nat} {ia : Option Addr} {im ic : Nat} {ta : Option Addr} {tn tc : Nat} {x : WD} {L i : Nat} {wd : List Int} (h : RdW lo hi w na nn nc sa sn sc ra rn rc la ln lc ia im ic ta tn tc x) (hok : worldB x = true) (hn : x.n = (L : Int)) (hi' : idxO x.inds wd = some i) :
    ∃ tb tof e, ta = some ⟨tb, tof, none⟩ ∧ tb < hi ∧ i < tn ∧ e < L ∧ seatZ x wd = (e : Int) ∧ w.cell? ⟨tb, tof + i, none⟩ = some (.int .i64 (e : Int)) := by
  obtain ⟨h1, h2, h3⟩ := seat_has hok hi'
  have hl := h.at'.len
  rcases h.at'.cells with h0 | ⟨b, off, e, _, hb, hc⟩
  · omega
  · obtain ⟨v, hv, rfl⟩ := hc i (by omega)
    refine ⟨b, off, (x.at'.getD i 0).toNat, e, hb, by omega, by omega, ?_, ?_⟩
    · rw [seatZ_some hi']; omega
    · rw [hv]; congr 2; omega

set_option maxRecDepth 100000 in
set_option maxHeartbeats 8000000 in
theorem l4sat_rule {na : Option Addr} {nn nc : Nat} {sa : Option Addr} {sn sc : Nat} {ra : Option Addr} {rn rc : Nat} {la : Option Addr} {ln lc : Nat} {ia : Option Addr} {im ic : Nat} {ta : Option Addr} {tn tc : Nat} {x : WD} {dp : Nat} {c0 c1 c2 c3 d0 d1 d2 d3 : Value} {ea : Option Addr} {en ec : Nat} {fa : Option Addr} {fn fc : Nat} {aa : Option Addr} {an ac : Nat} {ba : Option Addr} {bn bc : Nat} {y : AX} {w : World} {lo hi lo' hi' : Nat} {L : Nat} (hok : worldB x = true) (hn : x.n = (L : Int)) (hL : L ≤ 128) (h : RdW lo hi w na nn nc sa sn sc ra rn rc la ln lc ia im ic ta tn tc x) (ha : RdA lo' hi' w dp c0 c1 c2 c3 d0 d1 d2 d3 ea en ec fa fn fc aa an ac ba bn bc y) (hhi : hi ≤ w.heap.size) (hhi' : hi' ≤ w.heap.size) (hax : axOk y = true) (k : Int) (hk : k = y.kind) (hk2 : k = 0 ∨ k = 1 ∨ k = 2) :
    Calls Tryz.prog 25 #[.agg #[.int .i64 L, .slice na nn nc, .slice sa sn sc, .slice ra rn rc, .slice la ln lc, .slice ia im ic, .slice ta tn tc], .agg #[.int .i64 k, c0, c1, c2, c3, d0, d1, d2, d3, .slice ea en ec, .slice fa fn fc, .slice aa an ac, .slice ba bn bc]] w fun r w' => r = .returned (.bool (satB x L y)) ∧ Below w.heap.size w w' := by
  obtain ⟨wfc, wfd, hk0, hk5⟩ := ax_cons hax
  obtain ⟨xk, xna, xnn, xnc, xra, xrn, xrc, xka, xkn, xkc, rfl, rfl, rfl, rfl⟩ := ha.c.sh.form
  obtain ⟨yk, yna, ynn, ync, yra, yrn, yrc, yka, ykn, ykc, rfl, rfl, rfl, rfl⟩ := ha.d.sh.form
  obtain ⟨W0, hW0⟩ : ∃ W0, W0 = (w.alloc (.cells #[.int .i64 L, .slice na nn nc, .slice sa sn sc, .slice ra rn rc, .slice la ln lc, .slice ia im ic, .slice ta tn tc] 36)).alloc (.cells #[.int .i64 k, .int .i64 xk, .slice xna xnn xnc, .slice xra xrn xrc, .slice xka xkn xkc, .int .i64 yk, .slice yna ynn ync, .slice yra yrn yrc, .slice yka ykn ykc, .slice ea en ec, .slice fa fn fc, .slice aa an ac, .slice ba bn bc] 42) := ⟨_, rfl⟩
  have HW0 : Hid (W0 = (w.alloc (.cells #[.int .i64 L, .slice na nn nc, .slice sa sn sc, .slice ra rn rc, .slice la ln lc, .slice ia im ic, .slice ta tn tc] 36)).alloc (.cells #[.int .i64 k, .int .i64 xk, .slice xna xnn xnc, .slice xra xrn xrc, .slice xka xkn xkc, .int .i64 yk, .slice yna ynn ync, .slice yra yrn yrc, .slice yka ykn ykc, .slice ea en ec, .slice fa fn fc, .slice aa an ac, .slice ba bn bc] 42)) := hW0
  have hs0 : W0.heap.size = w.heap.size + 2 := by rw [hW0]; simp
  have hb0 : Below w.heap.size w W0 := by rw [hW0]; exact ((Below.refl _ _).alloc (Nat.le_refl _) _).alloc (by simp) _
  have HB0 : Hid (Below w.heap.size w W0) := hb0
  have hbw : BoxW 36 W0 w.heap.size (L : Int) (.slice na nn nc) (.slice sa sn sc) (.slice ra rn rc) (.slice la ln lc) (.slice ia im ic) (.slice ta tn tc) := by rw [hW0]; exact (BoxW.new _ w _ _ _ _ _ _ _).below ((Below.refl _ _).alloc (Nat.le_refl _) _) (by simp)
  have hba : BoxA 42 W0 (w.heap.size + 1) k (.int .i64 xk) (.slice xna xnn xnc) (.slice xra xrn xrc) (.slice xka xkn xkc) (.int .i64 yk) (.slice yna ynn ync) (.slice yra yrn yrc) (.slice yka ykn ykc) (.slice ea en ec) (.slice fa fn fc) (.slice aa an ac) (.slice ba bn bc) := by
    rw [hW0]
    have := BoxA.new 42 (w.alloc (.cells #[.int .i64 L, .slice na nn nc, .slice sa sn sc, .slice ra rn rc, .slice la ln lc, .slice ia im ic, .slice ta tn tc] 36)) k (.int .i64 xk) (.slice xna xnn xnc) (.slice xra xrn xrc) (.slice xka xkn xkc) (.int .i64 yk) (.slice yna ynn ync) (.slice yra yrn yrc) (.slice yka ykn ykc) (.slice ea en ec) (.slice fa fn fc) (.slice aa an ac) (.slice ba bn bc)
    rwa [World.size_alloc] at this
  have HSat : Hid (∀ V, Below W0.heap.size W0 V → (V.cell? ⟨w.heap.size, 0, none⟩ = some (.int .i64 L) ∧ V.cell? ⟨w.heap.size, 1, none⟩ = some (.slice na nn nc) ∧ V.cell? ⟨w.heap.size, 2, none⟩ = some (.slice sa sn sc) ∧ V.cell? ⟨w.heap.size, 3, none⟩ = some (.slice ra rn rc) ∧ V.cell? ⟨w.heap.size, 4, none⟩ = some (.slice la ln lc) ∧ V.cell? ⟨w.heap.size, 5, none⟩ = some (.slice ia im ic) ∧ V.cell? ⟨w.heap.size, 6, none⟩ = some (.slice ta tn tc)) ∧ (V.cell? ⟨w.heap.size + 1, 0, none⟩ = some (.int .i64 k) ∧ V.cell? ⟨w.heap.size + 1, 1, none⟩ = some (.int .i64 xk) ∧ V.cell? ⟨w.heap.size + 1, 2, none⟩ = some (.slice xna xnn xnc) ∧ V.cell? ⟨w.heap.size + 1, 3, none⟩ = some (.slice xra xrn xrc) ∧ V.cell? ⟨w.heap.size + 1, 4, none⟩ = some (.slice xka xkn xkc) ∧ V.cell? ⟨w.heap.size + 1, 5, none⟩ = some (.int .i64 yk) ∧ V.cell? ⟨w.heap.size + 1, 6, none⟩ = some (.slice yna ynn ync) ∧ V.cell? ⟨w.heap.size + 1, 7, none⟩ = some (.slice yra yrn yrc) ∧ V.cell? ⟨w.heap.size + 1, 8, none⟩ = some (.slice yka ykn ykc) ∧ V.cell? ⟨w.heap.size + 1, 9, none⟩ = some (.slice ea en ec) ∧ V.cell? ⟨w.heap.size + 1, 10, none⟩ = some (.slice fa fn fc) ∧ V.cell? ⟨w.heap.size + 1, 11, none⟩ = some (.slice aa an ac) ∧ V.cell? ⟨w.heap.size + 1, 12, none⟩ = some (.slice ba bn bc))) := fun V hV => ⟨(hbw.below hV (by omega)).cells, (hba.below hV (by omega)).cells⟩
  have HWd : Hid (∀ V, Below W0.heap.size W0 V → RdW lo hi V na nn nc sa sn sc ra rn rc la ln lc ia im ic ta tn tc x ∧ hi ≤ V.heap.size) := fun V hV => ⟨(h.below hb0 hhi).below hV (by omega), by have := hV.size; omega⟩
  have HAx : Hid (∀ V, Below W0.heap.size W0 V → RdA lo' hi' V dp (.int .i64 xk) (.slice xna xnn xnc) (.slice xra xrn xrc) (.slice xka xkn xkc) (.int .i64 yk) (.slice yna ynn ync) (.slice yra yrn yrc) (.slice yka ykn ykc) ea en ec fa fn fc aa an ac ba bn bc y ∧ hi' ≤ V.heap.size) := fun V hV => ⟨(ha.below hb0 hhi').below hV (by omega), by have := hV.size; omega⟩
  have HFin : Hid (∀ {V : World}, Below W0.heap.size W0 V → Below w.heap.size w V) := fun {V} hV => HB0.out.trans (hV.mono HB0.out.size)
  have HE : Hid (satB x L y = ruleB x L y.c y.d k) := by
    unfold Hid satB
    rw [if_neg (by omega), if_neg (by omega), if_neg (by omega), ← hk]
  have HC : Hid (Calls Tryz.prog 57 #[.agg #[.int .i64 L, .slice na nn nc, .slice sa sn sc, .slice ra rn rc, .slice la ln lc, .slice ia im ic, .slice ta tn tc], .agg #[.int .i64 xk, .slice xna xnn xnc, .slice xra xrn xrc, .slice xka xkn xkc], .agg #[.int .i64 yk, .slice yna ynn ync, .slice yra yrn yrc, .slice yka ykn ykc], .int .i64 k] W0 fun r w' => r = .returned (.bool (ruleB x L y.c y.d k)) ∧ Below W0.heap.size W0 w') := l4rule_any hok hn hL (HWd.out W0 (Below.refl _ _)).1 (HAx.out W0 (Below.refl _ _)).1.c (HAx.out W0 (Below.refl _ _)).1.d wfc wfd (by omega) (by omega) (by omega) hk2
  have hk3 : (k == 3) = false := by simp; omega
  have hk4 : (k == 4) = false := by simp; omega
  have hk5' : (k == 5) = false := by simp; omega
  clear h ha hhi hhi' hb0 hbw hba hW0 hs0 hok hn hk hk2 hk0 hk5 hax wfc wfd
  go_enter Tryz.func25, Tryz.ntmps25
  go_upto_region 1 with fail
  rw [← HW0.out]
  obtain ⟨⟨a0, a1, a2, a3, a4, a5, a6⟩, p0, p1, p2, p3, p4, p5, p6, p7, p8, p9, p10, p11, p12⟩ := HSat.out W0 (Below.refl _ _)
  go_wp2_with fail
  refine HC.out.mono ?_
  rintro r w1 ⟨rfl, hb1⟩
  have H1 : Hid (Below W0.heap.size W0 w1) := hb1
  clear hb1
  obtain ⟨rr, hrr⟩ : ∃ rr, rr = ruleB x L y.c y.d k := ⟨_, rfl⟩
  rw [← hrr]
  have HRr : Hid (rr = ruleB x L y.c y.d k) := hrr
  clear hrr
  go_wp2_with fail
  go_ret
  exact ⟨rb' (HRr.out.trans HE.out.symm), HFin.out H1.out⟩

set_option maxRecDepth 100000 in
set_option maxHeartbeats 8000000 in
theorem l4sat_roles {na : Option Addr} {nn nc : Nat} {sa : Option Addr} {sn sc : Nat} {ra : Option Addr} {rn rc : Nat} {la : Option Addr} {ln lc : Nat} {ia : Option Addr} {im ic : Nat} {ta : Option Addr} {tn tc : Nat} {x : WD} {dp : Nat} {c0 c1 c2 c3 d0 d1 d2 d3 : Value} {ea : Option Addr} {en ec : Nat} {fa : Option Addr} {fn fc : Nat} {aa : Option Addr} {an ac : Nat} {ba : Option Addr} {bn bc : Nat} {y : AX} {w : World} {lo hi lo' hi' : Nat} {L : Nat} (hok : worldB x = true) (hn : x.n = (L : Int)) (hL : L ≤ 128) (h : RdW lo hi w na nn nc sa sn sc ra rn rc la ln lc ia im ic ta tn tc x) (ha : RdA lo' hi' w dp c0 c1 c2 c3 d0 d1 d2 d3 ea en ec fa fn fc aa an ac ba bn bc y) (hhi : hi ≤ w.heap.size) (hhi' : hi' ≤ w.heap.size) (hax : axOk y = true) (hk : y.kind = 3) :
    Calls Tryz.prog 25 #[.agg #[.int .i64 L, .slice na nn nc, .slice sa sn sc, .slice ra rn rc, .slice la ln lc, .slice ia im ic, .slice ta tn tc], .agg #[.int .i64 3, c0, c1, c2, c3, d0, d1, d2, d3, .slice ea en ec, .slice fa fn fc, .slice aa an ac, .slice ba bn bc]] w fun r w' => r = .returned (.bool (satB x L y)) ∧ Below w.heap.size w w' := by
  obtain ⟨wfc, wfd, hk0, hk5⟩ := ax_cons hax
  obtain ⟨xk, xna, xnn, xnc, xra, xrn, xrc, xka, xkn, xkc, rfl, rfl, rfl, rfl⟩ := ha.c.sh.form
  obtain ⟨yk, yna, ynn, ync, yra, yrn, yrc, yka, ykn, ykc, rfl, rfl, rfl, rfl⟩ := ha.d.sh.form
  obtain ⟨W0, hW0⟩ : ∃ W0, W0 = (w.alloc (.cells #[.int .i64 L, .slice na nn nc, .slice sa sn sc, .slice ra rn rc, .slice la ln lc, .slice ia im ic, .slice ta tn tc] 36)).alloc (.cells #[.int .i64 3, .int .i64 xk, .slice xna xnn xnc, .slice xra xrn xrc, .slice xka xkn xkc, .int .i64 yk, .slice yna ynn ync, .slice yra yrn yrc, .slice yka ykn ykc, .slice ea en ec, .slice fa fn fc, .slice aa an ac, .slice ba bn bc] 42) := ⟨_, rfl⟩
  have HW0 : Hid (W0 = (w.alloc (.cells #[.int .i64 L, .slice na nn nc, .slice sa sn sc, .slice ra rn rc, .slice la ln lc, .slice ia im ic, .slice ta tn tc] 36)).alloc (.cells #[.int .i64 3, .int .i64 xk, .slice xna xnn xnc, .slice xra xrn xrc, .slice xka xkn xkc, .int .i64 yk, .slice yna ynn ync, .slice yra yrn yrc, .slice yka ykn ykc, .slice ea en ec, .slice fa fn fc, .slice aa an ac, .slice ba bn bc] 42)) := hW0
  have hs0 : W0.heap.size = w.heap.size + 2 := by rw [hW0]; simp
  have hb0 : Below w.heap.size w W0 := by rw [hW0]; exact ((Below.refl _ _).alloc (Nat.le_refl _) _).alloc (by simp) _
  have HB0 : Hid (Below w.heap.size w W0) := hb0
  have hbw : BoxW 36 W0 w.heap.size (L : Int) (.slice na nn nc) (.slice sa sn sc) (.slice ra rn rc) (.slice la ln lc) (.slice ia im ic) (.slice ta tn tc) := by rw [hW0]; exact (BoxW.new _ w _ _ _ _ _ _ _).below ((Below.refl _ _).alloc (Nat.le_refl _) _) (by simp)
  have hba : BoxA 42 W0 (w.heap.size + 1) 3 (.int .i64 xk) (.slice xna xnn xnc) (.slice xra xrn xrc) (.slice xka xkn xkc) (.int .i64 yk) (.slice yna ynn ync) (.slice yra yrn yrc) (.slice yka ykn ykc) (.slice ea en ec) (.slice fa fn fc) (.slice aa an ac) (.slice ba bn bc) := by
    rw [hW0]
    have := BoxA.new 42 (w.alloc (.cells #[.int .i64 L, .slice na nn nc, .slice sa sn sc, .slice ra rn rc, .slice la ln lc, .slice ia im ic, .slice ta tn tc] 36)) 3 (.int .i64 xk) (.slice xna xnn xnc) (.slice xra xrn xrc) (.slice xka xkn xkc) (.int .i64 yk) (.slice yna ynn ync) (.slice yra yrn yrc) (.slice yka ykn ykc) (.slice ea en ec) (.slice fa fn fc) (.slice aa an ac) (.slice ba bn bc)
    rwa [World.size_alloc] at this
  have HSat : Hid (∀ V, Below W0.heap.size W0 V → (V.cell? ⟨w.heap.size, 0, none⟩ = some (.int .i64 L) ∧ V.cell? ⟨w.heap.size, 1, none⟩ = some (.slice na nn nc) ∧ V.cell? ⟨w.heap.size, 2, none⟩ = some (.slice sa sn sc) ∧ V.cell? ⟨w.heap.size, 3, none⟩ = some (.slice ra rn rc) ∧ V.cell? ⟨w.heap.size, 4, none⟩ = some (.slice la ln lc) ∧ V.cell? ⟨w.heap.size, 5, none⟩ = some (.slice ia im ic) ∧ V.cell? ⟨w.heap.size, 6, none⟩ = some (.slice ta tn tc)) ∧ (V.cell? ⟨w.heap.size + 1, 0, none⟩ = some (.int .i64 3) ∧ V.cell? ⟨w.heap.size + 1, 1, none⟩ = some (.int .i64 xk) ∧ V.cell? ⟨w.heap.size + 1, 2, none⟩ = some (.slice xna xnn xnc) ∧ V.cell? ⟨w.heap.size + 1, 3, none⟩ = some (.slice xra xrn xrc) ∧ V.cell? ⟨w.heap.size + 1, 4, none⟩ = some (.slice xka xkn xkc) ∧ V.cell? ⟨w.heap.size + 1, 5, none⟩ = some (.int .i64 yk) ∧ V.cell? ⟨w.heap.size + 1, 6, none⟩ = some (.slice yna ynn ync) ∧ V.cell? ⟨w.heap.size + 1, 7, none⟩ = some (.slice yra yrn yrc) ∧ V.cell? ⟨w.heap.size + 1, 8, none⟩ = some (.slice yka ykn ykc) ∧ V.cell? ⟨w.heap.size + 1, 9, none⟩ = some (.slice ea en ec) ∧ V.cell? ⟨w.heap.size + 1, 10, none⟩ = some (.slice fa fn fc) ∧ V.cell? ⟨w.heap.size + 1, 11, none⟩ = some (.slice aa an ac) ∧ V.cell? ⟨w.heap.size + 1, 12, none⟩ = some (.slice ba bn bc))) := fun V hV => ⟨(hbw.below hV (by omega)).cells, (hba.below hV (by omega)).cells⟩
  have HWd : Hid (∀ V, Below W0.heap.size W0 V → RdW lo hi V na nn nc sa sn sc ra rn rc la ln lc ia im ic ta tn tc x ∧ hi ≤ V.heap.size) := fun V hV => ⟨(h.below hb0 hhi).below hV (by omega), by have := hV.size; omega⟩
  have HAx : Hid (∀ V, Below W0.heap.size W0 V → RdA lo' hi' V dp (.int .i64 xk) (.slice xna xnn xnc) (.slice xra xrn xrc) (.slice xka xkn xkc) (.int .i64 yk) (.slice yna ynn ync) (.slice yra yrn yrc) (.slice yka ykn ykc) ea en ec fa fn fc aa an ac ba bn bc y ∧ hi' ≤ V.heap.size) := fun V hV => ⟨(ha.below hb0 hhi').below hV (by omega), by have := hV.size; omega⟩
  have HFin : Hid (∀ {V : World}, Below W0.heap.size W0 V → Below w.heap.size w V) := fun {V} hV => HB0.out.trans (hV.mono HB0.out.size)
  have HE : Hid (satB x L y = rolesB x L y.r y.s) := by
    unfold Hid satB
    rw [if_pos hk]
  have HC : Hid (Calls Tryz.prog 53 #[.agg #[.int .i64 L, .slice na nn nc, .slice sa sn sc, .slice ra rn rc, .slice la ln lc, .slice ia im ic, .slice ta tn tc], .slice ea en ec, .slice fa fn fc] W0 fun r w' => r = .returned (.bool (rolesB x L y.r y.s)) ∧ Below W0.heap.size W0 w') := l4roles_any hok hn hL (HWd.out W0 (Below.refl _ _)).1 (HAx.out W0 (Below.refl _ _)).1.r (HAx.out W0 (Below.refl _ _)).1.s (by omega) (by omega) (by omega)
  clear h ha hhi hhi' hb0 hbw hba hW0 hs0 hok hn hk hk0 hk5 hax wfc wfd
  go_enter Tryz.func25, Tryz.ntmps25
  go_upto_region 1 with fail
  rw [← HW0.out]
  obtain ⟨⟨a0, a1, a2, a3, a4, a5, a6⟩, p0, p1, p2, p3, p4, p5, p6, p7, p8, p9, p10, p11, p12⟩ := HSat.out W0 (Below.refl _ _)
  go_wp2_with fail
  refine HC.out.mono ?_
  rintro r w1 ⟨rfl, hb1⟩
  have H1 : Hid (Below W0.heap.size W0 w1) := hb1
  clear hb1
  obtain ⟨rr, hrr⟩ : ∃ rr, rr = rolesB x L y.r y.s := ⟨_, rfl⟩
  rw [← hrr]
  have HRr : Hid (rr = rolesB x L y.r y.s) := hrr
  clear hrr
  go_wp2_with fail
  go_ret
  exact ⟨rb' (HRr.out.trans HE.out.symm), HFin.out H1.out⟩

set_option maxRecDepth 100000 in
set_option maxHeartbeats 8000000 in
theorem l4sat_is {na : Option Addr} {nn nc : Nat} {sa : Option Addr} {sn sc : Nat} {ra : Option Addr} {rn rc : Nat} {la : Option Addr} {ln lc : Nat} {ia : Option Addr} {im ic : Nat} {ta : Option Addr} {tn tc : Nat} {x : WD} {dp : Nat} {c0 c1 c2 c3 d0 d1 d2 d3 : Value} {ea : Option Addr} {en ec : Nat} {fa : Option Addr} {fn fc : Nat} {aa : Option Addr} {an ac : Nat} {ba : Option Addr} {bn bc : Nat} {y : AX} {w : World} {lo hi lo' hi' : Nat} {L : Nat} (hok : worldB x = true) (hn : x.n = (L : Int)) (hL : L ≤ 128) (h : RdW lo hi w na nn nc sa sn sc ra rn rc la ln lc ia im ic ta tn tc x) (ha : RdA lo' hi' w dp c0 c1 c2 c3 d0 d1 d2 d3 ea en ec fa fn fc aa an ac ba bn bc y) (hhi : hi ≤ w.heap.size) (hhi' : hi' ≤ w.heap.size) (hax : axOk y = true) (hk : y.kind = 4) :
    Calls Tryz.prog 25 #[.agg #[.int .i64 L, .slice na nn nc, .slice sa sn sc, .slice ra rn rc, .slice la ln lc, .slice ia im ic, .slice ta tn tc], .agg #[.int .i64 4, c0, c1, c2, c3, d0, d1, d2, d3, .slice ea en ec, .slice fa fn fc, .slice aa an ac, .slice ba bn bc]] w fun r w' => r = .returned (.bool (satB x L y)) ∧ Below w.heap.size w w' := by
  obtain ⟨wfc, wfd, hk0, hk5⟩ := ax_cons hax
  obtain ⟨xk, xna, xnn, xnc, xra, xrn, xrc, xka, xkn, xkc, rfl, rfl, rfl, rfl⟩ := ha.c.sh.form
  obtain ⟨yk, yna, ynn, ync, yra, yrn, yrc, yka, ykn, ykc, rfl, rfl, rfl, rfl⟩ := ha.d.sh.form
  obtain ⟨W0, hW0⟩ : ∃ W0, W0 = (w.alloc (.cells #[.int .i64 L, .slice na nn nc, .slice sa sn sc, .slice ra rn rc, .slice la ln lc, .slice ia im ic, .slice ta tn tc] 36)).alloc (.cells #[.int .i64 4, .int .i64 xk, .slice xna xnn xnc, .slice xra xrn xrc, .slice xka xkn xkc, .int .i64 yk, .slice yna ynn ync, .slice yra yrn yrc, .slice yka ykn ykc, .slice ea en ec, .slice fa fn fc, .slice aa an ac, .slice ba bn bc] 42) := ⟨_, rfl⟩
  have HW0 : Hid (W0 = (w.alloc (.cells #[.int .i64 L, .slice na nn nc, .slice sa sn sc, .slice ra rn rc, .slice la ln lc, .slice ia im ic, .slice ta tn tc] 36)).alloc (.cells #[.int .i64 4, .int .i64 xk, .slice xna xnn xnc, .slice xra xrn xrc, .slice xka xkn xkc, .int .i64 yk, .slice yna ynn ync, .slice yra yrn yrc, .slice yka ykn ykc, .slice ea en ec, .slice fa fn fc, .slice aa an ac, .slice ba bn bc] 42)) := hW0
  have hs0 : W0.heap.size = w.heap.size + 2 := by rw [hW0]; simp
  have hb0 : Below w.heap.size w W0 := by rw [hW0]; exact ((Below.refl _ _).alloc (Nat.le_refl _) _).alloc (by simp) _
  have HB0 : Hid (Below w.heap.size w W0) := hb0
  have hbw : BoxW 36 W0 w.heap.size (L : Int) (.slice na nn nc) (.slice sa sn sc) (.slice ra rn rc) (.slice la ln lc) (.slice ia im ic) (.slice ta tn tc) := by rw [hW0]; exact (BoxW.new _ w _ _ _ _ _ _ _).below ((Below.refl _ _).alloc (Nat.le_refl _) _) (by simp)
  have hba : BoxA 42 W0 (w.heap.size + 1) 4 (.int .i64 xk) (.slice xna xnn xnc) (.slice xra xrn xrc) (.slice xka xkn xkc) (.int .i64 yk) (.slice yna ynn ync) (.slice yra yrn yrc) (.slice yka ykn ykc) (.slice ea en ec) (.slice fa fn fc) (.slice aa an ac) (.slice ba bn bc) := by
    rw [hW0]
    have := BoxA.new 42 (w.alloc (.cells #[.int .i64 L, .slice na nn nc, .slice sa sn sc, .slice ra rn rc, .slice la ln lc, .slice ia im ic, .slice ta tn tc] 36)) 4 (.int .i64 xk) (.slice xna xnn xnc) (.slice xra xrn xrc) (.slice xka xkn xkc) (.int .i64 yk) (.slice yna ynn ync) (.slice yra yrn yrc) (.slice yka ykn ykc) (.slice ea en ec) (.slice fa fn fc) (.slice aa an ac) (.slice ba bn bc)
    rwa [World.size_alloc] at this
  have HSat : Hid (∀ V, Below W0.heap.size W0 V → (V.cell? ⟨w.heap.size, 0, none⟩ = some (.int .i64 L) ∧ V.cell? ⟨w.heap.size, 1, none⟩ = some (.slice na nn nc) ∧ V.cell? ⟨w.heap.size, 2, none⟩ = some (.slice sa sn sc) ∧ V.cell? ⟨w.heap.size, 3, none⟩ = some (.slice ra rn rc) ∧ V.cell? ⟨w.heap.size, 4, none⟩ = some (.slice la ln lc) ∧ V.cell? ⟨w.heap.size, 5, none⟩ = some (.slice ia im ic) ∧ V.cell? ⟨w.heap.size, 6, none⟩ = some (.slice ta tn tc)) ∧ (V.cell? ⟨w.heap.size + 1, 0, none⟩ = some (.int .i64 4) ∧ V.cell? ⟨w.heap.size + 1, 1, none⟩ = some (.int .i64 xk) ∧ V.cell? ⟨w.heap.size + 1, 2, none⟩ = some (.slice xna xnn xnc) ∧ V.cell? ⟨w.heap.size + 1, 3, none⟩ = some (.slice xra xrn xrc) ∧ V.cell? ⟨w.heap.size + 1, 4, none⟩ = some (.slice xka xkn xkc) ∧ V.cell? ⟨w.heap.size + 1, 5, none⟩ = some (.int .i64 yk) ∧ V.cell? ⟨w.heap.size + 1, 6, none⟩ = some (.slice yna ynn ync) ∧ V.cell? ⟨w.heap.size + 1, 7, none⟩ = some (.slice yra yrn yrc) ∧ V.cell? ⟨w.heap.size + 1, 8, none⟩ = some (.slice yka ykn ykc) ∧ V.cell? ⟨w.heap.size + 1, 9, none⟩ = some (.slice ea en ec) ∧ V.cell? ⟨w.heap.size + 1, 10, none⟩ = some (.slice fa fn fc) ∧ V.cell? ⟨w.heap.size + 1, 11, none⟩ = some (.slice aa an ac) ∧ V.cell? ⟨w.heap.size + 1, 12, none⟩ = some (.slice ba bn bc))) := fun V hV => ⟨(hbw.below hV (by omega)).cells, (hba.below hV (by omega)).cells⟩
  have HWd : Hid (∀ V, Below W0.heap.size W0 V → RdW lo hi V na nn nc sa sn sc ra rn rc la ln lc ia im ic ta tn tc x ∧ hi ≤ V.heap.size) := fun V hV => ⟨(h.below hb0 hhi).below hV (by omega), by have := hV.size; omega⟩
  have HAx : Hid (∀ V, Below W0.heap.size W0 V → RdA lo' hi' V dp (.int .i64 xk) (.slice xna xnn xnc) (.slice xra xrn xrc) (.slice xka xkn xkc) (.int .i64 yk) (.slice yna ynn ync) (.slice yra yrn yrc) (.slice yka ykn ykc) ea en ec fa fn fc aa an ac ba bn bc y ∧ hi' ≤ V.heap.size) := fun V hV => ⟨(ha.below hb0 hhi').below hV (by omega), by have := hV.size; omega⟩
  have HFin : Hid (∀ {V : World}, Below W0.heap.size W0 V → Below w.heap.size w V) := fun {V} hV => HB0.out.trans (hV.mono HB0.out.size)
  have HE : Hid (satB x L y = (hasB x.n (seatZ x y.a) && holdC x L y.c (seatZ x y.a).toNat)) := by
    unfold Hid satB
    rw [if_neg (by omega), if_pos hk]
  have HC : Hid (∀ V, Below W0.heap.size W0 V → ∀ e : Nat, e < L → Calls Tryz.prog 55 #[.agg #[.int .i64 L, .slice na nn nc, .slice sa sn sc, .slice ra rn rc, .slice la ln lc, .slice ia im ic, .slice ta tn tc], .agg #[.int .i64 xk, .slice xna xnn xnc, .slice xra xrn xrc, .slice xka xkn xkc], .int .i64 e] V fun r w' => r = .returned (.bool (holdC x L y.c e)) ∧ Below V.heap.size V w') := fun V hV e he => hoP_any hok hn hL dp _ y.c e V lo' hi' (HWd.out V hV).1 (HAx.out V hV).1.c (HWd.out V hV).2 (HAx.out V hV).2 wfc he
  have HI : Hid (Calls Tryz.prog 54 #[.slice ia im ic, .slice aa an ac] W0 fun e w' => e = .returned (.int .i64 (idxZ x.inds y.a)) ∧ ∃ nd, w' = W0.drewN nd) := l4find_any ia im ic x.inds aa an ac y.a W0 (HWd.out W0 (Below.refl _ _)).1.inds (HAx.out W0 (Below.refl _ _)).1.a
  have HN : Hid (x.n = (L : Int)) := hn
  have HOk : Hid (worldB x = true) := hok
  cases hidx : idxO x.inds y.a with
  | none =>
    have HZ : Hid (idxZ x.inds y.a = -1) := idxZ_none hidx
    have HE2 : Hid (satB x L y = false) := by
      unfold Hid
      rw [HE.out, seatZ_none hidx]
      rfl
    clear h ha hhi hhi' hb0 hbw hba hW0 hs0 hok hn hk hk0 hk5 hax wfc wfd hidx
    go_enter Tryz.func25, Tryz.ntmps25
    go_upto_region 1 with fail
    rw [← HW0.out]
    obtain ⟨⟨a0, a1, a2, a3, a4, a5, a6⟩, p0, p1, p2, p3, p4, p5, p6, p7, p8, p9, p10, p11, p12⟩ := HSat.out W0 (Below.refl _ _)
    go_wp2_with fail
    refine HI.out.mono ?_
    rintro r w1 ⟨rfl, nd, hw1⟩
    rw [HZ.out]
    have H1 : Hid (Below W0.heap.size W0 w1) := by unfold Hid; rw [hw1]; exact below_drewN (Below.refl _ _) nd
    clear hw1 a0 a1 a2 a3 a4 a5 a6 p0 p1 p2 p3 p4 p5 p6 p7 p8 p9 p10 p11 p12
    obtain ⟨⟨a0, a1, a2, a3, a4, a5, a6⟩, p0, p1, p2, p3, p4, p5, p6, p7, p8, p9, p10, p11, p12⟩ := HSat.out w1 H1.out
    go_upto_region 6 with fail
    go_quiet (fail)
    go_wp2_with fail
    go_ret
    exact ⟨rb' HE2.out.symm, HFin.out (below_drewN H1.out _)⟩
  | some i =>
    obtain ⟨tb, tof, e, rfl, htb, hit, heL, hse, hcell⟩ := seat_cell h hok hn hidx
    have HZ : Hid (idxZ x.inds y.a = (i : Int)) := idxZ_some hidx
    have HE2 : Hid (satB x L y = holdC x L y.c e) := by
      unfold Hid
      rw [HE.out, hse, HN.out]
      have : hasB (L : Int) (e : Int) = true := by unfold hasB; simp; omega
      rw [this]
      simp
    have HCell : Hid (∀ V, Below W0.heap.size W0 V → V.cell? ⟨tb, tof + i, none⟩ = some (.int .i64 (e : Int))) := fun V hV => (hV.cell (p := ⟨tb, tof + i, none⟩) (show tb < W0.heap.size by omega)).trans ((hb0.cell (p := ⟨tb, tof + i, none⟩) (show tb < w.heap.size by omega)).trans hcell)
    have HS3 : Hid (∀ V, Below W0.heap.size W0 V → ((V.cell? ⟨w.heap.size, 0, none⟩ = some (.int .i64 L) ∧ V.cell? ⟨w.heap.size, 1, none⟩ = some (.slice na nn nc) ∧ V.cell? ⟨w.heap.size, 2, none⟩ = some (.slice sa sn sc) ∧ V.cell? ⟨w.heap.size, 3, none⟩ = some (.slice ra rn rc) ∧ V.cell? ⟨w.heap.size, 4, none⟩ = some (.slice la ln lc) ∧ V.cell? ⟨w.heap.size, 5, none⟩ = some (.slice ia im ic) ∧ V.cell? ⟨w.heap.size, 6, none⟩ = some (.slice (some ⟨tb, tof, none⟩) tn tc)) ∧ (V.cell? ⟨w.heap.size + 1, 0, none⟩ = some (.int .i64 4) ∧ V.cell? ⟨w.heap.size + 1, 1, none⟩ = some (.int .i64 xk) ∧ V.cell? ⟨w.heap.size + 1, 2, none⟩ = some (.slice xna xnn xnc) ∧ V.cell? ⟨w.heap.size + 1, 3, none⟩ = some (.slice xra xrn xrc) ∧ V.cell? ⟨w.heap.size + 1, 4, none⟩ = some (.slice xka xkn xkc) ∧ V.cell? ⟨w.heap.size + 1, 5, none⟩ = some (.int .i64 yk) ∧ V.cell? ⟨w.heap.size + 1, 6, none⟩ = some (.slice yna ynn ync) ∧ V.cell? ⟨w.heap.size + 1, 7, none⟩ = some (.slice yra yrn yrc) ∧ V.cell? ⟨w.heap.size + 1, 8, none⟩ = some (.slice yka ykn ykc) ∧ V.cell? ⟨w.heap.size + 1, 9, none⟩ = some (.slice ea en ec) ∧ V.cell? ⟨w.heap.size + 1, 10, none⟩ = some (.slice fa fn fc) ∧ V.cell? ⟨w.heap.size + 1, 11, none⟩ = some (.slice aa an ac) ∧ V.cell? ⟨w.heap.size + 1, 12, none⟩ = some (.slice ba bn bc))) ∧ V.cell? ⟨tb, tof + i, none⟩ = some (.int .i64 (e : Int))) := fun V hV => ⟨HSat.out V hV, HCell.out V hV⟩
    have hiz : (i : Int) < (tn : Int) := by omega
    have hi0 : (0 : Int) ≤ (i : Int) := by omega
    clear h ha hhi hhi' hb0 hbw hba hW0 hs0 hok hn hk hk0 hk5 hax wfc wfd hidx hcell hse htb
    go_enter Tryz.func25, Tryz.ntmps25
    go_upto_region 1 with fail
    rw [← HW0.out]
    obtain ⟨⟨a0, a1, a2, a3, a4, a5, a6⟩, p0, p1, p2, p3, p4, p5, p6, p7, p8, p9, p10, p11, p12⟩ := HSat.out W0 (Below.refl _ _)
    go_wp2_with fail
    refine HI.out.mono ?_
    rintro r w1 ⟨rfl, nd, hw1⟩
    rw [HZ.out]
    have H1 : Hid (Below W0.heap.size W0 w1) := by unfold Hid; rw [hw1]; exact below_drewN (Below.refl _ _) nd
    have H1d : Hid (Below W0.heap.size W0 w1.drew) := H1.out.drew
    clear hw1 a0 a1 a2 a3 a4 a5 a6 p0 p1 p2 p3 p4 p5 p6 p7 p8 p9 p10 p11 p12
    obtain ⟨rr, hrr⟩ : ∃ rr, rr = holdC x L y.c e := ⟨_, rfl⟩
    have HRr : Hid (rr = holdC x L y.c e) := hrr
    clear hrr
    go_upto_region 6 with fail
    first | go_region_held3 (fun V => ((V.cell? ⟨w.heap.size, 0, none⟩ = some (.int .i64 L) ∧ V.cell? ⟨w.heap.size, 1, none⟩ = some (.slice na nn nc) ∧ V.cell? ⟨w.heap.size, 2, none⟩ = some (.slice sa sn sc) ∧ V.cell? ⟨w.heap.size, 3, none⟩ = some (.slice ra rn rc) ∧ V.cell? ⟨w.heap.size, 4, none⟩ = some (.slice la ln lc) ∧ V.cell? ⟨w.heap.size, 5, none⟩ = some (.slice ia im ic) ∧ V.cell? ⟨w.heap.size, 6, none⟩ = some (.slice (some ⟨tb, tof, none⟩) tn tc)) ∧ (V.cell? ⟨w.heap.size + 1, 0, none⟩ = some (.int .i64 4) ∧ V.cell? ⟨w.heap.size + 1, 1, none⟩ = some (.int .i64 xk) ∧ V.cell? ⟨w.heap.size + 1, 2, none⟩ = some (.slice xna xnn xnc) ∧ V.cell? ⟨w.heap.size + 1, 3, none⟩ = some (.slice xra xrn xrc) ∧ V.cell? ⟨w.heap.size + 1, 4, none⟩ = some (.slice xka xkn xkc) ∧ V.cell? ⟨w.heap.size + 1, 5, none⟩ = some (.int .i64 yk) ∧ V.cell? ⟨w.heap.size + 1, 6, none⟩ = some (.slice yna ynn ync) ∧ V.cell? ⟨w.heap.size + 1, 7, none⟩ = some (.slice yra yrn yrc) ∧ V.cell? ⟨w.heap.size + 1, 8, none⟩ = some (.slice yka ykn ykc) ∧ V.cell? ⟨w.heap.size + 1, 9, none⟩ = some (.slice ea en ec) ∧ V.cell? ⟨w.heap.size + 1, 10, none⟩ = some (.slice fa fn fc) ∧ V.cell? ⟨w.heap.size + 1, 11, none⟩ = some (.slice aa an ac) ∧ V.cell? ⟨w.heap.size + 1, 12, none⟩ = some (.slice ba bn bc))) ∧ V.cell? ⟨tb, tof + i, none⟩ = some (.int .i64 (e : Int))) (first | with_reducible exact HS3.out _ H2.out | with_reducible exact HS3.out _ H1d.out) (first | (go_at_call 55; refine (HC.out w1.drew H1d.out e heL).mono ?_; rintro r w2 ⟨rfl, hbq⟩; rw [← HRr.out]; have H2 : Hid (Below W0.heap.size W0 w2) := H1d.out.trans (hbq.mono H1d.out.size); clear hbq)) | fail
    all_goals
      go_wp2_with fail
      go_ret
      exact ⟨rb' (HRr.out.trans HE2.out.symm), HFin.out H2.out⟩

set_option maxRecDepth 100000 in
set_option maxHeartbeats 8000000 in
theorem l4sat_rel {na : Option Addr} {nn nc : Nat} {sa : Option Addr} {sn sc : Nat} {ra : Option Addr} {rn rc : Nat} {la : Option Addr} {ln lc : Nat} {ia : Option Addr} {im ic : Nat} {ta : Option Addr} {tn tc : Nat} {x : WD} {dp : Nat} {c0 c1 c2 c3 d0 d1 d2 d3 : Value} {ea : Option Addr} {en ec : Nat} {fa : Option Addr} {fn fc : Nat} {aa : Option Addr} {an ac : Nat} {ba : Option Addr} {bn bc : Nat} {y : AX} {w : World} {lo hi lo' hi' : Nat} {L : Nat} (hok : worldB x = true) (hn : x.n = (L : Int)) (hL : L ≤ 128) (h : RdW lo hi w na nn nc sa sn sc ra rn rc la ln lc ia im ic ta tn tc x) (ha : RdA lo' hi' w dp c0 c1 c2 c3 d0 d1 d2 d3 ea en ec fa fn fc aa an ac ba bn bc y) (hhi : hi ≤ w.heap.size) (hhi' : hi' ≤ w.heap.size) (hax : axOk y = true) (hk : y.kind = 5) :
    Calls Tryz.prog 25 #[.agg #[.int .i64 L, .slice na nn nc, .slice sa sn sc, .slice ra rn rc, .slice la ln lc, .slice ia im ic, .slice ta tn tc], .agg #[.int .i64 5, c0, c1, c2, c3, d0, d1, d2, d3, .slice ea en ec, .slice fa fn fc, .slice aa an ac, .slice ba bn bc]] w fun r w' => r = .returned (.bool (satB x L y)) ∧ Below w.heap.size w w' := by
  obtain ⟨wfc, wfd, hk0, hk5⟩ := ax_cons hax
  obtain ⟨xk, xna, xnn, xnc, xra, xrn, xrc, xka, xkn, xkc, rfl, rfl, rfl, rfl⟩ := ha.c.sh.form
  obtain ⟨yk, yna, ynn, ync, yra, yrn, yrc, yka, ykn, ykc, rfl, rfl, rfl, rfl⟩ := ha.d.sh.form
  obtain ⟨W0, hW0⟩ : ∃ W0, W0 = (w.alloc (.cells #[.int .i64 L, .slice na nn nc, .slice sa sn sc, .slice ra rn rc, .slice la ln lc, .slice ia im ic, .slice ta tn tc] 36)).alloc (.cells #[.int .i64 5, .int .i64 xk, .slice xna xnn xnc, .slice xra xrn xrc, .slice xka xkn xkc, .int .i64 yk, .slice yna ynn ync, .slice yra yrn yrc, .slice yka ykn ykc, .slice ea en ec, .slice fa fn fc, .slice aa an ac, .slice ba bn bc] 42) := ⟨_, rfl⟩
  have HW0 : Hid (W0 = (w.alloc (.cells #[.int .i64 L, .slice na nn nc, .slice sa sn sc, .slice ra rn rc, .slice la ln lc, .slice ia im ic, .slice ta tn tc] 36)).alloc (.cells #[.int .i64 5, .int .i64 xk, .slice xna xnn xnc, .slice xra xrn xrc, .slice xka xkn xkc, .int .i64 yk, .slice yna ynn ync, .slice yra yrn yrc, .slice yka ykn ykc, .slice ea en ec, .slice fa fn fc, .slice aa an ac, .slice ba bn bc] 42)) := hW0
  have hs0 : W0.heap.size = w.heap.size + 2 := by rw [hW0]; simp
  have hb0 : Below w.heap.size w W0 := by rw [hW0]; exact ((Below.refl _ _).alloc (Nat.le_refl _) _).alloc (by simp) _
  have HB0 : Hid (Below w.heap.size w W0) := hb0
  have hbw : BoxW 36 W0 w.heap.size (L : Int) (.slice na nn nc) (.slice sa sn sc) (.slice ra rn rc) (.slice la ln lc) (.slice ia im ic) (.slice ta tn tc) := by rw [hW0]; exact (BoxW.new _ w _ _ _ _ _ _ _).below ((Below.refl _ _).alloc (Nat.le_refl _) _) (by simp)
  have hba : BoxA 42 W0 (w.heap.size + 1) 5 (.int .i64 xk) (.slice xna xnn xnc) (.slice xra xrn xrc) (.slice xka xkn xkc) (.int .i64 yk) (.slice yna ynn ync) (.slice yra yrn yrc) (.slice yka ykn ykc) (.slice ea en ec) (.slice fa fn fc) (.slice aa an ac) (.slice ba bn bc) := by
    rw [hW0]
    have := BoxA.new 42 (w.alloc (.cells #[.int .i64 L, .slice na nn nc, .slice sa sn sc, .slice ra rn rc, .slice la ln lc, .slice ia im ic, .slice ta tn tc] 36)) 5 (.int .i64 xk) (.slice xna xnn xnc) (.slice xra xrn xrc) (.slice xka xkn xkc) (.int .i64 yk) (.slice yna ynn ync) (.slice yra yrn yrc) (.slice yka ykn ykc) (.slice ea en ec) (.slice fa fn fc) (.slice aa an ac) (.slice ba bn bc)
    rwa [World.size_alloc] at this
  have HSat : Hid (∀ V, Below W0.heap.size W0 V → (V.cell? ⟨w.heap.size, 0, none⟩ = some (.int .i64 L) ∧ V.cell? ⟨w.heap.size, 1, none⟩ = some (.slice na nn nc) ∧ V.cell? ⟨w.heap.size, 2, none⟩ = some (.slice sa sn sc) ∧ V.cell? ⟨w.heap.size, 3, none⟩ = some (.slice ra rn rc) ∧ V.cell? ⟨w.heap.size, 4, none⟩ = some (.slice la ln lc) ∧ V.cell? ⟨w.heap.size, 5, none⟩ = some (.slice ia im ic) ∧ V.cell? ⟨w.heap.size, 6, none⟩ = some (.slice ta tn tc)) ∧ (V.cell? ⟨w.heap.size + 1, 0, none⟩ = some (.int .i64 5) ∧ V.cell? ⟨w.heap.size + 1, 1, none⟩ = some (.int .i64 xk) ∧ V.cell? ⟨w.heap.size + 1, 2, none⟩ = some (.slice xna xnn xnc) ∧ V.cell? ⟨w.heap.size + 1, 3, none⟩ = some (.slice xra xrn xrc) ∧ V.cell? ⟨w.heap.size + 1, 4, none⟩ = some (.slice xka xkn xkc) ∧ V.cell? ⟨w.heap.size + 1, 5, none⟩ = some (.int .i64 yk) ∧ V.cell? ⟨w.heap.size + 1, 6, none⟩ = some (.slice yna ynn ync) ∧ V.cell? ⟨w.heap.size + 1, 7, none⟩ = some (.slice yra yrn yrc) ∧ V.cell? ⟨w.heap.size + 1, 8, none⟩ = some (.slice yka ykn ykc) ∧ V.cell? ⟨w.heap.size + 1, 9, none⟩ = some (.slice ea en ec) ∧ V.cell? ⟨w.heap.size + 1, 10, none⟩ = some (.slice fa fn fc) ∧ V.cell? ⟨w.heap.size + 1, 11, none⟩ = some (.slice aa an ac) ∧ V.cell? ⟨w.heap.size + 1, 12, none⟩ = some (.slice ba bn bc))) := fun V hV => ⟨(hbw.below hV (by omega)).cells, (hba.below hV (by omega)).cells⟩
  have HWd : Hid (∀ V, Below W0.heap.size W0 V → RdW lo hi V na nn nc sa sn sc ra rn rc la ln lc ia im ic ta tn tc x ∧ hi ≤ V.heap.size) := fun V hV => ⟨(h.below hb0 hhi).below hV (by omega), by have := hV.size; omega⟩
  have HAx : Hid (∀ V, Below W0.heap.size W0 V → RdA lo' hi' V dp (.int .i64 xk) (.slice xna xnn xnc) (.slice xra xrn xrc) (.slice xka xkn xkc) (.int .i64 yk) (.slice yna ynn ync) (.slice yra yrn yrc) (.slice yka ykn ykc) ea en ec fa fn fc aa an ac ba bn bc y ∧ hi' ≤ V.heap.size) := fun V hV => ⟨(ha.below hb0 hhi').below hV (by omega), by have := hV.size; omega⟩
  have HFin : Hid (∀ {V : World}, Below W0.heap.size W0 V → Below w.heap.size w V) := fun {V} hV => HB0.out.trans (hV.mono HB0.out.size)
  have HE : Hid (satB x L y = (hasB x.n (seatZ x y.a) && (hasB x.n (seatZ x y.b) && relO x y.r (seatZ x y.a).toNat (seatZ x y.b).toNat L))) := by
    unfold Hid satB
    rw [if_neg (by omega), if_neg (by omega), if_pos hk]
  have HC : Hid (∀ V, Below W0.heap.size W0 V → ∀ p q : Nat, p < L → q < L → Calls Tryz.prog 56 #[.agg #[.int .i64 L, .slice na nn nc, .slice sa sn sc, .slice ra rn rc, .slice la ln lc, .slice ia im ic, .slice ta tn tc], .slice ea en ec, .int .i64 p, .int .i64 q] V fun r w' => r = .returned (.bool (relO x y.r p q L)) ∧ Below V.heap.size V w') := fun V hV p q hp hq => l4rel_any (HWd.out V hV).1 (HAx.out V hV).1.r hn (HWd.out V hV).2 (HAx.out V hV).2 hok hp hq
  have HIa : Hid (∀ V, Below W0.heap.size W0 V → Calls Tryz.prog 54 #[.slice ia im ic, .slice aa an ac] V fun e w' => e = .returned (.int .i64 (idxZ x.inds y.a)) ∧ Below V.heap.size V w') := fun V hV => (l4find_any ia im ic x.inds aa an ac y.a V (HWd.out V hV).1.inds (HAx.out V hV).1.a).mono fun e w' ⟨he, nd, hw⟩ => ⟨he, by rw [hw]; exact below_drewN (Below.refl _ _) nd⟩
  have HIb : Hid (∀ V, Below W0.heap.size W0 V → Calls Tryz.prog 54 #[.slice ia im ic, .slice ba bn bc] V fun e w' => e = .returned (.int .i64 (idxZ x.inds y.b)) ∧ Below V.heap.size V w') := fun V hV => (l4find_any ia im ic x.inds ba bn bc y.b V (HWd.out V hV).1.inds (HAx.out V hV).1.b).mono fun e w' ⟨he, nd, hw⟩ => ⟨he, by rw [hw]; exact below_drewN (Below.refl _ _) nd⟩
  have HSeat : Hid (∀ wd i, idxO x.inds wd = some i → ∃ tb tof e, ta = some ⟨tb, tof, none⟩ ∧ tb < w.heap.size ∧ i < tn ∧ e < L ∧ seatZ x wd = (e : Int) ∧ w.cell? ⟨tb, tof + i, none⟩ = some (.int .i64 (e : Int))) := fun wd i hi => by
    obtain ⟨tb, tof, e, h1, h2, h3, h4, h5, h6⟩ := seat_cell h hok hn hi
    exact ⟨tb, tof, e, h1, by omega, h3, h4, h5, h6⟩
  have HN : Hid (x.n = (L : Int)) := hn
  have hsw : w.heap.size < W0.heap.size := by omega
  obtain ⟨za, hza⟩ : ∃ z, z = idxZ x.inds y.a := ⟨_, rfl⟩
  obtain ⟨zb, hzb⟩ : ∃ z, z = idxZ x.inds y.b := ⟨_, rfl⟩
  have HZa : Hid (za = idxZ x.inds y.a) := hza
  have HZb : Hid (zb = idxZ x.inds y.b) := hzb
  have H0d : Hid (Below W0.heap.size W0 W0.drew) := (Below.refl _ _).drew
  clear h ha hhi hhi' hb0 hbw hba hW0 hs0 hok hn hk hk0 hk5 hax wfc wfd hza hzb
  go_enter Tryz.func25, Tryz.ntmps25
  go_upto_region 1 with fail
  rw [← HW0.out]
  obtain ⟨⟨a0, a1, a2, a3, a4, a5, a6⟩, p0, p1, p2, p3, p4, p5, p6, p7, p8, p9, p10, p11, p12⟩ := HSat.out W0 (Below.refl _ _)
  go_upto_region 8 with fail
  clear a0 a1 a2 a3 a4 a5 a6 p0 p1 p2 p3 p4 p5 p6 p7 p8 p9 p10 p11 p12
  go_cut [6, 7] (fun p q W => p = .int .i64 za ∧ q = .int .i64 zb ∧ Below W0.heap.size W0 W)
  case first =>
    first | go_region_held3 (fun V => (V.cell? ⟨w.heap.size, 0, none⟩ = some (.int .i64 L) ∧ V.cell? ⟨w.heap.size, 1, none⟩ = some (.slice na nn nc) ∧ V.cell? ⟨w.heap.size, 2, none⟩ = some (.slice sa sn sc) ∧ V.cell? ⟨w.heap.size, 3, none⟩ = some (.slice ra rn rc) ∧ V.cell? ⟨w.heap.size, 4, none⟩ = some (.slice la ln lc) ∧ V.cell? ⟨w.heap.size, 5, none⟩ = some (.slice ia im ic) ∧ V.cell? ⟨w.heap.size, 6, none⟩ = some (.slice ta tn tc)) ∧ (V.cell? ⟨w.heap.size + 1, 0, none⟩ = some (.int .i64 5) ∧ V.cell? ⟨w.heap.size + 1, 1, none⟩ = some (.int .i64 xk) ∧ V.cell? ⟨w.heap.size + 1, 2, none⟩ = some (.slice xna xnn xnc) ∧ V.cell? ⟨w.heap.size + 1, 3, none⟩ = some (.slice xra xrn xrc) ∧ V.cell? ⟨w.heap.size + 1, 4, none⟩ = some (.slice xka xkn xkc) ∧ V.cell? ⟨w.heap.size + 1, 5, none⟩ = some (.int .i64 yk) ∧ V.cell? ⟨w.heap.size + 1, 6, none⟩ = some (.slice yna ynn ync) ∧ V.cell? ⟨w.heap.size + 1, 7, none⟩ = some (.slice yra yrn yrc) ∧ V.cell? ⟨w.heap.size + 1, 8, none⟩ = some (.slice yka ykn ykc) ∧ V.cell? ⟨w.heap.size + 1, 9, none⟩ = some (.slice ea en ec) ∧ V.cell? ⟨w.heap.size + 1, 10, none⟩ = some (.slice fa fn fc) ∧ V.cell? ⟨w.heap.size + 1, 11, none⟩ = some (.slice aa an ac) ∧ V.cell? ⟨w.heap.size + 1, 12, none⟩ = some (.slice ba bn bc))) (first | with_reducible exact HSat.out _ Hw2.out | with_reducible exact HSat.out _ Hw1.out | with_reducible exact HSat.out _ Hw3.out | with_reducible exact HSat.out _ H0d.out) (first | (go_at_call_of 54 aa; first | (refine (HIa.out W0.drew H0d.out).mono ?_; rintro r w1 ⟨rfl, hbq⟩; rw [← HZa.out]; have Hw1 : Hid (Below W0.heap.size W0 w1) := H0d.out.trans (hbq.mono H0d.out.size); clear hbq) | (refine (HIa.out w3 Hw3.out).mono ?_; rintro r w2 ⟨rfl, hbq⟩; rw [← HZa.out]; have Hw2 : Hid (Below W0.heap.size W0 w2) := Hw3.out.trans (hbq.mono Hw3.out.size); clear hbq)) | (go_at_call_of 54 ba; first | (refine (HIb.out w1 Hw1.out).mono ?_; rintro r w2 ⟨rfl, hbq⟩; rw [← HZb.out]; have Hw2 : Hid (Below W0.heap.size W0 w2) := Hw1.out.trans (hbq.mono Hw1.out.size); clear hbq) | (refine (HIb.out W0.drew H0d.out).mono ?_; rintro r w3 ⟨rfl, hbq⟩; rw [← HZb.out]; have Hw3 : Hid (Below W0.heap.size W0 w3) := H0d.out.trans (hbq.mono H0d.out.size); clear hbq))) | fail
    all_goals
      go_wp2_with fail
      go_meet
      case rel => exact ⟨rfl, rfl, Hw2.out⟩
  case rest =>
    obtain ⟨hp, hq, hcb⟩ := hcut
    subst hp
    subst hq
    have H1 : Hid (Below W0.heap.size W0 wc) := hcb
    have H1d : Hid (Below W0.heap.size W0 wc.drew) := hcb.drew
    clear hcb
    cases hidx : idxO x.inds y.a with
    | none =>
      have HE2 : Hid (satB x L y = false) := by
        unfold Hid
        rw [HE.out, seatZ_none hidx]
        rfl
      have hz : za = -1 := by rw [HZa.out]; exact idxZ_none hidx
      subst hz
      clear hidx
      obtain ⟨⟨a0, a1, a2, a3, a4, a5, a6⟩, p0, p1, p2, p3, p4, p5, p6, p7, p8, p9, p10, p11, p12⟩ := HSat.out wc H1.out
      go_upto_region 9 with fail
      go_quiet (fail)
      go_wp2_with fail
      go_ret
      exact ⟨rb' HE2.out.symm, HFin.out (below_drewN H1.out _)⟩
    | some i =>
      obtain ⟨tb, tof, e, rfl, htb, hit, heL, hse, hcell⟩ := HSeat.out _ _ hidx
      have hz : za = (i : Int) := by rw [HZa.out]; exact idxZ_some hidx
      have hin0 : (0 : Int) ≤ (i : Int) := by omega
      have hiz : (i : Int) < (tn : Int) := by omega
      subst hz
      have hha : hasB (L : Int) (e : Int) = true := by unfold hasB; simp; omega
      cases hidy : idxO x.inds y.b with
      | none =>
        have HE2 : Hid (satB x L y = false) := by
          unfold Hid
          rw [HE.out, seatZ_none hidy]
          have : hasB x.n (-1) = false := by unfold hasB; simp
          rw [this]
          simp
        have hz : zb = -1 := by rw [HZb.out]; exact idxZ_none hidy
        subst hz
        clear hidx hidy hse hcell hha
        obtain ⟨⟨a0, a1, a2, a3, a4, a5, a6⟩, p0, p1, p2, p3, p4, p5, p6, p7, p8, p9, p10, p11, p12⟩ := HSat.out wc H1.out
        go_upto_region 9 with fail
        go_quiet (fail)
        go_wp2_with fail
        go_ret
        exact ⟨rb' HE2.out.symm, HFin.out (below_drewN H1.out _)⟩
      | some j =>
        obtain ⟨tb2, tof2, f, heq, htb2, hjt, hfL, hsf, hcelf⟩ := HSeat.out _ _ hidy
        simp only [Option.some.injEq, Addr.mk.injEq, and_true] at heq
        obtain ⟨rfl, rfl⟩ := heq
        have hz : zb = (j : Int) := by rw [HZb.out]; exact idxZ_some hidy
        have hjn0 : (0 : Int) ≤ (j : Int) := by omega
        have hjz : (j : Int) < (tn : Int) := by omega
        subst hz
        have hhb : hasB (L : Int) (f : Int) = true := by unfold hasB; simp; omega
        have HE2 : Hid (satB x L y = relO x y.r e f L) := by
          unfold Hid
          rw [HE.out, hse, hsf, HN.out, hha, hhb]
          simp
        have HS3 : Hid (∀ V, Below W0.heap.size W0 V → ((V.cell? ⟨w.heap.size, 0, none⟩ = some (.int .i64 L) ∧ V.cell? ⟨w.heap.size, 1, none⟩ = some (.slice na nn nc) ∧ V.cell? ⟨w.heap.size, 2, none⟩ = some (.slice sa sn sc) ∧ V.cell? ⟨w.heap.size, 3, none⟩ = some (.slice ra rn rc) ∧ V.cell? ⟨w.heap.size, 4, none⟩ = some (.slice la ln lc) ∧ V.cell? ⟨w.heap.size, 5, none⟩ = some (.slice ia im ic) ∧ V.cell? ⟨w.heap.size, 6, none⟩ = some (.slice (some ⟨tb, tof, none⟩) tn tc)) ∧ (V.cell? ⟨w.heap.size + 1, 0, none⟩ = some (.int .i64 5) ∧ V.cell? ⟨w.heap.size + 1, 1, none⟩ = some (.int .i64 xk) ∧ V.cell? ⟨w.heap.size + 1, 2, none⟩ = some (.slice xna xnn xnc) ∧ V.cell? ⟨w.heap.size + 1, 3, none⟩ = some (.slice xra xrn xrc) ∧ V.cell? ⟨w.heap.size + 1, 4, none⟩ = some (.slice xka xkn xkc) ∧ V.cell? ⟨w.heap.size + 1, 5, none⟩ = some (.int .i64 yk) ∧ V.cell? ⟨w.heap.size + 1, 6, none⟩ = some (.slice yna ynn ync) ∧ V.cell? ⟨w.heap.size + 1, 7, none⟩ = some (.slice yra yrn yrc) ∧ V.cell? ⟨w.heap.size + 1, 8, none⟩ = some (.slice yka ykn ykc) ∧ V.cell? ⟨w.heap.size + 1, 9, none⟩ = some (.slice ea en ec) ∧ V.cell? ⟨w.heap.size + 1, 10, none⟩ = some (.slice fa fn fc) ∧ V.cell? ⟨w.heap.size + 1, 11, none⟩ = some (.slice aa an ac) ∧ V.cell? ⟨w.heap.size + 1, 12, none⟩ = some (.slice ba bn bc))) ∧ V.cell? ⟨tb, tof + i, none⟩ = some (.int .i64 (e : Int)) ∧ V.cell? ⟨tb, tof + j, none⟩ = some (.int .i64 (f : Int))) := fun V hV => ⟨HSat.out V hV, (hV.cell (p := ⟨tb, tof + i, none⟩) (show tb < W0.heap.size by omega)).trans ((HB0.out.cell (p := ⟨tb, tof + i, none⟩) htb).trans hcell), (hV.cell (p := ⟨tb, tof + j, none⟩) (show tb < W0.heap.size by omega)).trans ((HB0.out.cell (p := ⟨tb, tof + j, none⟩) htb).trans hcelf)⟩
        obtain ⟨rr, hrr⟩ : ∃ rr, rr = relO x y.r e f L := ⟨_, rfl⟩
        have HRr : Hid (rr = relO x y.r e f L) := hrr
        clear hrr hidx hidy hse hsf hcell hcelf hha hhb
        go_upto_region 9 with fail
        first | go_region_held3 (fun V => ((V.cell? ⟨w.heap.size, 0, none⟩ = some (.int .i64 L) ∧ V.cell? ⟨w.heap.size, 1, none⟩ = some (.slice na nn nc) ∧ V.cell? ⟨w.heap.size, 2, none⟩ = some (.slice sa sn sc) ∧ V.cell? ⟨w.heap.size, 3, none⟩ = some (.slice ra rn rc) ∧ V.cell? ⟨w.heap.size, 4, none⟩ = some (.slice la ln lc) ∧ V.cell? ⟨w.heap.size, 5, none⟩ = some (.slice ia im ic) ∧ V.cell? ⟨w.heap.size, 6, none⟩ = some (.slice (some ⟨tb, tof, none⟩) tn tc)) ∧ (V.cell? ⟨w.heap.size + 1, 0, none⟩ = some (.int .i64 5) ∧ V.cell? ⟨w.heap.size + 1, 1, none⟩ = some (.int .i64 xk) ∧ V.cell? ⟨w.heap.size + 1, 2, none⟩ = some (.slice xna xnn xnc) ∧ V.cell? ⟨w.heap.size + 1, 3, none⟩ = some (.slice xra xrn xrc) ∧ V.cell? ⟨w.heap.size + 1, 4, none⟩ = some (.slice xka xkn xkc) ∧ V.cell? ⟨w.heap.size + 1, 5, none⟩ = some (.int .i64 yk) ∧ V.cell? ⟨w.heap.size + 1, 6, none⟩ = some (.slice yna ynn ync) ∧ V.cell? ⟨w.heap.size + 1, 7, none⟩ = some (.slice yra yrn yrc) ∧ V.cell? ⟨w.heap.size + 1, 8, none⟩ = some (.slice yka ykn ykc) ∧ V.cell? ⟨w.heap.size + 1, 9, none⟩ = some (.slice ea en ec) ∧ V.cell? ⟨w.heap.size + 1, 10, none⟩ = some (.slice fa fn fc) ∧ V.cell? ⟨w.heap.size + 1, 11, none⟩ = some (.slice aa an ac) ∧ V.cell? ⟨w.heap.size + 1, 12, none⟩ = some (.slice ba bn bc))) ∧ V.cell? ⟨tb, tof + i, none⟩ = some (.int .i64 (e : Int)) ∧ V.cell? ⟨tb, tof + j, none⟩ = some (.int .i64 (f : Int))) (first | with_reducible exact HS3.out _ H2.out | with_reducible exact HS3.out _ H1d.out) (first | (go_at_call 56; refine (HC.out wc.drew H1d.out e f heL hfL).mono ?_; rintro r w2 ⟨rfl, hbq⟩; rw [← HRr.out]; have H2 : Hid (Below W0.heap.size W0 w2) := H1d.out.trans (hbq.mono H1d.out.size); clear hbq)) | fail
        all_goals
          go_wp2_with fail
          go_ret
          exact ⟨rb' (HRr.out.trans HE2.out.symm), HFin.out H2.out⟩
end

section
open Go.RowKit Go.Deep
set_option linter.unusedVariables false

theorem l4satisfies_any {na : Option Addr} {nn nc : Nat} {sa : Option Addr} {sn sc : Nat} {ra : Option Addr} {rn rc : Nat} {la : Option Addr} {ln lc : Nat} {ia : Option Addr} {im ic : Nat} {ta : Option Addr} {tn tc : Nat} {x : WD} {dp : Nat} {c0 c1 c2 c3 d0 d1 d2 d3 : Value} {ea : Option Addr} {en ec : Nat} {fa : Option Addr} {fn fc : Nat} {aa : Option Addr} {an ac : Nat} {ba : Option Addr} {bn bc : Nat} {y : AX} {w : World} {lo hi lo' hi' : Nat} {L : Nat} (hok : worldB x = true) (hn : x.n = (L : Int)) (hL : L ≤ 128) (h : RdW lo hi w na nn nc sa sn sc ra rn rc la ln lc ia im ic ta tn tc x) (ha : RdA lo' hi' w dp c0 c1 c2 c3 d0 d1 d2 d3 ea en ec fa fn fc aa an ac ba bn bc y) (hhi : hi ≤ w.heap.size) (hhi' : hi' ≤ w.heap.size) (hax : axOk y = true) (k : Int) (hk : k = y.kind) :
    Calls Tryz.prog 25 #[.agg #[.int .i64 L, .slice na nn nc, .slice sa sn sc, .slice ra rn rc, .slice la ln lc, .slice ia im ic, .slice ta tn tc], .agg #[.int .i64 k, c0, c1, c2, c3, d0, d1, d2, d3, .slice ea en ec, .slice fa fn fc, .slice aa an ac, .slice ba bn bc]] w fun r w' => r = .returned (.bool (satB x L y)) ∧ Below w.heap.size w w' := by
  obtain ⟨_, _, hk0, hk5⟩ := ax_cons hax
  by_cases h3 : k = 3
  · subst h3; exact l4sat_roles hok hn hL h ha hhi hhi' hax hk.symm
  · by_cases h4 : k = 4
    · subst h4; exact l4sat_is hok hn hL h ha hhi hhi' hax hk.symm
    · by_cases h5 : k = 5
      · subst h5; exact l4sat_rel hok hn hL h ha hhi hhi' hax hk.symm
      · exact l4sat_rule hok hn hL h ha hhi hhi' hax k hk (by omega)

set_option maxRecDepth 100000 in
set_option maxHeartbeats 8000000 in
theorem specSatisfies_any {na : Option Addr} {nn nc : Nat} {sa : Option Addr} {sn sc : Nat} {ra : Option Addr} {rn rc : Nat} {la : Option Addr} {ln lc : Nat} {ia : Option Addr} {im ic : Nat} {ta : Option Addr} {tn tc : Nat} {x : WD} {dp : Nat} {c0 c1 c2 c3 d0 d1 d2 d3 : Value} {ea : Option Addr} {en ec : Nat} {fa : Option Addr} {fn fc : Nat} {aa : Option Addr} {an ac : Nat} {ba : Option Addr} {bn bc : Nat} {y : AX} {w : World} {lo hi lo' hi' : Nat} {nx : Int} (h : RdW lo hi w na nn nc sa sn sc ra rn rc la ln lc ia im ic ta tn tc x) (ha : RdA lo' hi' w dp c0 c1 c2 c3 d0 d1 d2 d3 ea en ec fa fn fc aa an ac ba bn bc y) (hn : x.n = nx) (hhi : hi ≤ w.heap.size) (hhi' : hi' ≤ w.heap.size) (k : Int) (hk : k = y.kind) :
    Calls Tryz.prog 7 #[.agg #[.int .i64 nx, .slice na nn nc, .slice sa sn sc, .slice ra rn rc, .slice la ln lc, .slice ia im ic, .slice ta tn tc], .agg #[.int .i64 k, c0, c1, c2, c3, d0, d1, d2, d3, .slice ea en ec, .slice fa fn fc, .slice aa an ac, .slice ba bn bc]] w fun r w' => r = .returned (.bool (satisB x y)) ∧ Below w.heap.size w w' := by
  obtain ⟨xk, xna, xnn, xnc, xra, xrn, xrc, xka, xkn, xkc, rfl, rfl, rfl, rfl⟩ := ha.c.sh.form
  obtain ⟨yk, yna, ynn, ync, yra, yrn, yrc, yka, ykn, ykc, rfl, rfl, rfl, rfl⟩ := ha.d.sh.form
  obtain ⟨W0, hW0⟩ : ∃ W0, W0 = (w.alloc (.cells #[.int .i64 nx, .slice na nn nc, .slice sa sn sc, .slice ra rn rc, .slice la ln lc, .slice ia im ic, .slice ta tn tc] 36)).alloc (.cells #[.int .i64 k, .int .i64 xk, .slice xna xnn xnc, .slice xra xrn xrc, .slice xka xkn xkc, .int .i64 yk, .slice yna ynn ync, .slice yra yrn yrc, .slice yka ykn ykc, .slice ea en ec, .slice fa fn fc, .slice aa an ac, .slice ba bn bc] 42) := ⟨_, rfl⟩
  have HW0 : Hid (W0 = (w.alloc (.cells #[.int .i64 nx, .slice na nn nc, .slice sa sn sc, .slice ra rn rc, .slice la ln lc, .slice ia im ic, .slice ta tn tc] 36)).alloc (.cells #[.int .i64 k, .int .i64 xk, .slice xna xnn xnc, .slice xra xrn xrc, .slice xka xkn xkc, .int .i64 yk, .slice yna ynn ync, .slice yra yrn yrc, .slice yka ykn ykc, .slice ea en ec, .slice fa fn fc, .slice aa an ac, .slice ba bn bc] 42)) := hW0
  have hs0 : W0.heap.size = w.heap.size + 2 := by rw [hW0]; simp
  have hb0 : Below w.heap.size w W0 := by rw [hW0]; exact ((Below.refl _ _).alloc (Nat.le_refl _) _).alloc (by simp) _
  have HB0 : Hid (Below w.heap.size w W0) := hb0
  have hbw : BoxW 36 W0 w.heap.size nx (.slice na nn nc) (.slice sa sn sc) (.slice ra rn rc) (.slice la ln lc) (.slice ia im ic) (.slice ta tn tc) := by rw [hW0]; exact (BoxW.new _ w _ _ _ _ _ _ _).below ((Below.refl _ _).alloc (Nat.le_refl _) _) (by simp)
  have hba : BoxA 42 W0 (w.heap.size + 1) k (.int .i64 xk) (.slice xna xnn xnc) (.slice xra xrn xrc) (.slice xka xkn xkc) (.int .i64 yk) (.slice yna ynn ync) (.slice yra yrn yrc) (.slice yka ykn ykc) (.slice ea en ec) (.slice fa fn fc) (.slice aa an ac) (.slice ba bn bc) := by
    rw [hW0]
    have := BoxA.new 42 (w.alloc (.cells #[.int .i64 nx, .slice na nn nc, .slice sa sn sc, .slice ra rn rc, .slice la ln lc, .slice ia im ic, .slice ta tn tc] 36)) k (.int .i64 xk) (.slice xna xnn xnc) (.slice xra xrn xrc) (.slice xka xkn xkc) (.int .i64 yk) (.slice yna ynn ync) (.slice yra yrn yrc) (.slice yka ykn ykc) (.slice ea en ec) (.slice fa fn fc) (.slice aa an ac) (.slice ba bn bc)
    rwa [World.size_alloc] at this
  have HSat : Hid (∀ V, Below W0.heap.size W0 V → (V.cell? ⟨w.heap.size, 0, none⟩ = some (.int .i64 nx) ∧ V.cell? ⟨w.heap.size, 1, none⟩ = some (.slice na nn nc) ∧ V.cell? ⟨w.heap.size, 2, none⟩ = some (.slice sa sn sc) ∧ V.cell? ⟨w.heap.size, 3, none⟩ = some (.slice ra rn rc) ∧ V.cell? ⟨w.heap.size, 4, none⟩ = some (.slice la ln lc) ∧ V.cell? ⟨w.heap.size, 5, none⟩ = some (.slice ia im ic) ∧ V.cell? ⟨w.heap.size, 6, none⟩ = some (.slice ta tn tc)) ∧ (V.cell? ⟨w.heap.size + 1, 0, none⟩ = some (.int .i64 k) ∧ V.cell? ⟨w.heap.size + 1, 1, none⟩ = some (.int .i64 xk) ∧ V.cell? ⟨w.heap.size + 1, 2, none⟩ = some (.slice xna xnn xnc) ∧ V.cell? ⟨w.heap.size + 1, 3, none⟩ = some (.slice xra xrn xrc) ∧ V.cell? ⟨w.heap.size + 1, 4, none⟩ = some (.slice xka xkn xkc) ∧ V.cell? ⟨w.heap.size + 1, 5, none⟩ = some (.int .i64 yk) ∧ V.cell? ⟨w.heap.size + 1, 6, none⟩ = some (.slice yna ynn ync) ∧ V.cell? ⟨w.heap.size + 1, 7, none⟩ = some (.slice yra yrn yrc) ∧ V.cell? ⟨w.heap.size + 1, 8, none⟩ = some (.slice yka ykn ykc) ∧ V.cell? ⟨w.heap.size + 1, 9, none⟩ = some (.slice ea en ec) ∧ V.cell? ⟨w.heap.size + 1, 10, none⟩ = some (.slice fa fn fc) ∧ V.cell? ⟨w.heap.size + 1, 11, none⟩ = some (.slice aa an ac) ∧ V.cell? ⟨w.heap.size + 1, 12, none⟩ = some (.slice ba bn bc))) := fun V hV => ⟨(hbw.below hV (by omega)).cells, (hba.below hV (by omega)).cells⟩
  have HWd : Hid (∀ V, Below W0.heap.size W0 V → RdW lo hi V na nn nc sa sn sc ra rn rc la ln lc ia im ic ta tn tc x ∧ hi ≤ V.heap.size) := fun V hV => ⟨(h.below hb0 hhi).below hV (by omega), by have := hV.size; omega⟩
  have HAx : Hid (∀ V, Below W0.heap.size W0 V → RdA lo' hi' V dp (.int .i64 xk) (.slice xna xnn xnc) (.slice xra xrn xrc) (.slice xka xkn xkc) (.int .i64 yk) (.slice yna ynn ync) (.slice yra yrn yrc) (.slice yka ykn ykc) ea en ec fa fn fc aa an ac ba bn bc y ∧ hi' ≤ V.heap.size) := fun V hV => ⟨(ha.below hb0 hhi').below hV (by omega), by have := hV.size; omega⟩
  have HFin : Hid (∀ {V : World}, Below W0.heap.size W0 V → Below w.heap.size w V) := fun {V} hV => HB0.out.trans (hV.mono HB0.out.size)
  have HN : Hid (x.n = nx) := hn
  have HK : Hid (k = y.kind) := hk
  clear h ha hhi hhi' hb0 hbw hba hW0 hn hk
  have hs0' : w.heap.size + 2 ≤ W0.heap.size := by omega
  clear hs0
  go_enter Tryz.func7, Tryz.ntmps7
  go_upto_region 1 with fail
  rw [← HW0.out]
  obtain ⟨⟨a0, a1, a2, a3, a4, a5, a6⟩, p0, p1, p2, p3, p4, p5, p6, p7, p8, p9, p10, p11, p12⟩ := HSat.out W0 (Below.refl _ _)
  go_wp2_with fail
  refine (specWorldOk_any (HWd.out W0 (Below.refl _ _)).1 HN.out (HWd.out W0 (Below.refl _ _)).2).mono ?_
  rintro r w1 ⟨rfl, hb1⟩
  have H1 : Hid (Below W0.heap.size W0 w1) := hb1
  clear hb1 a0 a1 a2 a3 a4 a5 a6 p0 p1 p2 p3 p4 p5 p6 p7 p8 p9 p10 p11 p12
  obtain ⟨⟨a0, a1, a2, a3, a4, a5, a6⟩, p0, p1, p2, p3, p4, p5, p6, p7, p8, p9, p10, p11, p12⟩ := HSat.out w1 H1.out
  cases hwo : worldB x with
  | false =>
    have HE : Hid (satisB x y = false) := by unfold Hid satisB; rw [hwo]; rfl
    clear hwo
    go_wp2_with fail
    go_ret
    exact ⟨rb' HE.out.symm, HFin.out H1.out⟩
  | true =>
    have HWo : Hid (worldB x = true) := hwo
    clear hwo
    go_wp2_with fail
    refine (specAxiomOk_any (HAx.out w1 H1.out).1 (HAx.out w1 H1.out).2 k HK.out).mono ?_
    rintro r w2 ⟨rfl, hb2⟩
    have H2 : Hid (Below W0.heap.size W0 w2) := H1.out.trans (hb2.mono H1.out.size)
    clear hb2 a0 a1 a2 a3 a4 a5 a6 p0 p1 p2 p3 p4 p5 p6 p7 p8 p9 p10 p11 p12
    obtain ⟨⟨a0, a1, a2, a3, a4, a5, a6⟩, p0, p1, p2, p3, p4, p5, p6, p7, p8, p9, p10, p11, p12⟩ := HSat.out w2 H2.out
    cases hao : axOk y with
    | false =>
      have HE : Hid (satisB x y = false) := by unfold Hid satisB; rw [HWo.out, hao]; rfl
      clear hao
      go_wp2_with fail
      go_ret
      exact ⟨rb' HE.out.symm, HFin.out H2.out⟩
    | true =>
      have HAo : Hid (axOk y = true) := hao
      clear hao
      obtain ⟨L, hL⟩ : ∃ L, L = x.n.toNat := ⟨_, rfl⟩
      have hwf := ((worldB_iff x).1 HWo.out).1.1
      have hLn : x.n = (L : Int) := by omega
      have hL128 : L ≤ 128 := by omega
      have hnL : nx = (L : Int) := by rw [← HN.out]; exact hLn
      subst hnL
      have HE : Hid (satisB x y = satB x L y) := by unfold Hid satisB; rw [HWo.out, HAo.out, hL]; rfl
      clear hwf hL hLn
      obtain ⟨rr, hrr⟩ : ∃ rr, rr = satB x L y := ⟨_, rfl⟩
      have HRr : Hid (rr = satB x L y) := hrr
      clear hrr
      go_wp2_with fail
      refine (l4satisfies_any HWo.out HN.out hL128 (HWd.out w2 H2.out).1 (HAx.out w2 H2.out).1 (HWd.out w2 H2.out).2 (HAx.out w2 H2.out).2 HAo.out k HK.out).mono ?_
      rintro r w3 ⟨rfl, hb3⟩
      rw [← HRr.out]
      have H3 : Hid (Below W0.heap.size W0 w3) := H2.out.trans (hb3.mono H2.out.size)
      clear hb3
      go_wp2_with fail
      go_ret
      exact ⟨rb' (HRr.out.trans HE.out.symm), HFin.out H3.out⟩
end

end Go.Proofs.YtfbokljbmihlbaaGreat
