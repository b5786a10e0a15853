/- The program's Satisfies: whether what is told holds in a world. -/
import Derived.Test.YtfbokljbmihlbaaGreatNSatI
import Derived.Test.YtfbokljbmihlbaaGreatSatI2b
import Derived.Test.YtfbokljbmihlbaaGreatSatI3b
import Derived.Test.YtfbokljbmihlbaaGreatNAxP
import Derived.Test.YtfbokljbmihlbaaGreatWdScene0
namespace Go.Proofs.YtfbokljbmihlbaaGreat
open Go.RowKit Go.Deep
set_option linter.unusedVariables false

theorem sat_any {na : Option Addr} {nn nc : Nat} {sa : Option Addr} {sn sc : Nat} {ra : Option Addr} {rn rc : Nat} {la : Option Addr} {ln lc : Nat} {ia : Option Addr} {im ic : Nat} {ta : Option Addr} {tn tc : Nat} {x : WD} {dp : Nat} {c0 c1 c2 c3 d0 d1 d2 d3 : Value} {ea : Option Addr} {en ec : Nat} {fa : Option Addr} {fn fc : Nat} {aa : Option Addr} {an ac : Nat} {ba : Option Addr} {bn bc : Nat} {y : AX} {w : World} {lo hi lo' hi' : Nat} {L : Nat} (hok : worldB x = true) (hn : x.n = (L : Int)) (hL : 1 ≤ L ∧ L ≤ 128) (h : RdW lo hi w na nn nc sa sn sc ra rn rc la ln lc ia im ic ta tn tc x) (ha : RdA lo' hi' w dp c0 c1 c2 c3 d0 d1 d2 d3 ea en ec fa fn fc aa an ac ba bn bc y) (hhi : hi ≤ w.heap.size) (hhi' : hi' ≤ w.heap.size) (hax : axOk y = true) (k : Int) (hk : k = y.kind) :
    Calls Tryz.prog 33 #[.agg #[.int .i64 L, .slice ia im ic, .slice ta tn tc, .int .i64 L, .slice na nn nc, .slice sa sn sc, .slice ra rn rc, .slice la ln lc, .slice ia im ic, .slice ta tn tc], .agg #[.int .i64 k, c0, c1, c2, c3, d0, d1, d2, d3, .slice ea en ec, .slice fa fn fc, .slice aa an ac, .slice ba bn bc]] w fun r w' => r = .returned (.bool (satB x L y)) ∧ Below w.heap.size w w' := by
  obtain ⟨_, _, hk0, hk5⟩ := ax_cons hax
  by_cases h0 : k = 0
  · subst h0; exact sat_sub hok hn hL h ha hhi hhi' hax hk.symm
  by_cases h1 : k = 1
  · subst h1; exact sat_eq hok hn hL h ha hhi hhi' hax hk.symm
  by_cases h2 : k = 2
  · subst h2; exact sat_dis hok hn hL h ha hhi hhi' hax hk.symm
  by_cases h3 : k = 3
  · subst h3; exact sat_roles hok hn hL h ha hhi hhi' hax hk.symm
  by_cases h4 : k = 4
  · subst h4; exact sat_is hok hn hL h ha hhi hhi' hax hk.symm
  · obtain rfl : k = 5 := by omega
    exact sat_rel hok hn hL h ha hhi hhi' hax hk.symm

set_option maxRecDepth 100000 in
set_option maxHeartbeats 8000000 in
theorem implSatisfies_any {na : Option Addr} {nn nc : Nat} {sa : Option Addr} {sn sc : Nat} {ra : Option Addr} {rn rc : Nat} {la : Option Addr} {ln lc : Nat} {ia : Option Addr} {im ic : Nat} {ta : Option Addr} {tn tc : Nat} {x : WD} {dp : Nat} {c0 c1 c2 c3 d0 d1 d2 d3 : Value} {ea : Option Addr} {en ec : Nat} {fa : Option Addr} {fn fc : Nat} {aa : Option Addr} {an ac : Nat} {ba : Option Addr} {bn bc : Nat} {y : AX} {w : World} {lo hi lo' hi' : Nat} {nx : Int} (h : RdW lo hi w na nn nc sa sn sc ra rn rc la ln lc ia im ic ta tn tc x) (ha : RdA lo' hi' w dp c0 c1 c2 c3 d0 d1 d2 d3 ea en ec fa fn fc aa an ac ba bn bc y) (hn : x.n = nx) (hhi : hi ≤ w.heap.size) (hhi' : hi' ≤ w.heap.size) (hbc : y.c.bulk ≤ 1048576) (hbd : y.d.bulk ≤ 1048576) (k : Int) (hk : k = y.kind) :
    Calls Tryz.prog 10 #[.agg #[.int .i64 nx, .slice na nn nc, .slice sa sn sc, .slice ra rn rc, .slice la ln lc, .slice ia im ic, .slice ta tn tc], .agg #[.int .i64 k, c0, c1, c2, c3, d0, d1, d2, d3, .slice ea en ec, .slice fa fn fc, .slice aa an ac, .slice ba bn bc]] w fun r w' => r = .returned (.bool (satisB x y)) ∧ Below w.heap.size w w' := by
  obtain ⟨xk, xna, xnn, xnc, xra, xrn, xrc, xka, xkn, xkc, rfl, rfl, rfl, rfl⟩ := ha.c.sh.form
  obtain ⟨yk, yna, ynn, ync, yra, yrn, yrc, yka, ykn, ykc, rfl, rfl, rfl, rfl⟩ := ha.d.sh.form
  obtain ⟨W0, hW0⟩ : ∃ W0, W0 = (w.alloc (.cells #[.int .i64 nx, .slice na nn nc, .slice sa sn sc, .slice ra rn rc, .slice la ln lc, .slice ia im ic, .slice ta tn tc] 36)).alloc (.cells #[.int .i64 k, .int .i64 xk, .slice xna xnn xnc, .slice xra xrn xrc, .slice xka xkn xkc, .int .i64 yk, .slice yna ynn ync, .slice yra yrn yrc, .slice yka ykn ykc, .slice ea en ec, .slice fa fn fc, .slice aa an ac, .slice ba bn bc] 42) := ⟨_, rfl⟩
  have HW0 : Hid (W0 = (w.alloc (.cells #[.int .i64 nx, .slice na nn nc, .slice sa sn sc, .slice ra rn rc, .slice la ln lc, .slice ia im ic, .slice ta tn tc] 36)).alloc (.cells #[.int .i64 k, .int .i64 xk, .slice xna xnn xnc, .slice xra xrn xrc, .slice xka xkn xkc, .int .i64 yk, .slice yna ynn ync, .slice yra yrn yrc, .slice yka ykn ykc, .slice ea en ec, .slice fa fn fc, .slice aa an ac, .slice ba bn bc] 42)) := hW0
  have hs0 : W0.heap.size = w.heap.size + 2 := by rw [hW0]; simp
  have hb0 : Below w.heap.size w W0 := by rw [hW0]; exact ((Below.refl _ _).alloc (Nat.le_refl _) _).alloc (by simp) _
  have HB0 : Hid (Below w.heap.size w W0) := hb0
  have hbw : BoxW 36 W0 w.heap.size nx (.slice na nn nc) (.slice sa sn sc) (.slice ra rn rc) (.slice la ln lc) (.slice ia im ic) (.slice ta tn tc) := by rw [hW0]; exact (BoxW.new _ w _ _ _ _ _ _ _).below ((Below.refl _ _).alloc (Nat.le_refl _) _) (by simp)
  have hba : BoxA 42 W0 (w.heap.size + 1) k (.int .i64 xk) (.slice xna xnn xnc) (.slice xra xrn xrc) (.slice xka xkn xkc) (.int .i64 yk) (.slice yna ynn ync) (.slice yra yrn yrc) (.slice yka ykn ykc) (.slice ea en ec) (.slice fa fn fc) (.slice aa an ac) (.slice ba bn bc) := by
    rw [hW0]
    have := BoxA.new 42 (w.alloc (.cells #[.int .i64 nx, .slice na nn nc, .slice sa sn sc, .slice ra rn rc, .slice la ln lc, .slice ia im ic, .slice ta tn tc] 36)) k (.int .i64 xk) (.slice xna xnn xnc) (.slice xra xrn xrc) (.slice xka xkn xkc) (.int .i64 yk) (.slice yna ynn ync) (.slice yra yrn yrc) (.slice yka ykn ykc) (.slice ea en ec) (.slice fa fn fc) (.slice aa an ac) (.slice ba bn bc)
    rwa [World.size_alloc] at this
  have HSat : Hid (∀ V, Below W0.heap.size W0 V → (V.cell? ⟨w.heap.size, 0, none⟩ = some (.int .i64 nx) ∧ V.cell? ⟨w.heap.size, 1, none⟩ = some (.slice na nn nc) ∧ V.cell? ⟨w.heap.size, 2, none⟩ = some (.slice sa sn sc) ∧ V.cell? ⟨w.heap.size, 3, none⟩ = some (.slice ra rn rc) ∧ V.cell? ⟨w.heap.size, 4, none⟩ = some (.slice la ln lc) ∧ V.cell? ⟨w.heap.size, 5, none⟩ = some (.slice ia im ic) ∧ V.cell? ⟨w.heap.size, 6, none⟩ = some (.slice ta tn tc)) ∧ (V.cell? ⟨w.heap.size + 1, 0, none⟩ = some (.int .i64 k) ∧ V.cell? ⟨w.heap.size + 1, 1, none⟩ = some (.int .i64 xk) ∧ V.cell? ⟨w.heap.size + 1, 2, none⟩ = some (.slice xna xnn xnc) ∧ V.cell? ⟨w.heap.size + 1, 3, none⟩ = some (.slice xra xrn xrc) ∧ V.cell? ⟨w.heap.size + 1, 4, none⟩ = some (.slice xka xkn xkc) ∧ V.cell? ⟨w.heap.size + 1, 5, none⟩ = some (.int .i64 yk) ∧ V.cell? ⟨w.heap.size + 1, 6, none⟩ = some (.slice yna ynn ync) ∧ V.cell? ⟨w.heap.size + 1, 7, none⟩ = some (.slice yra yrn yrc) ∧ V.cell? ⟨w.heap.size + 1, 8, none⟩ = some (.slice yka ykn ykc) ∧ V.cell? ⟨w.heap.size + 1, 9, none⟩ = some (.slice ea en ec) ∧ V.cell? ⟨w.heap.size + 1, 10, none⟩ = some (.slice fa fn fc) ∧ V.cell? ⟨w.heap.size + 1, 11, none⟩ = some (.slice aa an ac) ∧ V.cell? ⟨w.heap.size + 1, 12, none⟩ = some (.slice ba bn bc))) := fun V hV => ⟨(hbw.below hV (by omega)).cells, (hba.below hV (by omega)).cells⟩
  have HWd : Hid (∀ V, Below W0.heap.size W0 V → RdW lo hi V na nn nc sa sn sc ra rn rc la ln lc ia im ic ta tn tc x ∧ hi ≤ V.heap.size) := fun V hV => ⟨(h.below hb0 hhi).below hV (by omega), by have := hV.size; omega⟩
  have HAx : Hid (∀ V, Below W0.heap.size W0 V → RdA lo' hi' V dp (.int .i64 xk) (.slice xna xnn xnc) (.slice xra xrn xrc) (.slice xka xkn xkc) (.int .i64 yk) (.slice yna ynn ync) (.slice yra yrn yrc) (.slice yka ykn ykc) ea en ec fa fn fc aa an ac ba bn bc y ∧ hi' ≤ V.heap.size) := fun V hV => ⟨(ha.below hb0 hhi').below hV (by omega), by have := hV.size; omega⟩
  have HFin : Hid (∀ {V : World}, Below W0.heap.size W0 V → Below w.heap.size w V) := fun {V} hV => HB0.out.trans (hV.mono HB0.out.size)
  have HN : Hid (x.n = nx) := hn
  have HK : Hid (k = y.kind) := hk
  have HBk : Hid (y.c.bulk ≤ 1048576 ∧ y.d.bulk ≤ 1048576) := ⟨hbc, hbd⟩
  have hs0' : w.heap.size + 2 ≤ W0.heap.size := by omega
  clear h ha hhi hhi' hb0 hbw hba hW0 hn hk hs0 hbc hbd
  go_enter Tryz.func10, Tryz.ntmps10
  go_upto_region 1 with fail
  rw [← HW0.out]
  obtain ⟨⟨a0, a1, a2, a3, a4, a5, a6⟩, p0, p1, p2, p3, p4, p5, p6, p7, p8, p9, p10, p11, p12⟩ := HSat.out W0 (Below.refl _ _)
  go_wp2_with fail
  refine (sceneOf_any (HWd.out W0 (Below.refl _ _)).1 HN.out (HWd.out W0 (Below.refl _ _)).2).mono ?_
  rintro r w1 ⟨rfl, hb1⟩
  have H1 : Hid (Below W0.heap.size W0 w1) := hb1
  have s1 := hb1.size
  clear hb1 a0 a1 a2 a3 a4 a5 a6 p0 p1 p2 p3 p4 p5 p6 p7 p8 p9 p10 p11 p12
  obtain ⟨⟨a0, a1, a2, a3, a4, a5, a6⟩, p0, p1, p2, p3, p4, p5, p6, p7, p8, p9, p10, p11, p12⟩ := HSat.out w1 H1.out
  cases hwo : worldB x with
  | false =>
    have HE : Hid (satisB x y = false) := by unfold Hid satisB; rw [hwo]; rfl
    rw [show ∀ u v, whichV false u v = v from fun _ _ => rfl]
    obtain ⟨U, hU⟩ : ∃ U, U = w1.alloc (.cells #[.int .i64 0, .slice none 0 0, .slice none 0 0, .int .i64 0, .slice none 0 0, .slice none 0 0, .slice none 0 0, .slice none 0 0, .slice none 0 0, .slice none 0 0] 73) := ⟨_, rfl⟩
    have HU : Hid (U = w1.alloc (.cells #[.int .i64 0, .slice none 0 0, .slice none 0 0, .int .i64 0, .slice none 0 0, .slice none 0 0, .slice none 0 0, .slice none 0 0, .slice none 0 0, .slice none 0 0] 73)) := hU
    have HB1 : Hid (Below w.heap.size w U) := by unfold Hid; rw [hU]; exact HFin.out (H1.out.alloc H1.out.size _)
    clear hwo hU
    go_upto_region 2 with fail
    rw [← HU.out]
    go_wp2_with fail
    go_ret
    exact ⟨rb' HE.out.symm, HB1.out⟩
  | true =>
    have HWo : Hid (worldB x = true) := hwo
    clear hwo
    rw [show ∀ u v, whichV true u v = u from fun _ _ => rfl]
    obtain ⟨U, hU⟩ : ∃ U, U = w1.alloc (.cells #[.int .i64 nx, .slice ia im ic, .slice ta tn tc, .int .i64 nx, .slice na nn nc, .slice sa sn sc, .slice ra rn rc, .slice la ln lc, .slice ia im ic, .slice ta tn tc] 73) := ⟨_, rfl⟩
    have HU : Hid (U = w1.alloc (.cells #[.int .i64 nx, .slice ia im ic, .slice ta tn tc, .int .i64 nx, .slice na nn nc, .slice sa sn sc, .slice ra rn rc, .slice la ln lc, .slice ia im ic, .slice ta tn tc] 73)) := hU
    have hbs : BoxS U w1.heap.size (.int .i64 nx) (.slice ia im ic) (.slice ta tn tc) (.int .i64 nx) (.slice na nn nc) (.slice sa sn sc) (.slice ra rn rc) (.slice la ln lc) (.slice ia im ic) (.slice ta tn tc) := by rw [hU]; exact BoxS.new w1 _ _ _ _ _ _ _ _ _ _
    have HUb : Hid (Below W0.heap.size W0 U) := by unfold Hid; rw [hU]; exact H1.out.alloc H1.out.size _
    have hsU : w1.heap.size < U.heap.size := by rw [hU]; simp
    have HSc : Hid (∀ V, Below U.heap.size U V → (V.cell? ⟨w1.heap.size, 0, none⟩ = some (.int .i64 nx) ∧ V.cell? ⟨w1.heap.size, 1, none⟩ = some (.slice ia im ic) ∧ V.cell? ⟨w1.heap.size, 2, none⟩ = some (.slice ta tn tc) ∧ V.cell? ⟨w1.heap.size, 3, none⟩ = some (.int .i64 nx) ∧ V.cell? ⟨w1.heap.size, 4, none⟩ = some (.slice na nn nc) ∧ V.cell? ⟨w1.heap.size, 5, none⟩ = some (.slice sa sn sc) ∧ V.cell? ⟨w1.heap.size, 6, none⟩ = some (.slice ra rn rc) ∧ V.cell? ⟨w1.heap.size, 7, none⟩ = some (.slice la ln lc) ∧ V.cell? ⟨w1.heap.size, 8, none⟩ = some (.slice ia im ic) ∧ V.cell? ⟨w1.heap.size, 9, none⟩ = some (.slice ta tn tc))) := fun V hV => (hbs.below hV hbs.lt).cells
    have HUV : Hid (∀ {V : World}, Below U.heap.size U V → Below W0.heap.size W0 V) := fun {V} hV => HUb.out.trans (hV.mono HUb.out.size)
    clear hU hbs
    go_upto_region 2 with fail
    rw [← HU.out]
    clear a0 a1 a2 a3 a4 a5 a6 p0 p1 p2 p3 p4 p5 p6 p7 p8 p9 p10 p11 p12
    obtain ⟨⟨a0, a1, a2, a3, a4, a5, a6⟩, p0, p1, p2, p3, p4, p5, p6, p7, p8, p9, p10, p11, p12⟩ := HSat.out U HUb.out
    go_wp2_with fail
    refine (implAxiomOk_any (HAx.out U HUb.out).1 (HAx.out U HUb.out).2 HBk.out.1 HBk.out.2 k HK.out).mono ?_
    rintro r w2 ⟨rfl, hb2⟩
    have H2u : Hid (Below U.heap.size U w2) := hb2
    have H2 : Hid (Below W0.heap.size W0 w2) := HUV.out hb2
    clear hb2 a0 a1 a2 a3 a4 a5 a6 p0 p1 p2 p3 p4 p5 p6 p7 p8 p9 p10 p11 p12
    obtain ⟨⟨a0, a1, a2, a3, a4, a5, a6⟩, p0, p1, p2, p3, p4, p5, p6, p7, p8, p9, p10, p11, p12⟩ := HSat.out w2 H2.out
    obtain ⟨m0, m1, m2, m3, m4, m5, m6, m7, m8, m9⟩ := HSc.out w2 H2u.out
    cases hao : axOk y with
    | false =>
      have HE : Hid (satisB x y = false) := by unfold Hid satisB; rw [HWo.out, hao]; rfl
      clear hao
      go_wp2_with fail
      go_ret
      exact ⟨rb' HE.out.symm, HFin.out H2.out⟩
    | true =>
      have HAo : Hid (axOk y = true) := hao
      clear hao
      obtain ⟨L, hL⟩ : ∃ L, L = x.n.toNat := ⟨_, rfl⟩
      have hwf := ((worldB_iff x).1 HWo.out).1.1
      have hLn : x.n = (L : Int) := by omega
      have hL128 : 1 ≤ L ∧ L ≤ 128 := by omega
      have hnL : nx = (L : Int) := by rw [← HN.out]; exact hLn
      subst hnL
      have HE : Hid (satisB x y = satB x L y) := by unfold Hid satisB; rw [HWo.out, HAo.out, hL]; rfl
      clear hwf hL hLn
      obtain ⟨rr, hrr⟩ : ∃ rr, rr = satB x L y := ⟨_, rfl⟩
      have HRr : Hid (rr = satB x L y) := hrr
      clear hrr
      go_wp2_with fail
      refine (sat_any HWo.out HN.out hL128 (HWd.out w2 H2.out).1 (HAx.out w2 H2.out).1 (HWd.out w2 H2.out).2 (HAx.out w2 H2.out).2 HAo.out k HK.out).mono ?_
      rintro r w3 ⟨rfl, hb3⟩
      rw [← HRr.out]
      have H3 : Hid (Below W0.heap.size W0 w3) := H2.out.trans (hb3.mono H2.out.size)
      clear hb3
      go_wp2_with fail
      go_ret
      exact ⟨rb' (HRr.out.trans HE.out.symm), HFin.out H3.out⟩

end Go.Proofs.YtfbokljbmihlbaaGreat
