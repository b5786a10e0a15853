/- spec.l4holds: for every world that may be and every concept whose parts are as their kinds ask it answers what 'holdC' says. -/
import Derived.Test.YtfbokljbmihlbaaGreatNSatM
import Derived.Deep.RegionHeld3
namespace Go.Proofs.YtfbokljbmihlbaaGreat
open Go.RowKit Go.Deep

def HoP (x : WD) (L : Nat) (na : Option Addr) (nn nc : Nat) (sa : Option Addr) (sn sc : Nat) (ra : Option Addr) (rn rc : Nat) (la : Option Addr) (ln lc : Nat) (ia : Option Addr) (im ic : Nat) (ta : Option Addr) (tn tc : Nat) (lo hi : Nat) (d : Nat) : Prop := ∀ (v : Value) (c : CN) (e : Nat) (w : World) (lo' hi' : Nat), RdW lo hi w na nn nc sa sn sc ra rn rc la ln lc ia im ic ta tn tc x → RdC lo' hi' w d v c → hi ≤ w.heap.size → hi' ≤ w.heap.size → wfC c = true → e < L →
  Calls Tryz.prog 55 #[.agg #[.int .i64 L, .slice na nn nc, .slice sa sn sc, .slice ra rn rc, .slice la ln lc, .slice ia im ic, .slice ta tn tc], v, .int .i64 e] w fun r w' => r = .returned (.bool (holdC x L c e)) ∧ Below w.heap.size w w'

set_option maxRecDepth 100000 in
set_option maxHeartbeats 8000000 in
theorem hoP_of {x : WD} {L : Nat} {na : Option Addr} {nn nc : Nat} {sa : Option Addr} {sn sc : Nat} {ra : Option Addr} {rn rc : Nat} {la : Option Addr} {ln lc : Nat} {ia : Option Addr} {im ic : Nat} {ta : Option Addr} {tn tc : Nat} {lo hi : Nat} (hok : worldB x = true) (hn : x.n = (L : Int)) (hL : L ≤ 128) {d : Nat} (H : ∀ d', d = d' + 1 → HoP x L na nn nc sa sn sc ra rn rc la ln lc ia im ic ta tn tc lo hi d') : HoP x L na nn nc sa sn sc ra rn rc la ln lc ia im ic ta tn tc lo hi d := by
  intro v c e w lo' hi' hW h hhi hhi' hwf heL
  have HOk : Hid (worldB x = true) := hok
  have HNx : Hid (x.n = (L : Int)) := hn
  cases d with
  | zero => exact h.elim
  | succ d =>
    have HH : Hid (HoP x L na nn nc sa sn sc ra rn rc la ln lc ia im ic ta tn tc lo hi d) := H d rfl
    have hR0 := h
    obtain ⟨cna, cnn, cnc, cra, crn, crc, cka, ckn, ckc, rfl, hnm, hrl, hks⟩ := h
    obtain ⟨hkl, hwk, hk0, hk7⟩ := wf_kids hwf
    have hHE := holdC_eq x L c e
    obtain ⟨k, hk⟩ : ∃ k, k = c.kind := ⟨_, rfl⟩
    rw [← hk] at hkl hk0 hk7 hHE ⊢
    have hcl : c.kids.length = ckn := hks.len
    rw [hcl] at hkl
    obtain ⟨W0, hW0⟩ : ∃ W0, W0 = (w.alloc (.cells #[.int .i64 L, .slice na nn nc, .slice sa sn sc, .slice ra rn rc, .slice la ln lc, .slice ia im ic, .slice ta tn tc] 36)).alloc (.cells #[.int .i64 k, .slice cna cnn cnc, .slice cra crn crc, .slice cka ckn ckc] 40) := ⟨_, rfl⟩
    have HW0 : Hid (W0 = (w.alloc (.cells #[.int .i64 L, .slice na nn nc, .slice sa sn sc, .slice ra rn rc, .slice la ln lc, .slice ia im ic, .slice ta tn tc] 36)).alloc (.cells #[.int .i64 k, .slice cna cnn cnc, .slice cra crn crc, .slice cka ckn ckc] 40)) := hW0
    have hs0 : W0.heap.size = w.heap.size + 2 := by rw [hW0]; simp
    have hb0 : Below w.heap.size w W0 := by rw [hW0]; exact ((Below.refl _ _).alloc (Nat.le_refl _) _).alloc (by simp) _
    have hbx : BoxW 36 W0 w.heap.size L (.slice na nn nc) (.slice sa sn sc) (.slice ra rn rc) (.slice la ln lc) (.slice ia im ic) (.slice ta tn tc) := by rw [hW0]; exact (BoxW.new _ w _ _ _ _ _ _ _).below ((Below.refl _ _).alloc (Nat.le_refl _) _) (by simp)
    have hby : BoxC W0 (w.heap.size + 1) (.int .i64 k) (.slice cna cnn cnc) (.slice cra crn crc) (.slice cka ckn ckc) := by
      rw [hW0]
      have := BoxC.new (w.alloc (.cells #[.int .i64 L, .slice na nn nc, .slice sa sn sc, .slice ra rn rc, .slice la ln lc, .slice ia im ic, .slice ta tn tc] 36)) (.int .i64 k) (.slice cna cnn cnc) (.slice cra crn crc) (.slice cka ckn ckc)
      rwa [World.size_alloc] at this
    have HB0 : Hid (Below w.heap.size w W0) := hb0
    have HWd : Hid (∀ V, Below W0.heap.size W0 V → RdW lo hi V na nn nc sa sn sc ra rn rc la ln lc ia im ic ta tn tc x ∧ hi ≤ V.heap.size) := fun V hV => ⟨(hW.below hb0 hhi).below hV (by omega), by have := hV.size; omega⟩
    have HNm : Hid (∀ V, Below W0.heap.size W0 V → Rd lo' hi' V cna cnn cnc c.name ∧ Rd lo' hi' V cra crn crc c.role ∧ hi' ≤ V.heap.size) := fun V hV => ⟨(hnm.below hb0 hhi').below hV (by omega), (hrl.below hb0 hhi').below hV (by omega), by have := hV.size; omega⟩
    have HS2 : Hid (∀ V, Below W0.heap.size W0 V → (V.cell? ⟨w.heap.size, 0, none⟩ = some (.int .i64 L) ∧ V.cell? ⟨w.heap.size, 1, none⟩ = some (.slice na nn nc) ∧ V.cell? ⟨w.heap.size, 2, none⟩ = some (.slice sa sn sc) ∧ V.cell? ⟨w.heap.size, 3, none⟩ = some (.slice ra rn rc) ∧ V.cell? ⟨w.heap.size, 4, none⟩ = some (.slice la ln lc) ∧ V.cell? ⟨w.heap.size, 5, none⟩ = some (.slice ia im ic) ∧ V.cell? ⟨w.heap.size, 6, none⟩ = some (.slice ta tn tc)) ∧ (V.cell? ⟨w.heap.size + 1, 0, none⟩ = some (.int .i64 k) ∧ V.cell? ⟨w.heap.size + 1, 1, none⟩ = some (.slice cna cnn cnc) ∧ V.cell? ⟨w.heap.size + 1, 2, none⟩ = some (.slice cra crn crc) ∧ V.cell? ⟨w.heap.size + 1, 3, none⟩ = some (.slice cka ckn ckc))) := fun V hV => ⟨(hbx.below hV (by omega)).cells, (hby.below hV (by omega)).cells⟩
    have H0d : Hid (Below W0.heap.size W0 W0.drew) := (Below.refl _ _).drew
    have HFin : Hid (∀ {V : World}, Below W0.heap.size W0 V → Below w.heap.size w V) := fun {V} hV => hb0.trans (hV.mono (by omega))
    have hkids := hks.below hb0 hhi'
    have HKid : Hid (∀ i, i < ckn → ∃ kb ko v0 v1 v2 v3, cka = some ⟨kb, ko, none⟩ ∧ kb < W0.heap.size ∧ W0.cell? ⟨kb, ko + i * 4, none⟩ = some v0 ∧ W0.cell? ⟨kb, ko + i * 4 + 1, none⟩ = some v1 ∧ W0.cell? ⟨kb, ko + i * 4 + 2, none⟩ = some v2 ∧ W0.cell? ⟨kb, ko + i * 4 + 3, none⟩ = some v3 ∧ RdC lo' hi' W0 d (.agg #[v0, v1, v2, v3]) (c.kids.getD i CN.zero) ∧ wfC (c.kids.getD i CN.zero) = true) := fun i hi => by
      rcases hkids.cells with hz | ⟨kb, ko, e1, _, hblt, hc⟩
      · omega
      · obtain ⟨v0, v1, v2, v3, q0, q1, q2, q3, hr⟩ := hc i hi
        exact ⟨kb, ko, v0, v1, v2, v3, e1, by omega, q0, q1, q2, q3, hr, wfL_getD _ _ (by omega) hwk⟩
    obtain ⟨⟨a0, a1, a2, a3, a4, a5, a6⟩, b0, b1, b2, b3⟩ := HS2.out W0 (Below.refl _ _)
    have HKk : Hid (∀ i y, i < ckn → holdK x L c.kids i y = holdC x L (c.kids.getD i CN.zero) y) := fun i y hi => holdK_getD x L c.kids i y (by omega)
    clear hok hn hW hR0 hnm hrl hks hkids hb0 hbx hby hW0 hwk hwf hcl H
    rcases (show k = 0 ∨ k = 1 ∨ k = 2 ∨ k = 3 ∨ k = 4 ∨ k = 5 ∨ k = 6 ∨ k = 7 by omega) with e0 | e1 | e2 | e3 | e4 | e5 | e6 | e7
    · subst e0
      have HE : Hid (holdC x L c e = true) := by unfold Hid; rw [hHE]; rfl
      clear hHE hk hs0
      go_enter Tryz.func55, Tryz.ntmps55
      go_upto_region 1 with fail
      rw [← HW0.out]
      go_wp2_with fail
      go_ret
      exact ⟨rb HE.out.symm, HFin.out (Below.refl _ _)⟩
    · subst e1
      have HE : Hid (holdC x L c e = false) := by unfold Hid; rw [hHE]; rfl
      clear hHE hk hs0
      go_enter Tryz.func55, Tryz.ntmps55
      go_upto_region 1 with fail
      rw [← HW0.out]
      go_wp2_with fail
      go_ret
      exact ⟨rb HE.out.symm, HFin.out (Below.refl _ _)⟩
    · subst e2
      have HE : Hid (holdC x L c e = flagO x.names x.sets c.name e) := by unfold Hid; rw [hHE]; rfl
      have heL' : (e : Int) < (L : Int) := by omega
      clear hHE hk hs0
      go_enter Tryz.func55, Tryz.ntmps55
      go_upto_region 1 with fail
      rw [← HW0.out]
      go_wp2_with fail
      refine (l4in_any (HWd.out _ (Below.refl _ _)).1 (HNm.out _ (Below.refl _ _)).1 HNx.out (HWd.out _ (Below.refl _ _)).2 (HNm.out _ (Below.refl _ _)).2.2 HOk.out heL').mono ?_
      rintro r w1 ⟨rfl, hb1⟩
      have H1 : Hid (Below W0.heap.size W0 w1) := hb1
      clear hb1
      go_wp2_with fail
      go_ret
      exact ⟨rb HE.out.symm, HFin.out H1.out⟩
    · subst e3
      have hck : ckn = 1 := by rw [show kidN 3 = 1 from rfl] at hkl; omega
      obtain ⟨kb, ko, v0, v1, v2, v3, ey1, hkb, q0, q1, q2, q3, hry, hwy⟩ := HKid.out 0 (by omega)
      obtain ⟨yk, yna, ynn, ync, yra, yrn, yrc, yka, ykn, ykc, rfl, rfl, rfl, rfl⟩ := hry.sh.form
      subst ey1
      simp only [Nat.zero_mul, Nat.add_zero] at q0 q1 q2 q3
      have HRy : Hid (∀ V, Below W0.heap.size W0 V → ∀ y : Nat, y < L → Calls Tryz.prog 55 #[.agg #[.int .i64 L, .slice na nn nc, .slice sa sn sc, .slice ra rn rc, .slice la ln lc, .slice ia im ic, .slice ta tn tc], .agg #[.int .i64 yk, .slice yna ynn ync, .slice yra yrn yrc, .slice yka ykn ykc], .int .i64 y] V fun r w' => r = .returned (.bool (holdC x L (c.kids.getD 0 CN.zero) y)) ∧ Below V.heap.size V w') := fun V hV y hy => HH.out _ _ y V lo' hi' (HWd.out V hV).1 (hry.below hV (by omega)) (HWd.out V hV).2 (HNm.out V hV).2.2 hwy hy
      have HSat : Hid (∀ V, Below W0.heap.size W0 V → (V.cell? ⟨w.heap.size, 0, none⟩ = some (.int .i64 L) ∧ V.cell? ⟨w.heap.size, 1, none⟩ = some (.slice na nn nc) ∧ V.cell? ⟨w.heap.size, 2, none⟩ = some (.slice sa sn sc) ∧ V.cell? ⟨w.heap.size, 3, none⟩ = some (.slice ra rn rc) ∧ V.cell? ⟨w.heap.size, 4, none⟩ = some (.slice la ln lc) ∧ V.cell? ⟨w.heap.size, 5, none⟩ = some (.slice ia im ic) ∧ V.cell? ⟨w.heap.size, 6, none⟩ = some (.slice ta tn tc)) ∧ (V.cell? ⟨w.heap.size + 1, 0, none⟩ = some (.int .i64 3) ∧ V.cell? ⟨w.heap.size + 1, 1, none⟩ = some (.slice cna cnn cnc) ∧ V.cell? ⟨w.heap.size + 1, 2, none⟩ = some (.slice cra crn crc) ∧ V.cell? ⟨w.heap.size + 1, 3, none⟩ = some (.slice (some ⟨kb, ko, none⟩) 1 ckc)) ∧ (V.cell? ⟨kb, ko, none⟩ = some (.int .i64 yk) ∧ V.cell? ⟨kb, ko + 1, none⟩ = some (.slice yna ynn ync) ∧ V.cell? ⟨kb, ko + 2, none⟩ = some (.slice yra yrn yrc) ∧ V.cell? ⟨kb, ko + 3, none⟩ = some (.slice yka ykn ykc))) := fun V hV => ⟨(HS2.out V hV).1, by have := (HS2.out V hV).2; rw [hck] at this; exact this, (hV.cell (p := ⟨kb, ko, none⟩) hkb).trans q0, (hV.cell (p := ⟨kb, ko + 1, none⟩) hkb).trans q1, (hV.cell (p := ⟨kb, ko + 2, none⟩) hkb).trans q2, (hV.cell (p := ⟨kb, ko + 3, none⟩) hkb).trans q3⟩
      obtain ⟨h0, hh0⟩ : ∃ b, b = holdC x L (c.kids.getD 0 CN.zero) e := ⟨_, rfl⟩
      have HH0 : Hid (h0 = holdC x L (c.kids.getD 0 CN.zero) e) := hh0
      have HE : Hid (holdC x L c e = !h0) := by unfold Hid; rw [hHE, hh0, ← HKk.out 0 e (by omega)]; rfl
      subst hck
      clear hHE hk hs0 hry hwy hh0 hkl
      go_enter Tryz.func55, Tryz.ntmps55
      go_upto_region 1 with fail
      rw [← HW0.out]
      go_upto_region 9 with fail
      first | go_region_held3 (fun V => (V.cell? ⟨w.heap.size, 0, none⟩ = some (.int .i64 L) ∧ V.cell? ⟨w.heap.size, 1, none⟩ = some (.slice na nn nc) ∧ V.cell? ⟨w.heap.size, 2, none⟩ = some (.slice sa sn sc) ∧ V.cell? ⟨w.heap.size, 3, none⟩ = some (.slice ra rn rc) ∧ V.cell? ⟨w.heap.size, 4, none⟩ = some (.slice la ln lc) ∧ V.cell? ⟨w.heap.size, 5, none⟩ = some (.slice ia im ic) ∧ V.cell? ⟨w.heap.size, 6, none⟩ = some (.slice ta tn tc)) ∧ (V.cell? ⟨w.heap.size + 1, 0, none⟩ = some (.int .i64 3) ∧ V.cell? ⟨w.heap.size + 1, 1, none⟩ = some (.slice cna cnn cnc) ∧ V.cell? ⟨w.heap.size + 1, 2, none⟩ = some (.slice cra crn crc) ∧ V.cell? ⟨w.heap.size + 1, 3, none⟩ = some (.slice (some ⟨kb, ko, none⟩) 1 ckc)) ∧ (V.cell? ⟨kb, ko, none⟩ = some (.int .i64 yk) ∧ V.cell? ⟨kb, ko + 1, none⟩ = some (.slice yna ynn ync) ∧ V.cell? ⟨kb, ko + 2, none⟩ = some (.slice yra yrn yrc) ∧ V.cell? ⟨kb, ko + 3, none⟩ = some (.slice yka ykn ykc))) (first | with_reducible exact HSat.out _ H1.out | with_reducible exact HSat.out _ H0d.out) (first | (go_at_call 55; refine (HRy.out W0.drew H0d.out e heL).mono ?_; rintro r w1 ⟨rfl, hb1⟩; rw [← HH0.out]; have H1 : Hid (Below W0.heap.size W0 w1) := H0d.out.trans hb1; clear hb1)) | fail
      all_goals
        go_wp2_with fail
        go_ret
        exact ⟨rb HE.out.symm, HFin.out H1.out⟩
    · subst e4
      have hck : ckn = 2 := by rw [show kidN 4 = 2 from rfl] at hkl; omega
      obtain ⟨kb, ko, v0, v1, v2, v3, ey1, hkb, q0, q1, q2, q3, hry, hwy⟩ := HKid.out 0 (by omega)
      obtain ⟨yk, yna, ynn, ync, yra, yrn, yrc, yka, ykn, ykc, rfl, rfl, rfl, rfl⟩ := hry.sh.form
      subst ey1
      simp only [Nat.zero_mul, Nat.add_zero] at q0 q1 q2 q3
      have Q0 := q0
      have Q1 := q1
      have Q2 := q2
      have Q3 := q3
      clear q0 q1 q2 q3
      obtain ⟨kb2, ko2, v0, v1, v2, v3, ez1, hkb2, q0, q1, q2, q3, hrz, hwz⟩ := HKid.out 1 (by omega)
      obtain ⟨zk, zna, znn, znc, zra, zrn, zrc, zka, zkn, zkc, rfl, rfl, rfl, rfl⟩ := hrz.sh.form
      simp only [Option.some.injEq, Addr.mk.injEq, and_true] at ez1
      obtain ⟨rfl, rfl⟩ := ez1
      simp only [Nat.one_mul] at q0 q1 q2 q3
      have HRy : Hid (∀ V, Below W0.heap.size W0 V → ∀ y : Nat, y < L → Calls Tryz.prog 55 #[.agg #[.int .i64 L, .slice na nn nc, .slice sa sn sc, .slice ra rn rc, .slice la ln lc, .slice ia im ic, .slice ta tn tc], .agg #[.int .i64 yk, .slice yna ynn ync, .slice yra yrn yrc, .slice yka ykn ykc], .int .i64 y] V fun r w' => r = .returned (.bool (holdC x L (c.kids.getD 0 CN.zero) y)) ∧ Below V.heap.size V w') := fun V hV y hy => HH.out _ _ y V lo' hi' (HWd.out V hV).1 (hry.below hV (by omega)) (HWd.out V hV).2 (HNm.out V hV).2.2 hwy hy
      have HRz : Hid (∀ V, Below W0.heap.size W0 V → ∀ y : Nat, y < L → Calls Tryz.prog 55 #[.agg #[.int .i64 L, .slice na nn nc, .slice sa sn sc, .slice ra rn rc, .slice la ln lc, .slice ia im ic, .slice ta tn tc], .agg #[.int .i64 zk, .slice zna znn znc, .slice zra zrn zrc, .slice zka zkn zkc], .int .i64 y] V fun r w' => r = .returned (.bool (holdC x L (c.kids.getD 1 CN.zero) y)) ∧ Below V.heap.size V w') := fun V hV y hy => HH.out _ _ y V lo' hi' (HWd.out V hV).1 (hrz.below hV (by omega)) (HWd.out V hV).2 (HNm.out V hV).2.2 hwz hy
      have HSat : Hid (∀ V, Below W0.heap.size W0 V → (V.cell? ⟨w.heap.size, 0, none⟩ = some (.int .i64 L) ∧ V.cell? ⟨w.heap.size, 1, none⟩ = some (.slice na nn nc) ∧ V.cell? ⟨w.heap.size, 2, none⟩ = some (.slice sa sn sc) ∧ V.cell? ⟨w.heap.size, 3, none⟩ = some (.slice ra rn rc) ∧ V.cell? ⟨w.heap.size, 4, none⟩ = some (.slice la ln lc) ∧ V.cell? ⟨w.heap.size, 5, none⟩ = some (.slice ia im ic) ∧ V.cell? ⟨w.heap.size, 6, none⟩ = some (.slice ta tn tc)) ∧ (V.cell? ⟨w.heap.size + 1, 0, none⟩ = some (.int .i64 4) ∧ V.cell? ⟨w.heap.size + 1, 1, none⟩ = some (.slice cna cnn cnc) ∧ V.cell? ⟨w.heap.size + 1, 2, none⟩ = some (.slice cra crn crc) ∧ V.cell? ⟨w.heap.size + 1, 3, none⟩ = some (.slice (some ⟨kb, ko, none⟩) 2 ckc)) ∧ (V.cell? ⟨kb, ko, none⟩ = some (.int .i64 yk) ∧ V.cell? ⟨kb, ko + 1, none⟩ = some (.slice yna ynn ync) ∧ V.cell? ⟨kb, ko + 2, none⟩ = some (.slice yra yrn yrc) ∧ V.cell? ⟨kb, ko + 3, none⟩ = some (.slice yka ykn ykc)) ∧ (V.cell? ⟨kb, ko + 4, none⟩ = some (.int .i64 zk) ∧ V.cell? ⟨kb, ko + 4 + 1, none⟩ = some (.slice zna znn znc) ∧ V.cell? ⟨kb, ko + 4 + 2, none⟩ = some (.slice zra zrn zrc) ∧ V.cell? ⟨kb, ko + 4 + 3, none⟩ = some (.slice zka zkn zkc))) := fun V hV => ⟨(HS2.out V hV).1, by have := (HS2.out V hV).2; rw [hck] at this; exact this, ⟨(hV.cell (p := ⟨kb, ko, none⟩) hkb).trans Q0, (hV.cell (p := ⟨kb, ko + 1, none⟩) hkb).trans Q1, (hV.cell (p := ⟨kb, ko + 2, none⟩) hkb).trans Q2, (hV.cell (p := ⟨kb, ko + 3, none⟩) hkb).trans Q3⟩, (hV.cell (p := ⟨kb, ko + 4, none⟩) hkb).trans q0, (hV.cell (p := ⟨kb, ko + 4 + 1, none⟩) hkb).trans q1, (hV.cell (p := ⟨kb, ko + 4 + 2, none⟩) hkb).trans q2, (hV.cell (p := ⟨kb, ko + 4 + 3, none⟩) hkb).trans q3⟩
      obtain ⟨h0, hh0⟩ : ∃ b, b = holdC x L (c.kids.getD 0 CN.zero) e := ⟨_, rfl⟩
      have HH0 : Hid (h0 = holdC x L (c.kids.getD 0 CN.zero) e) := hh0
      obtain ⟨h1, hh1⟩ : ∃ b, b = holdC x L (c.kids.getD 1 CN.zero) e := ⟨_, rfl⟩
      have HH1 : Hid (h1 = holdC x L (c.kids.getD 1 CN.zero) e) := hh1
      have HE : Hid (holdC x L c e = (h0 && h1)) := by unfold Hid; rw [hHE, hh0, hh1, ← HKk.out 0 e (by omega), ← HKk.out 1 e (by omega)]; rfl
      subst hck
      clear hHE hk hs0 hry hwy hrz hwz hh0 hh1 hkl
      go_enter Tryz.func55, Tryz.ntmps55
      go_upto_region 1 with fail
      rw [← HW0.out]
      go_upto_region 11 with fail
      cases h0 with
      | true =>
        first | go_region_held3 (fun V => (V.cell? ⟨w.heap.size, 0, none⟩ = some (.int .i64 L) ∧ V.cell? ⟨w.heap.size, 1, none⟩ = some (.slice na nn nc) ∧ V.cell? ⟨w.heap.size, 2, none⟩ = some (.slice sa sn sc) ∧ V.cell? ⟨w.heap.size, 3, none⟩ = some (.slice ra rn rc) ∧ V.cell? ⟨w.heap.size, 4, none⟩ = some (.slice la ln lc) ∧ V.cell? ⟨w.heap.size, 5, none⟩ = some (.slice ia im ic) ∧ V.cell? ⟨w.heap.size, 6, none⟩ = some (.slice ta tn tc)) ∧ (V.cell? ⟨w.heap.size + 1, 0, none⟩ = some (.int .i64 4) ∧ V.cell? ⟨w.heap.size + 1, 1, none⟩ = some (.slice cna cnn cnc) ∧ V.cell? ⟨w.heap.size + 1, 2, none⟩ = some (.slice cra crn crc) ∧ V.cell? ⟨w.heap.size + 1, 3, none⟩ = some (.slice (some ⟨kb, ko, none⟩) 2 ckc)) ∧ (V.cell? ⟨kb, ko, none⟩ = some (.int .i64 yk) ∧ V.cell? ⟨kb, ko + 1, none⟩ = some (.slice yna ynn ync) ∧ V.cell? ⟨kb, ko + 2, none⟩ = some (.slice yra yrn yrc) ∧ V.cell? ⟨kb, ko + 3, none⟩ = some (.slice yka ykn ykc)) ∧ (V.cell? ⟨kb, ko + 4, none⟩ = some (.int .i64 zk) ∧ V.cell? ⟨kb, ko + 4 + 1, none⟩ = some (.slice zna znn znc) ∧ V.cell? ⟨kb, ko + 4 + 2, none⟩ = some (.slice zra zrn zrc) ∧ V.cell? ⟨kb, ko + 4 + 3, none⟩ = some (.slice zka zkn zkc))) (first | with_reducible exact HSat.out _ H2.out | with_reducible exact HSat.out _ H1.out | with_reducible exact HSat.out _ H0d.out) (first | (go_at_call_of 55 yk; refine (HRy.out W0.drew H0d.out e heL).mono ?_; rintro r w1 ⟨rfl, hb1⟩; rw [← HH0.out]; have H1 : Hid (Below W0.heap.size W0 w1) := H0d.out.trans hb1; clear hb1) | (go_at_call_of 55 zk; refine (HRz.out w1 H1.out e heL).mono ?_; rintro r w2 ⟨rfl, hb2⟩; rw [← HH1.out]; have H2 : Hid (Below W0.heap.size W0 w2) := H1.out.trans (hb2.mono H1.out.size); clear hb2)) | fail
        all_goals
          go_wp2_with fail
          go_ret
          exact ⟨rb (by rw [HE.out]; rfl), HFin.out H2.out⟩
      | false =>
        first | go_region_with (go_at_call 55; refine (HRy.out W0.drew H0d.out e heL).mono ?_; rintro r w1 ⟨rfl, hb1⟩; rw [← HH0.out]; have H1 : Hid (Below W0.heap.size W0 w1) := H0d.out.trans hb1; clear hb1; go_wp2_with fail; (refine wpAny_take (i := 7) (v := (.bool false)) rfl (by kernel_rfl) (by kernel_rfl) (by kernel_rfl) (fun _ _ _ h => h) (Or.inl ⟨by rfl, fun w => by first | rfl | go_simp⟩) ?_; try simp only [List.getElem_toArray, List.getElem_cons_succ, List.getElem_cons_zero, Act.put, List.setIfInBounds_toArray, List.set_cons_zero, List.set_cons_succ]); (refine wpAny_take (i := 8) (v := undef) rfl (by kernel_rfl) (by kernel_rfl) (by kernel_rfl) (fun _ _ _ h => h) (Or.inr ⟨by rfl, rfl⟩) ?_; try simp only [List.getElem_toArray, List.getElem_cons_succ, List.getElem_cons_zero, Act.put, List.setIfInBounds_toArray, List.set_cons_zero, List.set_cons_succ]); (refine wpAny_take (i := 9) (v := undef) rfl (by kernel_rfl) (by kernel_rfl) (by kernel_rfl) (fun _ _ _ h => h) (Or.inr ⟨by rfl, rfl⟩) ?_; try simp only [List.getElem_toArray, List.getElem_cons_succ, List.getElem_cons_zero, Act.put, List.setIfInBounds_toArray, List.set_cons_zero, List.set_cons_succ]); (refine wpAny_take (i := 10) (v := undef) rfl (by kernel_rfl) (by kernel_rfl) (by kernel_rfl) (fun _ _ _ h => h) (Or.inr ⟨by rfl, rfl⟩) ?_; try simp only [List.getElem_toArray, List.getElem_cons_succ, List.getElem_cons_zero, Act.put, List.setIfInBounds_toArray, List.set_cons_zero, List.set_cons_succ]); (refine wpAny_take (i := 11) (v := undef) rfl (by kernel_rfl) (by kernel_rfl) (by kernel_rfl) (fun _ _ _ h => h) (Or.inr ⟨by rfl, rfl⟩) ?_; try simp only [List.getElem_toArray, List.getElem_cons_succ, List.getElem_cons_zero, Act.put, List.setIfInBounds_toArray, List.set_cons_zero, List.set_cons_succ]); (refine wpAny_take (i := 12) (v := undef) rfl (by kernel_rfl) (by kernel_rfl) (by kernel_rfl) (fun _ _ _ h => h) (Or.inr ⟨by rfl, rfl⟩) ?_; try simp only [List.getElem_toArray, List.getElem_cons_succ, List.getElem_cons_zero, Act.put, List.setIfInBounds_toArray, List.set_cons_zero, List.set_cons_succ]); (refine wpAny_take (i := 13) (v := undef) rfl (by kernel_rfl) (by kernel_rfl) (by kernel_rfl) (fun _ _ _ h => h) (Or.inr ⟨by rfl, rfl⟩) ?_; try simp only [List.getElem_toArray, List.getElem_cons_succ, List.getElem_cons_zero, Act.put, List.setIfInBounds_toArray, List.set_cons_zero, List.set_cons_succ]); (refine wpAny_all (rs := [14]) (by kernel_rfl) (by simp) ?_; intro jop hjop; (have hkop := List.mem_singleton.1 hjop); subst hkop; clear hjop; refine Yields.wpOp (v := undef) rfl (Or.inr ⟨by rfl, rfl⟩) ?_; try simp only [List.getElem_toArray, List.getElem_cons_succ, List.getElem_cons_zero, Act.put, List.setIfInBounds_toArray, List.set_cons_zero, List.set_cons_succ])) | fail
        all_goals
          go_wp2_with fail
          go_ret
          exact ⟨rb (by rw [HE.out]; rfl), HFin.out H1.out⟩
    · subst e5
      have hck : ckn = 2 := by rw [show kidN 5 = 2 from rfl] at hkl; omega
      obtain ⟨kb, ko, v0, v1, v2, v3, ey1, hkb, q0, q1, q2, q3, hry, hwy⟩ := HKid.out 0 (by omega)
      obtain ⟨yk, yna, ynn, ync, yra, yrn, yrc, yka, ykn, ykc, rfl, rfl, rfl, rfl⟩ := hry.sh.form
      subst ey1
      simp only [Nat.zero_mul, Nat.add_zero] at q0 q1 q2 q3
      have Q0 := q0
      have Q1 := q1
      have Q2 := q2
      have Q3 := q3
      clear q0 q1 q2 q3
      obtain ⟨kb2, ko2, v0, v1, v2, v3, ez1, hkb2, q0, q1, q2, q3, hrz, hwz⟩ := HKid.out 1 (by omega)
      obtain ⟨zk, zna, znn, znc, zra, zrn, zrc, zka, zkn, zkc, rfl, rfl, rfl, rfl⟩ := hrz.sh.form
      simp only [Option.some.injEq, Addr.mk.injEq, and_true] at ez1
      obtain ⟨rfl, rfl⟩ := ez1
      simp only [Nat.one_mul] at q0 q1 q2 q3
      have HRy : Hid (∀ V, Below W0.heap.size W0 V → ∀ y : Nat, y < L → Calls Tryz.prog 55 #[.agg #[.int .i64 L, .slice na nn nc, .slice sa sn sc, .slice ra rn rc, .slice la ln lc, .slice ia im ic, .slice ta tn tc], .agg #[.int .i64 yk, .slice yna ynn ync, .slice yra yrn yrc, .slice yka ykn ykc], .int .i64 y] V fun r w' => r = .returned (.bool (holdC x L (c.kids.getD 0 CN.zero) y)) ∧ Below V.heap.size V w') := fun V hV y hy => HH.out _ _ y V lo' hi' (HWd.out V hV).1 (hry.below hV (by omega)) (HWd.out V hV).2 (HNm.out V hV).2.2 hwy hy
      have HRz : Hid (∀ V, Below W0.heap.size W0 V → ∀ y : Nat, y < L → Calls Tryz.prog 55 #[.agg #[.int .i64 L, .slice na nn nc, .slice sa sn sc, .slice ra rn rc, .slice la ln lc, .slice ia im ic, .slice ta tn tc], .agg #[.int .i64 zk, .slice zna znn znc, .slice zra zrn zrc, .slice zka zkn zkc], .int .i64 y] V fun r w' => r = .returned (.bool (holdC x L (c.kids.getD 1 CN.zero) y)) ∧ Below V.heap.size V w') := fun V hV y hy => HH.out _ _ y V lo' hi' (HWd.out V hV).1 (hrz.below hV (by omega)) (HWd.out V hV).2 (HNm.out V hV).2.2 hwz hy
      have HSat : Hid (∀ V, Below W0.heap.size W0 V → (V.cell? ⟨w.heap.size, 0, none⟩ = some (.int .i64 L) ∧ V.cell? ⟨w.heap.size, 1, none⟩ = some (.slice na nn nc) ∧ V.cell? ⟨w.heap.size, 2, none⟩ = some (.slice sa sn sc) ∧ V.cell? ⟨w.heap.size, 3, none⟩ = some (.slice ra rn rc) ∧ V.cell? ⟨w.heap.size, 4, none⟩ = some (.slice la ln lc) ∧ V.cell? ⟨w.heap.size, 5, none⟩ = some (.slice ia im ic) ∧ V.cell? ⟨w.heap.size, 6, none⟩ = some (.slice ta tn tc)) ∧ (V.cell? ⟨w.heap.size + 1, 0, none⟩ = some (.int .i64 5) ∧ V.cell? ⟨w.heap.size + 1, 1, none⟩ = some (.slice cna cnn cnc) ∧ V.cell? ⟨w.heap.size + 1, 2, none⟩ = some (.slice cra crn crc) ∧ V.cell? ⟨w.heap.size + 1, 3, none⟩ = some (.slice (some ⟨kb, ko, none⟩) 2 ckc)) ∧ (V.cell? ⟨kb, ko, none⟩ = some (.int .i64 yk) ∧ V.cell? ⟨kb, ko + 1, none⟩ = some (.slice yna ynn ync) ∧ V.cell? ⟨kb, ko + 2, none⟩ = some (.slice yra yrn yrc) ∧ V.cell? ⟨kb, ko + 3, none⟩ = some (.slice yka ykn ykc)) ∧ (V.cell? ⟨kb, ko + 4, none⟩ = some (.int .i64 zk) ∧ V.cell? ⟨kb, ko + 4 + 1, none⟩ = some (.slice zna znn znc) ∧ V.cell? ⟨kb, ko + 4 + 2, none⟩ = some (.slice zra zrn zrc) ∧ V.cell? ⟨kb, ko + 4 + 3, none⟩ = some (.slice zka zkn zkc))) := fun V hV => ⟨(HS2.out V hV).1, by have := (HS2.out V hV).2; rw [hck] at this; exact this, ⟨(hV.cell (p := ⟨kb, ko, none⟩) hkb).trans Q0, (hV.cell (p := ⟨kb, ko + 1, none⟩) hkb).trans Q1, (hV.cell (p := ⟨kb, ko + 2, none⟩) hkb).trans Q2, (hV.cell (p := ⟨kb, ko + 3, none⟩) hkb).trans Q3⟩, (hV.cell (p := ⟨kb, ko + 4, none⟩) hkb).trans q0, (hV.cell (p := ⟨kb, ko + 4 + 1, none⟩) hkb).trans q1, (hV.cell (p := ⟨kb, ko + 4 + 2, none⟩) hkb).trans q2, (hV.cell (p := ⟨kb, ko + 4 + 3, none⟩) hkb).trans q3⟩
      obtain ⟨h0, hh0⟩ : ∃ b, b = holdC x L (c.kids.getD 0 CN.zero) e := ⟨_, rfl⟩
      have HH0 : Hid (h0 = holdC x L (c.kids.getD 0 CN.zero) e) := hh0
      obtain ⟨h1, hh1⟩ : ∃ b, b = holdC x L (c.kids.getD 1 CN.zero) e := ⟨_, rfl⟩
      have HH1 : Hid (h1 = holdC x L (c.kids.getD 1 CN.zero) e) := hh1
      have HE : Hid (holdC x L c e = (h0 || h1)) := by unfold Hid; rw [hHE, hh0, hh1, ← HKk.out 0 e (by omega), ← HKk.out 1 e (by omega)]; rfl
      subst hck
      clear hHE hk hs0 hry hwy hrz hwz hh0 hh1 hkl
      go_enter Tryz.func55, Tryz.ntmps55
      go_upto_region 1 with fail
      rw [← HW0.out]
      go_upto_region 13 with fail
      cases h0 with
      | false =>
        first | go_region_held3 (fun V => (V.cell? ⟨w.heap.size, 0, none⟩ = some (.int .i64 L) ∧ V.cell? ⟨w.heap.size, 1, none⟩ = some (.slice na nn nc) ∧ V.cell? ⟨w.heap.size, 2, none⟩ = some (.slice sa sn sc) ∧ V.cell? ⟨w.heap.size, 3, none⟩ = some (.slice ra rn rc) ∧ V.cell? ⟨w.heap.size, 4, none⟩ = some (.slice la ln lc) ∧ V.cell? ⟨w.heap.size, 5, none⟩ = some (.slice ia im ic) ∧ V.cell? ⟨w.heap.size, 6, none⟩ = some (.slice ta tn tc)) ∧ (V.cell? ⟨w.heap.size + 1, 0, none⟩ = some (.int .i64 5) ∧ V.cell? ⟨w.heap.size + 1, 1, none⟩ = some (.slice cna cnn cnc) ∧ V.cell? ⟨w.heap.size + 1, 2, none⟩ = some (.slice cra crn crc) ∧ V.cell? ⟨w.heap.size + 1, 3, none⟩ = some (.slice (some ⟨kb, ko, none⟩) 2 ckc)) ∧ (V.cell? ⟨kb, ko, none⟩ = some (.int .i64 yk) ∧ V.cell? ⟨kb, ko + 1, none⟩ = some (.slice yna ynn ync) ∧ V.cell? ⟨kb, ko + 2, none⟩ = some (.slice yra yrn yrc) ∧ V.cell? ⟨kb, ko + 3, none⟩ = some (.slice yka ykn ykc)) ∧ (V.cell? ⟨kb, ko + 4, none⟩ = some (.int .i64 zk) ∧ V.cell? ⟨kb, ko + 4 + 1, none⟩ = some (.slice zna znn znc) ∧ V.cell? ⟨kb, ko + 4 + 2, none⟩ = some (.slice zra zrn zrc) ∧ V.cell? ⟨kb, ko + 4 + 3, none⟩ = some (.slice zka zkn zkc))) (first | with_reducible exact HSat.out _ H2.out | with_reducible exact HSat.out _ H1.out | with_reducible exact HSat.out _ H0d.out) (first | (go_at_call_of 55 yk; refine (HRy.out W0.drew H0d.out e heL).mono ?_; rintro r w1 ⟨rfl, hb1⟩; rw [← HH0.out]; have H1 : Hid (Below W0.heap.size W0 w1) := H0d.out.trans hb1; clear hb1) | (go_at_call_of 55 zk; refine (HRz.out w1 H1.out e heL).mono ?_; rintro r w2 ⟨rfl, hb2⟩; rw [← HH1.out]; have H2 : Hid (Below W0.heap.size W0 w2) := H1.out.trans (hb2.mono H1.out.size); clear hb2)) | fail
        all_goals
          go_wp2_with fail
          go_ret
          exact ⟨rb (by rw [HE.out]; rfl), HFin.out H2.out⟩
      | true =>
        first | go_region_with (go_at_call 55; refine (HRy.out W0.drew H0d.out e heL).mono ?_; rintro r w1 ⟨rfl, hb1⟩; rw [← HH0.out]; have H1 : Hid (Below W0.heap.size W0 w1) := H0d.out.trans hb1; clear hb1; go_wp2_with fail; (refine wpAny_take (i := 7) (v := (.bool true)) rfl (by kernel_rfl) (by kernel_rfl) (by kernel_rfl) (fun _ _ _ h => h) (Or.inl ⟨by rfl, fun w => by first | rfl | go_simp⟩) ?_; try simp only [List.getElem_toArray, List.getElem_cons_succ, List.getElem_cons_zero, Act.put, List.setIfInBounds_toArray, List.set_cons_zero, List.set_cons_succ]); (refine wpAny_take (i := 8) (v := undef) rfl (by kernel_rfl) (by kernel_rfl) (by kernel_rfl) (fun _ _ _ h => h) (Or.inr ⟨by rfl, rfl⟩) ?_; try simp only [List.getElem_toArray, List.getElem_cons_succ, List.getElem_cons_zero, Act.put, List.setIfInBounds_toArray, List.set_cons_zero, List.set_cons_succ]); (refine wpAny_take (i := 9) (v := undef) rfl (by kernel_rfl) (by kernel_rfl) (by kernel_rfl) (fun _ _ _ h => h) (Or.inr ⟨by rfl, rfl⟩) ?_; try simp only [List.getElem_toArray, List.getElem_cons_succ, List.getElem_cons_zero, Act.put, List.setIfInBounds_toArray, List.set_cons_zero, List.set_cons_succ]); (refine wpAny_take (i := 10) (v := undef) rfl (by kernel_rfl) (by kernel_rfl) (by kernel_rfl) (fun _ _ _ h => h) (Or.inr ⟨by rfl, rfl⟩) ?_; try simp only [List.getElem_toArray, List.getElem_cons_succ, List.getElem_cons_zero, Act.put, List.setIfInBounds_toArray, List.set_cons_zero, List.set_cons_succ]); (refine wpAny_take (i := 11) (v := undef) rfl (by kernel_rfl) (by kernel_rfl) (by kernel_rfl) (fun _ _ _ h => h) (Or.inr ⟨by rfl, rfl⟩) ?_; try simp only [List.getElem_toArray, List.getElem_cons_succ, List.getElem_cons_zero, Act.put, List.setIfInBounds_toArray, List.set_cons_zero, List.set_cons_succ]); (refine wpAny_take (i := 12) (v := undef) rfl (by kernel_rfl) (by kernel_rfl) (by kernel_rfl) (fun _ _ _ h => h) (Or.inr ⟨by rfl, rfl⟩) ?_; try simp only [List.getElem_toArray, List.getElem_cons_succ, List.getElem_cons_zero, Act.put, List.setIfInBounds_toArray, List.set_cons_zero, List.set_cons_succ]); (refine wpAny_take (i := 13) (v := undef) rfl (by kernel_rfl) (by kernel_rfl) (by kernel_rfl) (fun _ _ _ h => h) (Or.inr ⟨by rfl, rfl⟩) ?_; try simp only [List.getElem_toArray, List.getElem_cons_succ, List.getElem_cons_zero, Act.put, List.setIfInBounds_toArray, List.set_cons_zero, List.set_cons_succ]); (refine wpAny_all (rs := [14]) (by kernel_rfl) (by simp) ?_; intro jop hjop; (have hkop := List.mem_singleton.1 hjop); subst hkop; clear hjop; refine Yields.wpOp (v := undef) rfl (Or.inr ⟨by rfl, rfl⟩) ?_; try simp only [List.getElem_toArray, List.getElem_cons_succ, List.getElem_cons_zero, Act.put, List.setIfInBounds_toArray, List.set_cons_zero, List.set_cons_succ])) | fail
        all_goals
          go_wp2_with fail
          go_ret
          exact ⟨rb (by rw [HE.out]; rfl), HFin.out H1.out⟩
    · subst e6
      have hck : ckn = 1 := by rw [show kidN 6 = 1 from rfl] at hkl; omega
      obtain ⟨kb, ko, v0, v1, v2, v3, ey1, hkb, q0, q1, q2, q3, hry, hwy⟩ := HKid.out 0 (by omega)
      obtain ⟨yk, yna, ynn, ync, yra, yrn, yrc, yka, ykn, ykc, rfl, rfl, rfl, rfl⟩ := hry.sh.form
      subst ey1
      simp only [Nat.zero_mul, Nat.add_zero] at q0 q1 q2 q3
      have HRy : Hid (∀ V, Below W0.heap.size W0 V → ∀ y : Nat, y < L → Calls Tryz.prog 55 #[.agg #[.int .i64 L, .slice na nn nc, .slice sa sn sc, .slice ra rn rc, .slice la ln lc, .slice ia im ic, .slice ta tn tc], .agg #[.int .i64 yk, .slice yna ynn ync, .slice yra yrn yrc, .slice yka ykn ykc], .int .i64 y] V fun r w' => r = .returned (.bool (holdC x L (c.kids.getD 0 CN.zero) y)) ∧ Below V.heap.size V w') := fun V hV y hy => HH.out _ _ y V lo' hi' (HWd.out V hV).1 (hry.below hV (by omega)) (HWd.out V hV).2 (HNm.out V hV).2.2 hwy hy
      have HSat : Hid (∀ V, Below W0.heap.size W0 V → (V.cell? ⟨w.heap.size, 0, none⟩ = some (.int .i64 L) ∧ V.cell? ⟨w.heap.size, 1, none⟩ = some (.slice na nn nc) ∧ V.cell? ⟨w.heap.size, 2, none⟩ = some (.slice sa sn sc) ∧ V.cell? ⟨w.heap.size, 3, none⟩ = some (.slice ra rn rc) ∧ V.cell? ⟨w.heap.size, 4, none⟩ = some (.slice la ln lc) ∧ V.cell? ⟨w.heap.size, 5, none⟩ = some (.slice ia im ic) ∧ V.cell? ⟨w.heap.size, 6, none⟩ = some (.slice ta tn tc)) ∧ (V.cell? ⟨w.heap.size + 1, 0, none⟩ = some (.int .i64 6) ∧ V.cell? ⟨w.heap.size + 1, 1, none⟩ = some (.slice cna cnn cnc) ∧ V.cell? ⟨w.heap.size + 1, 2, none⟩ = some (.slice cra crn crc) ∧ V.cell? ⟨w.heap.size + 1, 3, none⟩ = some (.slice (some ⟨kb, ko, none⟩) 1 ckc)) ∧ (V.cell? ⟨kb, ko, none⟩ = some (.int .i64 yk) ∧ V.cell? ⟨kb, ko + 1, none⟩ = some (.slice yna ynn ync) ∧ V.cell? ⟨kb, ko + 2, none⟩ = some (.slice yra yrn yrc) ∧ V.cell? ⟨kb, ko + 3, none⟩ = some (.slice yka ykn ykc))) := fun V hV => ⟨(HS2.out V hV).1, by have := (HS2.out V hV).2; rw [hck] at this; exact this, (hV.cell (p := ⟨kb, ko, none⟩) hkb).trans q0, (hV.cell (p := ⟨kb, ko + 1, none⟩) hkb).trans q1, (hV.cell (p := ⟨kb, ko + 2, none⟩) hkb).trans q2, (hV.cell (p := ⟨kb, ko + 3, none⟩) hkb).trans q3⟩
      have HE : Hid (holdC x L c e = someB x L c.role (c.kids.getD 0 CN.zero) e) := by
        unfold Hid
        rw [hHE]
        show List.any (List.range L) _ = _
        unfold someB
        congr 1
        funext y
        rw [HKk.out 0 y (by omega)]
      subst hck
      clear hHE hk hs0 hry hwy hkl a0 a1 a2 a3 a4 a5 a6
      go_enter Tryz.func55, Tryz.ntmps55
      go_upto_region 1 with fail
      rw [← HW0.out]
      go_upto_region 14 with fail
      clear b0 b1 b2 b3 q0 q1 q2 q3
      go_wp2_with fail
      go_loopw [7] (fun i wr => ∃ y : Nat, y ≤ L ∧ i = .int .i64 y ∧ (∀ j, j < y → (relO x c.role e j L && holdC x L (c.kids.getD 0 CN.zero) j) = false) ∧ Below W0.heap.size W0 wr) (fun i _ => L - (intOf i).toNat)
      case atStart => exact ⟨0, Nat.zero_le _, rfl, fun j hj => by omega, Below.refl _ _⟩
      case round =>
        obtain ⟨y, hy, rfl, hall, hbel⟩ := hrel
        have HAll : Hid (∀ j, j < y → (relO x c.role e j L && holdC x L (c.kids.getD 0 CN.zero) j) = false) := hall
        have HBr : Hid (Below W0.heap.size W0 wr) := hbel
        have Hrd : Hid (Below W0.heap.size W0 wr.drew) := hbel.drew
        obtain ⟨⟨a0, a1, a2, a3, a4, a5, a6⟩, ⟨b0, b1, b2, b3⟩, q0, q1, q2, q3⟩ := HSat.out wr hbel
        clear hall hbel
        by_cases hlt : y < L
        · have hyi : (y : Int) < (L : Int) := by omega
          obtain ⟨rl, hrl⟩ : ∃ b, b = relO x c.role e y L := ⟨_, rfl⟩
          have HRl : Hid (rl = relO x c.role e y L) := hrl
          obtain ⟨h1, hh1⟩ : ∃ b, b = holdC x L (c.kids.getD 0 CN.zero) y := ⟨_, rfl⟩
          have HH1 : Hid (h1 = holdC x L (c.kids.getD 0 CN.zero) y) := hh1
          have HNext : Hid ((relO x c.role e y L && holdC x L (c.kids.getD 0 CN.zero) y) = false → ∀ j, j < y + 1 → (relO x c.role e j L && holdC x L (c.kids.getD 0 CN.zero) j) = false) := fun hb j hj => by
            by_cases e' : j = y
            · subst e'; exact hb
            · exact HAll.out j (by omega)
          clear hrl hh1
          cases rl with
          | false =>
            have HN : Hid (∀ j, j < y + 1 → (relO x c.role e j L && holdC x L (c.kids.getD 0 CN.zero) j) = false) := HNext.out (by rw [← HRl.out]; rfl)
            go_upto_region 17 with fail
            first | go_region_with (go_at_call 56; refine (l4rel_any (HWd.out _ Hrd.out).1 (HNm.out _ Hrd.out).2.1 HNx.out (HWd.out _ Hrd.out).2 (HNm.out _ Hrd.out).2.2 HOk.out heL hlt).mono ?_; rintro r w1 ⟨rfl, hb1⟩; rw [← HRl.out]; have H1 : Hid (Below W0.heap.size W0 w1) := Hrd.out.trans (hb1.mono Hrd.out.size); clear hb1; go_wp2_with fail; (refine wpAny_take (i := 6) (v := (.bool false)) rfl (by kernel_rfl) (by kernel_rfl) (by kernel_rfl) (fun _ _ _ h => h) (Or.inl ⟨by rfl, fun w => by first | rfl | go_simp⟩) ?_; try simp only [List.getElem_toArray, List.getElem_cons_succ, List.getElem_cons_zero, Act.put, List.setIfInBounds_toArray, List.set_cons_zero, List.set_cons_succ]); (refine wpAny_take (i := 7) (v := undef) rfl (by kernel_rfl) (by kernel_rfl) (by kernel_rfl) (fun _ _ _ h => h) (Or.inr ⟨by rfl, rfl⟩) ?_; try simp only [List.getElem_toArray, List.getElem_cons_succ, List.getElem_cons_zero, Act.put, List.setIfInBounds_toArray, List.set_cons_zero, List.set_cons_succ]); (refine wpAny_take (i := 8) (v := undef) rfl (by kernel_rfl) (by kernel_rfl) (by kernel_rfl) (fun _ _ _ h => h) (Or.inr ⟨by rfl, rfl⟩) ?_; try simp only [List.getElem_toArray, List.getElem_cons_succ, List.getElem_cons_zero, Act.put, List.setIfInBounds_toArray, List.set_cons_zero, List.set_cons_succ]); (refine wpAny_take (i := 9) (v := undef) rfl (by kernel_rfl) (by kernel_rfl) (by kernel_rfl) (fun _ _ _ h => h) (Or.inr ⟨by rfl, rfl⟩) ?_; try simp only [List.getElem_toArray, List.getElem_cons_succ, List.getElem_cons_zero, Act.put, List.setIfInBounds_toArray, List.set_cons_zero, List.set_cons_succ]); (refine wpAny_take (i := 10) (v := undef) rfl (by kernel_rfl) (by kernel_rfl) (by kernel_rfl) (fun _ _ _ h => h) (Or.inr ⟨by rfl, rfl⟩) ?_; try simp only [List.getElem_toArray, List.getElem_cons_succ, List.getElem_cons_zero, Act.put, List.setIfInBounds_toArray, List.set_cons_zero, List.set_cons_succ]); (refine wpAny_take (i := 11) (v := undef) rfl (by kernel_rfl) (by kernel_rfl) (by kernel_rfl) (fun _ _ _ h => h) (Or.inr ⟨by rfl, rfl⟩) ?_; try simp only [List.getElem_toArray, List.getElem_cons_succ, List.getElem_cons_zero, Act.put, List.setIfInBounds_toArray, List.set_cons_zero, List.set_cons_succ]); (refine wpAny_take (i := 12) (v := undef) rfl (by kernel_rfl) (by kernel_rfl) (by kernel_rfl) (fun _ _ _ h => h) (Or.inr ⟨by rfl, rfl⟩) ?_; try simp only [List.getElem_toArray, List.getElem_cons_succ, List.getElem_cons_zero, Act.put, List.setIfInBounds_toArray, List.set_cons_zero, List.set_cons_succ]); (refine wpAny_take (i := 14) (v := undef) rfl (by kernel_rfl) (by kernel_rfl) (by kernel_rfl) (fun _ _ _ h => h) (Or.inr ⟨by rfl, rfl⟩) ?_; try simp only [List.getElem_toArray, List.getElem_cons_succ, List.getElem_cons_zero, Act.put, List.setIfInBounds_toArray, List.set_cons_zero, List.set_cons_succ]); (refine wpAny_take (i := 15) (v := undef) rfl (by kernel_rfl) (by kernel_rfl) (by kernel_rfl) (fun _ _ _ h => h) (Or.inr ⟨by rfl, rfl⟩) ?_; try simp only [List.getElem_toArray, List.getElem_cons_succ, List.getElem_cons_zero, Act.put, List.setIfInBounds_toArray, List.set_cons_zero, List.set_cons_succ]); (refine wpAny_take (i := 16) (v := undef) rfl (by kernel_rfl) (by kernel_rfl) (by kernel_rfl) (fun _ _ _ h => h) (Or.inr ⟨by rfl, rfl⟩) ?_; try simp only [List.getElem_toArray, List.getElem_cons_succ, List.getElem_cons_zero, Act.put, List.setIfInBounds_toArray, List.set_cons_zero, List.set_cons_succ]); (refine wpAny_all (rs := [13]) (by kernel_rfl) (by simp) ?_; intro jop hjop; (have hkop := List.mem_singleton.1 hjop); subst hkop; clear hjop; refine Yields.wpOp (v := undef) rfl (Or.inr ⟨by rfl, rfl⟩) ?_; try simp only [List.getElem_toArray, List.getElem_cons_succ, List.getElem_cons_zero, Act.put, List.setIfInBounds_toArray, List.set_cons_zero, List.set_cons_succ]); (refine wpAny_take (i := 17) (v := undef) rfl (by kernel_rfl) (by kernel_rfl) (by kernel_rfl) (fun _ _ _ h => h) (Or.inr ⟨by rfl, rfl⟩) ?_; try simp only [List.getElem_toArray, List.getElem_cons_succ, List.getElem_cons_zero, Act.put, List.setIfInBounds_toArray, List.set_cons_zero, List.set_cons_succ])) | fail
            all_goals
              go_wp2_with fail
              go_roundw
              case rel => exact ⟨y + 1, by omega, by go_num, HN.out, H1.out⟩
              case measure => simp [intOf]; omega
          | true =>
            cases h1 with
            | false =>
              have HN : Hid (∀ j, j < y + 1 → (relO x c.role e j L && holdC x L (c.kids.getD 0 CN.zero) j) = false) := HNext.out (by rw [← HRl.out, ← HH1.out]; rfl)
              go_upto_region 17 with fail
              first | go_region_held3 (fun V => (V.cell? ⟨w.heap.size, 0, none⟩ = some (.int .i64 L) ∧ V.cell? ⟨w.heap.size, 1, none⟩ = some (.slice na nn nc) ∧ V.cell? ⟨w.heap.size, 2, none⟩ = some (.slice sa sn sc) ∧ V.cell? ⟨w.heap.size, 3, none⟩ = some (.slice ra rn rc) ∧ V.cell? ⟨w.heap.size, 4, none⟩ = some (.slice la ln lc) ∧ V.cell? ⟨w.heap.size, 5, none⟩ = some (.slice ia im ic) ∧ V.cell? ⟨w.heap.size, 6, none⟩ = some (.slice ta tn tc)) ∧ (V.cell? ⟨w.heap.size + 1, 0, none⟩ = some (.int .i64 6) ∧ V.cell? ⟨w.heap.size + 1, 1, none⟩ = some (.slice cna cnn cnc) ∧ V.cell? ⟨w.heap.size + 1, 2, none⟩ = some (.slice cra crn crc) ∧ V.cell? ⟨w.heap.size + 1, 3, none⟩ = some (.slice (some ⟨kb, ko, none⟩) 1 ckc)) ∧ (V.cell? ⟨kb, ko, none⟩ = some (.int .i64 yk) ∧ V.cell? ⟨kb, ko + 1, none⟩ = some (.slice yna ynn ync) ∧ V.cell? ⟨kb, ko + 2, none⟩ = some (.slice yra yrn yrc) ∧ V.cell? ⟨kb, ko + 3, none⟩ = some (.slice yka ykn ykc))) (first | with_reducible exact HSat.out _ H2.out | with_reducible exact HSat.out _ H1.out | with_reducible exact HSat.out _ Hrd.out) (first | (go_at_call 56; refine (l4rel_any (HWd.out _ Hrd.out).1 (HNm.out _ Hrd.out).2.1 HNx.out (HWd.out _ Hrd.out).2 (HNm.out _ Hrd.out).2.2 HOk.out heL hlt).mono ?_; rintro r w1 ⟨rfl, hb1⟩; rw [← HRl.out]; have H1 : Hid (Below W0.heap.size W0 w1) := Hrd.out.trans (hb1.mono Hrd.out.size); clear hb1) | (go_at_call 55; refine (HRy.out w1 H1.out y hlt).mono ?_; rintro r w2 ⟨rfl, hb2⟩; rw [← HH1.out]; have H2 : Hid (Below W0.heap.size W0 w2) := H1.out.trans (hb2.mono H1.out.size); clear hb2)) | fail
              all_goals
                go_wp2_with fail
                go_roundw
                case rel => exact ⟨y + 1, by omega, by go_num, HN.out, H2.out⟩
                case measure => simp [intOf]; omega
            | true =>
              have HN : Hid (someB x L c.role (c.kids.getD 0 CN.zero) e = true) := someB_at hlt (by rw [← HRl.out, ← HH1.out]; rfl)
              go_upto_region 17 with fail
              first | go_region_held3 (fun V => (V.cell? ⟨w.heap.size, 0, none⟩ = some (.int .i64 L) ∧ V.cell? ⟨w.heap.size, 1, none⟩ = some (.slice na nn nc) ∧ V.cell? ⟨w.heap.size, 2, none⟩ = some (.slice sa sn sc) ∧ V.cell? ⟨w.heap.size, 3, none⟩ = some (.slice ra rn rc) ∧ V.cell? ⟨w.heap.size, 4, none⟩ = some (.slice la ln lc) ∧ V.cell? ⟨w.heap.size, 5, none⟩ = some (.slice ia im ic) ∧ V.cell? ⟨w.heap.size, 6, none⟩ = some (.slice ta tn tc)) ∧ (V.cell? ⟨w.heap.size + 1, 0, none⟩ = some (.int .i64 6) ∧ V.cell? ⟨w.heap.size + 1, 1, none⟩ = some (.slice cna cnn cnc) ∧ V.cell? ⟨w.heap.size + 1, 2, none⟩ = some (.slice cra crn crc) ∧ V.cell? ⟨w.heap.size + 1, 3, none⟩ = some (.slice (some ⟨kb, ko, none⟩) 1 ckc)) ∧ (V.cell? ⟨kb, ko, none⟩ = some (.int .i64 yk) ∧ V.cell? ⟨kb, ko + 1, none⟩ = some (.slice yna ynn ync) ∧ V.cell? ⟨kb, ko + 2, none⟩ = some (.slice yra yrn yrc) ∧ V.cell? ⟨kb, ko + 3, none⟩ = some (.slice yka ykn ykc))) (first | with_reducible exact HSat.out _ H2.out | with_reducible exact HSat.out _ H1.out | with_reducible exact HSat.out _ Hrd.out) (first | (go_at_call 56; refine (l4rel_any (HWd.out _ Hrd.out).1 (HNm.out _ Hrd.out).2.1 HNx.out (HWd.out _ Hrd.out).2 (HNm.out _ Hrd.out).2.2 HOk.out heL hlt).mono ?_; rintro r w1 ⟨rfl, hb1⟩; rw [← HRl.out]; have H1 : Hid (Below W0.heap.size W0 w1) := Hrd.out.trans (hb1.mono Hrd.out.size); clear hb1) | (go_at_call 55; refine (HRy.out w1 H1.out y hlt).mono ?_; rintro r w2 ⟨rfl, hb2⟩; rw [← HH1.out]; have H2 : Hid (Below W0.heap.size W0 w2) := H1.out.trans (hb2.mono H1.out.size); clear hb2)) | fail
              all_goals
                obtain ⟨⟨d0, d1, d2, d3, d4, d5, d6⟩, ⟨f0, f1, f2, f3⟩, _⟩ := HSat.out w2 H2.out
                go_wp2_with fail
                go_ret
                exact ⟨rb (by rw [HE.out, HN.out]), HFin.out H2.out⟩
        · have hyi : ¬ ((y : Int) < (L : Int)) := by omega
          have HN : Hid (someB x L c.role (c.kids.getD 0 CN.zero) e = false) := someB_none (fun j hj => HAll.out j (by omega))
          go_wp2_with fail
          go_ret
          exact ⟨rb (by rw [HE.out, HN.out]), HFin.out HBr.out⟩
    · subst e7
      have hck : ckn = 1 := by rw [show kidN 7 = 1 from rfl] at hkl; omega
      obtain ⟨kb, ko, v0, v1, v2, v3, ey1, hkb, q0, q1, q2, q3, hry, hwy⟩ := HKid.out 0 (by omega)
      obtain ⟨yk, yna, ynn, ync, yra, yrn, yrc, yka, ykn, ykc, rfl, rfl, rfl, rfl⟩ := hry.sh.form
      subst ey1
      simp only [Nat.zero_mul, Nat.add_zero] at q0 q1 q2 q3
      have HRy : Hid (∀ V, Below W0.heap.size W0 V → ∀ y : Nat, y < L → Calls Tryz.prog 55 #[.agg #[.int .i64 L, .slice na nn nc, .slice sa sn sc, .slice ra rn rc, .slice la ln lc, .slice ia im ic, .slice ta tn tc], .agg #[.int .i64 yk, .slice yna ynn ync, .slice yra yrn yrc, .slice yka ykn ykc], .int .i64 y] V fun r w' => r = .returned (.bool (holdC x L (c.kids.getD 0 CN.zero) y)) ∧ Below V.heap.size V w') := fun V hV y hy => HH.out _ _ y V lo' hi' (HWd.out V hV).1 (hry.below hV (by omega)) (HWd.out V hV).2 (HNm.out V hV).2.2 hwy hy
      have HSat : Hid (∀ V, Below W0.heap.size W0 V → (V.cell? ⟨w.heap.size, 0, none⟩ = some (.int .i64 L) ∧ V.cell? ⟨w.heap.size, 1, none⟩ = some (.slice na nn nc) ∧ V.cell? ⟨w.heap.size, 2, none⟩ = some (.slice sa sn sc) ∧ V.cell? ⟨w.heap.size, 3, none⟩ = some (.slice ra rn rc) ∧ V.cell? ⟨w.heap.size, 4, none⟩ = some (.slice la ln lc) ∧ V.cell? ⟨w.heap.size, 5, none⟩ = some (.slice ia im ic) ∧ V.cell? ⟨w.heap.size, 6, none⟩ = some (.slice ta tn tc)) ∧ (V.cell? ⟨w.heap.size + 1, 0, none⟩ = some (.int .i64 7) ∧ V.cell? ⟨w.heap.size + 1, 1, none⟩ = some (.slice cna cnn cnc) ∧ V.cell? ⟨w.heap.size + 1, 2, none⟩ = some (.slice cra crn crc) ∧ V.cell? ⟨w.heap.size + 1, 3, none⟩ = some (.slice (some ⟨kb, ko, none⟩) 1 ckc)) ∧ (V.cell? ⟨kb, ko, none⟩ = some (.int .i64 yk) ∧ V.cell? ⟨kb, ko + 1, none⟩ = some (.slice yna ynn ync) ∧ V.cell? ⟨kb, ko + 2, none⟩ = some (.slice yra yrn yrc) ∧ V.cell? ⟨kb, ko + 3, none⟩ = some (.slice yka ykn ykc))) := fun V hV => ⟨(HS2.out V hV).1, by have := (HS2.out V hV).2; rw [hck] at this; exact this, (hV.cell (p := ⟨kb, ko, none⟩) hkb).trans q0, (hV.cell (p := ⟨kb, ko + 1, none⟩) hkb).trans q1, (hV.cell (p := ⟨kb, ko + 2, none⟩) hkb).trans q2, (hV.cell (p := ⟨kb, ko + 3, none⟩) hkb).trans q3⟩
      have HE : Hid (holdC x L c e = allB x L c.role (c.kids.getD 0 CN.zero) e) := by
        unfold Hid
        rw [hHE]
        show List.all (List.range L) _ = _
        unfold allB
        congr 1
        funext y
        rw [HKk.out 0 y (by omega)]
      subst hck
      clear hHE hk hs0 hry hwy hkl a0 a1 a2 a3 a4 a5 a6
      go_enter Tryz.func55, Tryz.ntmps55
      go_upto_region 1 with fail
      rw [← HW0.out]
      go_upto_region 14 with fail
      clear b0 b1 b2 b3 q0 q1 q2 q3
      go_wp2_with fail
      go_loopw [7] (fun i wr => ∃ y : Nat, y ≤ L ∧ i = .int .i64 y ∧ (∀ j, j < y → (relO x c.role e j L && !(holdC x L (c.kids.getD 0 CN.zero) j)) = false) ∧ Below W0.heap.size W0 wr) (fun i _ => L - (intOf i).toNat)
      case atStart => exact ⟨0, Nat.zero_le _, rfl, fun j hj => by omega, Below.refl _ _⟩
      case round =>
        obtain ⟨y, hy, rfl, hall, hbel⟩ := hrel
        have HAll : Hid (∀ j, j < y → (relO x c.role e j L && !(holdC x L (c.kids.getD 0 CN.zero) j)) = false) := hall
        have HBr : Hid (Below W0.heap.size W0 wr) := hbel
        have Hrd : Hid (Below W0.heap.size W0 wr.drew) := hbel.drew
        obtain ⟨⟨a0, a1, a2, a3, a4, a5, a6⟩, ⟨b0, b1, b2, b3⟩, q0, q1, q2, q3⟩ := HSat.out wr hbel
        clear hall hbel
        by_cases hlt : y < L
        · have hyi : (y : Int) < (L : Int) := by omega
          obtain ⟨rl, hrl⟩ : ∃ b, b = relO x c.role e y L := ⟨_, rfl⟩
          have HRl : Hid (rl = relO x c.role e y L) := hrl
          obtain ⟨h1, hh1⟩ : ∃ b, b = holdC x L (c.kids.getD 0 CN.zero) y := ⟨_, rfl⟩
          have HH1 : Hid (h1 = holdC x L (c.kids.getD 0 CN.zero) y) := hh1
          have HNext : Hid ((relO x c.role e y L && !(holdC x L (c.kids.getD 0 CN.zero) y)) = false → ∀ j, j < y + 1 → (relO x c.role e j L && !(holdC x L (c.kids.getD 0 CN.zero) j)) = false) := fun hb j hj => by
            by_cases e' : j = y
            · subst e'; exact hb
            · exact HAll.out j (by omega)
          clear hrl hh1
          cases rl with
          | false =>
            have HN : Hid (∀ j, j < y + 1 → (relO x c.role e j L && !(holdC x L (c.kids.getD 0 CN.zero) j)) = false) := HNext.out (by rw [← HRl.out]; rfl)
            go_upto_region 17 with fail
            first | go_region_with (go_at_call 56; refine (l4rel_any (HWd.out _ Hrd.out).1 (HNm.out _ Hrd.out).2.1 HNx.out (HWd.out _ Hrd.out).2 (HNm.out _ Hrd.out).2.2 HOk.out heL hlt).mono ?_; rintro r w1 ⟨rfl, hb1⟩; rw [← HRl.out]; have H1 : Hid (Below W0.heap.size W0 w1) := Hrd.out.trans (hb1.mono Hrd.out.size); clear hb1; go_wp2_with fail; (refine wpAny_take (i := 6) (v := (.bool false)) rfl (by kernel_rfl) (by kernel_rfl) (by kernel_rfl) (fun _ _ _ h => h) (Or.inl ⟨by rfl, fun w => by first | rfl | go_simp⟩) ?_; try simp only [List.getElem_toArray, List.getElem_cons_succ, List.getElem_cons_zero, Act.put, List.setIfInBounds_toArray, List.set_cons_zero, List.set_cons_succ]); (refine wpAny_take (i := 7) (v := undef) rfl (by kernel_rfl) (by kernel_rfl) (by kernel_rfl) (fun _ _ _ h => h) (Or.inr ⟨by rfl, rfl⟩) ?_; try simp only [List.getElem_toArray, List.getElem_cons_succ, List.getElem_cons_zero, Act.put, List.setIfInBounds_toArray, List.set_cons_zero, List.set_cons_succ]); (refine wpAny_take (i := 8) (v := undef) rfl (by kernel_rfl) (by kernel_rfl) (by kernel_rfl) (fun _ _ _ h => h) (Or.inr ⟨by rfl, rfl⟩) ?_; try simp only [List.getElem_toArray, List.getElem_cons_succ, List.getElem_cons_zero, Act.put, List.setIfInBounds_toArray, List.set_cons_zero, List.set_cons_succ]); (refine wpAny_take (i := 9) (v := undef) rfl (by kernel_rfl) (by kernel_rfl) (by kernel_rfl) (fun _ _ _ h => h) (Or.inr ⟨by rfl, rfl⟩) ?_; try simp only [List.getElem_toArray, List.getElem_cons_succ, List.getElem_cons_zero, Act.put, List.setIfInBounds_toArray, List.set_cons_zero, List.set_cons_succ]); (refine wpAny_take (i := 10) (v := undef) rfl (by kernel_rfl) (by kernel_rfl) (by kernel_rfl) (fun _ _ _ h => h) (Or.inr ⟨by rfl, rfl⟩) ?_; try simp only [List.getElem_toArray, List.getElem_cons_succ, List.getElem_cons_zero, Act.put, List.setIfInBounds_toArray, List.set_cons_zero, List.set_cons_succ]); (refine wpAny_take (i := 11) (v := undef) rfl (by kernel_rfl) (by kernel_rfl) (by kernel_rfl) (fun _ _ _ h => h) (Or.inr ⟨by rfl, rfl⟩) ?_; try simp only [List.getElem_toArray, List.getElem_cons_succ, List.getElem_cons_zero, Act.put, List.setIfInBounds_toArray, List.set_cons_zero, List.set_cons_succ]); (refine wpAny_take (i := 12) (v := undef) rfl (by kernel_rfl) (by kernel_rfl) (by kernel_rfl) (fun _ _ _ h => h) (Or.inr ⟨by rfl, rfl⟩) ?_; try simp only [List.getElem_toArray, List.getElem_cons_succ, List.getElem_cons_zero, Act.put, List.setIfInBounds_toArray, List.set_cons_zero, List.set_cons_succ]); (refine wpAny_take (i := 14) (v := undef) rfl (by kernel_rfl) (by kernel_rfl) (by kernel_rfl) (fun _ _ _ h => h) (Or.inr ⟨by rfl, rfl⟩) ?_; try simp only [List.getElem_toArray, List.getElem_cons_succ, List.getElem_cons_zero, Act.put, List.setIfInBounds_toArray, List.set_cons_zero, List.set_cons_succ]); (refine wpAny_take (i := 15) (v := undef) rfl (by kernel_rfl) (by kernel_rfl) (by kernel_rfl) (fun _ _ _ h => h) (Or.inr ⟨by rfl, rfl⟩) ?_; try simp only [List.getElem_toArray, List.getElem_cons_succ, List.getElem_cons_zero, Act.put, List.setIfInBounds_toArray, List.set_cons_zero, List.set_cons_succ]); (refine wpAny_take (i := 16) (v := undef) rfl (by kernel_rfl) (by kernel_rfl) (by kernel_rfl) (fun _ _ _ h => h) (Or.inr ⟨by rfl, rfl⟩) ?_; try simp only [List.getElem_toArray, List.getElem_cons_succ, List.getElem_cons_zero, Act.put, List.setIfInBounds_toArray, List.set_cons_zero, List.set_cons_succ]); (refine wpAny_all (rs := [13]) (by kernel_rfl) (by simp) ?_; intro jop hjop; (have hkop := List.mem_singleton.1 hjop); subst hkop; clear hjop; refine Yields.wpOp (v := undef) rfl (Or.inr ⟨by rfl, rfl⟩) ?_; try simp only [List.getElem_toArray, List.getElem_cons_succ, List.getElem_cons_zero, Act.put, List.setIfInBounds_toArray, List.set_cons_zero, List.set_cons_succ]); (refine wpAny_take (i := 17) (v := undef) rfl (by kernel_rfl) (by kernel_rfl) (by kernel_rfl) (fun _ _ _ h => h) (Or.inr ⟨by rfl, rfl⟩) ?_; try simp only [List.getElem_toArray, List.getElem_cons_succ, List.getElem_cons_zero, Act.put, List.setIfInBounds_toArray, List.set_cons_zero, List.set_cons_succ])) | fail
            all_goals
              go_wp2_with fail
              go_roundw
              case rel => exact ⟨y + 1, by omega, by go_num, HN.out, H1.out⟩
              case measure => simp [intOf]; omega
          | true =>
            cases h1 with
            | true =>
              have HN : Hid (∀ j, j < y + 1 → (relO x c.role e j L && !(holdC x L (c.kids.getD 0 CN.zero) j)) = false) := HNext.out (by rw [← HRl.out, ← HH1.out]; rfl)
              go_upto_region 17 with fail
              first | go_region_held3 (fun V => (V.cell? ⟨w.heap.size, 0, none⟩ = some (.int .i64 L) ∧ V.cell? ⟨w.heap.size, 1, none⟩ = some (.slice na nn nc) ∧ V.cell? ⟨w.heap.size, 2, none⟩ = some (.slice sa sn sc) ∧ V.cell? ⟨w.heap.size, 3, none⟩ = some (.slice ra rn rc) ∧ V.cell? ⟨w.heap.size, 4, none⟩ = some (.slice la ln lc) ∧ V.cell? ⟨w.heap.size, 5, none⟩ = some (.slice ia im ic) ∧ V.cell? ⟨w.heap.size, 6, none⟩ = some (.slice ta tn tc)) ∧ (V.cell? ⟨w.heap.size + 1, 0, none⟩ = some (.int .i64 7) ∧ V.cell? ⟨w.heap.size + 1, 1, none⟩ = some (.slice cna cnn cnc) ∧ V.cell? ⟨w.heap.size + 1, 2, none⟩ = some (.slice cra crn crc) ∧ V.cell? ⟨w.heap.size + 1, 3, none⟩ = some (.slice (some ⟨kb, ko, none⟩) 1 ckc)) ∧ (V.cell? ⟨kb, ko, none⟩ = some (.int .i64 yk) ∧ V.cell? ⟨kb, ko + 1, none⟩ = some (.slice yna ynn ync) ∧ V.cell? ⟨kb, ko + 2, none⟩ = some (.slice yra yrn yrc) ∧ V.cell? ⟨kb, ko + 3, none⟩ = some (.slice yka ykn ykc))) (first | with_reducible exact HSat.out _ H2.out | with_reducible exact HSat.out _ H1.out | with_reducible exact HSat.out _ Hrd.out) (first | (go_at_call 56; refine (l4rel_any (HWd.out _ Hrd.out).1 (HNm.out _ Hrd.out).2.1 HNx.out (HWd.out _ Hrd.out).2 (HNm.out _ Hrd.out).2.2 HOk.out heL hlt).mono ?_; rintro r w1 ⟨rfl, hb1⟩; rw [← HRl.out]; have H1 : Hid (Below W0.heap.size W0 w1) := Hrd.out.trans (hb1.mono Hrd.out.size); clear hb1) | (go_at_call 55; refine (HRy.out w1 H1.out y hlt).mono ?_; rintro r w2 ⟨rfl, hb2⟩; rw [← HH1.out]; have H2 : Hid (Below W0.heap.size W0 w2) := H1.out.trans (hb2.mono H1.out.size); clear hb2)) | fail
              all_goals
                go_wp2_with fail
                go_roundw
                case rel => exact ⟨y + 1, by omega, by go_num, HN.out, H2.out⟩
                case measure => simp [intOf]; omega
            | false =>
              have HN : Hid (allB x L c.role (c.kids.getD 0 CN.zero) e = false) := allB_at hlt (by rw [← HRl.out, ← HH1.out]; rfl)
              go_upto_region 17 with fail
              first | go_region_held3 (fun V => (V.cell? ⟨w.heap.size, 0, none⟩ = some (.int .i64 L) ∧ V.cell? ⟨w.heap.size, 1, none⟩ = some (.slice na nn nc) ∧ V.cell? ⟨w.heap.size, 2, none⟩ = some (.slice sa sn sc) ∧ V.cell? ⟨w.heap.size, 3, none⟩ = some (.slice ra rn rc) ∧ V.cell? ⟨w.heap.size, 4, none⟩ = some (.slice la ln lc) ∧ V.cell? ⟨w.heap.size, 5, none⟩ = some (.slice ia im ic) ∧ V.cell? ⟨w.heap.size, 6, none⟩ = some (.slice ta tn tc)) ∧ (V.cell? ⟨w.heap.size + 1, 0, none⟩ = some (.int .i64 7) ∧ V.cell? ⟨w.heap.size + 1, 1, none⟩ = some (.slice cna cnn cnc) ∧ V.cell? ⟨w.heap.size + 1, 2, none⟩ = some (.slice cra crn crc) ∧ V.cell? ⟨w.heap.size + 1, 3, none⟩ = some (.slice (some ⟨kb, ko, none⟩) 1 ckc)) ∧ (V.cell? ⟨kb, ko, none⟩ = some (.int .i64 yk) ∧ V.cell? ⟨kb, ko + 1, none⟩ = some (.slice yna ynn ync) ∧ V.cell? ⟨kb, ko + 2, none⟩ = some (.slice yra yrn yrc) ∧ V.cell? ⟨kb, ko + 3, none⟩ = some (.slice yka ykn ykc))) (first | with_reducible exact HSat.out _ H2.out | with_reducible exact HSat.out _ H1.out | with_reducible exact HSat.out _ Hrd.out) (first | (go_at_call 56; refine (l4rel_any (HWd.out _ Hrd.out).1 (HNm.out _ Hrd.out).2.1 HNx.out (HWd.out _ Hrd.out).2 (HNm.out _ Hrd.out).2.2 HOk.out heL hlt).mono ?_; rintro r w1 ⟨rfl, hb1⟩; rw [← HRl.out]; have H1 : Hid (Below W0.heap.size W0 w1) := Hrd.out.trans (hb1.mono Hrd.out.size); clear hb1) | (go_at_call 55; refine (HRy.out w1 H1.out y hlt).mono ?_; rintro r w2 ⟨rfl, hb2⟩; rw [← HH1.out]; have H2 : Hid (Below W0.heap.size W0 w2) := H1.out.trans (hb2.mono H1.out.size); clear hb2)) | fail
              all_goals
                obtain ⟨⟨d0, d1, d2, d3, d4, d5, d6⟩, ⟨f0, f1, f2, f3⟩, _⟩ := HSat.out w2 H2.out
                go_wp2_with fail
                go_ret
                exact ⟨rb (by rw [HE.out, HN.out]), HFin.out H2.out⟩
        · have hyi : ¬ ((y : Int) < (L : Int)) := by omega
          have HN : Hid (allB x L c.role (c.kids.getD 0 CN.zero) e = true) := allB_none (fun j hj => HAll.out j (by omega))
          go_wp2_with fail
          go_ret
          exact ⟨rb (by rw [HE.out, HN.out]), HFin.out HBr.out⟩

theorem hoP_any {x : WD} {L : Nat} {na : Option Addr} {nn nc : Nat} {sa : Option Addr} {sn sc : Nat} {ra : Option Addr} {rn rc : Nat} {la : Option Addr} {ln lc : Nat} {ia : Option Addr} {im ic : Nat} {ta : Option Addr} {tn tc : Nat} {lo hi : Nat} (hok : worldB x = true) (hn : x.n = (L : Int)) (hL : L ≤ 128) : ∀ d, HoP x L na nn nc sa sn sc ra rn rc la ln lc ia im ic ta tn tc lo hi d
  | 0 => hoP_of hok hn hL (fun d' h => by omega)
  | d + 1 => hoP_of hok hn hL (fun d' h => by obtain rfl : d = d' := (by omega); exact hoP_any hok hn hL d)

end Go.Proofs.YtfbokljbmihlbaaGreat
