/- Several texts in one: WdRel1, HoldF. -/
import Derived.Test.YtnmljalcndfjmaaNG13
import Derived.Test.YtnmljalcndfjmaaNG16
import Derived.Deep.RegionHeld3
import Derived.Test.YtnmljalcndfjmaaNG15
namespace Go.Proofs.Ytnmljalcndfjmaa

section
open Go.RowKit

set_option maxRecDepth 100000 in
set_option maxHeartbeats 8000000 in
theorem related_any {na : Option Addr} {nn nc : Nat} {sa : Option Addr} {sn sc : Nat} {ra : Option Addr} {rn rc : Nat} {la : Option Addr} {ln lc : Nat} {ia : Option Addr} {im ic : Nat} {ta : Option Addr} {tn tc : Nat} {x : WD} {wa : Option Addr} {wn wc : Nat} {wd : List Int} {w : World} {lo hi lo' hi' : Nat} {L : Nat} (h : RdW lo hi w na nn nc sa sn sc ra rn rc la ln lc ia im ic ta tn tc x) (h' : Rd lo' hi' w wa wn wc wd) (hn : x.n = (L : Int)) (hhi : hi ≤ w.heap.size) (hhi' : hi' ≤ w.heap.size) (hok : worldB x = true) :
    Calls Try.prog 25 #[.agg #[.int .i64 (L : Int), .slice ia im ic, .slice ta tn tc, .int .i64 (L : Int), .slice na nn nc, .slice sa sn sc, .slice ra rn rc, .slice la ln lc, .slice ia im ic, .slice ta tn tc], .slice wa wn wc] w fun e w' => ∃ b2 o2 c, e = .returned (.slice (some ⟨b2, o2, none⟩) (L * L) c) ∧ ((L * L ≤ c ∧ c ≤ 9223372036854775807) ∧ (b2 < hi ∨ w.heap.size ≤ b2)) ∧ (∀ q, q < L * L → w'.cell? ⟨b2, o2 + q, none⟩ = some (.bool (flagO x.roles x.rels wd q))) ∧ Below w.heap.size w w' := by
  obtain ⟨W0, hW0⟩ : ∃ W0, W0 = w.alloc (.cells #[.int .i64 (L : Int), .slice ia im ic, .slice ta tn tc, .int .i64 (L : Int), .slice na nn nc, .slice sa sn sc, .slice ra rn rc, .slice la ln lc, .slice ia im ic, .slice ta tn tc] 47) := ⟨_, rfl⟩
  have HW0 : Hid (W0 = w.alloc (.cells #[.int .i64 (L : Int), .slice ia im ic, .slice ta tn tc, .int .i64 (L : Int), .slice na nn nc, .slice sa sn sc, .slice ra rn rc, .slice la ln lc, .slice ia im ic, .slice ta tn tc] 47)) := hW0
  have hb0 : Below w.heap.size w W0 := by rw [hW0]; exact (Below.refl _ _).alloc (Nat.le_refl _) _
  have HB0 : Hid (Below w.heap.size w W0) := hb0
  have HR : Hid (RdW lo hi W0 na nn nc sa sn sc ra rn rc la ln lc ia im ic ta tn tc x) := h.below hb0 hhi
  have HW : Hid (Rd lo' hi' W0 wa wn wc wd) := h'.below hb0 hhi'
  have HI : Hid _ := (worldB_iff x).1 hok
  have hL1 : 1 ≤ L ∧ L ≤ 128 := by have h1 := HI.out.1.1; rw [hn] at h1; omega
  obtain ⟨sq, hsq⟩ : ∃ sq, sq = L * L := ⟨_, rfl⟩
  have hmul : (L : Int) * (L : Int) = (sq : Int) := by rw [hsq]; simp
  have hsql : 1 ≤ sq ∧ sq ≤ 16384 := by
    rw [hsq]
    exact ⟨Nat.mul_le_mul hL1.1 hL1.1, Nat.le_trans (Nat.mul_le_mul hL1.2 hL1.2) (by decide)⟩
  rw [← hsq]
  have hln : ln = rn := by have h1 := HI.out.1.2.2.2.2.2.1; rw [h.rels.len, h.roles.len] at h1; exact h1
  subst hln
  have HLs : Hid (∀ i, i < ln → (x.rels.getD i []).length = sq) := fun i hi => by
    have h1 := flags_long HI.out.2.2.2.1 (i := i) (by rw [h.rels.len]; exact hi)
    rw [hn, hmul] at h1
    omega
  have HA : Hid (Asc x.roles) := asc_of HI.out.2.1.2.1
  have HN12 : Hid (ln ≤ 1048576) := by have h1 := HI.out.1.2.2.1; rw [h.roles.len] at h1; unfold Hid; omega
  have HSq : Hid (1 ≤ sq ∧ sq ≤ 16384) := hsql
  clear h h' hb0 hW0 hn hok hsq
  go_enter Try.func25, Try.ntmps25
  go_wp2_with fail
  rw [← HW0.out]
  refine (flagsOf_any ra ln rc x.roles la lc x.rels wa wn wc wd sq W0 HR.out.roles HR.out.rels HW.out HA.out HN12.out HLs.out HSq.out).mono ?_
  rintro e w5 ⟨b2, o2, c, rfl, hf, hc, hb5⟩
  have HC : Hid (∀ q, q < sq → w5.cell? ⟨b2, o2 + q, none⟩ = some (.bool (flagO x.roles x.rels wd q))) := hc
  have HB5 : Hid (Below w.heap.size w w5) := HB0.out.trans (hb5.mono HB0.out.size)
  clear hc hb5
  go_wp2_with fail
  go_ret
  exact ⟨b2, o2, c, rfl, ⟨hf.1, hf.2.imp id (fun h => Nat.le_trans HB0.out.size h)⟩, HC.out, HB5.out⟩

set_option maxRecDepth 100000 in
set_option maxHeartbeats 4000000 in
theorem row_any {na : Option Addr} {nn nc : Nat} {sa : Option Addr} {sn sc : Nat} {ra : Option Addr} {rn rc : Nat} {la : Option Addr} {ln lc : Nat} {ia : Option Addr} {im ic : Nat} {ta : Option Addr} {tn tc : Nat} {w : World} {L p b2 o2 c : Nat} (hL : L ≤ 128) (hp : p < L) (hc : L * L ≤ c ∧ c ≤ 9223372036854775807) :
    Calls Try.prog 24 #[.agg #[.int .i64 (L : Int), .slice ia im ic, .slice ta tn tc, .int .i64 (L : Int), .slice na nn nc, .slice sa sn sc, .slice ra rn rc, .slice la ln lc, .slice ia im ic, .slice ta tn tc], .slice (some ⟨b2, o2, none⟩) (L * L) c, .int .i64 p] w fun e w' => e = .returned (.slice (some ⟨b2, o2 + p * L, none⟩) L (c - p * L)) ∧ Below w.heap.size w w' := by
  obtain ⟨W0, hW0⟩ : ∃ W0, W0 = w.alloc (.cells #[.int .i64 (L : Int), .slice ia im ic, .slice ta tn tc, .int .i64 (L : Int), .slice na nn nc, .slice sa sn sc, .slice ra rn rc, .slice la ln lc, .slice ia im ic, .slice ta tn tc] 47) := ⟨_, rfl⟩
  have HW0 : Hid (W0 = w.alloc (.cells #[.int .i64 (L : Int), .slice ia im ic, .slice ta tn tc, .int .i64 (L : Int), .slice na nn nc, .slice sa sn sc, .slice ra rn rc, .slice la ln lc, .slice ia im ic, .slice ta tn tc] 47)) := hW0
  have HB0 : Hid (Below w.heap.size w W0) := by rw [hW0]; exact (Below.refl _ _).alloc (Nat.le_refl _) _
  have hbs : BoxS W0 w.heap.size (.int .i64 (L : Int)) (.slice ia im ic) (.slice ta tn tc) (.int .i64 (L : Int)) (.slice na nn nc) (.slice sa sn sc) (.slice ra rn rc) (.slice la ln lc) (.slice ia im ic) (.slice ta tn tc) := by rw [hW0]; exact BoxS.new w _ _ _ _ _ _ _ _ _ _
  obtain ⟨m0, m1, m2, m3, m4, m5, m6, m7, m8, m9⟩ := hbs.cells
  obtain ⟨sq, hsq⟩ : ∃ sq, sq = L * L := ⟨_, rfl⟩
  obtain ⟨pp, hpp⟩ : ∃ pp, pp = p * L := ⟨_, rfl⟩
  have hmul : (p : Int) * (L : Int) = (pp : Int) := by rw [hpp]; simp
  have hle : pp + L ≤ sq := by
    rw [hpp, hsq]
    have h1 : (p + 1) * L ≤ L * L := Nat.mul_le_mul_right L hp
    have h2 : (p + 1) * L = p * L + L := by rw [Nat.add_mul, Nat.one_mul]
    omega
  have hsm : sq ≤ 16384 := by rw [hsq]; exact Nat.le_trans (Nat.mul_le_mul hL hL) (by decide)
  rw [← hsq] at hc ⊢
  rw [← hpp]
  obtain ⟨hc1, hc2⟩ := hc
  clear hsq hpp hW0 hbs
  go_enter Try.func24, Try.ntmps24
  go_upto_region 1 with fail
  rw [← HW0.out]
  first | go_region | fail
  all_goals
    go_wp2_with fail
    go_ret
    exact ⟨rfl, HB0.out.drew⟩
end

section
open Go.RowKit Go.Deep
set_option linter.unusedVariables false

theorem topQ_any (e : Nat) (V : World) : Calls Try.prog 36 #[.int .i64 e] V fun r w' => r = .returned (.bool true) ∧ w' = V := by
  go_enter Try.func36, Try.ntmps36
  go_wp2_with fail
  go_ret
  exact ⟨rfl, rfl⟩

theorem botQ_any (e : Nat) (V : World) : Calls Try.prog 45 #[.int .i64 e] V fun r w' => r = .returned (.bool false) ∧ w' = V := by
  go_enter Try.func45, Try.ntmps45
  go_wp2_with fail
  go_ret
  exact ⟨rfl, rfl⟩

set_option maxRecDepth 100000 in
set_option maxHeartbeats 2000000 in
theorem notQ_any {po ob oc b o c L e : Nat} {f : Nat → Bool} {V : World} (h1 : V.cell? ⟨po, 0, none⟩ = some (.slice (some ⟨ob, 0, none⟩) 1 oc)) (h2 : V.cell? ⟨ob, 0, none⟩ = some (.slice (some ⟨b, o, none⟩) L c)) (hf : FlS V b o L f) (he : e < L) :
    Calls Try.prog 38 #[.int .i64 e, .pointer (some ⟨po, 0, none⟩)] V fun r w' => r = .returned (.bool (!(f e))) ∧ w' = V := by
  have h3 := hf.2 e he
  have hei : (e : Int) < (L : Int) := by omega
  obtain ⟨x, hx⟩ : ∃ x, x = f e := ⟨_, rfl⟩
  rw [← hx] at h3 ⊢
  clear hf hx
  go_enter Try.func38, Try.ntmps38
  go_wp2_with fail
  go_ret
  exact ⟨rfl, rfl⟩

set_option maxRecDepth 100000 in
set_option maxHeartbeats 2000000 in
theorem andQ_any {po ob oc b o c b' o' c' L e : Nat} {f g : Nat → Bool} {V : World} (h1 : V.cell? ⟨po, 0, none⟩ = some (.slice (some ⟨ob, 0, none⟩) 2 oc)) (h2 : V.cell? ⟨ob, 0, none⟩ = some (.slice (some ⟨b, o, none⟩) L c)) (h2' : V.cell? ⟨ob, 1, none⟩ = some (.slice (some ⟨b', o', none⟩) L c')) (hf : FlS V b o L f) (hg : FlS V b' o' L g) (he : e < L) :
    Calls Try.prog 39 #[.int .i64 e, .pointer (some ⟨po, 0, none⟩)] V fun r w' => r = .returned (.bool (f e && g e)) ∧ w' = V := by
  have h3 := hf.2 e he
  have h4 := hg.2 e he
  have hei : (e : Int) < (L : Int) := by omega
  obtain ⟨x, hx⟩ : ∃ x, x = f e := ⟨_, rfl⟩
  obtain ⟨y, hy⟩ : ∃ y, y = g e := ⟨_, rfl⟩
  rw [← hx] at h3 ⊢
  rw [← hy] at h4 ⊢
  clear hf hg hx hy
  cases x
  · go_enter Try.func39, Try.ntmps39
    go_wp2_with fail
    go_ret
    exact ⟨rfl, rfl⟩
  · go_enter Try.func39, Try.ntmps39
    go_wp2_with fail
    go_ret
    exact ⟨rfl, rfl⟩

set_option maxRecDepth 100000 in
set_option maxHeartbeats 2000000 in
theorem orQ_any {po ob oc b o c b' o' c' L e : Nat} {f g : Nat → Bool} {V : World} (h1 : V.cell? ⟨po, 0, none⟩ = some (.slice (some ⟨ob, 0, none⟩) 2 oc)) (h2 : V.cell? ⟨ob, 0, none⟩ = some (.slice (some ⟨b, o, none⟩) L c)) (h2' : V.cell? ⟨ob, 1, none⟩ = some (.slice (some ⟨b', o', none⟩) L c')) (hf : FlS V b o L f) (hg : FlS V b' o' L g) (he : e < L) :
    Calls Try.prog 40 #[.int .i64 e, .pointer (some ⟨po, 0, none⟩)] V fun r w' => r = .returned (.bool (f e || g e)) ∧ w' = V := by
  have h3 := hf.2 e he
  have h4 := hg.2 e he
  have hei : (e : Int) < (L : Int) := by omega
  obtain ⟨x, hx⟩ : ∃ x, x = f e := ⟨_, rfl⟩
  obtain ⟨y, hy⟩ : ∃ y, y = g e := ⟨_, rfl⟩
  rw [← hx] at h3 ⊢
  rw [← hy] at h4 ⊢
  clear hf hg hx hy
  cases x
  · go_enter Try.func40, Try.ntmps40
    go_wp2_with fail
    go_ret
    exact ⟨rfl, rfl⟩
  · go_enter Try.func40, Try.ntmps40
    go_wp2_with fail
    go_ret
    exact ⟨rfl, rfl⟩

set_option maxRecDepth 100000 in
set_option maxHeartbeats 4000000 in
theorem someQ_any {na : Option Addr} {nn nc : Nat} {sa : Option Addr} {sn sc : Nat} {ra : Option Addr} {rn rc : Nat} {la : Option Addr} {ln lc : Nat} {ia : Option Addr} {im ic : Nat} {ta : Option Addr} {tn tc : Nat} {ps pr po ob oc b o c rb ro rcc L e : Nat} {fr f : Nat → Bool} {w : World} (hL : L ≤ 128) (hs : BoxS w ps (.int .i64 L) (.slice ia im ic) (.slice ta tn tc) (.int .i64 L) (.slice na nn nc) (.slice sa sn sc) (.slice ra rn rc) (.slice la ln lc) (.slice ia im ic) (.slice ta tn tc)) (h0 : w.cell? ⟨pr, 0, none⟩ = some (.slice (some ⟨rb, ro, none⟩) (L * L) rcc)) (hrc : L * L ≤ rcc ∧ rcc ≤ 9223372036854775807) (hr : FlS w rb ro (L * L) fr)
    (h1 : w.cell? ⟨po, 0, none⟩ = some (.slice (some ⟨ob, 0, none⟩) 1 oc)) (h2 : w.cell? ⟨ob, 0, none⟩ = some (.slice (some ⟨b, o, none⟩) L c)) (hlt : pr < w.heap.size ∧ po < w.heap.size ∧ ob < w.heap.size) (hf : FlS w b o L f) (hc : L ≤ c ∧ c ≤ 9223372036854775807) (he : e < L) :
    Calls Try.prog 41 #[.int .i64 e, .pointer (some ⟨ps, 0, none⟩), .pointer (some ⟨pr, 0, none⟩), .pointer (some ⟨po, 0, none⟩)] w fun r w' => r = .returned (.bool ((List.range L).any (fun y => fr (e * L + y) && f y))) ∧ Below w.heap.size w w' := by
  have HSat : Hid (∀ V, Below w.heap.size w V → (V.cell? ⟨ps, 0, none⟩ = some (.int .i64 L) ∧ V.cell? ⟨ps, 1, none⟩ = some (.slice ia im ic) ∧ V.cell? ⟨ps, 2, none⟩ = some (.slice ta tn tc) ∧ V.cell? ⟨ps, 3, none⟩ = some (.int .i64 L) ∧ V.cell? ⟨ps, 4, none⟩ = some (.slice na nn nc) ∧ V.cell? ⟨ps, 5, none⟩ = some (.slice sa sn sc) ∧ V.cell? ⟨ps, 6, none⟩ = some (.slice ra rn rc) ∧ V.cell? ⟨ps, 7, none⟩ = some (.slice la ln lc) ∧ V.cell? ⟨ps, 8, none⟩ = some (.slice ia im ic) ∧ V.cell? ⟨ps, 9, none⟩ = some (.slice ta tn tc)) ∧ V.cell? ⟨pr, 0, none⟩ = some (.slice (some ⟨rb, ro, none⟩) (L * L) rcc) ∧ V.cell? ⟨po, 0, none⟩ = some (.slice (some ⟨ob, 0, none⟩) 1 oc) ∧ V.cell? ⟨ob, 0, none⟩ = some (.slice (some ⟨b, o, none⟩) L c)) := fun V hV => ⟨(hs.below hV hs.lt).cells, (hV.cell (p := ⟨pr, 0, none⟩) hlt.1).trans h0, (hV.cell (p := ⟨po, 0, none⟩) hlt.2.1).trans h1, (hV.cell (p := ⟨ob, 0, none⟩) hlt.2.2).trans h2⟩
  have Hd : Hid (Below w.heap.size w w.drew) := (Below.refl _ _).drew
  have HRow : Hid (∀ V, Below w.heap.size w V → FlS V rb (ro + e * L) L (fun y => fr (e * L + y))) := fun V hV => ⟨(hr.below hV).1, fun q hq => by
    have h := (hr.below hV).2 (e * L + q) (cell_lt he hq)
    rw [Nat.add_assoc]
    exact h⟩
  have HF : Hid (∀ V, Below w.heap.size w V → FlS V b o L f) := fun V hV => hf.below hV
  have hle : L ≤ rcc - e * L ∧ rcc - e * L ≤ 9223372036854775807 := by
    have h1 : e * L + L ≤ L * L := by
      have h2 : (e + 1) * L ≤ L * L := Nat.mul_le_mul_right _ he
      rw [Nat.add_mul, Nat.one_mul] at h2
      exact h2
    omega
  obtain ⟨R, hR⟩ : ∃ R, R = ((List.range L).any (fun y => fr (e * L + y) && f y)) := ⟨_, rfl⟩
  have HR : Hid (R = ((List.range L).any (fun y => fr (e * L + y) && f y))) := hR
  rw [← hR]
  obtain ⟨⟨a0, a1, a2, a3, a4, a5, a6, a7, a8, a9⟩, q0, q1, q2⟩ := HSat.out w (Below.refl _ _)
  clear hs h0 hr h1 h2 hf hR
  go_enter Try.func41, Try.ntmps41
  go_upto_region 1 with fail
  first | go_region_held3 (fun V => (V.cell? ⟨ps, 0, none⟩ = some (.int .i64 L) ∧ V.cell? ⟨ps, 1, none⟩ = some (.slice ia im ic) ∧ V.cell? ⟨ps, 2, none⟩ = some (.slice ta tn tc) ∧ V.cell? ⟨ps, 3, none⟩ = some (.int .i64 L) ∧ V.cell? ⟨ps, 4, none⟩ = some (.slice na nn nc) ∧ V.cell? ⟨ps, 5, none⟩ = some (.slice sa sn sc) ∧ V.cell? ⟨ps, 6, none⟩ = some (.slice ra rn rc) ∧ V.cell? ⟨ps, 7, none⟩ = some (.slice la ln lc) ∧ V.cell? ⟨ps, 8, none⟩ = some (.slice ia im ic) ∧ V.cell? ⟨ps, 9, none⟩ = some (.slice ta tn tc)) ∧ V.cell? ⟨pr, 0, none⟩ = some (.slice (some ⟨rb, ro, none⟩) (L * L) rcc) ∧ V.cell? ⟨po, 0, none⟩ = some (.slice (some ⟨ob, 0, none⟩) 1 oc) ∧ V.cell? ⟨ob, 0, none⟩ = some (.slice (some ⟨b, o, none⟩) L c)) (first | with_reducible exact HSat.out _ H2.out | with_reducible exact HSat.out _ H1.out | with_reducible exact HSat.out _ Hd.out) (first | (go_at_call 24; refine (row_any hL he hrc).mono ?_; rintro r w1 ⟨rfl, hb1⟩; have H1 : Hid (Below w.heap.size w w1) := Hd.out.trans hb1; clear hb1) | (go_at_call 42; refine (meets_any (by omega) (HRow.out w1 H1.out) (HF.out w1 H1.out) hle hc).mono ?_; rintro r w2 ⟨rfl, hw2⟩; rw [← HR.out, hw2]; have H2 : Hid (Below w.heap.size w w1) := H1.out; clear hw2)) | fail
  all_goals
    go_wp2_with fail
    go_ret
    exact ⟨rfl, H1.out⟩

set_option maxRecDepth 100000 in
set_option maxHeartbeats 4000000 in
theorem allQ_any {na : Option Addr} {nn nc : Nat} {sa : Option Addr} {sn sc : Nat} {ra : Option Addr} {rn rc : Nat} {la : Option Addr} {ln lc : Nat} {ia : Option Addr} {im ic : Nat} {ta : Option Addr} {tn tc : Nat} {ps pr po ob oc b o c rb ro rcc L e : Nat} {fr f : Nat → Bool} {w : World} (hL : L ≤ 128) (hs : BoxS w ps (.int .i64 L) (.slice ia im ic) (.slice ta tn tc) (.int .i64 L) (.slice na nn nc) (.slice sa sn sc) (.slice ra rn rc) (.slice la ln lc) (.slice ia im ic) (.slice ta tn tc)) (h0 : w.cell? ⟨pr, 0, none⟩ = some (.slice (some ⟨rb, ro, none⟩) (L * L) rcc)) (hrc : L * L ≤ rcc ∧ rcc ≤ 9223372036854775807) (hr : FlS w rb ro (L * L) fr)
    (h1 : w.cell? ⟨po, 0, none⟩ = some (.slice (some ⟨ob, 0, none⟩) 1 oc)) (h2 : w.cell? ⟨ob, 0, none⟩ = some (.slice (some ⟨b, o, none⟩) L c)) (hlt : pr < w.heap.size ∧ po < w.heap.size ∧ ob < w.heap.size) (hf : FlS w b o L f) (hc : L ≤ c ∧ c ≤ 9223372036854775807) (he : e < L) :
    Calls Try.prog 43 #[.int .i64 e, .pointer (some ⟨ps, 0, none⟩), .pointer (some ⟨pr, 0, none⟩), .pointer (some ⟨po, 0, none⟩)] w fun r w' => r = .returned (.bool ((List.range L).all (fun y => !(fr (e * L + y)) || f y))) ∧ Below w.heap.size w w' := by
  have HSat : Hid (∀ V, Below w.heap.size w V → (V.cell? ⟨ps, 0, none⟩ = some (.int .i64 L) ∧ V.cell? ⟨ps, 1, none⟩ = some (.slice ia im ic) ∧ V.cell? ⟨ps, 2, none⟩ = some (.slice ta tn tc) ∧ V.cell? ⟨ps, 3, none⟩ = some (.int .i64 L) ∧ V.cell? ⟨ps, 4, none⟩ = some (.slice na nn nc) ∧ V.cell? ⟨ps, 5, none⟩ = some (.slice sa sn sc) ∧ V.cell? ⟨ps, 6, none⟩ = some (.slice ra rn rc) ∧ V.cell? ⟨ps, 7, none⟩ = some (.slice la ln lc) ∧ V.cell? ⟨ps, 8, none⟩ = some (.slice ia im ic) ∧ V.cell? ⟨ps, 9, none⟩ = some (.slice ta tn tc)) ∧ V.cell? ⟨pr, 0, none⟩ = some (.slice (some ⟨rb, ro, none⟩) (L * L) rcc) ∧ V.cell? ⟨po, 0, none⟩ = some (.slice (some ⟨ob, 0, none⟩) 1 oc) ∧ V.cell? ⟨ob, 0, none⟩ = some (.slice (some ⟨b, o, none⟩) L c)) := fun V hV => ⟨(hs.below hV hs.lt).cells, (hV.cell (p := ⟨pr, 0, none⟩) hlt.1).trans h0, (hV.cell (p := ⟨po, 0, none⟩) hlt.2.1).trans h1, (hV.cell (p := ⟨ob, 0, none⟩) hlt.2.2).trans h2⟩
  have Hd : Hid (Below w.heap.size w w.drew) := (Below.refl _ _).drew
  have HRow : Hid (∀ V, Below w.heap.size w V → FlS V rb (ro + e * L) L (fun y => fr (e * L + y))) := fun V hV => ⟨(hr.below hV).1, fun q hq => by
    have h := (hr.below hV).2 (e * L + q) (cell_lt he hq)
    rw [Nat.add_assoc]
    exact h⟩
  have HF : Hid (∀ V, Below w.heap.size w V → FlS V b o L f) := fun V hV => hf.below hV
  have hle : L ≤ rcc - e * L ∧ rcc - e * L ≤ 9223372036854775807 := by
    have h1 : e * L + L ≤ L * L := by
      have h2 : (e + 1) * L ≤ L * L := Nat.mul_le_mul_right _ he
      rw [Nat.add_mul, Nat.one_mul] at h2
      exact h2
    omega
  obtain ⟨R, hR⟩ : ∃ R, R = ((List.range L).all (fun y => !(fr (e * L + y)) || f y)) := ⟨_, rfl⟩
  have HR : Hid (R = ((List.range L).all (fun y => !(fr (e * L + y)) || f y))) := hR
  rw [← hR]
  obtain ⟨⟨a0, a1, a2, a3, a4, a5, a6, a7, a8, a9⟩, q0, q1, q2⟩ := HSat.out w (Below.refl _ _)
  clear hs h0 hr h1 h2 hf hR
  go_enter Try.func43, Try.ntmps43
  go_upto_region 1 with fail
  first | go_region_held3 (fun V => (V.cell? ⟨ps, 0, none⟩ = some (.int .i64 L) ∧ V.cell? ⟨ps, 1, none⟩ = some (.slice ia im ic) ∧ V.cell? ⟨ps, 2, none⟩ = some (.slice ta tn tc) ∧ V.cell? ⟨ps, 3, none⟩ = some (.int .i64 L) ∧ V.cell? ⟨ps, 4, none⟩ = some (.slice na nn nc) ∧ V.cell? ⟨ps, 5, none⟩ = some (.slice sa sn sc) ∧ V.cell? ⟨ps, 6, none⟩ = some (.slice ra rn rc) ∧ V.cell? ⟨ps, 7, none⟩ = some (.slice la ln lc) ∧ V.cell? ⟨ps, 8, none⟩ = some (.slice ia im ic) ∧ V.cell? ⟨ps, 9, none⟩ = some (.slice ta tn tc)) ∧ V.cell? ⟨pr, 0, none⟩ = some (.slice (some ⟨rb, ro, none⟩) (L * L) rcc) ∧ V.cell? ⟨po, 0, none⟩ = some (.slice (some ⟨ob, 0, none⟩) 1 oc) ∧ V.cell? ⟨ob, 0, none⟩ = some (.slice (some ⟨b, o, none⟩) L c)) (first | with_reducible exact HSat.out _ H2.out | with_reducible exact HSat.out _ H1.out | with_reducible exact HSat.out _ Hd.out) (first | (go_at_call 24; refine (row_any hL he hrc).mono ?_; rintro r w1 ⟨rfl, hb1⟩; have H1 : Hid (Below w.heap.size w w1) := Hd.out.trans hb1; clear hb1) | (go_at_call 44; refine (within_any (by omega) (HRow.out w1 H1.out) (HF.out w1 H1.out) hle hc).mono ?_; rintro r w2 ⟨rfl, hw2⟩; rw [← HR.out, hw2]; have H2 : Hid (Below w.heap.size w w1) := H1.out; clear hw2)) | fail
  all_goals
    go_wp2_with fail
    go_ret
    exact ⟨rfl, H1.out⟩
end

end Go.Proofs.Ytnmljalcndfjmaa
