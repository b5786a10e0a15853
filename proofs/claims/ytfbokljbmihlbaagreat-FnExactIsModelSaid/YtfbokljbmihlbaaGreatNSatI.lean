/- Several texts in one: SatI1, SatI2. -/
import Derived.Test.YtfbokljbmihlbaaGreatNSatS
import Derived.Test.YtfbokljbmihlbaaGreatHoldH
import Derived.Deep.RegionHeld3
import Derived.Deep.DeepCutAuto
import Derived.BigQuiet
namespace Go.Proofs.YtfbokljbmihlbaaGreat

section
open Go.RowKit Go.Deep
set_option linter.unusedVariables false

theorem all_at {L k : Nat} {f : Nat → Bool} (hk : k < L) (h : f k = false) : (List.range L).all f = false := by
  rw [Bool.eq_false_iff]
  intro hall
  rw [List.all_eq_true] at hall
  have := hall k (List.mem_range.2 hk)
  rw [h] at this
  cases this

theorem all_all {L : Nat} {f : Nat → Bool} (h : ∀ k, k < L → f k = true) : (List.range L).all f = true := by
  rw [List.all_eq_true]
  intro k hk
  exact h k (List.mem_range.1 hk)

set_option maxRecDepth 100000 in
set_option maxHeartbeats 8000000 in
theorem equal_any {L : Nat} (hL : L ≤ 16384) {ab ao ac bb bo bc : Nat} {fa fb : Nat → Bool} {w : World} (ha : FlS w ab ao L fa) (hb : FlS w bb bo L fb) (hac : L ≤ ac ∧ ac ≤ 9223372036854775807) (hbc : L ≤ bc ∧ bc ≤ 9223372036854775807) :
    Calls Tryz.prog 70 #[.slice (some ⟨ab, ao, none⟩) L ac, .slice (some ⟨bb, bo, none⟩) L bc] w fun r w' => r = .returned (.bool ((List.range L).all (fun y => fa y == fb y))) ∧ Below w.heap.size w w' := by
  have HA : Hid (FlS w ab ao L fa) := ha
  have HB : Hid (FlS w bb bo L fb) := hb
  clear ha hb
  go_enter Tryz.func70, Tryz.ntmps70
  go_wp2_with fail
  go_loopw [13] (fun i wr => ∃ k : Nat, k ≤ L ∧ i = .int .i64 k ∧ (∀ j, j < k → (fa j == fb j) = true) ∧ Below w.heap.size w wr) (fun i _ => L - (intOf i).toNat)
  case atStart => exact ⟨0, Nat.zero_le _, rfl, fun j hj => by omega, Below.refl _ _⟩
  case round =>
    obtain ⟨k, hk, rfl, hall, hbel⟩ := hrel
    have HAll : Hid (∀ j, j < k → (fa j == fb j) = true) := hall
    have HBe : Hid (Below w.heap.size w wr) := hbel
    by_cases hlt : k < L
    · have hki : (k : Int) < (L : Int) := by omega
      obtain ⟨x0, hx0⟩ : ∃ b, b = fa k := ⟨_, rfl⟩
      obtain ⟨y0, hy0⟩ : ∃ b, b = fb k := ⟨_, rfl⟩
      have HX : Hid (x0 = fa k) := hx0
      have HY : Hid (y0 = fb k) := hy0
      have c0 := (HA.out.below hbel).2 k hlt
      have c1 := (HB.out.below hbel).2 k hlt
      rw [← hx0] at c0
      rw [← hy0] at c1
      have HNext : Hid ((x0 == y0) = true → ∀ j, j < k + 1 → (fa j == fb j) = true) := fun hq j hj => by
        by_cases e' : j = k
        · subst e'; rw [← hx0, ← hy0]; exact hq
        · exact HAll.out j (by omega)
      have HNo : Hid ((x0 == y0) = false → (List.range L).all (fun y => fa y == fb y) = false) := fun hq => all_at hlt (by rw [← hx0, ← hy0]; exact hq)
      clear hx0 hy0 hall hbel
      go_upto_region 6 with fail
      cases x0 <;> cases y0
      · have HN := HNext.out rfl
        go_quiet (fail)
        go_wp2_with fail
        go_roundw
        case rel => exact ⟨k + 1, by omega, by go_num, HN, below_drewN HBe.out _⟩
        case measure => simp [intOf]; omega
      · have HN : Hid (_ = false) := HNo.out rfl
        go_quiet (fail)
        go_wp2_with fail
        go_ret
        exact ⟨rb' HN.out.symm, below_drewN HBe.out _⟩
      · have HN : Hid (_ = false) := HNo.out rfl
        go_quiet (fail)
        go_wp2_with fail
        go_ret
        exact ⟨rb' HN.out.symm, below_drewN HBe.out _⟩
      · have HN := HNext.out rfl
        go_quiet (fail)
        go_wp2_with fail
        go_roundw
        case rel => exact ⟨k + 1, by omega, by go_num, HN, below_drewN HBe.out _⟩
        case measure => simp [intOf]; omega
    · have hki : ¬ ((k : Int) < (L : Int)) := by omega
      have HN : Hid ((List.range L).all (fun y => fa y == fb y) = true) := all_all (fun j hj => HAll.out j (by omega))
      clear hall hbel
      go_wp2_with fail
      go_ret
      exact ⟨rb' HN.out.symm, HBe.out⟩

set_option maxRecDepth 100000 in
set_option maxHeartbeats 8000000 in
theorem seat_any {na : Option Addr} {nn nc : Nat} {sa : Option Addr} {sn sc : Nat} {ra : Option Addr} {rn rc : Nat} {la : Option Addr} {ln lc : Nat} {ia : Option Addr} {im ic : Nat} {ta : Option Addr} {tn tc : Nat} {x : WD} {wa : Option Addr} {wn wc : Nat} {wd : List Int} {w : World} {lo hi lo' hi' L : Nat} (h : RdW lo hi w na nn nc sa sn sc ra rn rc la ln lc ia im ic ta tn tc x) (h' : Rd lo' hi' w wa wn wc wd) (hn : x.n = (L : Int)) (hhi : hi ≤ w.heap.size) (hhi' : hi' ≤ w.heap.size) (hok : worldB x = true) :
    Calls Tryz.prog 73 #[.agg #[.int .i64 L, .slice ia im ic, .slice ta tn tc], .slice wa wn wc] w fun r w' => r = .returned (.int .i64 (seatZ x wd)) ∧ Below w.heap.size w w' := by
  obtain ⟨W0, hW0⟩ : ∃ W0, W0 = w.alloc (.cells #[.int .i64 L, .slice ia im ic, .slice ta tn tc] 71) := ⟨_, rfl⟩
  have HW0 : Hid (W0 = w.alloc (.cells #[.int .i64 L, .slice ia im ic, .slice ta tn tc] 71)) := hW0
  have hb0 : Below w.heap.size w W0 := by rw [hW0]; exact (Below.refl _ _).alloc (Nat.le_refl _) _
  have HB0 : Hid (Below w.heap.size w W0) := hb0
  have z0 : W0.cell? ⟨w.heap.size, 0, none⟩ = some (.int .i64 L) := by rw [hW0]; simp
  have z1 : W0.cell? ⟨w.heap.size, 1, none⟩ = some (.slice ia im ic) := by rw [hW0]; simp
  have z2 : W0.cell? ⟨w.heap.size, 2, none⟩ = some (.slice ta tn tc) := by rw [hW0]; simp
  have hR := h.below hb0 hhi
  have hwf := (worldB_iff x).1 hok
  have him : im ≤ 6 := by rw [← h.inds.len]; exact hwf.1.2.2.2.1
  have HC : Hid (Calls Tryz.prog 106 #[.slice ia im ic, .slice wa wn wc, .func (.func 107) #[] #[]] W0 fun e w' => ∃ (i : Nat) (f : Bool), e = .returned (.tuple #[.int .i64 i, .bool f]) ∧ (f = true → idxO x.inds wd = some i) ∧ (f = false → idxO x.inds wd = none) ∧ w' = W0) := search_any ia im ic x.inds wa wn wc wd W0 hR.inds (h'.below hb0 hhi') (asc_of hwf.2.1.2.2) (by omega)
  have HSeat : Hid (∀ i, idxO x.inds wd = some i → ∃ tb tof e, ta = some ⟨tb, tof, none⟩ ∧ i < tn ∧ seatZ x wd = (e : Int) ∧ W0.cell? ⟨tb, tof + i, none⟩ = some (.int .i64 (e : Int))) := fun i hi => by
    obtain ⟨tb, tof, e, h1, h2, h3, h4, h5, h6⟩ := seat_cell hR hok hn hi
    exact ⟨tb, tof, e, h1, h3, h5, h6⟩
  clear h h' hhi hhi' hb0 hW0 hok hn hwf hR him
  go_enter Tryz.func73, Tryz.ntmps73
  go_upto_region 1 with fail
  rw [← HW0.out]
  go_wp2_with fail
  refine HC.out.mono ?_
  rintro r w1 ⟨i, f, rfl, hf1, hf0, hw1⟩
  rw [hw1]
  clear hw1
  cases f with
  | false =>
    have HZ : Hid (seatZ x wd = -1) := seatZ_none (hf0 rfl)
    clear hf1 hf0
    go_wp2_with fail
    go_ret
    exact ⟨by rw [HZ.out]; rfl, HB0.out⟩
  | true =>
    obtain ⟨tb, tof, e, rfl, hit, hse, hcell⟩ := HSeat.out i (hf1 rfl)
    have HZ : Hid (seatZ x wd = (e : Int)) := hse
    have hiz : (i : Int) < (tn : Int) := by omega
    clear hf1 hf0 hse
    go_wp2_with fail
    go_ret
    exact ⟨by rw [HZ.out]; rfl, HB0.out⟩

/-- A claim in memory, anew after all that lies above has changed. -/
def HasQ (lo hi : Nat) (V : World) (d : Nat) (v : Value) (c : CN) : Prop := RdQ (fun b => b < V.heap.size) lo hi V d v c

theorem HasQ.below {lo hi : Nat} {V V' : World} {d : Nat} {v : Value} {c : CN} (h : HasQ lo hi V d v c) (hb : Below V.heap.size V V') (hhi : hi ≤ V.heap.size) : HasQ lo hi V' d v c :=
  RdQ.keep (fun b hb' => ⟨Nat.lt_of_lt_of_le hb' hb.size, hb.block b hb'⟩) (Same.of_below hb hhi) h
end

section
open Go.RowKit Go.Deep
set_option linter.unusedVariables false

set_option maxRecDepth 100000 in
set_option maxHeartbeats 8000000 in
theorem sat_sub {na : Option Addr} {nn nc : Nat} {sa : Option Addr} {sn sc : Nat} {ra : Option Addr} {rn rc : Nat} {la : Option Addr} {ln lc : Nat} {ia : Option Addr} {im ic : Nat} {ta : Option Addr} {tn tc : Nat} {x : WD} {dp : Nat} {c0 c1 c2 c3 d0 d1 d2 d3 : Value} {ea : Option Addr} {en ec : Nat} {fa : Option Addr} {fn fc : Nat} {aa : Option Addr} {an ac : Nat} {ba : Option Addr} {bn bc : Nat} {y : AX} {w : World} {lo hi lo' hi' : Nat} {L : Nat} (hok : worldB x = true) (hn : x.n = (L : Int)) (hL : 1 ≤ L ∧ L ≤ 128) (h : RdW lo hi w na nn nc sa sn sc ra rn rc la ln lc ia im ic ta tn tc x) (ha : RdA lo' hi' w dp c0 c1 c2 c3 d0 d1 d2 d3 ea en ec fa fn fc aa an ac ba bn bc y) (hhi : hi ≤ w.heap.size) (hhi' : hi' ≤ w.heap.size) (hax : axOk y = true) (hk : y.kind = 0) :
    Calls Tryz.prog 33 #[.agg #[.int .i64 L, .slice ia im ic, .slice ta tn tc, .int .i64 L, .slice na nn nc, .slice sa sn sc, .slice ra rn rc, .slice la ln lc, .slice ia im ic, .slice ta tn tc], .agg #[.int .i64 0, c0, c1, c2, c3, d0, d1, d2, d3, .slice ea en ec, .slice fa fn fc, .slice aa an ac, .slice ba bn bc]] w fun r w' => r = .returned (.bool (satB x L y)) ∧ Below w.heap.size w w' := by
  obtain ⟨wfc, wfd, hk0, hk5⟩ := ax_cons hax
  obtain ⟨xk, xna, xnn, xnc, xra, xrn, xrc, xka, xkn, xkc, rfl, rfl, rfl, rfl⟩ := ha.c.sh.form
  obtain ⟨yk, yna, ynn, ync, yra, yrn, yrc, yka, ykn, ykc, rfl, rfl, rfl, rfl⟩ := ha.d.sh.form
  obtain ⟨W0, hW0⟩ : ∃ W0, W0 = (w.alloc (.cells #[.int .i64 L, .slice ia im ic, .slice ta tn tc, .int .i64 L, .slice na nn nc, .slice sa sn sc, .slice ra rn rc, .slice la ln lc, .slice ia im ic, .slice ta tn tc] 73)).alloc (.cells #[.int .i64 0, .int .i64 xk, .slice xna xnn xnc, .slice xra xrn xrc, .slice xka xkn xkc, .int .i64 yk, .slice yna ynn ync, .slice yra yrn yrc, .slice yka ykn ykc, .slice ea en ec, .slice fa fn fc, .slice aa an ac, .slice ba bn bc] 42) := ⟨_, rfl⟩
  have HW0 : Hid (W0 = (w.alloc (.cells #[.int .i64 L, .slice ia im ic, .slice ta tn tc, .int .i64 L, .slice na nn nc, .slice sa sn sc, .slice ra rn rc, .slice la ln lc, .slice ia im ic, .slice ta tn tc] 73)).alloc (.cells #[.int .i64 0, .int .i64 xk, .slice xna xnn xnc, .slice xra xrn xrc, .slice xka xkn xkc, .int .i64 yk, .slice yna ynn ync, .slice yra yrn yrc, .slice yka ykn ykc, .slice ea en ec, .slice fa fn fc, .slice aa an ac, .slice ba bn bc] 42)) := hW0
  have hs0 : W0.heap.size = w.heap.size + 2 := by rw [hW0]; simp
  have hb0 : Below w.heap.size w W0 := by rw [hW0]; exact ((Below.refl _ _).alloc (Nat.le_refl _) _).alloc (by simp) _
  have HB0 : Hid (Below w.heap.size w W0) := hb0
  have hbw : BoxS W0 w.heap.size (.int .i64 L) (.slice ia im ic) (.slice ta tn tc) (.int .i64 L) (.slice na nn nc) (.slice sa sn sc) (.slice ra rn rc) (.slice la ln lc) (.slice ia im ic) (.slice ta tn tc) := by rw [hW0]; exact (BoxS.new w _ _ _ _ _ _ _ _ _ _).below ((Below.refl _ _).alloc (Nat.le_refl _) _) (by simp)
  have hba : BoxA 42 W0 (w.heap.size + 1) 0 (.int .i64 xk) (.slice xna xnn xnc) (.slice xra xrn xrc) (.slice xka xkn xkc) (.int .i64 yk) (.slice yna ynn ync) (.slice yra yrn yrc) (.slice yka ykn ykc) (.slice ea en ec) (.slice fa fn fc) (.slice aa an ac) (.slice ba bn bc) := by
    rw [hW0]
    have := BoxA.new 42 (w.alloc (.cells #[.int .i64 L, .slice ia im ic, .slice ta tn tc, .int .i64 L, .slice na nn nc, .slice sa sn sc, .slice ra rn rc, .slice la ln lc, .slice ia im ic, .slice ta tn tc] 73)) 0 (.int .i64 xk) (.slice xna xnn xnc) (.slice xra xrn xrc) (.slice xka xkn xkc) (.int .i64 yk) (.slice yna ynn ync) (.slice yra yrn yrc) (.slice yka ykn ykc) (.slice ea en ec) (.slice fa fn fc) (.slice aa an ac) (.slice ba bn bc)
    rwa [World.size_alloc] at this
  have HSat : Hid (∀ V, Below W0.heap.size W0 V → (V.cell? ⟨w.heap.size, 0, none⟩ = some (.int .i64 L) ∧ V.cell? ⟨w.heap.size, 1, none⟩ = some (.slice ia im ic) ∧ V.cell? ⟨w.heap.size, 2, none⟩ = some (.slice ta tn tc) ∧ V.cell? ⟨w.heap.size, 3, none⟩ = some (.int .i64 L) ∧ V.cell? ⟨w.heap.size, 4, none⟩ = some (.slice na nn nc) ∧ V.cell? ⟨w.heap.size, 5, none⟩ = some (.slice sa sn sc) ∧ V.cell? ⟨w.heap.size, 6, none⟩ = some (.slice ra rn rc) ∧ V.cell? ⟨w.heap.size, 7, none⟩ = some (.slice la ln lc) ∧ V.cell? ⟨w.heap.size, 8, none⟩ = some (.slice ia im ic) ∧ V.cell? ⟨w.heap.size, 9, none⟩ = some (.slice ta tn tc)) ∧ (V.cell? ⟨w.heap.size + 1, 0, none⟩ = some (.int .i64 0) ∧ V.cell? ⟨w.heap.size + 1, 1, none⟩ = some (.int .i64 xk) ∧ V.cell? ⟨w.heap.size + 1, 2, none⟩ = some (.slice xna xnn xnc) ∧ V.cell? ⟨w.heap.size + 1, 3, none⟩ = some (.slice xra xrn xrc) ∧ V.cell? ⟨w.heap.size + 1, 4, none⟩ = some (.slice xka xkn xkc) ∧ V.cell? ⟨w.heap.size + 1, 5, none⟩ = some (.int .i64 yk) ∧ V.cell? ⟨w.heap.size + 1, 6, none⟩ = some (.slice yna ynn ync) ∧ V.cell? ⟨w.heap.size + 1, 7, none⟩ = some (.slice yra yrn yrc) ∧ V.cell? ⟨w.heap.size + 1, 8, none⟩ = some (.slice yka ykn ykc) ∧ V.cell? ⟨w.heap.size + 1, 9, none⟩ = some (.slice ea en ec) ∧ V.cell? ⟨w.heap.size + 1, 10, none⟩ = some (.slice fa fn fc) ∧ V.cell? ⟨w.heap.size + 1, 11, none⟩ = some (.slice aa an ac) ∧ V.cell? ⟨w.heap.size + 1, 12, none⟩ = some (.slice ba bn bc))) := fun V hV => ⟨(hbw.below hV (by omega)).cells, (hba.below hV (by omega)).cells⟩
  have HWd : Hid (∀ V, Below W0.heap.size W0 V → RdW lo hi V na nn nc sa sn sc ra rn rc la ln lc ia im ic ta tn tc x ∧ hi ≤ V.heap.size) := fun V hV => ⟨(h.below hb0 hhi).below hV (by omega), by have := hV.size; omega⟩
  have HAx : Hid (∀ V, Below W0.heap.size W0 V → RdA lo' hi' V dp (.int .i64 xk) (.slice xna xnn xnc) (.slice xra xrn xrc) (.slice xka xkn xkc) (.int .i64 yk) (.slice yna ynn ync) (.slice yra yrn yrc) (.slice yka ykn ykc) ea en ec fa fn fc aa an ac ba bn bc y ∧ hi' ≤ V.heap.size) := fun V hV => ⟨(ha.below hb0 hhi').below hV (by omega), by have := hV.size; omega⟩
  have HFin : Hid (∀ {V : World}, Below W0.heap.size W0 V → Below w.heap.size w V) := fun {V} hV => HB0.out.trans (hV.mono HB0.out.size)
  have H0d : Hid (Below W0.heap.size W0 W0.drew) := (Below.refl _ _).drew
  have H0 : Hid (Below W0.heap.size W0 W0.drew) := H0d.out
  have HE : Hid (satB x L y = (((List.range L).all (fun e => !(holdC x L y.c e) || holdC x L y.d e)))) := by
    unfold Hid satB ruleB
    rw [if_neg (by omega), if_neg (by omega), if_neg (by omega), hk]
    rfl
  have HQX : Hid (∀ V, Below W0.heap.size W0 V → Calls Tryz.prog 69 #[.agg #[.int .i64 xk, .slice xna xnn xnc, .slice xra xrn xrc, .slice xka xkn xkc]] V fun e w' => ∃ qt qz, e = .returned (.iface qt qz) ∧ HasQ lo' hi' w' dp (.iface qt qz) y.c ∧ Below V.heap.size V w') := fun V hV => (claimOf_any dp _ y.c V lo' hi' (HAx.out V hV).1.c (HAx.out V hV).2 wfc).mono fun e w' ⟨v, he, hq, hb⟩ => by
    obtain ⟨qt, qz, rfl⟩ := hq.iface
    exact ⟨qt, qz, he, hq.keep (fun b hb => ⟨hb.2, rfl⟩) (fun _ _ _ => rfl), hb⟩
  have HHX : Hid (∀ V, Below W0.heap.size W0 V → ∀ qt qz, HasQ lo' hi' V dp (.iface qt qz) y.c → Calls Tryz.prog 68 #[.agg #[.int .i64 L, .slice ia im ic, .slice ta tn tc, .int .i64 L, .slice na nn nc, .slice sa sn sc, .slice ra rn rc, .slice la ln lc, .slice ia im ic, .slice ta tn tc], .iface qt qz] V fun e w' => ∃ fb fo fc, e = .returned (.slice (some ⟨fb, fo, none⟩) L fc) ∧ (L ≤ fc ∧ fc ≤ 9223372036854775807) ∧ FlS w' fb fo L (holdC x L y.c) ∧ Below V.heap.size V w') := fun V hV qt qz hq => (hqP_any hok hn hL dp _ y.c V V.heap.size lo' hi' hq (Nat.le_refl _) (HAx.out V hV).2 (HWd.out V hV).1 (HWd.out V hV).2 wfc).mono fun e w' ⟨b, o, cc, he, hc, hf, hb⟩ => ⟨b, o, cc, he, hc.1, hf, hb⟩
  have HQY : Hid (∀ V, Below W0.heap.size W0 V → Calls Tryz.prog 69 #[.agg #[.int .i64 yk, .slice yna ynn ync, .slice yra yrn yrc, .slice yka ykn ykc]] V fun e w' => ∃ qt qz, e = .returned (.iface qt qz) ∧ HasQ lo' hi' w' dp (.iface qt qz) y.d ∧ Below V.heap.size V w') := fun V hV => (claimOf_any dp _ y.d V lo' hi' (HAx.out V hV).1.d (HAx.out V hV).2 wfd).mono fun e w' ⟨v, he, hq, hb⟩ => by
    obtain ⟨qt, qz, rfl⟩ := hq.iface
    exact ⟨qt, qz, he, hq.keep (fun b hb => ⟨hb.2, rfl⟩) (fun _ _ _ => rfl), hb⟩
  have HHY : Hid (∀ V, Below W0.heap.size W0 V → ∀ qt qz, HasQ lo' hi' V dp (.iface qt qz) y.d → Calls Tryz.prog 68 #[.agg #[.int .i64 L, .slice ia im ic, .slice ta tn tc, .int .i64 L, .slice na nn nc, .slice sa sn sc, .slice ra rn rc, .slice la ln lc, .slice ia im ic, .slice ta tn tc], .iface qt qz] V fun e w' => ∃ fb fo fc, e = .returned (.slice (some ⟨fb, fo, none⟩) L fc) ∧ (L ≤ fc ∧ fc ≤ 9223372036854775807) ∧ FlS w' fb fo L (holdC x L y.d) ∧ Below V.heap.size V w') := fun V hV qt qz hq => (hqP_any hok hn hL dp _ y.d V V.heap.size lo' hi' hq (Nat.le_refl _) (HAx.out V hV).2 (HWd.out V hV).1 (HWd.out V hV).2 wfd).mono fun e w' ⟨b, o, cc, he, hc, hf, hb⟩ => ⟨b, o, cc, he, hc.1, hf, hb⟩
  have hL2 : L ≤ 16384 := by omega
  clear h ha hhi hhi' hb0 hbw hba hW0 hs0 hok hn hk hk0 hk5 hax wfc wfd
  go_enter Tryz.func33, Tryz.ntmps33
  go_upto_region 1 with fail
  rw [← HW0.out]
  obtain ⟨⟨a0, a1, a2, a3, a4, a5, a6, a7, a8, a9⟩, p0, p1, p2, p3, p4, p5, p6, p7, p8, p9, p10, p11, p12⟩ := HSat.out W0 (Below.refl _ _)
  go_upto_region 3 with fail
  clear a0 a1 a2 a3 a4 a5 a6 a7 a8 a9 p0 p1 p2 p3 p4 p5 p6 p7 p8 p9 p10 p11 p12
  obtain ⟨rr, hrr⟩ : ∃ rr, rr = ((List.range L).all (fun e => !(holdC x L y.c e) || holdC x L y.d e)) := ⟨_, rfl⟩
  have HRr : Hid (rr = ((List.range L).all (fun e => !(holdC x L y.c e) || holdC x L y.d e))) := hrr
  clear hrr
  first | go_region_held3 (fun V => (V.cell? ⟨w.heap.size, 0, none⟩ = some (.int .i64 L) ∧ V.cell? ⟨w.heap.size, 1, none⟩ = some (.slice ia im ic) ∧ V.cell? ⟨w.heap.size, 2, none⟩ = some (.slice ta tn tc) ∧ V.cell? ⟨w.heap.size, 3, none⟩ = some (.int .i64 L) ∧ V.cell? ⟨w.heap.size, 4, none⟩ = some (.slice na nn nc) ∧ V.cell? ⟨w.heap.size, 5, none⟩ = some (.slice sa sn sc) ∧ V.cell? ⟨w.heap.size, 6, none⟩ = some (.slice ra rn rc) ∧ V.cell? ⟨w.heap.size, 7, none⟩ = some (.slice la ln lc) ∧ V.cell? ⟨w.heap.size, 8, none⟩ = some (.slice ia im ic) ∧ V.cell? ⟨w.heap.size, 9, none⟩ = some (.slice ta tn tc)) ∧ (V.cell? ⟨w.heap.size + 1, 0, none⟩ = some (.int .i64 0) ∧ V.cell? ⟨w.heap.size + 1, 1, none⟩ = some (.int .i64 xk) ∧ V.cell? ⟨w.heap.size + 1, 2, none⟩ = some (.slice xna xnn xnc) ∧ V.cell? ⟨w.heap.size + 1, 3, none⟩ = some (.slice xra xrn xrc) ∧ V.cell? ⟨w.heap.size + 1, 4, none⟩ = some (.slice xka xkn xkc) ∧ V.cell? ⟨w.heap.size + 1, 5, none⟩ = some (.int .i64 yk) ∧ V.cell? ⟨w.heap.size + 1, 6, none⟩ = some (.slice yna ynn ync) ∧ V.cell? ⟨w.heap.size + 1, 7, none⟩ = some (.slice yra yrn yrc) ∧ V.cell? ⟨w.heap.size + 1, 8, none⟩ = some (.slice yka ykn ykc) ∧ V.cell? ⟨w.heap.size + 1, 9, none⟩ = some (.slice ea en ec) ∧ V.cell? ⟨w.heap.size + 1, 10, none⟩ = some (.slice fa fn fc) ∧ V.cell? ⟨w.heap.size + 1, 11, none⟩ = some (.slice aa an ac) ∧ V.cell? ⟨w.heap.size + 1, 12, none⟩ = some (.slice ba bn bc))) (first | with_reducible exact HSat.out _ H5.out | with_reducible exact HSat.out _ H4.out | with_reducible exact HSat.out _ H3.out | with_reducible exact HSat.out _ H2.out | with_reducible exact HSat.out _ H1.out | with_reducible exact HSat.out _ H0.out) (first | (go_at_call_of 69 xk; first | (refine (HQX.out W0.drew H0.out).mono ?_; rintro r w1 ⟨xqt, xqz, rfl, hq, hbq⟩; have H1 : Hid (Below W0.heap.size W0 w1) := H0.out.trans (hbq.mono H0.out.size); have QX1 : Hid (HasQ lo' hi' w1 dp (.iface xqt xqz) y.c) := hq; try (have QX1 : Hid (HasQ lo' hi' w1 dp (.iface xqt xqz) y.c) := HasQ.below QX0.out hbq (HAx.out _ H0.out).2); try (have FX1 : Hid (FlS w1 xfb xfo L (holdC x L y.c)) := FlS.below FX0.out hbq); try (have QY1 : Hid (HasQ lo' hi' w1 dp (.iface yqt yqz) y.d) := HasQ.below QY0.out hbq (HAx.out _ H0.out).2); try (have FY1 : Hid (FlS w1 yfb yfo L (holdC x L y.d)) := FlS.below FY0.out hbq); clear hq hbq) | (refine (HQX.out w1 H1.out).mono ?_; rintro r w2 ⟨xqt, xqz, rfl, hq, hbq⟩; have H2 : Hid (Below W0.heap.size W0 w2) := H1.out.trans (hbq.mono H1.out.size); have QX2 : Hid (HasQ lo' hi' w2 dp (.iface xqt xqz) y.c) := hq; try (have QX2 : Hid (HasQ lo' hi' w2 dp (.iface xqt xqz) y.c) := HasQ.below QX1.out hbq (HAx.out _ H1.out).2); try (have FX2 : Hid (FlS w2 xfb xfo L (holdC x L y.c)) := FlS.below FX1.out hbq); try (have QY2 : Hid (HasQ lo' hi' w2 dp (.iface yqt yqz) y.d) := HasQ.below QY1.out hbq (HAx.out _ H1.out).2); try (have FY2 : Hid (FlS w2 yfb yfo L (holdC x L y.d)) := FlS.below FY1.out hbq); clear hq hbq) | (refine (HQX.out w2 H2.out).mono ?_; rintro r w3 ⟨xqt, xqz, rfl, hq, hbq⟩; have H3 : Hid (Below W0.heap.size W0 w3) := H2.out.trans (hbq.mono H2.out.size); have QX3 : Hid (HasQ lo' hi' w3 dp (.iface xqt xqz) y.c) := hq; try (have QX3 : Hid (HasQ lo' hi' w3 dp (.iface xqt xqz) y.c) := HasQ.below QX2.out hbq (HAx.out _ H2.out).2); try (have FX3 : Hid (FlS w3 xfb xfo L (holdC x L y.c)) := FlS.below FX2.out hbq); try (have QY3 : Hid (HasQ lo' hi' w3 dp (.iface yqt yqz) y.d) := HasQ.below QY2.out hbq (HAx.out _ H2.out).2); try (have FY3 : Hid (FlS w3 yfb yfo L (holdC x L y.d)) := FlS.below FY2.out hbq); clear hq hbq)) | (go_at_call_of 68 xqz; first | (refine (HHX.out w1 H1.out xqt xqz QX1.out).mono ?_; rintro r w2 ⟨xfb, xfo, xfc, rfl, hfc, hfl, hbq⟩; have H2 : Hid (Below W0.heap.size W0 w2) := H1.out.trans (hbq.mono H1.out.size); have FX2 : Hid (FlS w2 xfb xfo L (holdC x L y.c)) := hfl; have HCX : Hid (L ≤ xfc ∧ xfc ≤ 9223372036854775807) := hfc; try (have QX2 : Hid (HasQ lo' hi' w2 dp (.iface xqt xqz) y.c) := HasQ.below QX1.out hbq (HAx.out _ H1.out).2); try (have FX2 : Hid (FlS w2 xfb xfo L (holdC x L y.c)) := FlS.below FX1.out hbq); try (have QY2 : Hid (HasQ lo' hi' w2 dp (.iface yqt yqz) y.d) := HasQ.below QY1.out hbq (HAx.out _ H1.out).2); try (have FY2 : Hid (FlS w2 yfb yfo L (holdC x L y.d)) := FlS.below FY1.out hbq); clear hfc hfl hbq) | (refine (HHX.out w2 H2.out xqt xqz QX2.out).mono ?_; rintro r w3 ⟨xfb, xfo, xfc, rfl, hfc, hfl, hbq⟩; have H3 : Hid (Below W0.heap.size W0 w3) := H2.out.trans (hbq.mono H2.out.size); have FX3 : Hid (FlS w3 xfb xfo L (holdC x L y.c)) := hfl; have HCX : Hid (L ≤ xfc ∧ xfc ≤ 9223372036854775807) := hfc; try (have QX3 : Hid (HasQ lo' hi' w3 dp (.iface xqt xqz) y.c) := HasQ.below QX2.out hbq (HAx.out _ H2.out).2); try (have FX3 : Hid (FlS w3 xfb xfo L (holdC x L y.c)) := FlS.below FX2.out hbq); try (have QY3 : Hid (HasQ lo' hi' w3 dp (.iface yqt yqz) y.d) := HasQ.below QY2.out hbq (HAx.out _ H2.out).2); try (have FY3 : Hid (FlS w3 yfb yfo L (holdC x L y.d)) := FlS.below FY2.out hbq); clear hfc hfl hbq) | (refine (HHX.out w3 H3.out xqt xqz QX3.out).mono ?_; rintro r w4 ⟨xfb, xfo, xfc, rfl, hfc, hfl, hbq⟩; have H4 : Hid (Below W0.heap.size W0 w4) := H3.out.trans (hbq.mono H3.out.size); have FX4 : Hid (FlS w4 xfb xfo L (holdC x L y.c)) := hfl; have HCX : Hid (L ≤ xfc ∧ xfc ≤ 9223372036854775807) := hfc; try (have QX4 : Hid (HasQ lo' hi' w4 dp (.iface xqt xqz) y.c) := HasQ.below QX3.out hbq (HAx.out _ H3.out).2); try (have FX4 : Hid (FlS w4 xfb xfo L (holdC x L y.c)) := FlS.below FX3.out hbq); try (have QY4 : Hid (HasQ lo' hi' w4 dp (.iface yqt yqz) y.d) := HasQ.below QY3.out hbq (HAx.out _ H3.out).2); try (have FY4 : Hid (FlS w4 yfb yfo L (holdC x L y.d)) := FlS.below FY3.out hbq); clear hfc hfl hbq)) | (go_at_call_of 69 yk; first | (refine (HQY.out W0.drew H0.out).mono ?_; rintro r w1 ⟨yqt, yqz, rfl, hq, hbq⟩; have H1 : Hid (Below W0.heap.size W0 w1) := H0.out.trans (hbq.mono H0.out.size); have QY1 : Hid (HasQ lo' hi' w1 dp (.iface yqt yqz) y.d) := hq; try (have QX1 : Hid (HasQ lo' hi' w1 dp (.iface xqt xqz) y.c) := HasQ.below QX0.out hbq (HAx.out _ H0.out).2); try (have FX1 : Hid (FlS w1 xfb xfo L (holdC x L y.c)) := FlS.below FX0.out hbq); try (have QY1 : Hid (HasQ lo' hi' w1 dp (.iface yqt yqz) y.d) := HasQ.below QY0.out hbq (HAx.out _ H0.out).2); try (have FY1 : Hid (FlS w1 yfb yfo L (holdC x L y.d)) := FlS.below FY0.out hbq); clear hq hbq) | (refine (HQY.out w1 H1.out).mono ?_; rintro r w2 ⟨yqt, yqz, rfl, hq, hbq⟩; have H2 : Hid (Below W0.heap.size W0 w2) := H1.out.trans (hbq.mono H1.out.size); have QY2 : Hid (HasQ lo' hi' w2 dp (.iface yqt yqz) y.d) := hq; try (have QX2 : Hid (HasQ lo' hi' w2 dp (.iface xqt xqz) y.c) := HasQ.below QX1.out hbq (HAx.out _ H1.out).2); try (have FX2 : Hid (FlS w2 xfb xfo L (holdC x L y.c)) := FlS.below FX1.out hbq); try (have QY2 : Hid (HasQ lo' hi' w2 dp (.iface yqt yqz) y.d) := HasQ.below QY1.out hbq (HAx.out _ H1.out).2); try (have FY2 : Hid (FlS w2 yfb yfo L (holdC x L y.d)) := FlS.below FY1.out hbq); clear hq hbq) | (refine (HQY.out w2 H2.out).mono ?_; rintro r w3 ⟨yqt, yqz, rfl, hq, hbq⟩; have H3 : Hid (Below W0.heap.size W0 w3) := H2.out.trans (hbq.mono H2.out.size); have QY3 : Hid (HasQ lo' hi' w3 dp (.iface yqt yqz) y.d) := hq; try (have QX3 : Hid (HasQ lo' hi' w3 dp (.iface xqt xqz) y.c) := HasQ.below QX2.out hbq (HAx.out _ H2.out).2); try (have FX3 : Hid (FlS w3 xfb xfo L (holdC x L y.c)) := FlS.below FX2.out hbq); try (have QY3 : Hid (HasQ lo' hi' w3 dp (.iface yqt yqz) y.d) := HasQ.below QY2.out hbq (HAx.out _ H2.out).2); try (have FY3 : Hid (FlS w3 yfb yfo L (holdC x L y.d)) := FlS.below FY2.out hbq); clear hq hbq)) | (go_at_call_of 68 yqz; first | (refine (HHY.out w1 H1.out yqt yqz QY1.out).mono ?_; rintro r w2 ⟨yfb, yfo, yfc, rfl, hfc, hfl, hbq⟩; have H2 : Hid (Below W0.heap.size W0 w2) := H1.out.trans (hbq.mono H1.out.size); have FY2 : Hid (FlS w2 yfb yfo L (holdC x L y.d)) := hfl; have HCY : Hid (L ≤ yfc ∧ yfc ≤ 9223372036854775807) := hfc; try (have QX2 : Hid (HasQ lo' hi' w2 dp (.iface xqt xqz) y.c) := HasQ.below QX1.out hbq (HAx.out _ H1.out).2); try (have FX2 : Hid (FlS w2 xfb xfo L (holdC x L y.c)) := FlS.below FX1.out hbq); try (have QY2 : Hid (HasQ lo' hi' w2 dp (.iface yqt yqz) y.d) := HasQ.below QY1.out hbq (HAx.out _ H1.out).2); try (have FY2 : Hid (FlS w2 yfb yfo L (holdC x L y.d)) := FlS.below FY1.out hbq); clear hfc hfl hbq) | (refine (HHY.out w2 H2.out yqt yqz QY2.out).mono ?_; rintro r w3 ⟨yfb, yfo, yfc, rfl, hfc, hfl, hbq⟩; have H3 : Hid (Below W0.heap.size W0 w3) := H2.out.trans (hbq.mono H2.out.size); have FY3 : Hid (FlS w3 yfb yfo L (holdC x L y.d)) := hfl; have HCY : Hid (L ≤ yfc ∧ yfc ≤ 9223372036854775807) := hfc; try (have QX3 : Hid (HasQ lo' hi' w3 dp (.iface xqt xqz) y.c) := HasQ.below QX2.out hbq (HAx.out _ H2.out).2); try (have FX3 : Hid (FlS w3 xfb xfo L (holdC x L y.c)) := FlS.below FX2.out hbq); try (have QY3 : Hid (HasQ lo' hi' w3 dp (.iface yqt yqz) y.d) := HasQ.below QY2.out hbq (HAx.out _ H2.out).2); try (have FY3 : Hid (FlS w3 yfb yfo L (holdC x L y.d)) := FlS.below FY2.out hbq); clear hfc hfl hbq) | (refine (HHY.out w3 H3.out yqt yqz QY3.out).mono ?_; rintro r w4 ⟨yfb, yfo, yfc, rfl, hfc, hfl, hbq⟩; have H4 : Hid (Below W0.heap.size W0 w4) := H3.out.trans (hbq.mono H3.out.size); have FY4 : Hid (FlS w4 yfb yfo L (holdC x L y.d)) := hfl; have HCY : Hid (L ≤ yfc ∧ yfc ≤ 9223372036854775807) := hfc; try (have QX4 : Hid (HasQ lo' hi' w4 dp (.iface xqt xqz) y.c) := HasQ.below QX3.out hbq (HAx.out _ H3.out).2); try (have FX4 : Hid (FlS w4 xfb xfo L (holdC x L y.c)) := FlS.below FX3.out hbq); try (have QY4 : Hid (HasQ lo' hi' w4 dp (.iface yqt yqz) y.d) := HasQ.below QY3.out hbq (HAx.out _ H3.out).2); try (have FY4 : Hid (FlS w4 yfb yfo L (holdC x L y.d)) := FlS.below FY3.out hbq); clear hfc hfl hbq)) | (go_at_call 67; refine (within_any hL2 FX4.out FY4.out HCX.out HCY.out).mono ?_; rintro r w5 ⟨rfl, hbq⟩; rw [← HRr.out]; have H5 : Hid (Below W0.heap.size W0 w5) := (by unfold Hid; rw [hbq]; exact H4.out); clear hbq)) | fail
  all_goals
    go_wp2_with fail
    go_ret
    exact ⟨rb' (by rw [HE.out, ← HRr.out]), HFin.out H5.out⟩
end

end Go.Proofs.YtfbokljbmihlbaaGreat
