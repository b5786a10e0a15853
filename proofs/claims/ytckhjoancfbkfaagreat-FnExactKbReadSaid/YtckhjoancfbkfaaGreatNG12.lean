/- Several texts in one: AxSpec2, AxLaw1. -/
import Derived.Test.YtckhjoancfbkfaaGreatNG9
import Derived.Deep.RegionWith
import Derived.Test.YtckhjoancfbkfaaGreatNG6
import Derived.Test.YtckhjoancfbkfaaGreatNG2
import Derived.Deep.DeepCutAuto
namespace Go.Proofs.YtckhjoancfbkfaaGreat

section
open Go.RowKit
set_option linter.unusedVariables false

theorem byP {P : Prop} (p : Prop) [Decidable p] (h1 : p → P) (h0 : ¬ p → P) : P := if h : p then h1 h else h0 h
theorem byB {P : Prop} (b : Bool) (h0 : b = false → P) (h1 : b = true → P) : P := by cases h : b; exact h0 h; exact h1 h
theorem byN {P : Prop} (n : Nat) (h0 : n = 0 → P) (h1 : ¬ n = 0 → (0 : Int) < (n : Int) → P) : P := if h : n = 0 then h0 h else h1 h (by omega)
theorem byL {P : Prop} (n : Nat) (b : Bool) (q : n = 0 → b = false) (h0 : n = 0 → b = false → P) (h1 : (0 : Int) < (n : Int) → b = false → P) (h2 : (0 : Int) < (n : Int) → b = true → P) : P := by
  by_cases h : n = 0
  · exact h0 h (q h)
  · cases hb : b
    · exact h1 (by omega) hb
    · exact h2 (by omega) hb
theorem bySix {P : Prop} {k : Int} (a : ¬ k < 0) (b : ¬ 5 < k) (h2 : k = 0 ∨ k = 1 ∨ k = 2 → P) (h3 : k = 3 → P) (h4 : k = 4 → P) (h5 : k = 5 → P) : P := by
  by_cases h : k ≤ 2
  · exact h2 (by omega)
  · by_cases e : k = 3
    · exact h3 e
    · by_cases e : k = 4
      · exact h4 e
      · exact h5 (by omega)

set_option maxRecDepth 100000 in
set_option maxHeartbeats 40000000 in
theorem specAxiomOk_any {dp : Nat} {c0 c1 c2 c3 d0 d1 d2 d3 : Value} {ra : Option Addr} {rn rc : Nat} {sa : Option Addr} {sn sc : Nat} {aa : Option Addr} {an ac : Nat} {ba : Option Addr} {bn bc : Nat} {x : AX} {w : World} {lo hi : Nat} (h : RdA lo hi w dp c0 c1 c2 c3 d0 d1 d2 d3 ra rn rc sa sn sc aa an ac ba bn bc x) (hhi : hi ≤ w.heap.size) (k : Int) (hk : k = x.kind) : Calls Tryz.prog 35 #[.agg #[.int .i64 k, c0, c1, c2, c3, d0, d1, d2, d3, .slice ra rn rc, .slice sa sn sc, .slice aa an ac, .slice ba bn bc]] w fun e w' => e = .returned (.bool (axOk x)) ∧ Below w.heap.size w w' := by
  obtain ⟨W0, hW0⟩ : ∃ W0, W0 = w.alloc (.cells #[.int .i64 k, c0, c1, c2, c3, d0, d1, d2, d3, .slice ra rn rc, .slice sa sn sc, .slice aa an ac, .slice ba bn bc] 39) := ⟨_, rfl⟩
  have HW0 : Hid (W0 = w.alloc (.cells #[.int .i64 k, c0, c1, c2, c3, d0, d1, d2, d3, .slice ra rn rc, .slice sa sn sc, .slice aa an ac, .slice ba bn bc] 39)) := hW0
  have hb0 : Below w.heap.size w W0 := by rw [hW0]; exact (Below.refl _ _).alloc (Nat.le_refl _) _
  have HB0 : Hid (Below w.heap.size w W0) := hb0
  have hl0 : w.heap.size < W0.heap.size := by rw [hW0]; simp
  have hbx : BoxA 39 W0 w.heap.size k c0 c1 c2 c3 d0 d1 d2 d3 (.slice ra rn rc) (.slice sa sn sc) (.slice aa an ac) (.slice ba bn bc) := by rw [hW0]; exact BoxA.new _ w _ _ _ _ _ _ _ _ _ _ _ _ _
  have HAt : Hid (∀ W, Below W0.heap.size W0 W → BoxA 39 W w.heap.size k c0 c1 c2 c3 d0 d1 d2 d3 (.slice ra rn rc) (.slice sa sn sc) (.slice aa an ac) (.slice ba bn bc)) := fun W hW => hbx.below hW hl0
  obtain ⟨z0, z1, z2, z3, z4, z5, z6, z7, z8, z9, z10, z11, z12⟩ := hbx.cells
  have HR : Hid (∀ W, Below W0.heap.size W0 W → RdA lo hi W dp c0 c1 c2 c3 d0 d1 d2 d3 ra rn rc sa sn sc aa an ac ba bn bc x) := fun W hW => (h.below hb0 hhi).below hW (Nat.le_trans hhi hb0.size)
  have hh0 : hi ≤ W0.heap.size := Nat.le_trans hhi hb0.size
  have HV : Hid (Below W0.heap.size W0 W0) := Below.refl _ _
  have hlr := h.r.len
  have hls := h.s.len
  have hla := h.a.len
  have hlb := h.b.len
  have hlow : ∀ {zs : List Int} {n : Nat}, zs.length = n → n = 0 → lowOk zs = false := fun {zs} {n} hl hz => by cases e : lowOk zs; rfl; have := (longB_of_low e).1; omega
  have hqr := hlow hlr
  have hqs := hlow hls
  have hqa := hlow hla
  have hqb := hlow hlb
  have hqc : conOk x.c = false → zeroB x.c = false := fun e => by cases hz : zeroB x.c; rfl; rw [ok_of_zero hz] at e; exact e
  have hqd : conOk x.d = false → zeroB x.d = false := fun e => by cases hz : zeroB x.d; rfl; rw [ok_of_zero hz] at e; exact e
  have hkx := hk.symm
  clear hk hlow h hb0 hW0 hbx
  refine byP (k < 0) (fun h0 => ?_) (fun h0 => byP (5 < k) (fun h5 => ?_) (fun h5 => byB (conOk x.c) (fun hC => ?_) (fun hC => byB (conOk x.d) (fun hD => ?_) (fun hD => bySix h0 h5 (fun e3 => byN rn (fun hr => byN sn (fun hs => byN an (fun ha => byN bn (fun hb => ?_) (fun hb hbp => ?_)) (fun ha hap => ?_)) (fun hs hsp => ?_)) (fun hr hrp => ?_)) (fun e => byB (zeroB x.d) (fun hzd => ?_) (fun hzd => byB (zeroB x.c) (fun hzc => ?_) (fun hzc => byL rn (lowOk x.r) hqr (fun hr hLr => ?_) (fun hrp hLr => ?_) (fun hrp hLr => byL sn (lowOk x.s) hqs (fun hs hLs => ?_) (fun hsp hLs => ?_) (fun hsp hLs => byN an (fun ha => byN bn (fun hb => ?_) (fun hb hbp => ?_)) (fun ha hap => ?_)))))) (fun e => byB (zeroB x.d) (fun hzd => ?_) (fun hzd => byN rn (fun hr => byN sn (fun hs => byL an (lowOk x.a) hqa (fun ha hLa => ?_) (fun hap hLa => ?_) (fun hap hLa => byN bn (fun hb => ?_) (fun hb hbp => ?_))) (fun hs hsp => ?_)) (fun hr hrp => ?_))) (fun e => byB (zeroB x.d) (fun hzd => ?_) (fun hzd => byB (zeroB x.c) (fun hzc => ?_) (fun hzc => byL rn (lowOk x.r) hqr (fun hr hLr => ?_) (fun hrp hLr => ?_) (fun hrp hLr => byN sn (fun hs => byL an (lowOk x.a) hqa (fun ha hLa => ?_) (fun hap hLa => ?_) (fun hap hLa => byL bn (lowOk x.b) hqb (fun hb hLb => ?_) (fun hbp hLb => ?_) (fun hbp hLb => ?_))) (fun hs hsp => ?_)))))))))
  all_goals
    (try subst hr)
    (try subst hs)
    (try subst ha)
    (try subst hb)
    (try subst e)
    (first | (have HE : Hid (axOk x = true) := (by first | (unfold Hid axOk fitC fitL wantC wantD wantR wantS wantA wantB; rw [hkx]; (first | (rcases e3 with rfl | rfl | rfl <;> (simp [*]; done)) | (simp [*]; done))) | fail)) | (have HE : Hid (axOk x = false) := (by first | (unfold Hid axOk fitC fitL wantC wantD wantR wantS wantA wantB; rw [hkx]; (first | (rcases e3 with rfl | rfl | rfl <;> (simp [*]; done)) | (simp [*]; done) | (rw [decide_eq_false (by omega)]; rfl))) | fail)))
    clear hkx hlr hls hla hlb hqr hqs hqa hqb hqc hqd
    (try (have hk2 : k ≤ 2 := (by omega); have b3 : (k == 3) = false := (by simp; omega); have b4 : (k == 4) = false := (by simp; omega); have b5 : (k == 5) = false := (by simp; omega); clear e3))
    go_enter Tryz.func35, Tryz.ntmps35
    go_upto_region 1 with fail
    rw [← HW0.out]
    go_wp2_with ((first | (go_at_call_of 23 c0; refine (specConOk_any (HR.out _ HV.out).c (Nat.le_trans hh0 HV.out.size)).mono ?_) | (go_at_call_of 23 d0; refine (specConOk_any (HR.out _ HV.out).d (Nat.le_trans hh0 HV.out.size)).mono ?_) | (go_at_call_of 72 d0; refine (l3zero_any (HR.out _ HV.out).d).mono ?_) | (go_at_call_of 72 c0; refine (l3zero_any (HR.out _ HV.out).c).mono ?_) | (go_at_call_of 73 ra; refine (specLowerOk_any ra rn rc x.r _ (lo := lo) (hi := hi) (HR.out _ HV.out).r).mono ?_) | (go_at_call_of 73 sa; refine (specLowerOk_any sa sn sc x.s _ (lo := lo) (hi := hi) (HR.out _ HV.out).s).mono ?_) | (go_at_call_of 73 aa; refine (specLowerOk_any aa an ac x.a _ (lo := lo) (hi := hi) (HR.out _ HV.out).a).mono ?_) | (go_at_call_of 73 ba; refine (specLowerOk_any ba bn bc x.b _ (lo := lo) (hi := hi) (HR.out _ HV.out).b).mono ?_)); rintro e V' ⟨rfl, hb⟩; (first | rw [hC] | rw [hD] | rw [hzd] | rw [hzc] | rw [hLr] | rw [hLs] | rw [hLa] | rw [hLb]); have HV' : Hid (Below W0.heap.size W0 V') := (by first | exact HV.out.trans (hb.mono HV.out.size) | exact hb ▸ HV.out); clear hb HV z0 z1 z2 z3 z4 z5 z6 z7 z8 z9 z10 z11 z12; have HV := HV'; clear HV'; obtain ⟨z0, z1, z2, z3, z4, z5, z6, z7, z8, z9, z10, z11, z12⟩ := (HAt.out _ HV.out).cells)
    go_ret
    exact ⟨rb HE.out.symm, HB0.out.trans (HV.out.mono HB0.out.size)⟩
end

section
open Go.RowKit

set_option maxRecDepth 100000 in
set_option maxHeartbeats 4000000 in
theorem eqAx_any {dp : Nat} {c0 c1 c2 c3 d0 d1 d2 d3 : Value} {ra : Option Addr} {rn rc : Nat} {sa : Option Addr} {sn sc : Nat} {aa : Option Addr} {an ac : Nat} {ba : Option Addr} {bn bc : Nat} {x : AX} {w : World} {lo hi lo' hi' : Nat} {dp' : Nat} {c0' c1' c2' c3' d0' d1' d2' d3' : Value} {ra' : Option Addr} {rn' rc' : Nat} {sa' : Option Addr} {sn' sc' : Nat} {aa' : Option Addr} {an' ac' : Nat} {ba' : Option Addr} {bn' bc' : Nat} (h : RdA lo hi w dp c0 c1 c2 c3 d0 d1 d2 d3 ra rn rc sa sn sc aa an ac ba bn bc x) (h' : RdA lo' hi' w dp' c0' c1' c2' c3' d0' d1' d2' d3' ra' rn' rc' sa' sn' sc' aa' an' ac' ba' bn' bc' x) (hhi : hi ≤ w.heap.size) (hhi' : hi' ≤ w.heap.size) (k : Int) :
    Calls Tryz.prog 112 #[.agg #[.int .i64 k, c0, c1, c2, c3, d0, d1, d2, d3, .slice ra rn rc, .slice sa sn sc, .slice aa an ac, .slice ba bn bc], .agg #[.int .i64 k, c0', c1', c2', c3', d0', d1', d2', d3', .slice ra' rn' rc', .slice sa' sn' sc', .slice aa' an' ac', .slice ba' bn' bc']] w fun e w' => e = .returned (.bool true) ∧ Below w.heap.size w w' := by
  obtain ⟨W0, hW0⟩ : ∃ W0, W0 = (w.alloc (.cells #[.int .i64 k, c0, c1, c2, c3, d0, d1, d2, d3, .slice ra rn rc, .slice sa sn sc, .slice aa an ac, .slice ba bn bc] 39)).alloc (.cells #[.int .i64 k, c0', c1', c2', c3', d0', d1', d2', d3', .slice ra' rn' rc', .slice sa' sn' sc', .slice aa' an' ac', .slice ba' bn' bc'] 39) := ⟨_, rfl⟩
  have HW0 : Hid (W0 = (w.alloc (.cells #[.int .i64 k, c0, c1, c2, c3, d0, d1, d2, d3, .slice ra rn rc, .slice sa sn sc, .slice aa an ac, .slice ba bn bc] 39)).alloc (.cells #[.int .i64 k, c0', c1', c2', c3', d0', d1', d2', d3', .slice ra' rn' rc', .slice sa' sn' sc', .slice aa' an' ac', .slice ba' bn' bc'] 39)) := hW0
  have hb0 : Below w.heap.size w W0 := by rw [hW0]; exact ((Below.refl _ _).alloc (Nat.le_refl _) _).alloc (by simp) _
  have HB0 : Hid (Below w.heap.size w W0) := hb0
  have hs0 : W0.heap.size = w.heap.size + 2 := by rw [hW0]; simp
  have hbx : BoxA 39 W0 w.heap.size k c0 c1 c2 c3 d0 d1 d2 d3 (.slice ra rn rc) (.slice sa sn sc) (.slice aa an ac) (.slice ba bn bc) := by rw [hW0]; exact (BoxA.new _ w _ _ _ _ _ _ _ _ _ _ _ _ _).below ((Below.refl _ _).alloc (Nat.le_refl _) _) (by simp)
  have hby : BoxA 39 W0 (w.heap.size + 1) k c0' c1' c2' c3' d0' d1' d2' d3' (.slice ra' rn' rc') (.slice sa' sn' sc') (.slice aa' an' ac') (.slice ba' bn' bc') := by
    rw [hW0]
    have := BoxA.new 39 (w.alloc (.cells #[.int .i64 k, c0, c1, c2, c3, d0, d1, d2, d3, .slice ra rn rc, .slice sa sn sc, .slice aa an ac, .slice ba bn bc] 39)) k c0' c1' c2' c3' d0' d1' d2' d3' (.slice ra' rn' rc') (.slice sa' sn' sc') (.slice aa' an' ac') (.slice ba' bn' bc')
    rwa [World.size_alloc] at this
  have HAt : Hid (∀ W, Below W0.heap.size W0 W → BoxA 39 W w.heap.size k c0 c1 c2 c3 d0 d1 d2 d3 (.slice ra rn rc) (.slice sa sn sc) (.slice aa an ac) (.slice ba bn bc) ∧ BoxA 39 W (w.heap.size + 1) k c0' c1' c2' c3' d0' d1' d2' d3' (.slice ra' rn' rc') (.slice sa' sn' sc') (.slice aa' an' ac') (.slice ba' bn' bc')) := fun W hW => ⟨hbx.below hW (by omega), hby.below hW (by omega)⟩
  obtain ⟨z0, z1, z2, z3, z4, z5, z6, z7, z8, z9, z10, z11, z12⟩ := hbx.cells
  obtain ⟨y0, y1, y2, y3, y4, y5, y6, y7, y8, y9, y10, y11, y12⟩ := hby.cells
  have HRA : Hid (RdA lo hi W0 dp c0 c1 c2 c3 d0 d1 d2 d3 ra rn rc sa sn sc aa an ac ba bn bc x) := h.below hb0 hhi
  have HRA' : Hid (RdA lo' hi' W0 dp' c0' c1' c2' c3' d0' d1' d2' d3' ra' rn' rc' sa' sn' sc' aa' an' ac' ba' bn' bc' x) := h'.below hb0 hhi'
  have hh0 : hi ≤ W0.heap.size := Nat.le_trans hhi hb0.size
  have hh0' : hi' ≤ W0.heap.size := Nat.le_trans hhi' hb0.size
  have hkk : (k != k) = false := by simp
  clear h h' hb0 hW0 hbx hby hs0
  go_enter Tryz.func112, Tryz.ntmps112
  go_upto_region 1 with fail
  rw [← HW0.out]
  go_wp2_with fail
  refine (eqC_any dp _ _ x.c dp' W0 lo hi lo' hi' HRA.out.c HRA'.out.c hh0 hh0').mono ?_
  rintro e w1 ⟨rfl, hb1⟩
  have H1 : Hid (Below W0.heap.size W0 w1) := hb1
  clear z0 z1 z2 z3 z4 z5 z6 z7 z8 z9 z10 z11 z12 y0 y1 y2 y3 y4 y5 y6 y7 y8 y9 y10 y11 y12 hb1
  obtain ⟨z0, z1, z2, z3, z4, z5, z6, z7, z8, z9, z10, z11, z12⟩ := (HAt.out _ H1.out).1.cells
  obtain ⟨y0, y1, y2, y3, y4, y5, y6, y7, y8, y9, y10, y11, y12⟩ := (HAt.out _ H1.out).2.cells
  go_wp2_with fail
  refine (eqC_any dp _ _ x.d dp' w1 lo hi lo' hi' (HRA.out.below H1.out hh0).d (HRA'.out.below H1.out hh0').d (Nat.le_trans hh0 H1.out.size) (Nat.le_trans hh0' H1.out.size)).mono ?_
  rintro e w2 ⟨rfl, hb2⟩
  have H2 : Hid (Below W0.heap.size W0 w2) := H1.out.trans (hb2.mono H1.out.size)
  clear z0 z1 z2 z3 z4 z5 z6 z7 z8 z9 z10 z11 z12 y0 y1 y2 y3 y4 y5 y6 y7 y8 y9 y10 y11 y12 hb2
  obtain ⟨z0, z1, z2, z3, z4, z5, z6, z7, z8, z9, z10, z11, z12⟩ := (HAt.out _ H2.out).1.cells
  obtain ⟨y0, y1, y2, y3, y4, y5, y6, y7, y8, y9, y10, y11, y12⟩ := (HAt.out _ H2.out).2.cells
  go_wp2_with fail
  refine (eqByteS_any _ _ _ _ _ _ x.r x.r _ (HRA.out.below H2.out hh0).r (HRA'.out.below H2.out hh0').r).mono ?_
  rintro e w3 ⟨rfl, nd0, hw0⟩
  rw [show decide (x.r = x.r) = true from by simp]
  have H3 : Hid (Below W0.heap.size W0 w3) := by unfold Hid; rw [hw0]; exact below_drewN H2.out nd0
  clear z0 z1 z2 z3 z4 z5 z6 z7 z8 z9 z10 z11 z12 y0 y1 y2 y3 y4 y5 y6 y7 y8 y9 y10 y11 y12 hw0
  obtain ⟨z0, z1, z2, z3, z4, z5, z6, z7, z8, z9, z10, z11, z12⟩ := (HAt.out _ H3.out).1.cells
  obtain ⟨y0, y1, y2, y3, y4, y5, y6, y7, y8, y9, y10, y11, y12⟩ := (HAt.out _ H3.out).2.cells
  go_wp2_with fail
  refine (eqByteS_any _ _ _ _ _ _ x.s x.s _ (HRA.out.below H3.out hh0).s (HRA'.out.below H3.out hh0').s).mono ?_
  rintro e w4 ⟨rfl, nd1, hw1⟩
  rw [show decide (x.s = x.s) = true from by simp]
  have H4 : Hid (Below W0.heap.size W0 w4) := by unfold Hid; rw [hw1]; exact below_drewN H3.out nd1
  clear z0 z1 z2 z3 z4 z5 z6 z7 z8 z9 z10 z11 z12 y0 y1 y2 y3 y4 y5 y6 y7 y8 y9 y10 y11 y12 hw1
  obtain ⟨z0, z1, z2, z3, z4, z5, z6, z7, z8, z9, z10, z11, z12⟩ := (HAt.out _ H4.out).1.cells
  obtain ⟨y0, y1, y2, y3, y4, y5, y6, y7, y8, y9, y10, y11, y12⟩ := (HAt.out _ H4.out).2.cells
  go_wp2_with fail
  refine (eqByteS_any _ _ _ _ _ _ x.a x.a _ (HRA.out.below H4.out hh0).a (HRA'.out.below H4.out hh0').a).mono ?_
  rintro e w5 ⟨rfl, nd2, hw2⟩
  rw [show decide (x.a = x.a) = true from by simp]
  have H5 : Hid (Below W0.heap.size W0 w5) := by unfold Hid; rw [hw2]; exact below_drewN H4.out nd2
  clear z0 z1 z2 z3 z4 z5 z6 z7 z8 z9 z10 z11 z12 y0 y1 y2 y3 y4 y5 y6 y7 y8 y9 y10 y11 y12 hw2
  obtain ⟨z0, z1, z2, z3, z4, z5, z6, z7, z8, z9, z10, z11, z12⟩ := (HAt.out _ H5.out).1.cells
  obtain ⟨y0, y1, y2, y3, y4, y5, y6, y7, y8, y9, y10, y11, y12⟩ := (HAt.out _ H5.out).2.cells
  go_wp2_with fail
  refine (eqByteS_any _ _ _ _ _ _ x.b x.b _ (HRA.out.below H5.out hh0).b (HRA'.out.below H5.out hh0').b).mono ?_
  rintro e w6 ⟨rfl, nd3, hw3⟩
  rw [show decide (x.b = x.b) = true from by simp]
  have H6 : Hid (Below W0.heap.size W0 w6) := by unfold Hid; rw [hw3]; exact below_drewN H5.out nd3
  clear z0 z1 z2 z3 z4 z5 z6 z7 z8 z9 z10 z11 z12 y0 y1 y2 y3 y4 y5 y6 y7 y8 y9 y10 y11 y12 hw3
  obtain ⟨z0, z1, z2, z3, z4, z5, z6, z7, z8, z9, z10, z11, z12⟩ := (HAt.out _ H6.out).1.cells
  obtain ⟨y0, y1, y2, y3, y4, y5, y6, y7, y8, y9, y10, y11, y12⟩ := (HAt.out _ H6.out).2.cells
  go_wp2_with fail
  go_ret
  exact ⟨rfl, HB0.out.trans (H6.out.mono HB0.out.size)⟩
end

end Go.Proofs.YtckhjoancfbkfaaGreat
