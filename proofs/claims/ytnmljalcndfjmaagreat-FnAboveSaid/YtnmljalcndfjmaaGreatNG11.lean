/- Several texts in one: AxSpec2, ConClone2, DrawTok. -/
import Derived.Test.YtnmljalcndfjmaaGreatNG8
import Derived.Deep.RegionWith
import Derived.Test.YtnmljalcndfjmaaGreatNG9
import Derived.Deep.RegionHeld
import Derived.Deep.RegionLaw
import Derived.Deep.AppendLies
import Derived.Deep.DeepCutAuto
import Derived.Test.YtnmljalcndfjmaaGreatNG2
import Derived.Lib.AppendStr
import Derived.Lib.ConvBytes
namespace Go.Proofs.YtnmljalcndfjmaaGreat

section
open Go.RowKit
set_option linter.unusedVariables false

theorem byP {P : Prop} (p : Prop) [Decidable p] (h1 : p → P) (h0 : ¬ p → P) : P := if h : p then h1 h else h0 h
theorem byB {P : Prop} (b : Bool) (h0 : b = false → P) (h1 : b = true → P) : P := by cases h : b; exact h0 h; exact h1 h
theorem byN {P : Prop} (n : Nat) (h0 : n = 0 → P) (h1 : ¬ n = 0 → (0 : Int) < (n : Int) → P) : P := if h : n = 0 then h0 h else h1 h (by omega)
theorem byL {P : Prop} (n : Nat) (b : Bool) (q : n = 0 → b = false) (h0 : n = 0 → b = false → P) (h1 : (0 : Int) < (n : Int) → b = false → P) (h2 : (0 : Int) < (n : Int) → b = true → P) : P := by
  by_cases h : n = 0
  · exact h0 h (q h)
  · cases hb : b
    · exact h1 (by omega) hb
    · exact h2 (by omega) hb
theorem bySix {P : Prop} {k : Int} (a : ¬ k < 0) (b : ¬ 5 < k) (h2 : k = 0 ∨ k = 1 ∨ k = 2 → P) (h3 : k = 3 → P) (h4 : k = 4 → P) (h5 : k = 5 → P) : P := by
  by_cases h : k ≤ 2
  · exact h2 (by omega)
  · by_cases e : k = 3
    · exact h3 e
    · by_cases e : k = 4
      · exact h4 e
      · exact h5 (by omega)

set_option maxRecDepth 100000 in
set_option maxHeartbeats 40000000 in
theorem specAxiomOk_any {dp : Nat} {c0 c1 c2 c3 d0 d1 d2 d3 : Value} {ra : Option Addr} {rn rc : Nat} {sa : Option Addr} {sn sc : Nat} {aa : Option Addr} {an ac : Nat} {ba : Option Addr} {bn bc : Nat} {x : AX} {w : World} {lo hi : Nat} (h : RdA lo hi w dp c0 c1 c2 c3 d0 d1 d2 d3 ra rn rc sa sn sc aa an ac ba bn bc x) (hhi : hi ≤ w.heap.size) (k : Int) (hk : k = x.kind) : Calls Tryz.prog 52 #[.agg #[.int .i64 k, c0, c1, c2, c3, d0, d1, d2, d3, .slice ra rn rc, .slice sa sn sc, .slice aa an ac, .slice ba bn bc]] w fun e w' => e = .returned (.bool (axOk x)) ∧ Below w.heap.size w w' := by
  obtain ⟨W0, hW0⟩ : ∃ W0, W0 = w.alloc (.cells #[.int .i64 k, c0, c1, c2, c3, d0, d1, d2, d3, .slice ra rn rc, .slice sa sn sc, .slice aa an ac, .slice ba bn bc] 49) := ⟨_, rfl⟩
  have HW0 : Hid (W0 = w.alloc (.cells #[.int .i64 k, c0, c1, c2, c3, d0, d1, d2, d3, .slice ra rn rc, .slice sa sn sc, .slice aa an ac, .slice ba bn bc] 49)) := hW0
  have hb0 : Below w.heap.size w W0 := by rw [hW0]; exact (Below.refl _ _).alloc (Nat.le_refl _) _
  have HB0 : Hid (Below w.heap.size w W0) := hb0
  have hl0 : w.heap.size < W0.heap.size := by rw [hW0]; simp
  have hbx : BoxA 49 W0 w.heap.size k c0 c1 c2 c3 d0 d1 d2 d3 (.slice ra rn rc) (.slice sa sn sc) (.slice aa an ac) (.slice ba bn bc) := by rw [hW0]; exact BoxA.new _ w _ _ _ _ _ _ _ _ _ _ _ _ _
  have HAt : Hid (∀ W, Below W0.heap.size W0 W → BoxA 49 W w.heap.size k c0 c1 c2 c3 d0 d1 d2 d3 (.slice ra rn rc) (.slice sa sn sc) (.slice aa an ac) (.slice ba bn bc)) := fun W hW => hbx.below hW hl0
  obtain ⟨z0, z1, z2, z3, z4, z5, z6, z7, z8, z9, z10, z11, z12⟩ := hbx.cells
  have HR : Hid (∀ W, Below W0.heap.size W0 W → RdA lo hi W dp c0 c1 c2 c3 d0 d1 d2 d3 ra rn rc sa sn sc aa an ac ba bn bc x) := fun W hW => (h.below hb0 hhi).below hW (Nat.le_trans hhi hb0.size)
  have hh0 : hi ≤ W0.heap.size := Nat.le_trans hhi hb0.size
  have HV : Hid (Below W0.heap.size W0 W0) := Below.refl _ _
  have hlr := h.r.len
  have hls := h.s.len
  have hla := h.a.len
  have hlb := h.b.len
  have hlow : ∀ {zs : List Int} {n : Nat}, zs.length = n → n = 0 → lowOk zs = false := fun {zs} {n} hl hz => by cases e : lowOk zs; rfl; have := (longB_of_low e).1; omega
  have hqr := hlow hlr
  have hqs := hlow hls
  have hqa := hlow hla
  have hqb := hlow hlb
  have hqc : conOk x.c = false → zeroB x.c = false := fun e => by cases hz : zeroB x.c; rfl; rw [ok_of_zero hz] at e; exact e
  have hqd : conOk x.d = false → zeroB x.d = false := fun e => by cases hz : zeroB x.d; rfl; rw [ok_of_zero hz] at e; exact e
  have hkx := hk.symm
  clear hk hlow h hb0 hW0 hbx
  refine byP (k < 0) (fun h0 => ?_) (fun h0 => byP (5 < k) (fun h5 => ?_) (fun h5 => byB (conOk x.c) (fun hC => ?_) (fun hC => byB (conOk x.d) (fun hD => ?_) (fun hD => bySix h0 h5 (fun e3 => byN rn (fun hr => byN sn (fun hs => byN an (fun ha => byN bn (fun hb => ?_) (fun hb hbp => ?_)) (fun ha hap => ?_)) (fun hs hsp => ?_)) (fun hr hrp => ?_)) (fun e => byB (zeroB x.d) (fun hzd => ?_) (fun hzd => byB (zeroB x.c) (fun hzc => ?_) (fun hzc => byL rn (lowOk x.r) hqr (fun hr hLr => ?_) (fun hrp hLr => ?_) (fun hrp hLr => byL sn (lowOk x.s) hqs (fun hs hLs => ?_) (fun hsp hLs => ?_) (fun hsp hLs => byN an (fun ha => byN bn (fun hb => ?_) (fun hb hbp => ?_)) (fun ha hap => ?_)))))) (fun e => byB (zeroB x.d) (fun hzd => ?_) (fun hzd => byN rn (fun hr => byN sn (fun hs => byL an (lowOk x.a) hqa (fun ha hLa => ?_) (fun hap hLa => ?_) (fun hap hLa => byN bn (fun hb => ?_) (fun hb hbp => ?_))) (fun hs hsp => ?_)) (fun hr hrp => ?_))) (fun e => byB (zeroB x.d) (fun hzd => ?_) (fun hzd => byB (zeroB x.c) (fun hzc => ?_) (fun hzc => byL rn (lowOk x.r) hqr (fun hr hLr => ?_) (fun hrp hLr => ?_) (fun hrp hLr => byN sn (fun hs => byL an (lowOk x.a) hqa (fun ha hLa => ?_) (fun hap hLa => ?_) (fun hap hLa => byL bn (lowOk x.b) hqb (fun hb hLb => ?_) (fun hbp hLb => ?_) (fun hbp hLb => ?_))) (fun hs hsp => ?_)))))))))
  all_goals
    (try subst hr)
    (try subst hs)
    (try subst ha)
    (try subst hb)
    (try subst e)
    (first | (have HE : Hid (axOk x = true) := (by first | (unfold Hid axOk fitC fitL wantC wantD wantR wantS wantA wantB; rw [hkx]; (first | (rcases e3 with rfl | rfl | rfl <;> (simp [*]; done)) | (simp [*]; done))) | fail)) | (have HE : Hid (axOk x = false) := (by first | (unfold Hid axOk fitC fitL wantC wantD wantR wantS wantA wantB; rw [hkx]; (first | (rcases e3 with rfl | rfl | rfl <;> (simp [*]; done)) | (simp [*]; done) | (rw [decide_eq_false (by omega)]; rfl))) | fail)))
    clear hkx hlr hls hla hlb hqr hqs hqa hqb hqc hqd
    (try (have hk2 : k ≤ 2 := (by omega); have b3 : (k == 3) = false := (by simp; omega); have b4 : (k == 4) = false := (by simp; omega); have b5 : (k == 5) = false := (by simp; omega); clear e3))
    go_enter Tryz.func52, Tryz.ntmps52
    go_upto_region 1 with fail
    rw [← HW0.out]
    go_wp2_with ((first | (go_at_call_of 9 c0; refine (specConOk_any (HR.out _ HV.out).c (Nat.le_trans hh0 HV.out.size)).mono ?_) | (go_at_call_of 9 d0; refine (specConOk_any (HR.out _ HV.out).d (Nat.le_trans hh0 HV.out.size)).mono ?_) | (go_at_call_of 109 d0; refine (l3zero_any (HR.out _ HV.out).d).mono ?_) | (go_at_call_of 109 c0; refine (l3zero_any (HR.out _ HV.out).c).mono ?_) | (go_at_call_of 18 ra; refine (specLowerOk_any ra rn rc x.r _ (lo := lo) (hi := hi) (HR.out _ HV.out).r).mono ?_) | (go_at_call_of 18 sa; refine (specLowerOk_any sa sn sc x.s _ (lo := lo) (hi := hi) (HR.out _ HV.out).s).mono ?_) | (go_at_call_of 18 aa; refine (specLowerOk_any aa an ac x.a _ (lo := lo) (hi := hi) (HR.out _ HV.out).a).mono ?_) | (go_at_call_of 18 ba; refine (specLowerOk_any ba bn bc x.b _ (lo := lo) (hi := hi) (HR.out _ HV.out).b).mono ?_)); rintro e V' ⟨rfl, hb⟩; (first | rw [hC] | rw [hD] | rw [hzd] | rw [hzc] | rw [hLr] | rw [hLs] | rw [hLa] | rw [hLb]); have HV' : Hid (Below W0.heap.size W0 V') := (by first | exact HV.out.trans (hb.mono HV.out.size) | exact hb ▸ HV.out); clear hb HV z0 z1 z2 z3 z4 z5 z6 z7 z8 z9 z10 z11 z12; have HV := HV'; clear HV'; obtain ⟨z0, z1, z2, z3, z4, z5, z6, z7, z8, z9, z10, z11, z12⟩ := (HAt.out _ HV.out).cells)
    go_ret
    exact ⟨rb HE.out.symm, HB0.out.trans (HV.out.mono HB0.out.size)⟩
end

section
open Go.RowKit

theorem Tryz.infoCon4 : (Tryz.prog.info? 30).map (fun i => (i.zero, i.size, i.bytes)) = some (some (.agg #[.int .i64 0, .slice none 0 0, .slice none 0 0, .slice none 0 0]), 4, 80) := by kernel_rfl

theorem OwnB.isSlice {base : Nat} {w : World} {v : Value} {zs : List Int} (h : OwnB base w v zs) : ∃ a n c, v = .slice a n c := by
  rcases h.2 with ⟨rfl, _⟩ | ⟨g, cap, cur, rfl, _⟩
  · exact ⟨_, _, _, rfl⟩
  · exact ⟨_, _, _, rfl⟩

theorem OwnB.mono {base base' : Nat} {w : World} {v : Value} {zs : List Int} (h : OwnB base w v zs) (hb : base' ≤ base) : OwnB base' w v zs := by
  obtain ⟨h1, h2⟩ := h
  refine ⟨h1, ?_⟩
  rcases h2 with h2 | ⟨g, cap, cur, hv, hg, r⟩
  · exact .inl h2
  · exact .inr ⟨g, cap, cur, hv, by omega, r⟩

theorem BoxC.frz {W : World} {b : Nat} {v0 v1 v2 v3 : Value} (h : BoxC W b v0 v1 v2 v3) (o : Nat) : W.frozen? ⟨b, o, none⟩ = false := by
  unfold BoxC at h
  simp [World.frozen?, h]

/-- Three cells of a box. -/
theorem S3.of {W W' : World} {b : Nat} {v0 v1 v2 : Value} (hk : W'.heap[b]? = W.heap[b]?) (h : W.cell? ⟨b, 0, none⟩ = some v0 ∧ W.cell? ⟨b, 1, none⟩ = some v1 ∧ W.cell? ⟨b, 2, none⟩ = some v2) : W'.cell? ⟨b, 0, none⟩ = some v0 ∧ W'.cell? ⟨b, 1, none⟩ = some v1 ∧ W'.cell? ⟨b, 2, none⟩ = some v2 := by
  simp only [World.cell?, hk] at h ⊢
  exact h

theorem S3.alloc {W : World} {b : Nat} {v0 v1 v2 : Value} {o : Obj} (h : W.cell? ⟨b, 0, none⟩ = some v0 ∧ W.cell? ⟨b, 1, none⟩ = some v1 ∧ W.cell? ⟨b, 2, none⟩ = some v2) (hb : b < W.heap.size) : (W.alloc o).cell? ⟨b, 0, none⟩ = some v0 ∧ (W.alloc o).cell? ⟨b, 1, none⟩ = some v1 ∧ (W.alloc o).cell? ⟨b, 2, none⟩ = some v2 :=
  S3.of (Below.heap_alloc _ _ _ hb) h

theorem S3.drew {W : World} {b : Nat} {v0 v1 v2 : Value} (h : W.cell? ⟨b, 0, none⟩ = some v0 ∧ W.cell? ⟨b, 1, none⟩ = some v1 ∧ W.cell? ⟨b, 2, none⟩ = some v2) : W.drew.cell? ⟨b, 0, none⟩ = some v0 ∧ W.drew.cell? ⟨b, 1, none⟩ = some v1 ∧ W.drew.cell? ⟨b, 2, none⟩ = some v2 := S3.of rfl h

theorem S4.of {W W' : World} {b : Nat} {v0 v1 v2 v3 : Value} (hk : W'.heap[b]? = W.heap[b]?) (h : W.cell? ⟨b, 0, none⟩ = some v0 ∧ W.cell? ⟨b, 1, none⟩ = some v1 ∧ W.cell? ⟨b, 2, none⟩ = some v2 ∧ W.cell? ⟨b, 3, none⟩ = some v3) : W'.cell? ⟨b, 0, none⟩ = some v0 ∧ W'.cell? ⟨b, 1, none⟩ = some v1 ∧ W'.cell? ⟨b, 2, none⟩ = some v2 ∧ W'.cell? ⟨b, 3, none⟩ = some v3 := by
  simp only [World.cell?, hk] at h ⊢
  exact h

theorem S4.drew {W : World} {b : Nat} {v0 v1 v2 v3 : Value} (h : W.cell? ⟨b, 0, none⟩ = some v0 ∧ W.cell? ⟨b, 1, none⟩ = some v1 ∧ W.cell? ⟨b, 2, none⟩ = some v2 ∧ W.cell? ⟨b, 3, none⟩ = some v3) : W.drew.cell? ⟨b, 0, none⟩ = some v0 ∧ W.drew.cell? ⟨b, 1, none⟩ = some v1 ∧ W.drew.cell? ⟨b, 2, none⟩ = some v2 ∧ W.drew.cell? ⟨b, 3, none⟩ = some v3 := S4.of rfl h

theorem new4 (w : World) (g : Nat) (x y z u : Value) (t : Nat) (hg : g = w.heap.size) : ∀ j v, [x, y, z, u][j]? = some v → (w.alloc (.cells #[x, y, z, u] t)).cell? ((⟨g, 0, none⟩ : Addr).add j) = some v := by
  intro j v hu
  subst hg
  rw [Addr.add_lit]
  match j, hu with
  | 0, hu => simp at hu; subst hu; simp
  | 1, hu => simp at hu; subst hu; simp
  | 2, hu => simp at hu; subst hu; simp
  | 3, hu => simp at hu; subst hu; simp

theorem one4 (k : Int) (a1 : Option Addr) (n1 c1 : Nat) (a2 : Option Addr) (n2 c2 : Nat) (a3 : Option Addr) (n3 c3 : Nat) : ∀ u ∈ [Value.int .i64 k, .slice a1 n1 c1, .slice a2 n2 c2, .slice a3 n3 c3], u.oneCell' = true := by
  intro u hu
  simp at hu
  rcases hu with rfl | rfl | rfl | rfl <;> rfl

theorem heap_set4 (W : World) {b o : Nat} (x0 x1 x2 x3 : Value) (hb : b ≠ o) : ((((W.setCell ⟨o, 0, none⟩ x0).setCell ⟨o, 1, none⟩ x1).setCell ⟨o, 2, none⟩ x2).setCell ⟨o, 3, none⟩ x3).heap[b]? = W.heap[b]? := by
  rw [Below.heap_setCell _ ⟨o, 3, none⟩ _ b hb, Below.heap_setCell _ ⟨o, 2, none⟩ _ b hb, Below.heap_setCell _ ⟨o, 1, none⟩ _ b hb, Below.heap_setCell _ ⟨o, 0, none⟩ _ b hb]

theorem S3.set4 {W : World} {b o : Nat} {v0 v1 v2 x0 x1 x2 x3 : Value} (h : W.cell? ⟨b, 0, none⟩ = some v0 ∧ W.cell? ⟨b, 1, none⟩ = some v1 ∧ W.cell? ⟨b, 2, none⟩ = some v2) (hb : b < o) :
    ((((W.setCell ⟨o, 0, none⟩ x0).setCell ⟨o, 1, none⟩ x1).setCell ⟨o, 2, none⟩ x2).setCell ⟨o, 3, none⟩ x3).cell? ⟨b, 0, none⟩ = some v0 ∧ ((((W.setCell ⟨o, 0, none⟩ x0).setCell ⟨o, 1, none⟩ x1).setCell ⟨o, 2, none⟩ x2).setCell ⟨o, 3, none⟩ x3).cell? ⟨b, 1, none⟩ = some v1 ∧
      ((((W.setCell ⟨o, 0, none⟩ x0).setCell ⟨o, 1, none⟩ x1).setCell ⟨o, 2, none⟩ x2).setCell ⟨o, 3, none⟩ x3).cell? ⟨b, 2, none⟩ = some v2 :=
  S3.of (heap_set4 W x0 x1 x2 x3 (Nat.ne_of_lt hb)) h

/-- What is made ahead of the kids: the box of what is to be, its name and role. -/
structure Pre (B : Nat) (w0 W : World) (ov : Value) (k : Int) (name role : List Int) (ob B1 : Nat) (nv rv : Value) : Prop where
  ptr : ov = .pointer (some ⟨ob, 0, none⟩)
  box : BoxC W ob (.int .i64 k) nv rv (.slice none 0 0)
  ge : B ≤ ob
  bel : Below B w0 W
  nam : OwnB B W nv name
  naml : ∀ g, nv.ownBlock = some g → g < B1
  rol : OwnB B1 W rv role
  roll : ∀ g, rv.ownBlock = some g → g < W.heap.size
  b1 : B ≤ B1 ∧ B1 ≤ W.heap.size

theorem OwnB.keepB {base : Nat} {w w' : World} {v : Value} {zs : List Int} (h : OwnB base w v zs) (hk : ∀ g, v.ownBlock = some g → w'.heap[g]? = w.heap[g]?) : OwnB base w' v zs := by
  obtain ⟨h1, h2⟩ := h
  refine ⟨h1, ?_⟩
  rcases h2 with h2 | ⟨g, cap, cur, rfl, hg, hh, r⟩
  · exact .inl h2
  · exact .inr ⟨g, cap, cur, rfl, hg, by rw [hk g rfl]; exact hh, r⟩

/-- Its block is no concept's box. -/
theorem OwnB.notBox {base : Nat} {w : World} {v : Value} {zs : List Int} {o : Nat} {v0 v1 v2 v3 : Value} (h : OwnB base w v zs) (hb : BoxC w o v0 v1 v2 v3) : ∀ g, v.ownBlock = some g → g ≠ o := by
  intro g hg e
  rcases h.2 with ⟨rfl, _⟩ | ⟨g', cap, cur, rfl, _, hh, _⟩
  · simp [Value.ownBlock] at hg
  · simp only [Value.ownBlock, Option.some.injEq] at hg
    subst hg
    subst e
    unfold BoxC at hb
    rw [hb] at hh
    simp at hh

theorem OwnB.lt {base : Nat} {w : World} {v : Value} {zs : List Int} (h : OwnB base w v zs) : ∀ g, v.ownBlock = some g → base ≤ g ∧ g < w.heap.size := World.ownsRow.lt h

theorem Pre.last {W0 w1 w2 : World} {k : Int} {nv rv : Value} {name role : List Int} (h1 : OwnB W0.heap.size w1 nv name) (b1 : Below W0.heap.size W0 w1) (h2 : OwnB w1.heap.size w2 rv role) (b2 : Below w1.heap.size w1 w2) :
    Pre W0.heap.size W0 (w2.alloc (.cells #[.int .i64 k, nv, rv, .slice none 0 0] 30)) (.pointer (some ⟨w2.heap.size, 0, none⟩)) k name role w2.heap.size w1.heap.size nv rv := by
  have hs1 := b1.size
  have hs2 := b2.size
  have b3 : Below w2.heap.size w2 (w2.alloc (.cells #[.int .i64 k, nv, rv, .slice none 0 0] 30)) := (Below.refl _ _).alloc (Nat.le_refl _) _
  refine ⟨rfl, BoxC.new w2 _ _ _ _, by omega, (b1.trans (b2.mono hs1)).trans (b3.mono (by omega)), (h1.below b2 (Nat.le_refl _)).below b3 (Nat.le_refl _), fun g hg => (h1.lt g hg).2, h2.below b3 (Nat.le_refl _), fun g hg => ?_, hs1, ?_⟩
  · have := (h2.lt g hg).2
    rw [World.size_alloc]; omega
  · rw [World.size_alloc]; omega

theorem BoxC.set4 {W : World} {b : Nat} {v0 v1 v2 v3 : Value} (h : BoxC W b v0 v1 v2 v3) (x0 x1 x2 x3 : Value) : BoxC ((((W.setCell ⟨b, 0, none⟩ x0).setCell ⟨b, 1, none⟩ x1).setCell ⟨b, 2, none⟩ x2).setCell ⟨b, 3, none⟩ x3) b x0 x1 x2 x3 := by
  unfold BoxC at h ⊢
  have e0 := heap_setCell_same W b 0 _ _ x0 h
  have e1 := heap_setCell_same _ b 1 _ _ x1 e0
  have e2 := heap_setCell_same _ b 2 _ _ x2 e1
  have e3 := heap_setCell_same _ b 3 _ _ x3 e2
  rw [e3]
  rfl

theorem Pre.set {W0 w1 w2 : World} {k : Int} {nv rv : Value} {name role : List Int} {ob : Nat} {z0 z1 z2 z3 : Value} (h1 : OwnB W0.heap.size w1 nv name) (b1 : Below W0.heap.size W0 w1) (h2 : OwnB w1.heap.size w2 rv role) (b2 : Below w1.heap.size w1 w2) (hb : BoxC w2 ob z0 z1 z2 z3) (ho : W0.heap.size ≤ ob) :
    Pre W0.heap.size W0 ((((w2.setCell ⟨ob, 0, none⟩ (.int .i64 k)).setCell ⟨ob, 1, none⟩ nv).setCell ⟨ob, 2, none⟩ rv).setCell ⟨ob, 3, none⟩ (.slice none 0 0)) (.pointer (some ⟨ob, 0, none⟩)) k name role ob w1.heap.size nv rv := by
  have hs1 := b1.size
  have hs2 := b2.size
  have hn2 := h1.below b2 (Nat.le_refl _)
  have hsz : ((((w2.setCell ⟨ob, 0, none⟩ (.int .i64 k)).setCell ⟨ob, 1, none⟩ nv).setCell ⟨ob, 2, none⟩ rv).setCell ⟨ob, 3, none⟩ (.slice none 0 0)).heap.size = w2.heap.size := by simp
  refine ⟨rfl, hb.set4 _ _ _ _, ho, ((((b1.trans (b2.mono hs1)).setCell ho _).setCell ho _).setCell ho _).setCell ho _, hn2.keepB (fun g hg => heap_set4 _ _ _ _ _ (hn2.notBox hb g hg)), fun g hg => (h1.lt g hg).2, h2.keepB (fun g hg => heap_set4 _ _ _ _ _ (h2.notBox hb g hg)), fun g hg => ?_, hs1, ?_⟩
  · rw [hsz]; exact (h2.lt g hg).2
  · rw [hsz]; exact hs2

/-- What is under way: its box, its name and role, and the kids so far. -/
structure Inv (W0 : World) (BW B1 ob d : Nat) (k : Int) (nv rv : Value) (name role : List Int) (wr : World) (kv : Value) (cs : List CN) (Ls : List (List (Addr × IntKind))) (xs : List Value) : Prop where
  row : RowK BW wr d kv cs Ls xs
  sep : SepK BW wr Ls
  box : BoxC wr ob (.int .i64 k) nv rv kv
  nam : OwnB W0.heap.size wr nv name
  rol : OwnB B1 wr rv role
  bel : Below W0.heap.size W0 wr
  sz : BW ≤ wr.heap.size

/-- How its parts lie to each other. -/
structure Stat (W0 : World) (BW B1 ob : Nat) (nv rv : Value) : Prop where
  o1 : ob < BW
  o0 : W0.heap.size ≤ ob
  nl : ∀ g, nv.ownBlock = some g → g < B1
  rl : ∀ g, rv.ownBlock = some g → g < BW
  b1 : B1 ≤ BW
  b0 : W0.heap.size ≤ B1

theorem Inv.below {W0 wr w' : World} {BW B1 ob d : Nat} {k : Int} {nv rv kv : Value} {name role : List Int} {cs : List CN} {Ls : List (List (Addr × IntKind))} {xs : List Value} (h : Inv W0 BW B1 ob d k nv rv name role wr kv cs Ls xs) (hb : Below wr.heap.size wr w') :
    Inv W0 BW B1 ob d k nv rv name role w' kv cs Ls xs := by
  have hs := hb.size
  exact ⟨h.row.below hb, h.sep.below hb h.row.lt, h.box.below hb h.box.lt, h.nam.below hb (Nat.le_refl _), h.rol.below hb (Nat.le_refl _), h.bel.trans (hb.mono h.bel.size), Nat.le_trans h.sz hs⟩

/-- One kid more, appended and stored. -/
theorem Inv.app {W0 W w6 : World} {BW B1 ob d : Nat} {k : Int} {nv rv kv : Value} {name role : List Int} {cs : List CN} {Ls : List (List (Addr × IntKind))} {xs : List Value} (hS : Stat W0 BW B1 ob nv rv) (h : Inv W0 BW B1 ob d k nv rv name role W kv cs Ls xs)
    {c : CN} {L : List (Addr × IntKind)} {v0 v1 v2 v3 : Value} {B g cap n : Nat} (hc : OwnC B W d (.agg #[v0, v1, v2, v3]) c L) (hB : BW ≤ B) (hLB : ∀ x ∈ Ls.flatten, x.1.block < B) (hkB : ∀ g, kv.ownBlock = some g → g < B) (hn : n = cs.length + 1)
    (hown : w6.ownsRow BW 30 4 (.slice (some ⟨g, 0, none⟩) n cap) n (xs ++ [v0, v1, v2, v3])) (hgrow : W.grownBy w6 kv.ownBlock) (hat : kv.ownBlock = some g ∨ g = W.heap.size) :
    BoxC w6 ob (.int .i64 k) nv rv kv ∧ Inv W0 BW B1 ob d k nv rv name role (w6.setCell ⟨ob, 3, none⟩ (.slice (some ⟨g, 0, none⟩) n cap)) (.slice (some ⟨g, 0, none⟩) n cap) (cs ++ [c]) (Ls ++ [L]) (xs ++ [v0, v1, v2, v3]) := by
  subst hn
  have hkl := h.row.row.lt
  have hkne : ∀ b, b < BW → kv.ownBlock ≠ some b := fun b hb e => by have := hkl b e; omega
  have hbox6 : BoxC w6 ob (.int .i64 k) nv rv kv := (hgrow.block ob h.box.lt (fun e => hkne ob hS.o1 e.symm)).trans h.box
  have hoffL : ∀ x ∈ L, kv.ownBlock ≠ some x.1.block := fun x hx e => by have := hkB _ e; have := (hc.bl x hx).1; omega
  have hrow6 : RowK BW w6 d (.slice (some ⟨g, 0, none⟩) (cs.length + 1) cap) (cs ++ [c]) (Ls ++ [L]) (xs ++ [v0, v1, v2, v3]) :=
    h.row.snoc hc.ow (fun x hx => (hc.bl x hx).2) hoffL hown hgrow (by
      rcases hat with e | e
      · exact .inl (by rw [e]; rfl)
      · exact .inr (by rw [← e]; rfl))
  have hsep6 : SepK BW w6 (Ls ++ [L]) := h.sep.snoc hc hB hLB h.row.lt hgrow (by
      intro x hx
      simp only [List.flatten_append, List.mem_append, List.flatten_cons, List.flatten_nil, List.append_nil] at hx
      rcases hx with hx | hx
      · exact h.row.off x hx
      · exact hoffL x hx)
  have hgl := hown.lt g rfl
  have hnam6 : OwnB W0.heap.size w6 nv name := h.nam.keepB (fun g' hg' => hgrow.block g' (h.nam.lt g' hg').2 (fun e => hkne g' (Nat.lt_of_lt_of_le (hS.nl g' hg') hS.b1) e.symm))
  have hrol6 : OwnB B1 w6 rv role := h.rol.keepB (fun g' hg' => hgrow.block g' (h.rol.lt g' hg').2 (fun e => hkne g' (hS.rl g' hg') e.symm))
  have ho1 := hS.o1
  have ho0 := hS.o0
  have hbel6 : Below W0.heap.size W0 w6 := h.bel.grown hgrow h.bel.size (fun x hx => by have := hkl x hx; have := hS.b0; have := hS.b1; omega)
  refine ⟨hbox6, ⟨hrow6.set 3 _ (fun x hx => by have := hsep6.ge x hx; omega) (fun e => by simp only [Value.ownBlock, Option.some.injEq] at e; omega), hsep6.set _ _, hbox6.set3 _, hnam6.setCon hbox6 _, hrol6.setCon hbox6 _, hbel6.setCell ho0 _, ?_⟩⟩
  have := h.sz
  have := hgrow.size
  simp; omega

theorem RowK.isSlice {base : Nat} {w : World} {d : Nat} {v : Value} {cs : List CN} {Ls : List (List (Addr × IntKind))} {xs : List Value} (h : RowK base w d v cs Ls xs) : ∃ a n c, v = .slice a n c := by
  rcases h.row.2 with ⟨rfl, _⟩ | ⟨g, cap, cur, rfl, _⟩
  · exact ⟨_, _, _, rfl⟩
  · exact ⟨_, _, _, rfl⟩

theorem OwnC.same {base : Nat} {w w' : World} {d : Nat} {v : Value} {c : CN} {L : List (Addr × IntKind)} (h : OwnC base w d v c L) (hk : ∀ b, base ≤ b → b < w.heap.size → w'.heap[b]? = w.heap[b]?) (hs : w.heap.size ≤ w'.heap.size) : OwnC base w' d v c L :=
  ⟨h.ow.keep (fun x hx => hk _ (h.bl x hx).1 (h.bl x hx).2), h.nd, fun x hx => (World.frozen?_of_block (w := w) (hk _ (h.bl x hx).1 (h.bl x hx).2)).trans (h.fr x hx), fun x hx => ⟨(h.bl x hx).1, Nat.lt_of_lt_of_le (h.bl x hx).2 hs⟩⟩
end

section
open Go.RowKit

def numsOf (s : ByteArray) : List Int := s.data.toList.map (fun b => (b.toNat : Int))

theorem numsOf_len (s : ByteArray) : (numsOf s).length = s.size := by unfold numsOf; rw [List.length_map, Array.length_toList]; rfl
theorem numsOf_byte (s : ByteArray) : ∀ x ∈ numsOf s, 0 ≤ x ∧ x ≤ 255 := by
  intro x hx
  simp only [numsOf, List.mem_map] at hx
  obtain ⟨b, _, rfl⟩ := hx
  have := b.toNat_lt
  omega

theorem bytes_below (W : World) (e : TypeId) (s : ByteArray) : Below W.heap.size W (Lib.bytesWorld W e s) := ⟨rfl, rfl, rfl, by rw [Lib.bytesWorld_size]; omega, fun k hk => Lib.bytesWorld_at_old W e s k hk⟩

theorem getD_byte {zs : List Int} (h : ∀ x ∈ zs, 0 ≤ x ∧ x ≤ 255) : ∀ i, 0 ≤ zs.getD i 0 ∧ zs.getD i 0 ≤ 255 := by
  intro i
  by_cases hi : i < zs.length
  · have := h _ (List.getElem_mem hi)
    simpa [List.getD, hi] using this
  · simp [List.getD, List.getElem?_eq_none (Nat.le_of_not_lt hi)]

theorem Cur.of {w w' : World} {B : Nat} {a : Option Addr} {n cap : Nat} {zs : List Int} {hi : Nat} (c : Cur w B a n cap zs hi) (hb : Below (B + 1) w w') : Cur w' B a n cap zs hi := by
  obtain ⟨⟨i, h, hi', q⟩, c2, c3⟩ := c
  exact ⟨⟨i, h, hi', (hb.block B (Nat.lt_succ_self _)).trans q⟩, c2.below hb (by omega), c3⟩
theorem Cur.lt {w : World} {B : Nat} {a : Option Addr} {n cap : Nat} {zs : List Int} {hi : Nat} (c : Cur w B a n cap zs hi) : B < w.heap.size := by
  obtain ⟨⟨i, h, hi', q⟩, c2, c3⟩ := c
  exact q.lt

theorem Only.step {B : Nat} {w a b : World} (h : Only B w a) (hB : B < w.heap.size) (k : Below w.heap.size a b) : Only B w b :=
  ⟨h.below.trans (k.mono (Nat.le_of_lt hB)), fun x h1 h2 => (k.block x h1).trans (h.other x h1 h2)⟩
theorem OwnB.only {base B : Nat} {w w' : World} {v : Value} {xs : List Int} (h : OwnB base w v xs) (k : Only B w w') (hB : B < base) : OwnB base w' v xs :=
  h.keepB (fun g hg => k.other g (OwnB.lt h g hg).2 (by have := (OwnB.lt h g hg).1; omega))
end

end Go.Proofs.YtnmljalcndfjmaaGreat
