/- A clause is marked by the laws: only numbers are turned, only in its own row. -/
import Derived.Test.YtlhfecfpkelkdaaDoorNCl
import Derived.Deep.DeepCutAuto
namespace Go.Proofs.YtlhfecfpkelkdaaDoor
open Go.RowKit
set_option linter.unusedVariables false

structure MarkR (lo hi : Nat) (w w' : World) : Prop where
  os : w'.os = w.os
  tape : w'.tape = w.tape
  output : w'.output = w.output
  size : w.heap.size ≤ w'.heap.size
  out : ∀ b, b < w.heap.size → (b < lo ∨ hi ≤ b) → w'.heap[b]? = w.heap[b]?
  int : ∀ (p : Addr) (kd : IntKind) (m : Int), w.cell? p = some (.int kd m) → ∃ m', w'.cell? p = some (.int kd m')
  frz : ∀ p : Addr, p.block < w.heap.size → w'.frozen? p = w.frozen? p

theorem MarkR.refl (lo hi : Nat) (w : World) : MarkR lo hi w w := ⟨rfl, rfl, rfl, Nat.le_refl _, fun _ _ _ => rfl, fun _ _ m h => ⟨m, h⟩, fun _ _ => rfl⟩
theorem MarkR.trans {lo hi : Nat} {a b c : World} (h : MarkR lo hi a b) (k : MarkR lo hi b c) : MarkR lo hi a c := by
  refine ⟨k.os.trans h.os, k.tape.trans h.tape, k.output.trans h.output, Nat.le_trans h.size k.size, fun x h1 h2 => (k.out x (Nat.lt_of_lt_of_le h1 h.size) h2).trans (h.out x h1 h2), fun p kd m hp => ?_, fun p hp => (k.frz p (Nat.lt_of_lt_of_le hp h.size)).trans (h.frz p hp)⟩
  obtain ⟨m1, h1⟩ := h.int p kd m hp
  exact k.int p kd m1 h1
theorem MarkR.set {lo hi : Nat} {w : World} {a : Addr} {kd : IntKind} {m : Int} (h : w.cell? a = some (.int kd m)) (h1 : lo ≤ a.block) (h2 : a.block < hi) (m' : Int) : MarkR lo hi w (w.setCell a (.int kd m')) := by
  have hb := (Below.refl a.block w).setCell (p := a) (Nat.le_refl _) (.int kd m')
  refine ⟨hb.os, hb.tape, hb.output, hb.size, fun b _ hb' => Below.heap_setCell w a _ b (by omega), fun p kd' q hp => ?_, fun p _ => by simp⟩
  by_cases e : a = p
  · subst e
    rw [h] at hp
    cases hp
    exact ⟨m', World.cell?_setCell_same _ _ _ h⟩
  · exact ⟨q, by rw [World.cell?_setCell_other _ _ _ _ e]; exact hp⟩
theorem MarkR.of_below {lo hi : Nat} {w w' : World} (h : Below w.heap.size w w') : MarkR lo hi w w' := ⟨h.os, h.tape, h.output, h.size, fun b hb _ => h.block b hb, fun p kd m hp => ⟨m, (h.cell (block_lt_of_cell hp)).trans hp⟩, fun p hp => World.frozen?_of_block (h.block _ hp)⟩

set_option maxRecDepth 100000 in
set_option maxHeartbeats 1000000 in
theorem markPartS_any {a : Option Addr} {n cap : Nat} {xs : List (Int × Int)} (k : Int) {w : World} {lo hi : Nat} (h : RP lo hi w a n cap xs) (hF : ∀ b off, a = some ⟨b, off, none⟩ → ∀ o, w.frozen? ⟨b, o, none⟩ = false) (hhi : hi ≤ w.heap.size) (hn : n ≤ 1048576) (hk : 0 ≤ k ∧ k ≤ 1073741824) :
    Calls Tryd.prog 30 #[.slice a n cap, .int .i64 k] w fun e w' => e = .returned (.int .i64 (k + ((2 * n : Nat) : Int))) ∧ MarkR lo hi w w' := by
  obtain ⟨hk0, hk1⟩ := hk
  have hfit := h.fits
  have HR : Hid (RP lo hi w a n cap xs) := h
  have HF : Hid (∀ b off, a = some ⟨b, off, none⟩ → ∀ o, w.frozen? ⟨b, o, none⟩ = false) := hF
  clear h hF
  go_enter Tryd.func30, Tryd.ntmps30
  go_wp2
  go_loopw [1, 5] (fun q i wr => ∃ j : Nat, j ≤ n ∧ i = .int .i64 j ∧ q = .int .i64 (k + ((2 * j : Nat) : Int)) ∧ MarkR lo hi w wr) (fun _ i _ => n - (intOf i).toNat)
  case atStart => exact ⟨0, Nat.zero_le _, rfl, by simp, MarkR.refl _ _ _⟩
  case round =>
    obtain ⟨j, hj, rfl, rfl, hm⟩ := hrel
    have HM : Hid (MarkR lo hi w wr) := hm
    by_cases hlt : j < n
    · have hji : (j : Int) < (n : Int) := by omega
      rcases HR.out.cells with h0 | ⟨b, off, rfl, h1, h2, hc⟩
      · omega
      · obtain ⟨d0, d1⟩ := hc j hlt
        obtain ⟨y, c0⟩ := hm.int _ _ _ d0
        obtain ⟨y', c1⟩ := hm.int _ _ _ d1
        have f0 : wr.frozen? ⟨b, off + j * 2, none⟩ = false := (hm.frz ⟨b, _, none⟩ (show b < w.heap.size by omega)).trans (HF.out b off rfl _)
        have f1 : wr.frozen? ⟨b, off + j * 2 + 1, none⟩ = false := (hm.frz ⟨b, _, none⟩ (show b < w.heap.size by omega)).trans (HF.out b off rfl _)
        obtain ⟨z, hz⟩ : ∃ z, z = k + ((2 * j : Nat) : Int) := ⟨_, rfl⟩
        have hm1 := MarkR.set (lo := lo) (hi := hi) c0 h1 h2 z
        have c1' : (wr.setCell ⟨b, off + j * 2, none⟩ (.int .i64 z)).cell? ⟨b, off + j * 2 + 1, none⟩ = some (.int .i64 y') := (World.cell?_setCell_other wr ⟨b, off + j * 2, none⟩ ⟨b, off + j * 2 + 1, none⟩ (.int .i64 z) (fun e => by simp at e)).trans c1
        have hm2 := MarkR.set (lo := lo) (hi := hi) c1' h1 h2 (z + 1)
        have HM2 : Hid (MarkR lo hi w ((wr.setCell ⟨b, off + j * 2, none⟩ (.int .i64 z)).setCell ⟨b, off + j * 2 + 1, none⟩ (.int .i64 (z + 1)))) := HM.out.trans (hm1.trans hm2)
        have hw1 : IntKind.i64.wrap (z + 1) = z + 1 := wrap64_id (by omega)
        have hw2 : IntKind.i64.wrap (z + 1 + 1) = z + 1 + 1 := wrap64_id (by omega)
        have HZ : Hid (z + 1 + 1 = k + ((2 * (j + 1) : Nat) : Int)) := by unfold Hid; omega
        rw [← hz]
        clear hm hc hm1 hm2 c1' hz d0 d1
        go_wp2_with fail
        go_roundw
        case rel => exact ⟨j + 1, by omega, by go_num, by rw [← HZ.out], HM2.out⟩
        case measure => simp [intOf]; omega
    · have hjn : j = n := by omega
      have HE : Hid (j = n) := hjn
      clear hm hjn
      go_wp2_with fail
      go_ret
      exact ⟨ri (by rw [HE.out]), HM.out⟩

set_option maxRecDepth 100000 in
set_option maxHeartbeats 1000000 in
theorem markK_any {k f r u xp xn yp yn : Int} {ia : Option Addr} {im ic : Nat} {a b : Int} {xs : List (Int × Int)} {w : World} {lo hi : Nat} (h : RP lo hi w ia im ic xs) (hF : ∀ b off, ia = some ⟨b, off, none⟩ → ∀ o, w.frozen? ⟨b, o, none⟩ = false) (hhi : hi ≤ w.heap.size) (hn : im ≤ 1048576) (hlt : ∀ b off, ia = some ⟨b, off, none⟩ → b < w.heap.size) :
    Calls Tryd.prog 13 #[.agg #[.int .i64 k, .int .i64 f, .int .i64 r, .int .i64 u, .int .i64 xp, .int .i64 xn, .int .i64 yp, .int .i64 yn, .slice ia im ic, .int .i64 a, .int .i64 b], .int .i64 1] w fun e w' => ∃ q : Int, e = .returned (.int .i64 q) ∧ 0 ≤ q ∧ MarkR lo hi w w' := by
  obtain ⟨W, hW⟩ : ∃ W, W = w.alloc (.cells #[.int .i64 k, .int .i64 f, .int .i64 r, .int .i64 u, .int .i64 xp, .int .i64 xn, .int .i64 yp, .int .i64 yn, .slice ia im ic, .int .i64 a, .int .i64 b] 32) := ⟨_, rfl⟩
  have HW : Hid (W = w.alloc (.cells #[.int .i64 k, .int .i64 f, .int .i64 r, .int .i64 u, .int .i64 xp, .int .i64 xn, .int .i64 yp, .int .i64 yn, .slice ia im ic, .int .i64 a, .int .i64 b] 32)) := hW
  have hb0 : Below w.heap.size w W := by rw [hW]; exact (Below.refl _ _).alloc (Nat.le_refl _) _
  have HB0 : Hid (Below w.heap.size w W) := hb0
  have HR : Hid (RP lo hi W ia im ic xs) := h.below hb0 hhi
  have HF : Hid (∀ b off, ia = some ⟨b, off, none⟩ → ∀ o, W.frozen? ⟨b, o, none⟩ = false) := fun b off e o => (World.frozen?_of_block (a := ⟨b, o, none⟩) (hb0.block b (hlt b off e))).trans (hF b off e o)
  have hbx : BoxK 32 W w.heap.size k f r u xp xn yp yn (.slice ia im ic) a b := by rw [hW]; exact BoxK.new _ w _ _ _ _ _ _ _ _ _ _ _
  obtain ⟨z0, z1, z2, z3, z4, z5, z6, z7, z8, z9, z10⟩ := hbx.cells
  have hs0 := hb0.size
  clear h hF hW hb0 hbx hlt
  go_enter Tryd.func13, Tryd.ntmps13
  go_wp2_with fail
  rw [← HW.out]
  refine (markPartS_any 1 HR.out HF.out (by omega) hn ⟨by omega, by omega⟩).mono ?_
  rintro e w1 ⟨rfl, hm⟩
  have HM : Hid (MarkR lo hi w w1) := (MarkR.of_below HB0.out).trans hm
  obtain ⟨q, hq⟩ : ∃ q : Int, q = 1 + ((2 * im : Nat) : Int) := ⟨_, rfl⟩
  have hq0 : 0 ≤ q := by omega
  rw [← hq]
  clear hm hq
  go_wp2_with fail
  go_ret
  exact ⟨q, rfl, hq0, HM.out⟩

end Go.Proofs.YtlhfecfpkelkdaaDoor
