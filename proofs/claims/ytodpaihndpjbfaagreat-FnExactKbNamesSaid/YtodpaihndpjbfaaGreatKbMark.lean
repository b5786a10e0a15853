/- What is told is marked by the laws: only numbers are turned, only in its own blocks. -/
import Derived.Test.YtodpaihndpjbfaaGreatKbVocM
import Derived.Test.YtodpaihndpjbfaaGreatLawBox
import Derived.RangeFuncBox
namespace Go.Proofs.YtodpaihndpjbfaaGreat
open Go.RowKit

set_option maxRecDepth 100000 in
set_option maxHeartbeats 8000000 in
theorem markAxs_any {a : Option Addr} {n cap : Nat} {xs : List AX} {dp : Nat} {w : World} {lo hi : Nat} (h : RdK lo hi w dp a n cap xs) (hhi : hi ≤ w.heap.size) (hF : Free lo hi w) (hbk : bulkK xs ≤ 1048576) :
    Calls Tryz.prog 76 #[.slice a n cap, .int .i64 1] w fun e w' => ∃ q : Int, e = .returned (.int .i64 q) ∧ 0 ≤ q ∧ MarkRel lo hi w w' := by
  have HK : Hid (RdK lo hi w dp a n cap xs) := h
  have HL : Hid (xs.length = n) := h.len
  have hf := h.fits
  have HBk : Hid (bulkK xs ≤ 1048576) := hbk
  have hn1 : n ≤ 1048576 := by have := length_le_bulkK xs; have := h.len; omega
  have HFr : Hid (∀ W, MarkRel lo hi w W → Free lo hi W) := fun W hW => hF.mark hW hhi
  have HSz : Hid (∀ W, MarkRel lo hi w W → hi ≤ W.heap.size) := fun W hW => Nat.le_trans hhi hW.size
  clear h hF hbk
  go_enter Tryz.func76, Tryz.ntmps76
  go_wp2_with fail
  go_loopw [1, 5] (fun k i wr => ∃ (j : Nat) (q : Int), j ≤ n ∧ i = .int .i64 j ∧ k = .int .i64 q ∧ 1 ≤ q ∧ q ≤ 1 + 3 * (j : Nat) + (bulkK (xs.take j) : Nat) ∧ MarkRel lo hi w wr) (fun _ i _ => n - (intOf i).toNat)
  case atStart => exact ⟨0, 1, Nat.zero_le _, rfl, rfl, by omega, by simp [bulkK], MarkRel.refl _ _ _⟩
  case round =>
    obtain ⟨j, q, hj, rfl, rfl, hq1, hq2, hmr⟩ := hrel
    have HM0 : Hid (MarkRel lo hi w wr) := hmr
    have hq3 : q ≤ 4194305 := by have := bulkK_take_le xs j; have := HBk.out; omega
    have HQ : Hid (q ≤ 1 + 3 * (j : Nat) + (bulkK (xs.take j) : Nat)) := hq2
    clear hq2
    by_cases hlt : j < n
    · rcases HK.out.cells with hz | ⟨b, off, e1, hblo, hbhi, hc⟩
      · omega
      · subst e1
        obtain ⟨c0, c1, c2, c3, d0, d1, d2, d3, ra, rn, rc, sa, sn, sc, aa, an, ac, ba, bn, bc, q0, q1, q2, q3, q4, q5, q6, q7, q8, q9, q10, q11, q12, hrd⟩ := hc j hlt
        have HT : Hid (bulkK (xs.take (j + 1)) = bulkK (xs.take j) + 1 + (xs.getD j AX.zero).bulk) := bulkK_take xs j (by rw [HL.out]; exact hlt)
        have HXb : Hid ((xs.getD j AX.zero).bulk ≤ 1048576) := by have := bulkK_getD xs j (by rw [HL.out]; exact hlt); have := HBk.out; unfold Hid; omega
        obtain ⟨x, hx⟩ : ∃ x, x = xs.getD j AX.zero := ⟨_, rfl⟩
        rw [← hx] at hrd HT HXb q0
        have hcd := hrd.c
        have hdd := hrd.d
        cases dp with
        | zero => exact hcd.elim
        | succ d =>
          obtain ⟨n1a, n1n, n1c, r1a, r1n, r1c, k1a, k1n, k1c, hv, hn1', hr1', hk1'⟩ := hcd
          simp only [Value.agg.injEq, Array.mk.injEq, List.cons.injEq, and_true] at hv
          obtain ⟨rfl, rfl, rfl, rfl⟩ := hv
          obtain ⟨n2a, n2n, n2c, r2a, r2n, r2c, k2a, k2n, k2c, hv, hn2', hr2', hk2'⟩ := hdd
          simp only [Value.agg.injEq, Array.mk.injEq, List.cons.injEq, and_true] at hv
          obtain ⟨rfl, rfl, rfl, rfl⟩ := hv
          have hbt : x.c.name.length + x.c.role.length + bulks x.c.kids + (x.d.name.length + x.d.role.length + bulks x.d.kids) + x.r.length + x.s.length + x.a.length + x.b.length = x.bulk := by have := x.c.bulk_eq; have := x.d.bulk_eq; unfold AX.bulk; omega
          have L1 := hn1'.len
          have L2 := hr1'.len
          have L4 := hn2'.len
          have L5 := hr2'.len
          have L7 := hrd.r.len
          have L8 := hrd.s.len
          have L9 := hrd.a.len
          have L10 := hrd.b.len
          obtain ⟨u1, hu1⟩ : ∃ u : Nat, u = bulks x.c.kids := ⟨_, rfl⟩
          obtain ⟨u2, hu2⟩ : ∃ u : Nat, u = bulks x.d.kids := ⟨_, rfl⟩
          have HU1 : Hid (u1 = bulks x.c.kids) := hu1
          have HU2 : Hid (u2 = bulks x.d.kids) := hu2
          obtain ⟨tb, htb⟩ : ∃ t : Nat, t = x.bulk := ⟨_, rfl⟩
          rw [← htb] at HT HXb hbt
          have hxb : tb ≤ 1048576 := HXb.out
          have hsum : n1n + r1n + u1 + (n2n + r2n + u2) + rn + sn + an + bn = tb := by rw [← L1, ← L2, ← L4, ← L5, ← L7, ← L8, ← L9, ← L10, hu1, hu2]; exact hbt
          have Hn1 : Hid (∀ W, MarkRel lo hi w W → ShB lo hi W n1a n1n n1c) := fun W hW => hn1'.sh.mark hW
          have Hr1 : Hid (∀ W, MarkRel lo hi w W → ShB lo hi W r1a r1n r1c) := fun W hW => hr1'.sh.mark hW
          have Hn2 : Hid (∀ W, MarkRel lo hi w W → ShB lo hi W n2a n2n n2c) := fun W hW => hn2'.sh.mark hW
          have Hr2 : Hid (∀ W, MarkRel lo hi w W → ShB lo hi W r2a r2n r2c) := fun W hW => hr2'.sh.mark hW
          have Hr : Hid (∀ W, MarkRel lo hi w W → ShB lo hi W ra rn rc) := fun W hW => hrd.r.sh.mark hW
          have Hs : Hid (∀ W, MarkRel lo hi w W → ShB lo hi W sa sn sc) := fun W hW => hrd.s.sh.mark hW
          have Ha : Hid (∀ W, MarkRel lo hi w W → ShB lo hi W aa an ac) := fun W hW => hrd.a.sh.mark hW
          have Hb : Hid (∀ W, MarkRel lo hi w W → ShB lo hi W ba bn bc) := fun W hW => hrd.b.sh.mark hW
          have Hk1 : Hid (∀ W, MarkRel lo hi w W → RdL (ShC lo hi W d) lo hi W k1a k1n k1c x.c.kids) := fun W hW => (hk1'.imp (fun _ _ h => h.sh) (Same.refl _ _ _) (Nat.le_refl _) (Nat.le_refl _)).mark hW
          have Hk2 : Hid (∀ W, MarkRel lo hi w W → RdL (ShC lo hi W d) lo hi W k2a k2n k2c x.d.kids) := fun W hW => (hk2'.imp (fun _ _ h => h.sh) (Same.refl _ _ _) (Nat.le_refl _) (Nat.le_refl _)).mark hW
          have HAt : Hid (∀ W, MarkRel lo hi w W → (∃ z, W.cell? ⟨b, off + j * 13, none⟩ = some (.int .i64 z)) ∧ (∃ z, W.cell? ⟨b, off + j * 13 + 1, none⟩ = some (.int .i64 z)) ∧ W.cell? ⟨b, off + j * 13 + 2, none⟩ = some (.slice n1a n1n n1c) ∧ W.cell? ⟨b, off + j * 13 + 3, none⟩ = some (.slice r1a r1n r1c) ∧ W.cell? ⟨b, off + j * 13 + 4, none⟩ = some (.slice k1a k1n k1c) ∧ (∃ z, W.cell? ⟨b, off + j * 13 + 5, none⟩ = some (.int .i64 z)) ∧ W.cell? ⟨b, off + j * 13 + 6, none⟩ = some (.slice n2a n2n n2c) ∧ W.cell? ⟨b, off + j * 13 + 7, none⟩ = some (.slice r2a r2n r2c) ∧ W.cell? ⟨b, off + j * 13 + 8, none⟩ = some (.slice k2a k2n k2c) ∧ W.cell? ⟨b, off + j * 13 + 9, none⟩ = some (.slice ra rn rc) ∧ W.cell? ⟨b, off + j * 13 + 10, none⟩ = some (.slice sa sn sc) ∧ W.cell? ⟨b, off + j * 13 + 11, none⟩ = some (.slice aa an ac) ∧ W.cell? ⟨b, off + j * 13 + 12, none⟩ = some (.slice ba bn bc) ∧ (∀ o, W.frozen? ⟨b, o, none⟩ = false)) := by
            intro W hW
            have t : ∀ (p : Addr) (v : Value), w.cell? p = some v → (∀ kd m, v ≠ .int kd m) → W.cell? p = some v := fun p v h1 h2 => hW.keep h1 h2
            exact ⟨hW.int q0, hW.int q1, t _ _ q2 (by simp), t _ _ q3 (by simp), t _ _ q4 (by simp), hW.int q5, t _ _ q6 (by simp), t _ _ q7 (by simp), t _ _ q8 (by simp), t _ _ q9 (by simp), t _ _ q10 (by simp), t _ _ q11 (by simp), t _ _ q12 (by simp), fun o => HFr.out W hW b hblo hbhi o⟩
          have HSet : Hid (∀ W m z k, MarkRel lo hi w W → W.cell? ⟨b, m, none⟩ = some (.int .i64 z) → MarkRel lo hi w (W.setCell ⟨b, m, none⟩ (.int .i64 k))) := fun W m z k hW hc => hW.trans (MarkRel.set hc hblo hbhi k)
          have hji : (j : Int) < (n : Int) := by omega
          obtain ⟨⟨z0, e0⟩, ⟨z1, e1⟩, e2, e3, e4, ⟨z5, e5⟩, e6, e7, e8, e9, e10, e11, e12, ef⟩ := HAt.out _ HM0.out
          have HM1 : Hid (MarkRel lo hi w ((wr.setCell ⟨b, off + j * 13, none⟩ (.int .i64 q)).setCell ⟨b, off + j * 13 + 1, none⟩ (.int .i64 (q + 1)))) := HSet.out _ _ z1 _ (HSet.out _ _ z0 _ HM0.out e0) (by rw [World.cell?_setCell_other _ _ _ _ (by simp)]; exact e1)
          obtain ⟨W1, hW1⟩ : ∃ W1, W1 = (wr.setCell ⟨b, off + j * 13, none⟩ (.int .i64 q)).setCell ⟨b, off + j * 13 + 1, none⟩ (.int .i64 (q + 1)) := ⟨_, rfl⟩
          have HW1 : Hid (W1 = (wr.setCell ⟨b, off + j * 13, none⟩ (.int .i64 q)).setCell ⟨b, off + j * 13 + 1, none⟩ (.int .i64 (q + 1))) := hW1
          rw [← hW1] at HM1
          clear hrd hc hmr hx hn1' hr1' hk1' hn2' hr2' hk2' q0 q1 q2 q3 q4 q5 q6 q7 q8 q9 q10 q11 q12 L1 L2 L4 L5 L7 L8 L9 L10 hu1 hu2 hbt htb hW1
          go_wp2_with fail
          rw [← HW1.out]
          refine (markB_any n1a n1n n1c (q + 1 + 1) W1 (Hn1.out _ HM1.out) (HFr.out _ HM1.out) (by omega) (by omega)).mono ?_
          rintro e W2 ⟨rfl, hm⟩
          have HM2 : Hid (MarkRel lo hi w W2) := HM1.out.trans hm
          clear hm e0 e1 e2 e3 e4 e5 e6 e7 e8 e9 e10 e11 e12 ef
          obtain ⟨⟨z0, e0⟩, ⟨z1, e1⟩, e2, e3, e4, ⟨z5, e5⟩, e6, e7, e8, e9, e10, e11, e12, ef⟩ := HAt.out _ HM2.out
          go_wp2_with fail
          refine (markB_any r1a r1n r1c (q + 1 + 1 + n1n) W2 (Hr1.out _ HM2.out) (HFr.out _ HM2.out) (by omega) (by omega)).mono ?_
          rintro e W3 ⟨rfl, hm⟩
          have HM3 : Hid (MarkRel lo hi w W3) := HM2.out.trans hm
          clear hm e0 e1 e2 e3 e4 e5 e6 e7 e8 e9 e10 e11 e12 ef
          obtain ⟨⟨z0, e0⟩, ⟨z1, e1⟩, e2, e3, e4, ⟨z5, e5⟩, e6, e7, e8, e9, e10, e11, e12, ef⟩ := HAt.out _ HM3.out
          go_wp2_with fail
          refine (mkL_any d k1a k1n k1c x.c.kids (q + 1 + 1 + n1n + r1n) W3 lo hi (Hk1.out _ HM3.out) (HSz.out _ HM3.out) (HFr.out _ HM3.out) (by rw [← HU1.out]; omega) (by omega) (by rw [← HU1.out]; omega)).mono ?_
          rintro e W4 ⟨rfl, hm⟩
          rw [← HU1.out]
          have HM4 : Hid (MarkRel lo hi w W4) := HM3.out.trans hm
          clear hm e0 e1 e2 e3 e4 e5 e6 e7 e8 e9 e10 e11 e12 ef
          obtain ⟨⟨z0, e0⟩, ⟨z1, e1⟩, e2, e3, e4, ⟨z5, e5⟩, e6, e7, e8, e9, e10, e11, e12, ef⟩ := HAt.out _ HM4.out
          have HM5 : Hid (MarkRel lo hi w (W4.setCell ⟨b, off + j * 13 + 5, none⟩ (.int .i64 (q + 1 + 1 + n1n + r1n + u1)))) := HSet.out _ _ z5 _ HM4.out e5
          obtain ⟨W5, hW5⟩ : ∃ W5, W5 = W4.setCell ⟨b, off + j * 13 + 5, none⟩ (.int .i64 (q + 1 + 1 + n1n + r1n + u1)) := ⟨_, rfl⟩
          have HW5 : Hid (W5 = W4.setCell ⟨b, off + j * 13 + 5, none⟩ (.int .i64 (q + 1 + 1 + n1n + r1n + u1))) := hW5
          rw [← hW5] at HM5
          clear hW5
          go_wp2_with fail
          rw [← HW5.out]
          refine (markB_any n2a n2n n2c (q + 1 + 1 + n1n + r1n + u1 + 1) W5 (Hn2.out _ HM5.out) (HFr.out _ HM5.out) (by omega) (by omega)).mono ?_
          rintro e W6 ⟨rfl, hm⟩
          have HM6 : Hid (MarkRel lo hi w W6) := HM5.out.trans hm
          clear hm e0 e1 e2 e3 e4 e5 e6 e7 e8 e9 e10 e11 e12 ef
          obtain ⟨⟨z0, e0⟩, ⟨z1, e1⟩, e2, e3, e4, ⟨z5, e5⟩, e6, e7, e8, e9, e10, e11, e12, ef⟩ := HAt.out _ HM6.out
          go_wp2_with fail
          refine (markB_any r2a r2n r2c (q + 1 + 1 + n1n + r1n + u1 + 1 + n2n) W6 (Hr2.out _ HM6.out) (HFr.out _ HM6.out) (by omega) (by omega)).mono ?_
          rintro e W7 ⟨rfl, hm⟩
          have HM7 : Hid (MarkRel lo hi w W7) := HM6.out.trans hm
          clear hm e0 e1 e2 e3 e4 e5 e6 e7 e8 e9 e10 e11 e12 ef
          obtain ⟨⟨z0, e0⟩, ⟨z1, e1⟩, e2, e3, e4, ⟨z5, e5⟩, e6, e7, e8, e9, e10, e11, e12, ef⟩ := HAt.out _ HM7.out
          go_wp2_with fail
          refine (mkL_any d k2a k2n k2c x.d.kids (q + 1 + 1 + n1n + r1n + u1 + 1 + n2n + r2n) W7 lo hi (Hk2.out _ HM7.out) (HSz.out _ HM7.out) (HFr.out _ HM7.out) (by rw [← HU2.out]; omega) (by omega) (by rw [← HU2.out]; omega)).mono ?_
          rintro e W8 ⟨rfl, hm⟩
          rw [← HU2.out]
          have HM8 : Hid (MarkRel lo hi w W8) := HM7.out.trans hm
          clear hm e0 e1 e2 e3 e4 e5 e6 e7 e8 e9 e10 e11 e12 ef
          obtain ⟨⟨z0, e0⟩, ⟨z1, e1⟩, e2, e3, e4, ⟨z5, e5⟩, e6, e7, e8, e9, e10, e11, e12, ef⟩ := HAt.out _ HM8.out
          go_wp2_with fail
          refine (markB_any ra rn rc (q + 1 + 1 + n1n + r1n + u1 + 1 + n2n + r2n + u2) W8 (Hr.out _ HM8.out) (HFr.out _ HM8.out) (by omega) (by omega)).mono ?_
          rintro e W9 ⟨rfl, hm⟩
          have HM9 : Hid (MarkRel lo hi w W9) := HM8.out.trans hm
          clear hm e0 e1 e2 e3 e4 e5 e6 e7 e8 e9 e10 e11 e12 ef
          obtain ⟨⟨z0, e0⟩, ⟨z1, e1⟩, e2, e3, e4, ⟨z5, e5⟩, e6, e7, e8, e9, e10, e11, e12, ef⟩ := HAt.out _ HM9.out
          go_wp2_with fail
          refine (markB_any sa sn sc (q + 1 + 1 + n1n + r1n + u1 + 1 + n2n + r2n + u2 + rn) W9 (Hs.out _ HM9.out) (HFr.out _ HM9.out) (by omega) (by omega)).mono ?_
          rintro e W10 ⟨rfl, hm⟩
          have HM10 : Hid (MarkRel lo hi w W10) := HM9.out.trans hm
          clear hm e0 e1 e2 e3 e4 e5 e6 e7 e8 e9 e10 e11 e12 ef
          obtain ⟨⟨z0, e0⟩, ⟨z1, e1⟩, e2, e3, e4, ⟨z5, e5⟩, e6, e7, e8, e9, e10, e11, e12, ef⟩ := HAt.out _ HM10.out
          go_wp2_with fail
          refine (markB_any aa an ac (q + 1 + 1 + n1n + r1n + u1 + 1 + n2n + r2n + u2 + rn + sn) W10 (Ha.out _ HM10.out) (HFr.out _ HM10.out) (by omega) (by omega)).mono ?_
          rintro e W11 ⟨rfl, hm⟩
          have HM11 : Hid (MarkRel lo hi w W11) := HM10.out.trans hm
          clear hm e0 e1 e2 e3 e4 e5 e6 e7 e8 e9 e10 e11 e12 ef
          obtain ⟨⟨z0, e0⟩, ⟨z1, e1⟩, e2, e3, e4, ⟨z5, e5⟩, e6, e7, e8, e9, e10, e11, e12, ef⟩ := HAt.out _ HM11.out
          go_wp2_with fail
          refine (markB_any ba bn bc (q + 1 + 1 + n1n + r1n + u1 + 1 + n2n + r2n + u2 + rn + sn + an) W11 (Hb.out _ HM11.out) (HFr.out _ HM11.out) (by omega) (by omega)).mono ?_
          rintro e W12 ⟨rfl, hm⟩
          have HM12 : Hid (MarkRel lo hi w W12) := HM11.out.trans hm
          clear hm e0 e1 e2 e3 e4 e5 e6 e7 e8 e9 e10 e11 e12 ef
          obtain ⟨⟨z0, e0⟩, ⟨z1, e1⟩, e2, e3, e4, ⟨z5, e5⟩, e6, e7, e8, e9, e10, e11, e12, ef⟩ := HAt.out _ HM12.out
          have HQ' : Hid (q + 1 + 1 + n1n + r1n + u1 + 1 + n2n + r2n + u2 + rn + sn + an + bn ≤ 1 + 3 * ((j + 1 : Nat) : Int) + (bulkK (xs.take (j + 1)) : Nat)) := by have := HT.out; have := HQ.out; unfold Hid; omega
          go_wp2_with fail
          go_roundw
          case rel => exact ⟨j + 1, _, by omega, by go_num, rfl, by omega, HQ'.out, HM12.out⟩
          case measure => simp [intOf]; omega
    · clear hmr
      go_wp2_with fail
      go_ret
      exact ⟨q, rfl, by omega, HM0.out⟩

set_option maxRecDepth 100000 in
set_option maxHeartbeats 1000000 in
theorem markKb_any {a : Option Addr} {n cap : Nat} {xs : List AX} {dp : Nat} {w : World} {lo hi : Nat} (h : RdK lo hi w dp a n cap xs) (hhi : hi ≤ w.heap.size) (hF : Free lo hi w) (hbk : bulkK xs ≤ 1048576) :
    Calls Tryz.prog 24 #[.agg #[.slice a n cap], .int .i64 1] w fun e w' => ∃ q : Int, e = .returned (.int .i64 q) ∧ 0 ≤ q ∧ MarkRel lo hi w w' := by
  obtain ⟨W0, hW0⟩ : ∃ W0, W0 = w.alloc (.cells #[.slice a n cap] 30) := ⟨_, rfl⟩
  have HW0 : Hid (W0 = w.alloc (.cells #[.slice a n cap] 30)) := hW0
  have hb0 : Below w.heap.size w W0 := by rw [hW0]; exact (Below.refl _ _).alloc (Nat.le_refl _) _
  have HB0 : Hid (Below w.heap.size w W0) := hb0
  have HK : Hid (RdK lo hi W0 dp a n cap xs) := h.below hb0 hhi
  have HF : Hid (Free lo hi W0) := hF.same (Same.of_below hb0 hhi)
  clear h hb0 hW0 hF
  go_enter Tryz.func24, Tryz.ntmps24
  go_wp2_with fail
  rw [← HW0.out]
  refine (markAxs_any HK.out (Nat.le_trans hhi HB0.out.size) HF.out hbk).mono ?_
  rintro e w1 ⟨q, rfl, hq, hm⟩
  have HM : Hid (MarkRel lo hi w w1) := (MarkRel.of_below HB0.out).trans hm
  clear hm
  go_wp2_with fail
  go_ret
  exact ⟨q, rfl, hq, HM.out⟩

end Go.Proofs.YtodpaihndpjbfaaGreat
