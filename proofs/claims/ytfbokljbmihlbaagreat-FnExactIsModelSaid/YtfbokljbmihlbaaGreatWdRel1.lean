/- Who is related to whom, as the program has it: a contract of each function. -/
import Derived.Test.YtfbokljbmihlbaaGreatNFind
import Derived.Test.YtfbokljbmihlbaaGreatWdScene0
import Derived.Deep.RegionHeld3
namespace Go.Proofs.YtfbokljbmihlbaaGreat
open Go.RowKit

set_option maxRecDepth 100000 in
set_option maxHeartbeats 8000000 in
theorem related_any {na : Option Addr} {nn nc : Nat} {sa : Option Addr} {sn sc : Nat} {ra : Option Addr} {rn rc : Nat} {la : Option Addr} {ln lc : Nat} {ia : Option Addr} {im ic : Nat} {ta : Option Addr} {tn tc : Nat} {x : WD} {wa : Option Addr} {wn wc : Nat} {wd : List Int} {w : World} {lo hi lo' hi' : Nat} {L : Nat} (h : RdW lo hi w na nn nc sa sn sc ra rn rc la ln lc ia im ic ta tn tc x) (h' : Rd lo' hi' w wa wn wc wd) (hn : x.n = (L : Int)) (hhi : hi ≤ w.heap.size) (hhi' : hi' ≤ w.heap.size) (hok : worldB x = true) :
    Calls Tryz.prog 72 #[.agg #[.int .i64 (L : Int), .slice ia im ic, .slice ta tn tc, .int .i64 (L : Int), .slice na nn nc, .slice sa sn sc, .slice ra rn rc, .slice la ln lc, .slice ia im ic, .slice ta tn tc], .slice wa wn wc] w fun e w' => ∃ b2 o2 c, e = .returned (.slice (some ⟨b2, o2, none⟩) (L * L) c) ∧ ((L * L ≤ c ∧ c ≤ 9223372036854775807) ∧ (b2 < hi ∨ w.heap.size ≤ b2)) ∧ (∀ q, q < L * L → w'.cell? ⟨b2, o2 + q, none⟩ = some (.bool (flagO x.roles x.rels wd q))) ∧ Below w.heap.size w w' := by
  obtain ⟨W0, hW0⟩ : ∃ W0, W0 = w.alloc (.cells #[.int .i64 (L : Int), .slice ia im ic, .slice ta tn tc, .int .i64 (L : Int), .slice na nn nc, .slice sa sn sc, .slice ra rn rc, .slice la ln lc, .slice ia im ic, .slice ta tn tc] 73) := ⟨_, rfl⟩
  have HW0 : Hid (W0 = w.alloc (.cells #[.int .i64 (L : Int), .slice ia im ic, .slice ta tn tc, .int .i64 (L : Int), .slice na nn nc, .slice sa sn sc, .slice ra rn rc, .slice la ln lc, .slice ia im ic, .slice ta tn tc] 73)) := hW0
  have hb0 : Below w.heap.size w W0 := by rw [hW0]; exact (Below.refl _ _).alloc (Nat.le_refl _) _
  have HB0 : Hid (Below w.heap.size w W0) := hb0
  have HR : Hid (RdW lo hi W0 na nn nc sa sn sc ra rn rc la ln lc ia im ic ta tn tc x) := h.below hb0 hhi
  have HW : Hid (Rd lo' hi' W0 wa wn wc wd) := h'.below hb0 hhi'
  have HI : Hid _ := (worldB_iff x).1 hok
  have hL1 : 1 ≤ L ∧ L ≤ 128 := by have h1 := HI.out.1.1; rw [hn] at h1; omega
  obtain ⟨sq, hsq⟩ : ∃ sq, sq = L * L := ⟨_, rfl⟩
  have hmul : (L : Int) * (L : Int) = (sq : Int) := by rw [hsq]; simp
  have hsql : 1 ≤ sq ∧ sq ≤ 16384 := by
    rw [hsq]
    exact ⟨Nat.mul_le_mul hL1.1 hL1.1, Nat.le_trans (Nat.mul_le_mul hL1.2 hL1.2) (by decide)⟩
  rw [← hsq]
  have hln : ln = rn := by have h1 := HI.out.1.2.2.2.2.2.1; rw [h.rels.len, h.roles.len] at h1; exact h1
  subst hln
  have HLs : Hid (∀ i, i < ln → (x.rels.getD i []).length = sq) := fun i hi => by
    have h1 := flags_long HI.out.2.2.2.1 (i := i) (by rw [h.rels.len]; exact hi)
    rw [hn, hmul] at h1
    omega
  have HA : Hid (Asc x.roles) := asc_of HI.out.2.1.2.1
  have HN12 : Hid (ln ≤ 1048576) := by have h1 := HI.out.1.2.2.1; rw [h.roles.len] at h1; unfold Hid; omega
  have HSq : Hid (1 ≤ sq ∧ sq ≤ 16384) := hsql
  clear h h' hb0 hW0 hn hok hsq
  go_enter Tryz.func72, Tryz.ntmps72
  go_wp2_with fail
  rw [← HW0.out]
  refine (flagsOf_any ra ln rc x.roles la lc x.rels wa wn wc wd sq W0 HR.out.roles HR.out.rels HW.out HA.out HN12.out HLs.out HSq.out).mono ?_
  rintro e w5 ⟨b2, o2, c, rfl, hf, hc, hb5⟩
  have HC : Hid (∀ q, q < sq → w5.cell? ⟨b2, o2 + q, none⟩ = some (.bool (flagO x.roles x.rels wd q))) := hc
  have HB5 : Hid (Below w.heap.size w w5) := HB0.out.trans (hb5.mono HB0.out.size)
  clear hc hb5
  go_wp2_with fail
  go_ret
  exact ⟨b2, o2, c, rfl, ⟨hf.1, hf.2.imp id (fun h => Nat.le_trans HB0.out.size h)⟩, HC.out, HB5.out⟩

set_option maxRecDepth 100000 in
set_option maxHeartbeats 4000000 in
theorem row_any {na : Option Addr} {nn nc : Nat} {sa : Option Addr} {sn sc : Nat} {ra : Option Addr} {rn rc : Nat} {la : Option Addr} {ln lc : Nat} {ia : Option Addr} {im ic : Nat} {ta : Option Addr} {tn tc : Nat} {w : World} {L p b2 o2 c : Nat} (hL : L ≤ 128) (hp : p < L) (hc : L * L ≤ c ∧ c ≤ 9223372036854775807) :
    Calls Tryz.prog 75 #[.agg #[.int .i64 (L : Int), .slice ia im ic, .slice ta tn tc, .int .i64 (L : Int), .slice na nn nc, .slice sa sn sc, .slice ra rn rc, .slice la ln lc, .slice ia im ic, .slice ta tn tc], .slice (some ⟨b2, o2, none⟩) (L * L) c, .int .i64 p] w fun e w' => e = .returned (.slice (some ⟨b2, o2 + p * L, none⟩) L (c - p * L)) ∧ Below w.heap.size w w' := by
  obtain ⟨W0, hW0⟩ : ∃ W0, W0 = w.alloc (.cells #[.int .i64 (L : Int), .slice ia im ic, .slice ta tn tc, .int .i64 (L : Int), .slice na nn nc, .slice sa sn sc, .slice ra rn rc, .slice la ln lc, .slice ia im ic, .slice ta tn tc] 73) := ⟨_, rfl⟩
  have HW0 : Hid (W0 = w.alloc (.cells #[.int .i64 (L : Int), .slice ia im ic, .slice ta tn tc, .int .i64 (L : Int), .slice na nn nc, .slice sa sn sc, .slice ra rn rc, .slice la ln lc, .slice ia im ic, .slice ta tn tc] 73)) := hW0
  have HB0 : Hid (Below w.heap.size w W0) := by rw [hW0]; exact (Below.refl _ _).alloc (Nat.le_refl _) _
  have hbs : BoxS W0 w.heap.size (.int .i64 (L : Int)) (.slice ia im ic) (.slice ta tn tc) (.int .i64 (L : Int)) (.slice na nn nc) (.slice sa sn sc) (.slice ra rn rc) (.slice la ln lc) (.slice ia im ic) (.slice ta tn tc) := by rw [hW0]; exact BoxS.new w _ _ _ _ _ _ _ _ _ _
  obtain ⟨m0, m1, m2, m3, m4, m5, m6, m7, m8, m9⟩ := hbs.cells
  obtain ⟨sq, hsq⟩ : ∃ sq, sq = L * L := ⟨_, rfl⟩
  obtain ⟨pp, hpp⟩ : ∃ pp, pp = p * L := ⟨_, rfl⟩
  have hmul : (p : Int) * (L : Int) = (pp : Int) := by rw [hpp]; simp
  have hle : pp + L ≤ sq := by
    rw [hpp, hsq]
    have h1 : (p + 1) * L ≤ L * L := Nat.mul_le_mul_right L hp
    have h2 : (p + 1) * L = p * L + L := by rw [Nat.add_mul, Nat.one_mul]
    omega
  have hsm : sq ≤ 16384 := by rw [hsq]; exact Nat.le_trans (Nat.mul_le_mul hL hL) (by decide)
  rw [← hsq] at hc ⊢
  rw [← hpp]
  obtain ⟨hc1, hc2⟩ := hc
  clear hsq hpp hW0 hbs
  go_enter Tryz.func75, Tryz.ntmps75
  go_upto_region 1 with fail
  rw [← HW0.out]
  first | go_region | fail
  all_goals
    go_wp2_with fail
    go_ret
    exact ⟨rfl, HB0.out.drew⟩

end Go.Proofs.YtfbokljbmihlbaaGreat
