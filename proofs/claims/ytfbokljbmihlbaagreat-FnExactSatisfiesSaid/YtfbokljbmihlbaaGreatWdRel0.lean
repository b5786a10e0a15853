/- Who is related to whom, as the document has it: a contract of each function. -/
import Derived.Test.YtfbokljbmihlbaaGreatWdFind0
import Derived.Test.YtfbokljbmihlbaaGreatWdSpec
import Derived.Deep.RegionWith
namespace Go.Proofs.YtfbokljbmihlbaaGreat
open Go.RowKit

def relO (x : WD) (wd : List Int) (p q L : Nat) : Bool := flagO x.roles x.rels wd (p * L + q)
def inRelB (x : WD) (wd : List Int) (y z : Int) : Bool := worldB x && (hasB x.n y && (hasB x.n z && relO x wd y.toNat z.toNat x.n.toNat))

theorem cell_lt {p q L : Nat} (hp : p < L) (hq : q < L) : p * L + q < L * L := by
  have h1 : (p + 1) * L ≤ L * L := Nat.mul_le_mul_right L hp
  have h2 : (p + 1) * L = p * L + L := by rw [Nat.add_mul, Nat.one_mul]
  omega

set_option maxRecDepth 100000 in
set_option maxHeartbeats 8000000 in
theorem l4rel_any {na : Option Addr} {nn nc : Nat} {sa : Option Addr} {sn sc : Nat} {ra : Option Addr} {rn rc : Nat} {la : Option Addr} {ln lc : Nat} {ia : Option Addr} {im ic : Nat} {ta : Option Addr} {tn tc : Nat} {x : WD} {wa : Option Addr} {wn wc : Nat} {wd : List Int} {w : World} {lo hi lo' hi' : Nat} {p q L : Nat} (h : RdW lo hi w na nn nc sa sn sc ra rn rc la ln lc ia im ic ta tn tc x) (h' : Rd lo' hi' w wa wn wc wd) (hn : x.n = (L : Int)) (hhi : hi ≤ w.heap.size) (hhi' : hi' ≤ w.heap.size)
    (hok : worldB x = true) (hp : p < L) (hq : q < L) :
    Calls Tryz.prog 56 #[.agg #[.int .i64 L, .slice na nn nc, .slice sa sn sc, .slice ra rn rc, .slice la ln lc, .slice ia im ic, .slice ta tn tc], .slice wa wn wc, .int .i64 p, .int .i64 q] w fun e w' => e = .returned (.bool (relO x wd p q L)) ∧ Below w.heap.size w w' := by
  obtain ⟨W0, hW0⟩ : ∃ W0, W0 = w.alloc (.cells #[.int .i64 L, .slice na nn nc, .slice sa sn sc, .slice ra rn rc, .slice la ln lc, .slice ia im ic, .slice ta tn tc] 36) := ⟨_, rfl⟩
  have HW0 : Hid (W0 = w.alloc (.cells #[.int .i64 L, .slice na nn nc, .slice sa sn sc, .slice ra rn rc, .slice la ln lc, .slice ia im ic, .slice ta tn tc] 36)) := hW0
  have hb0 : Below w.heap.size w W0 := by rw [hW0]; exact (Below.refl _ _).alloc (Nat.le_refl _) _
  have HB0 : Hid (Below w.heap.size w W0) := hb0
  have hbx : BoxW 36 W0 w.heap.size (L : Int) (.slice na nn nc) (.slice sa sn sc) (.slice ra rn rc) (.slice la ln lc) (.slice ia im ic) (.slice ta tn tc) := by rw [hW0]; exact BoxW.new _ w _ _ _ _ _ _ _
  have HBx : Hid (BoxW 36 W0 w.heap.size (L : Int) (.slice na nn nc) (.slice sa sn sc) (.slice ra rn rc) (.slice la ln lc) (.slice ia im ic) (.slice ta tn tc)) := hbx
  have HR : Hid (RdW lo hi W0 na nn nc sa sn sc ra rn rc la ln lc ia im ic ta tn tc x) := h.below hb0 hhi
  have HW : Hid (Rd lo' hi' W0 wa wn wc wd) := h'.below hb0 hhi'
  have HI : Hid _ := (worldB_iff x).1 hok
  have hL : L ≤ 128 := by have := HI.out.1.1.2; rw [hn] at this; omega
  have hsq : p * L + q < L * L := cell_lt hp hq
  have hll : L * L ≤ 16384 := Nat.le_trans (Nat.mul_le_mul hL hL) (by decide)
  have HLn : Hid (∀ i, i < ln → (x.rels.getD i []).length = L * L) := fun i hi => by
    have h1 := flags_long HI.out.2.2.2.1 (i := i) (by rw [h.rels.len]; exact hi)
    rw [hn] at h1
    have : ((L : Int) * (L : Int)) = ((L * L : Nat) : Int) := by simp
    omega
  have HRl : Hid (ln = rn) := by
    have h1 := HI.out.1.2.2.2.2.2.1
    rw [h.rels.len, h.roles.len] at h1
    exact h1
  obtain ⟨z0, z1, z2, z3, z4, z5, z6⟩ := hbx.cells
  clear h h' hb0 hW0 hbx hn hok
  obtain ⟨pp, hpp⟩ : ∃ pp : Nat, pp = p * L := ⟨_, rfl⟩
  have hmul : (p : Int) * (L : Int) = (pp : Int) := by rw [hpp]; simp
  rw [← hpp] at hsq
  have hpl : pp ≤ 16384 := by omega
  have HPP : Hid (relO x wd p q L = flagO x.roles x.rels wd (pp + q)) := by unfold Hid relO; rw [hpp]
  obtain ⟨sq, hsqe⟩ : ∃ sq, sq = L * L := ⟨_, rfl⟩
  rw [← hsqe] at hsq hll
  have HLn' : Hid (∀ i, i < ln → (x.rels.getD i []).length = sq) := by rw [hsqe]; exact HLn.out
  clear hpp hsqe HLn
  cases hO : idxO x.roles wd with
  | none =>
    have HZ : Hid (idxZ x.roles wd = -1) := by unfold Hid idxZ; rw [hO]
    have HG : Hid (relO x wd p q L = false) := by unfold Hid; rw [HPP.out]; unfold flagO; rw [hO]
    clear hO
    go_enter Tryz.func56, Tryz.ntmps56
    go_upto_region 1 with fail
    rw [← HW0.out]
    go_wp2_with (go_at_call 54; refine (l4find_any ra rn rc x.roles wa wn wc wd W0 HR.out.roles HW.out).mono ?_; rintro e w1 ⟨rfl, nd, hw1⟩; rw [HZ.out]; have HW1 : Hid (w1 = W0.drewN nd) := hw1; clear hw1 z0 z1 z2 z3 z4 z5 z6; obtain ⟨z0, z1, z2, z3, z4, z5, z6⟩ := (show BoxW 36 w1 w.heap.size (L : Int) (.slice na nn nc) (.slice sa sn sc) (.slice ra rn rc) (.slice la ln lc) (.slice ia im ic) (.slice ta tn tc) by rw [HW1.out]; exact HBx.out).cells)
    first | go_region | fail
    all_goals
      go_wp2_with fail
      go_ret
      exact ⟨rb HG.out.symm, by rw [HW1.out]; exact (below_drewN HB0.out _).drew⟩
  | some i =>
    have hir : i < rn := by have := idx_of hO; rwa [HR.out.roles.len] at this
    have hil : i < ln := by rw [HRl.out]; exact hir
    have hql : pp + q < (x.rels.getD i []).length := by rw [HLn'.out i hil]; exact hsq
    obtain ⟨b, off, e1, b2, o2, m, c, k1, hqm, k2⟩ := flag_cell HR.out.rels hil hql
    subst e1
    obtain ⟨fl, hfl⟩ : ∃ fl, fl = (x.rels.getD i []).getD (pp + q) false := ⟨_, rfl⟩
    rw [← hfl] at k2
    have HZ : Hid (idxZ x.roles wd = (i : Int)) := by unfold Hid idxZ; rw [hO]
    have HG : Hid (relO x wd p q L = fl) := by unfold Hid; rw [HPP.out]; unfold flagO; rw [hO, hfl]
    have HK : Hid (W0.cell? ⟨b, off + i, none⟩ = some (.slice (some ⟨b2, o2, none⟩) m c) ∧ W0.cell? ⟨b2, o2 + (pp + q), none⟩ = some (.bool fl)) := ⟨k1, k2⟩
    have hi1 : (i : Int) < (ln : Int) := by omega
    have hq1 : (pp : Int) + (q : Int) < (m : Int) := by omega
    clear hO hfl hql k1 k2
    go_enter Tryz.func56, Tryz.ntmps56
    go_upto_region 1 with fail
    rw [← HW0.out]
    go_wp2_with (go_at_call 54; refine (l4find_any ra rn rc x.roles wa wn wc wd W0 HR.out.roles HW.out).mono ?_; rintro e w1 ⟨rfl, nd, hw1⟩; rw [HZ.out]; have HW1 : Hid (w1 = W0.drewN nd) := hw1; clear hw1 z0 z1 z2 z3 z4 z5 z6; obtain ⟨z0, z1, z2, z3, z4, z5, z6⟩ := (show BoxW 36 w1 w.heap.size (L : Int) (.slice na nn nc) (.slice sa sn sc) (.slice ra rn rc) (.slice (some ⟨b, off, none⟩) ln lc) (.slice ia im ic) (.slice ta tn tc) by rw [HW1.out]; exact HBx.out).cells; obtain ⟨k1, k2⟩ := (show w1.cell? ⟨b, off + i, none⟩ = some (.slice (some ⟨b2, o2, none⟩) m c) ∧ w1.cell? ⟨b2, o2 + (pp + q), none⟩ = some (.bool fl) by rw [HW1.out]; exact HK.out))
    first | go_region | fail
    all_goals
      go_wp2_with fail
      go_ret
      exact ⟨rb HG.out.symm, by rw [HW1.out]; exact (below_drewN HB0.out _).drew⟩

end Go.Proofs.YtfbokljbmihlbaaGreat
