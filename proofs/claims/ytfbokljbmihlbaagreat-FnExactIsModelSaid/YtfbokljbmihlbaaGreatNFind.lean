/- Several texts in one: WdFind0, WdRel0. -/
import Derived.Test.YtfbokljbmihlbaaGreatWdImpl3
import Derived.Test.YtfbokljbmihlbaaGreatWdSpec
import Derived.Deep.RegionWith
namespace Go.Proofs.YtfbokljbmihlbaaGreat

section
open Go.RowKit

def keyL (zs : List Int) : List UInt8 := (strOfNums zs).toList
def hit (l : List (List Int)) (wd : List Int) (i : Nat) : Bool := keyL (l.getD i []) == keyL wd
def idxO (l : List (List Int)) (wd : List Int) : Option Nat := (List.range l.length).find? (hit l wd)
def idxZ (l : List (List Int)) (wd : List Int) : Int := match idxO l wd with | some i => (i : Int) | none => -1
def flagO (l : List (List Int)) (s : List (List Bool)) (wd : List Int) (q : Nat) : Bool := match idxO l wd with | some i => (s.getD i []).getD q false | none => false
theorem idx_some {l : List (List Int)} {wd : List Int} {i : Nat} (hi : i < l.length) (he : hit l wd i = true) (hm : ∀ j, j < i → hit l wd j = false) : idxO l wd = some i := by
  unfold idxO
  rw [List.find?_range_eq_some]
  exact ⟨he, by simpa using hi, fun j hj => by simp [hm j hj]⟩

theorem idx_none {l : List (List Int)} {wd : List Int} (h : ∀ i, i < l.length → hit l wd i = false) : idxO l wd = none := by
  unfold idxO
  rw [List.find?_range_eq_none]
  exact fun i hi => by simp [h i hi]

theorem idx_of {l : List (List Int)} {wd : List Int} {i : Nat} (h : idxO l wd = some i) : i < l.length := by
  unfold idxO at h
  rw [List.find?_range_eq_some] at h
  simpa using h.2.1

set_option maxRecDepth 100000 in
set_option maxHeartbeats 8000000 in
theorem l4find_any (a : Option Addr) (n cap : Nat) (xs : List (List Int)) (wa : Option Addr) (wn wc : Nat) (wd : List Int) (w : World) {lo hi lo' hi' : Nat} (h : RSS lo hi w a n cap xs) (h' : Rd lo' hi' w wa wn wc wd) :
    Calls Tryz.prog 54 #[.slice a n cap, .slice wa wn wc] w fun e w' => e = .returned (.int .i64 (idxZ xs wd)) ∧ ∃ nd, w' = w.drewN nd := by
  have HR : Hid (RSS lo hi w a n cap xs) := h
  have HW : Hid (Rd lo' hi' w wa wn wc wd) := h'
  have HL : Hid (xs.length = n) := h.len
  have hf := h.fits
  clear h h'
  go_enter Tryz.func54, Tryz.ntmps54
  go_wp2_with fail
  go_loopw [5] (fun i wr => ∃ k : Nat, k ≤ n ∧ i = .int .i64 k ∧ (∀ j, j < k → hit xs wd j = false) ∧ ∃ nd, wr = w.drewN nd) (fun i _ => n - (intOf i).toNat)
  case atStart => exact ⟨0, Nat.zero_le _, rfl, fun j hj => by omega, 0, rfl⟩
  case round =>
    obtain ⟨k, hk, rfl, hall, nd, hwr⟩ := hrel
    have HD : Hid (wr = w.drewN nd) := hwr
    have HR1 : Hid (RSS lo hi wr a n cap xs) := by unfold Hid; rw [hwr]; exact HR.out.same (fun _ _ _ => rfl)
    have HW1 : Hid (Rd lo' hi' wr wa wn wc wd) := by unfold Hid; rw [hwr]; exact HW.out.same (fun _ _ _ => rfl)
    have HAll : Hid (∀ j, j < k → hit xs wd j = false) := hall
    clear hall hwr
    by_cases hlt : k < n
    · rcases HR1.out.cells with hz | ⟨b, off, e1, _, _, hc⟩
      · omega
      · subst e1
        obtain ⟨v, c0, ea, en, ec, rfl, hr⟩ := hc k hlt
        have HE : Hid (Rd lo hi wr ea en ec (xs.getD k [])) := hr
        have hki : (k : Int) < (n : Int) := by omega
        have hcv0 : ∀ m, (convert 27 9 (.slice ea en ec)).run Tryz.prog (wr.drewN m) = .ok (.string (strOfNums (xs.getD k []))) (wr.drewN m) := fun m => conv_any (HE.out.same (fun _ _ _ => rfl))
        have hcv1 : ∀ m, (convert 27 9 (.slice wa wn wc)).run Tryz.prog (wr.drewN m) = .ok (.string (strOfNums wd)) (wr.drewN m) := fun m => conv_any (HW1.out.same (fun _ _ _ => rfl))
        obtain ⟨eq, heq⟩ : ∃ eq, eq = hit xs wd k := ⟨_, rfl⟩
        have HEq : Hid (eq = hit xs wd k) := heq
        obtain ⟨sx, hsx⟩ : ∃ s, s = strOfNums (xs.getD k []) := ⟨_, rfl⟩
        obtain ⟨sy, hsy⟩ : ∃ s, s = strOfNums wd := ⟨_, rfl⟩
        have hbl : (sx.toList == sy.toList) = eq := by rw [hsx, hsy, heq]; rfl
        rw [← hsx] at hcv0
        rw [← hsy] at hcv1
        clear hc hr heq hsx hsy
        cases eq with
        | true =>
          have HG : Hid (idxZ xs wd = (k : Int)) := by unfold Hid idxZ; rw [idx_some (by rw [HL.out]; exact hlt) HEq.out.symm HAll.out]
          go_wp2_with fail
          go_quiet (fail)
          go_wp2_with fail
          go_ret
          exact ⟨ri HG.out.symm, nd + nq, by rw [HD.out]; first | rfl | exact drew_add _ _ _⟩
        | false =>
          have HS : Hid (∀ j, j < k + 1 → hit xs wd j = false) := fun j hj => by
            by_cases hjk : j = k
            · subst hjk; exact HEq.out.symm
            · exact HAll.out j (by omega)
          go_wp2_with fail
          go_quiet (fail)
          go_wp2_with fail
          go_roundw
          case rel => exact ⟨k + 1, by omega, by go_num, HS.out, nd + nq, by rw [HD.out]; first | rfl | exact drew_add _ _ _⟩
          case measure => simp [intOf]; omega
    · have HG : Hid (idxZ xs wd = -1) := by unfold Hid idxZ; rw [idx_none (fun i hi => HAll.out i (by rw [HL.out] at hi; omega))]
      go_wp2_with fail
      go_ret
      exact ⟨ri HG.out.symm, nd, HD.out⟩

theorem flag_cell {lo hi : Nat} {w : World} {a : Option Addr} {n cap : Nat} {s : List (List Bool)} (h : RFF lo hi w a n cap s) {i q : Nat} (hi' : i < n) (hq : q < (s.getD i []).length) :
    ∃ b off, a = some ⟨b, off, none⟩ ∧ ∃ b2 o2 m c, w.cell? ⟨b, off + i, none⟩ = some (.slice (some ⟨b2, o2, none⟩) m c) ∧ q < m ∧ w.cell? ⟨b2, o2 + q, none⟩ = some (.bool ((s.getD i []).getD q false)) := by
  rcases h.cells with hz | ⟨b, off, e, _, _, hc⟩
  · omega
  · obtain ⟨v, c0, ea, en, ec, rfl, hr⟩ := hc i hi'
    have hl := hr.len
    rcases hr.cells with hz | ⟨b2, o2, e2, _, _, hc2⟩
    · omega
    · obtain ⟨v2, c2, rfl⟩ := hc2 q (by omega)
      subst e2
      exact ⟨b, off, e, b2, o2, en, ec, c0, by omega, c2⟩

theorem flags_long {s : List (List Bool)} {m : Int} (h : flagsB s m = true) {i : Nat} (hi : i < s.length) : ((s.getD i []).length : Int) = m := by
  unfold flagsB at h
  rw [List.all_eq_true] at h
  simpa using h i (by simpa using hi)

set_option maxRecDepth 100000 in
set_option maxHeartbeats 8000000 in
theorem l4in_any {na : Option Addr} {nn nc : Nat} {sa : Option Addr} {sn sc : Nat} {ra : Option Addr} {rn rc : Nat} {la : Option Addr} {ln lc : Nat} {ia : Option Addr} {im ic : Nat} {ta : Option Addr} {tn tc : Nat} {x : WD} {wa : Option Addr} {wn wc : Nat} {wd : List Int} {w : World} {lo hi lo' hi' q : Nat} {nx : Int} (h : RdW lo hi w na nn nc sa sn sc ra rn rc la ln lc ia im ic ta tn tc x) (h' : Rd lo' hi' w wa wn wc wd) (hn : x.n = nx) (hhi : hi ≤ w.heap.size) (hhi' : hi' ≤ w.heap.size)
    (hok : worldB x = true) (hq : (q : Int) < nx) :
    Calls Tryz.prog 86 #[.agg #[.int .i64 nx, .slice na nn nc, .slice sa sn sc, .slice ra rn rc, .slice la ln lc, .slice ia im ic, .slice ta tn tc], .slice wa wn wc, .int .i64 q] w fun e w' => e = .returned (.bool (flagO x.names x.sets wd q)) ∧ Below w.heap.size w w' := by
  obtain ⟨W0, hW0⟩ : ∃ W0, W0 = w.alloc (.cells #[.int .i64 nx, .slice na nn nc, .slice sa sn sc, .slice ra rn rc, .slice la ln lc, .slice ia im ic, .slice ta tn tc] 36) := ⟨_, rfl⟩
  have HW0 : Hid (W0 = w.alloc (.cells #[.int .i64 nx, .slice na nn nc, .slice sa sn sc, .slice ra rn rc, .slice la ln lc, .slice ia im ic, .slice ta tn tc] 36)) := hW0
  have hb0 : Below w.heap.size w W0 := by rw [hW0]; exact (Below.refl _ _).alloc (Nat.le_refl _) _
  have HB0 : Hid (Below w.heap.size w W0) := hb0
  have hbx : BoxW 36 W0 w.heap.size nx (.slice na nn nc) (.slice sa sn sc) (.slice ra rn rc) (.slice la ln lc) (.slice ia im ic) (.slice ta tn tc) := by rw [hW0]; exact BoxW.new _ w _ _ _ _ _ _ _
  have HBx : Hid (BoxW 36 W0 w.heap.size nx (.slice na nn nc) (.slice sa sn sc) (.slice ra rn rc) (.slice la ln lc) (.slice ia im ic) (.slice ta tn tc)) := hbx
  have HR : Hid (RdW lo hi W0 na nn nc sa sn sc ra rn rc la ln lc ia im ic ta tn tc x) := h.below hb0 hhi
  have HW : Hid (Rd lo' hi' W0 wa wn wc wd) := h'.below hb0 hhi'
  have HI : Hid _ := (worldB_iff x).1 hok
  have HN : Hid (x.n = nx) := hn
  have HQ : Hid ((q : Int) < nx) := hq
  obtain ⟨z0, z1, z2, z3, z4, z5, z6⟩ := hbx.cells
  clear h h' hb0 hW0 hbx hn hok hq
  cases hO : idxO x.names wd with
  | none =>
    have HZ : Hid (idxZ x.names wd = -1) := by unfold Hid idxZ; rw [hO]
    have HG : Hid (flagO x.names x.sets wd q = false) := by unfold Hid flagO; rw [hO]
    clear hO
    go_enter Tryz.func86, Tryz.ntmps86
    go_upto_region 1 with fail
    rw [← HW0.out]
    go_wp2_with (go_at_call 54; refine (l4find_any na nn nc x.names wa wn wc wd W0 HR.out.names HW.out).mono ?_; rintro e w1 ⟨rfl, nd, hw1⟩; rw [HZ.out]; have HW1 : Hid (w1 = W0.drewN nd) := hw1; clear hw1 z0 z1 z2 z3 z4 z5 z6; obtain ⟨z0, z1, z2, z3, z4, z5, z6⟩ := (show BoxW 36 w1 w.heap.size nx (.slice na nn nc) (.slice sa sn sc) (.slice ra rn rc) (.slice la ln lc) (.slice ia im ic) (.slice ta tn tc) by rw [HW1.out]; exact HBx.out).cells)
    go_ret
    exact ⟨rb HG.out.symm, by rw [HW1.out]; exact below_drewN HB0.out _⟩
  | some i =>
    have hil : i < nn := by have := idx_of hO; rwa [HR.out.names.len] at this
    have his : i < sn := by
      have h1 := HI.out.1.2.2.2.2.1
      rw [HR.out.names.len, HR.out.sets.len] at h1
      omega
    have hql : q < (x.sets.getD i []).length := by
      have h1 := flags_long HI.out.2.2.1 (i := i) (by rw [HR.out.sets.len]; exact his)
      have h2 := HQ.out
      rw [HN.out] at h1
      omega
    obtain ⟨b, off, e1, b2, o2, m, c, k1, hqm, k2⟩ := flag_cell HR.out.sets his hql
    subst e1
    obtain ⟨fl, hfl⟩ : ∃ fl, fl = (x.sets.getD i []).getD q false := ⟨_, rfl⟩
    rw [← hfl] at k2
    have HZ : Hid (idxZ x.names wd = (i : Int)) := by unfold Hid idxZ; rw [hO]
    have HG : Hid (flagO x.names x.sets wd q = fl) := by unfold Hid flagO; rw [hO, hfl]
    have HK : Hid (W0.cell? ⟨b, off + i, none⟩ = some (.slice (some ⟨b2, o2, none⟩) m c) ∧ W0.cell? ⟨b2, o2 + q, none⟩ = some (.bool fl)) := ⟨k1, k2⟩
    have hi1 : (i : Int) < (sn : Int) := by omega
    have hq1 : (q : Int) < (m : Int) := by omega
    clear hO hfl hql k1 k2
    go_enter Tryz.func86, Tryz.ntmps86
    go_upto_region 1 with fail
    rw [← HW0.out]
    go_wp2_with (go_at_call 54; refine (l4find_any na nn nc x.names wa wn wc wd W0 HR.out.names HW.out).mono ?_; rintro e w1 ⟨rfl, nd, hw1⟩; rw [HZ.out]; have HW1 : Hid (w1 = W0.drewN nd) := hw1; clear hw1 z0 z1 z2 z3 z4 z5 z6; obtain ⟨z0, z1, z2, z3, z4, z5, z6⟩ := (show BoxW 36 w1 w.heap.size nx (.slice na nn nc) (.slice (some ⟨b, off, none⟩) sn sc) (.slice ra rn rc) (.slice la ln lc) (.slice ia im ic) (.slice ta tn tc) by rw [HW1.out]; exact HBx.out).cells; obtain ⟨k1, k2⟩ := (show w1.cell? ⟨b, off + i, none⟩ = some (.slice (some ⟨b2, o2, none⟩) m c) ∧ w1.cell? ⟨b2, o2 + q, none⟩ = some (.bool fl) by rw [HW1.out]; exact HK.out))
    go_ret
    exact ⟨rb HG.out.symm, by rw [HW1.out]; exact below_drewN HB0.out _⟩
end

section
open Go.RowKit

def relO (x : WD) (wd : List Int) (p q L : Nat) : Bool := flagO x.roles x.rels wd (p * L + q)
theorem cell_lt {p q L : Nat} (hp : p < L) (hq : q < L) : p * L + q < L * L := by
  have h1 : (p + 1) * L ≤ L * L := Nat.mul_le_mul_right L hp
  have h2 : (p + 1) * L = p * L + L := by rw [Nat.add_mul, Nat.one_mul]
  omega

set_option maxRecDepth 100000 in
set_option maxHeartbeats 8000000 in
theorem l4rel_any {na : Option Addr} {nn nc : Nat} {sa : Option Addr} {sn sc : Nat} {ra : Option Addr} {rn rc : Nat} {la : Option Addr} {ln lc : Nat} {ia : Option Addr} {im ic : Nat} {ta : Option Addr} {tn tc : Nat} {x : WD} {wa : Option Addr} {wn wc : Nat} {wd : List Int} {w : World} {lo hi lo' hi' : Nat} {p q L : Nat} (h : RdW lo hi w na nn nc sa sn sc ra rn rc la ln lc ia im ic ta tn tc x) (h' : Rd lo' hi' w wa wn wc wd) (hn : x.n = (L : Int)) (hhi : hi ≤ w.heap.size) (hhi' : hi' ≤ w.heap.size)
    (hok : worldB x = true) (hp : p < L) (hq : q < L) :
    Calls Tryz.prog 56 #[.agg #[.int .i64 L, .slice na nn nc, .slice sa sn sc, .slice ra rn rc, .slice la ln lc, .slice ia im ic, .slice ta tn tc], .slice wa wn wc, .int .i64 p, .int .i64 q] w fun e w' => e = .returned (.bool (relO x wd p q L)) ∧ Below w.heap.size w w' := by
  obtain ⟨W0, hW0⟩ : ∃ W0, W0 = w.alloc (.cells #[.int .i64 L, .slice na nn nc, .slice sa sn sc, .slice ra rn rc, .slice la ln lc, .slice ia im ic, .slice ta tn tc] 36) := ⟨_, rfl⟩
  have HW0 : Hid (W0 = w.alloc (.cells #[.int .i64 L, .slice na nn nc, .slice sa sn sc, .slice ra rn rc, .slice la ln lc, .slice ia im ic, .slice ta tn tc] 36)) := hW0
  have hb0 : Below w.heap.size w W0 := by rw [hW0]; exact (Below.refl _ _).alloc (Nat.le_refl _) _
  have HB0 : Hid (Below w.heap.size w W0) := hb0
  have hbx : BoxW 36 W0 w.heap.size (L : Int) (.slice na nn nc) (.slice sa sn sc) (.slice ra rn rc) (.slice la ln lc) (.slice ia im ic) (.slice ta tn tc) := by rw [hW0]; exact BoxW.new _ w _ _ _ _ _ _ _
  have HBx : Hid (BoxW 36 W0 w.heap.size (L : Int) (.slice na nn nc) (.slice sa sn sc) (.slice ra rn rc) (.slice la ln lc) (.slice ia im ic) (.slice ta tn tc)) := hbx
  have HR : Hid (RdW lo hi W0 na nn nc sa sn sc ra rn rc la ln lc ia im ic ta tn tc x) := h.below hb0 hhi
  have HW : Hid (Rd lo' hi' W0 wa wn wc wd) := h'.below hb0 hhi'
  have HI : Hid _ := (worldB_iff x).1 hok
  have hL : L ≤ 128 := by have := HI.out.1.1.2; rw [hn] at this; omega
  have hsq : p * L + q < L * L := cell_lt hp hq
  have hll : L * L ≤ 16384 := Nat.le_trans (Nat.mul_le_mul hL hL) (by decide)
  have HLn : Hid (∀ i, i < ln → (x.rels.getD i []).length = L * L) := fun i hi => by
    have h1 := flags_long HI.out.2.2.2.1 (i := i) (by rw [h.rels.len]; exact hi)
    rw [hn] at h1
    have : ((L : Int) * (L : Int)) = ((L * L : Nat) : Int) := by simp
    omega
  have HRl : Hid (ln = rn) := by
    have h1 := HI.out.1.2.2.2.2.2.1
    rw [h.rels.len, h.roles.len] at h1
    exact h1
  obtain ⟨z0, z1, z2, z3, z4, z5, z6⟩ := hbx.cells
  clear h h' hb0 hW0 hbx hn hok
  obtain ⟨pp, hpp⟩ : ∃ pp : Nat, pp = p * L := ⟨_, rfl⟩
  have hmul : (p : Int) * (L : Int) = (pp : Int) := by rw [hpp]; simp
  rw [← hpp] at hsq
  have hpl : pp ≤ 16384 := by omega
  have HPP : Hid (relO x wd p q L = flagO x.roles x.rels wd (pp + q)) := by unfold Hid relO; rw [hpp]
  obtain ⟨sq, hsqe⟩ : ∃ sq, sq = L * L := ⟨_, rfl⟩
  rw [← hsqe] at hsq hll
  have HLn' : Hid (∀ i, i < ln → (x.rels.getD i []).length = sq) := by rw [hsqe]; exact HLn.out
  clear hpp hsqe HLn
  cases hO : idxO x.roles wd with
  | none =>
    have HZ : Hid (idxZ x.roles wd = -1) := by unfold Hid idxZ; rw [hO]
    have HG : Hid (relO x wd p q L = false) := by unfold Hid; rw [HPP.out]; unfold flagO; rw [hO]
    clear hO
    go_enter Tryz.func56, Tryz.ntmps56
    go_upto_region 1 with fail
    rw [← HW0.out]
    go_wp2_with (go_at_call 54; refine (l4find_any ra rn rc x.roles wa wn wc wd W0 HR.out.roles HW.out).mono ?_; rintro e w1 ⟨rfl, nd, hw1⟩; rw [HZ.out]; have HW1 : Hid (w1 = W0.drewN nd) := hw1; clear hw1 z0 z1 z2 z3 z4 z5 z6; obtain ⟨z0, z1, z2, z3, z4, z5, z6⟩ := (show BoxW 36 w1 w.heap.size (L : Int) (.slice na nn nc) (.slice sa sn sc) (.slice ra rn rc) (.slice la ln lc) (.slice ia im ic) (.slice ta tn tc) by rw [HW1.out]; exact HBx.out).cells)
    first | go_region | fail
    all_goals
      go_wp2_with fail
      go_ret
      exact ⟨rb HG.out.symm, by rw [HW1.out]; exact (below_drewN HB0.out _).drew⟩
  | some i =>
    have hir : i < rn := by have := idx_of hO; rwa [HR.out.roles.len] at this
    have hil : i < ln := by rw [HRl.out]; exact hir
    have hql : pp + q < (x.rels.getD i []).length := by rw [HLn'.out i hil]; exact hsq
    obtain ⟨b, off, e1, b2, o2, m, c, k1, hqm, k2⟩ := flag_cell HR.out.rels hil hql
    subst e1
    obtain ⟨fl, hfl⟩ : ∃ fl, fl = (x.rels.getD i []).getD (pp + q) false := ⟨_, rfl⟩
    rw [← hfl] at k2
    have HZ : Hid (idxZ x.roles wd = (i : Int)) := by unfold Hid idxZ; rw [hO]
    have HG : Hid (relO x wd p q L = fl) := by unfold Hid; rw [HPP.out]; unfold flagO; rw [hO, hfl]
    have HK : Hid (W0.cell? ⟨b, off + i, none⟩ = some (.slice (some ⟨b2, o2, none⟩) m c) ∧ W0.cell? ⟨b2, o2 + (pp + q), none⟩ = some (.bool fl)) := ⟨k1, k2⟩
    have hi1 : (i : Int) < (ln : Int) := by omega
    have hq1 : (pp : Int) + (q : Int) < (m : Int) := by omega
    clear hO hfl hql k1 k2
    go_enter Tryz.func56, Tryz.ntmps56
    go_upto_region 1 with fail
    rw [← HW0.out]
    go_wp2_with (go_at_call 54; refine (l4find_any ra rn rc x.roles wa wn wc wd W0 HR.out.roles HW.out).mono ?_; rintro e w1 ⟨rfl, nd, hw1⟩; rw [HZ.out]; have HW1 : Hid (w1 = W0.drewN nd) := hw1; clear hw1 z0 z1 z2 z3 z4 z5 z6; obtain ⟨z0, z1, z2, z3, z4, z5, z6⟩ := (show BoxW 36 w1 w.heap.size (L : Int) (.slice na nn nc) (.slice sa sn sc) (.slice ra rn rc) (.slice (some ⟨b, off, none⟩) ln lc) (.slice ia im ic) (.slice ta tn tc) by rw [HW1.out]; exact HBx.out).cells; obtain ⟨k1, k2⟩ := (show w1.cell? ⟨b, off + i, none⟩ = some (.slice (some ⟨b2, o2, none⟩) m c) ∧ w1.cell? ⟨b2, o2 + (pp + q), none⟩ = some (.bool fl) by rw [HW1.out]; exact HK.out))
    first | go_region | fail
    all_goals
      go_wp2_with fail
      go_ret
      exact ⟨rb HG.out.symm, by rw [HW1.out]; exact (below_drewN HB0.out _).drew⟩
end

end Go.Proofs.YtfbokljbmihlbaaGreat
