/- Several texts in one: SzB, ConSz, ConEq. -/
import Derived.Test.YtknainelonaigaaGreatDoorNBase
import Derived.Deep.RegionWith
namespace Go.Proofs.YtknainelonaigaaGreatDoor

section
open Go.RowKit

/-- What is left, or -1. -/
def szRes (left : Int) (n : Nat) : Int := if left < n then -1 else left - n

theorem szByteS_any (a : Option Addr) (n cap : Nat) (left : Int) (w : World) (hl : 0 ≤ left ∧ left ≤ 1048576) (hn : n ≤ 9223372036854775807) :
    Calls Tryz.prog 34 #[.slice a n cap, .int .i64 left] w fun e w' => e = .returned (.int .i64 (szRes left n)) ∧ w' = w := by
  obtain ⟨h0, h1⟩ := hl
  by_cases h : left < n
  · have HE : Hid (szRes left n = -1) := if_pos h
    go_enter Tryz.func34, Tryz.ntmps34
    go_wp2
    go_ret
    exact ⟨ri HE.out.symm, rfl⟩
  · have HE : Hid (szRes left n = left - n) := if_neg h
    go_enter Tryz.func34, Tryz.ntmps34
    go_wp2
    go_ret
    exact ⟨ri HE.out.symm, rfl⟩
end

section
open Go.RowKit

/-- The contract on one concept that is read in at most d steps. -/
def SzC (d : Nat) : Prop := ∀ (v : Value) (c : CN) (left : Int) (w : World) (lo hi : Nat), RdC lo hi w d v c → hi ≤ w.heap.size → 0 ≤ left → left ≤ 1048576 →
  Calls Tryz.prog 33 #[v, .int .i64 left] w fun e w' => e = .returned (.int .i64 (szRes left c.bulk)) ∧ Below w.heap.size w w'

def SzL (d : Nat) : Prop := ∀ (a : Option Addr) (n cap : Nat) (cs : List CN) (left : Int) (w : World) (lo hi : Nat), RdL (RdC lo hi w d) lo hi w a n cap cs → hi ≤ w.heap.size → 0 ≤ left → left ≤ 1048576 →
  Calls Tryz.prog 13 #[.slice a n cap, .int .i64 left] w fun e w' => e = .returned (.int .i64 (szRes left (bulks cs))) ∧ Below w.heap.size w w'

theorem szRes_neg {left : Int} {n : Nat} (h : szRes left n < 0) (_hl : 0 ≤ left) : left < n := by
  unfold szRes at h; split at h <;> omega
theorem szRes_pos {left : Int} {n : Nat} (h : ¬ szRes left n < 0) : (n : Int) ≤ left ∧ szRes left n = left - n := by
  unfold szRes at h ⊢; split at h
  · omega
  · rename_i h1; rw [if_neg h1]; omega
theorem szRes_of_lt {left : Int} {n : Nat} (h : left < n) : szRes left n = -1 := if_pos h
theorem szRes_of_le {left : Int} {n : Nat} (h : (n : Int) ≤ left) : szRes left n = left - n := if_neg (by omega)

set_option maxHeartbeats 400000 in
theorem szL_of {d : Nat} (H : SzC d) : SzL d := by
  intro a n cap cs left w lo hi h hhi h0 h1
  have HR : Hid (RdL (RdC lo hi w d) lo hi w a n cap cs) := h
  obtain ⟨hl, ⟨hm, hM⟩, hcs⟩ := h
  clear hcs
  have HL : Hid (cs.length = n) := hl
  have hlb := length_le_bulks cs
  rw [hl] at hlb
  clear hl
  by_cases hbig : left < n
  · have HE : Hid (szRes left (bulks cs) = -1) := szRes_of_lt (by omega)
    clear hlb
    go_enter Tryz.func13, Tryz.ntmps13
    go_wp2_with fail
    go_ret
    exact ⟨ri HE.out.symm, Below.refl _ _⟩
  · clear hlb
    go_enter Tryz.func13, Tryz.ntmps13
    go_wp2_with fail
    go_loopw [1, 5] (fun l i wr => ∃ (k : Nat) (L : Int), k ≤ n ∧ i = .int .i64 k ∧ l = .int .i64 L ∧ 0 ≤ L ∧ L + n + (bulks (cs.take k) - k : Nat) = left ∧ k ≤ bulks (cs.take k) ∧ Below w.heap.size w wr) (fun _ i _ => n - (intOf i).toNat)
    case atStart => exact ⟨0, left - n, Nat.zero_le _, rfl, by go_num, by omega, by simp [bulks], by simp, Below.refl _ _⟩
    case round =>
      obtain ⟨k, L, hk, rfl, rfl, hL0, hs, hkb, hbel⟩ := hrel
      have HB : Hid (Below w.heap.size w wr) := hbel
      have HS : Hid (L + n + (bulks (cs.take k) - k : Nat) = left ∧ k ≤ bulks (cs.take k)) := ⟨hs, hkb⟩
      have hL1 : L ≤ 1048576 := by omega
      clear hkb
      by_cases hlt : k < n
      · have hR := HR.out.same (Same.of_below hbel hhi)
        rcases hR.cells with hz | ⟨b, off, e1, _, _, hc⟩
        · omega
        · subst e1
          obtain ⟨v0, v1, v2, v3, c0, c1, c2, c3, hr⟩ := hc k hlt
          have HKid : Hid (RdC lo hi wr d (.agg #[v0, v1, v2, v3]) (cs.getD k CN.zero)) := hr
          have HT : Hid (bulks (cs.take (k + 1)) = bulks (cs.take k) + 1 + (cs.getD k CN.zero).bulk ∧ bulks (cs.take (k + 1)) ≤ bulks cs) := ⟨bulks_take_succ cs k (by rw [HL.out]; exact hlt), bulks_take_le _ _⟩
          have hki : (k : Int) < (n : Int) := by omega
          obtain ⟨r, hrr⟩ : ∃ r, r = szRes L (cs.getD k CN.zero).bulk := ⟨_, rfl⟩
          have HRR : Hid (r = szRes L (cs.getD k CN.zero).bulk) := hrr
          clear hR hc hr hbel hs hrr
          go_wp2_with fail
          refine (H (.agg #[v0, v1, v2, v3]) (cs.getD k CN.zero) L wr lo hi HKid.out (Nat.le_trans hhi HB.out.size) hL0 hL1).mono ?_
          rintro e w' ⟨rfl, hb'⟩
          have HB' : Hid (Below w.heap.size w w') := HB.out.trans (hb'.mono HB.out.size)
          rw [← HRR.out]
          clear hb'
          by_cases hneg : r < 0
          · have HE : Hid (szRes left (bulks cs) = -1) := by
              have h1 := szRes_neg (by rw [← HRR.out]; exact hneg) hL0
              have h2 := HS.out
              have h3 := HT.out
              have h4 : cs.length - (k + 1) ≤ bulks (cs.drop (k + 1)) := by have := length_le_bulks (cs.drop (k + 1)); simpa using this
              have h5 := bulks_append (cs.take (k + 1)) (cs.drop (k + 1))
              rw [List.take_append_drop] at h5
              have h6 := HL.out
              exact szRes_of_lt (by omega)
            go_wp2_with fail
            go_ret
            exact ⟨ri HE.out.symm, HB'.out⟩
          · have hrL := szRes_pos (by rw [← HRR.out]; exact hneg)
            have HRL : Hid (((cs.getD k CN.zero).bulk : Int) ≤ L ∧ r = L - (cs.getD k CN.zero).bulk) := ⟨hrL.1, by rw [HRR.out]; exact hrL.2⟩
            clear hrL
            go_wp2_with fail
            go_roundw
            case rel =>
              refine ⟨k + 1, r, by omega, by go_num, rfl, by omega, ?_, ?_, HB'.out⟩
              · have := HS.out; have := HT.out; have := HRL.out; omega
              · have := HS.out; have := HT.out; omega
            case measure => simp [intOf]; omega
      · have hkn : k = n := by omega
        subst hkn
        have HE : Hid (L = szRes left (bulks cs)) := by
          have h2 := HS.out
          have ht : cs.take k = cs := List.take_of_length_le (by rw [HL.out]; omega)
          rw [ht] at h2
          rw [Hid, szRes_of_le (by omega)]; omega
        clear hbel hs
        go_wp2_with fail
        go_ret
        exact ⟨ri HE.out, HB.out⟩

set_option maxHeartbeats 400000 in
theorem szC_of {d : Nat} (H : SzL d) : SzC (d + 1) := by
  intro v c left w lo hi h hhi h0 h1
  obtain ⟨na, nn, nc, ra, rn, rc, ka, kn, kc, rfl, hn, hr, hk⟩ := h
  have hb : Below w.heap.size w (w.alloc (Obj.cells #[Value.int IntKind.i64 c.kind, .slice na nn nc, .slice ra rn rc, .slice ka kn kc] 65)) := (Below.refl _ _).alloc (Nat.le_refl _) _
  have HB : Hid (Below w.heap.size w (w.alloc (Obj.cells #[Value.int IntKind.i64 c.kind, .slice na nn nc, .slice ra rn rc, .slice ka kn kc] 65))) := hb
  have HK : Hid (RdL (RdC lo hi (w.alloc (Obj.cells #[Value.int IntKind.i64 c.kind, .slice na nn nc, .slice ra rn rc, .slice ka kn kc] 65)) d) lo hi (w.alloc (Obj.cells #[Value.int IntKind.i64 c.kind, .slice na nn nc, .slice ra rn rc, .slice ka kn kc] 65)) ka kn kc c.kids) := hk.below hb hhi
  have hnf := hn.fits
  have hrf := hr.fits
  have HBk : Hid (c.bulk = nn + rn + bulks c.kids) := by rw [Hid, c.bulk_eq, hn.len, hr.len]
  obtain ⟨r1, hr1⟩ : ∃ r, r = szRes left nn := ⟨_, rfl⟩
  have HR1 : Hid (r1 = szRes left nn) := hr1
  clear hn hr hk hb hr1
  go_enter Tryz.func33, Tryz.ntmps33
  go_wp2_with fail
  refine (szByteS_any na nn nc left _ ⟨h0, h1⟩ (by omega)).mono ?_
  rintro e w' ⟨rfl, hw⟩
  rw [hw, ← HR1.out]
  clear hw
  by_cases n1 : r1 < 0
  · have HE : Hid (szRes left c.bulk = -1) := by
      have := szRes_neg (by rw [← HR1.out]; exact n1) h0
      have := HBk.out
      exact szRes_of_lt (by omega)
    go_wp2_with fail
    go_ret
    exact ⟨ri HE.out.symm, HB.out⟩
  · have hp1 := szRes_pos (by rw [← HR1.out]; exact n1)
    have HP1 : Hid ((nn : Int) ≤ left ∧ r1 = left - nn) := ⟨hp1.1, by rw [HR1.out]; exact hp1.2⟩
    have hr1u : r1 ≤ 1048576 := by have := HP1.out; omega
    obtain ⟨r2, hr2⟩ : ∃ r, r = szRes r1 rn := ⟨_, rfl⟩
    have HR2 : Hid (r2 = szRes r1 rn) := hr2
    clear hp1 hr2
    go_wp2_with fail
    refine (szByteS_any ra rn rc r1 _ ⟨by omega, hr1u⟩ (by omega)).mono ?_
    rintro e w' ⟨rfl, hw⟩
    rw [hw, ← HR2.out]
    clear hw
    by_cases n2 : r2 < 0
    · have HE : Hid (szRes left c.bulk = -1) := by
        have := szRes_neg (by rw [← HR2.out]; exact n2) (by omega)
        have := HBk.out
        have := HP1.out
        exact szRes_of_lt (by omega)
      go_wp2_with fail
      go_ret
      exact ⟨ri HE.out.symm, HB.out⟩
    · have hp2 := szRes_pos (by rw [← HR2.out]; exact n2)
      have HP2 : Hid ((rn : Int) ≤ r1 ∧ r2 = r1 - rn) := ⟨hp2.1, by rw [HR2.out]; exact hp2.2⟩
      have hr2u : r2 ≤ 1048576 := by have := HP2.out; omega
      obtain ⟨r3, hr3⟩ : ∃ r, r = szRes r2 (bulks c.kids) := ⟨_, rfl⟩
      have HR3 : Hid (r3 = szRes r2 (bulks c.kids)) := hr3
      clear hp2 hr3
      go_wp2_with fail
      refine (H ka kn kc c.kids r2 _ lo hi HK.out (Nat.le_trans hhi HB.out.size) (by omega) hr2u).mono ?_
      rintro e w3 ⟨rfl, hb3⟩
      have HB3 : Hid (Below w.heap.size w w3) := HB.out.trans (hb3.mono HB.out.size)
      rw [← HR3.out]
      clear hb3
      by_cases n3 : r3 < 0
      · have HE : Hid (szRes left c.bulk = -1) := by
          have := szRes_neg (by rw [← HR3.out]; exact n3) (by omega)
          have := HBk.out
          have := HP1.out
          have := HP2.out
          exact szRes_of_lt (by omega)
        go_wp2_with fail
        go_ret
        exact ⟨ri HE.out.symm, HB3.out⟩
      · have HE : Hid (r3 = szRes left c.bulk) := by
          have hp3 := szRes_pos (by rw [← HR3.out]; exact n3)
          have := HBk.out
          have := HP1.out
          have := HP2.out
          rw [Hid, szRes_of_le (by omega), HR3.out, hp3.2]; omega
        go_wp2_with fail
        go_ret
        exact ⟨ri HE.out, HB3.out⟩

theorem szC_any : ∀ d, SzC d
  | 0 => fun _ _ _ _ _ _ h => h.elim
  | d + 1 => szC_of (szL_of (szC_any d))
end

section
open Go.RowKit

def EqC (d : Nat) : Prop := ∀ (v v' : Value) (c : CN) (d' : Nat) (w : World) (lo hi lo' hi' : Nat), RdC lo hi w d v c → RdC lo' hi' w d' v' c → hi ≤ w.heap.size → hi' ≤ w.heap.size →
  Calls Tryz.prog 59 #[v, v'] w fun e w' => e = .returned (.bool true) ∧ Below w.heap.size w w'

def EqL (d : Nat) : Prop := ∀ (a a' : Option Addr) (n cap cap' : Nat) (cs : List CN) (d' : Nat) (w : World) (lo hi lo' hi' : Nat), RdL (RdC lo hi w d) lo hi w a n cap cs → RdL (RdC lo' hi' w d') lo' hi' w a' n cap' cs → hi ≤ w.heap.size → hi' ≤ w.heap.size →
  Calls Tryz.prog 27 #[.slice a n cap, .slice a' n cap'] w fun e w' => e = .returned (.bool true) ∧ Below w.heap.size w w'

set_option maxHeartbeats 800000 in
theorem eqL_of {d : Nat} (H : EqC d) : EqL d := by
  intro a a' n cap cap' cs d' w lo hi lo' hi' h h' hh hh'
  have HR : Hid (RdL (RdC lo hi w d) lo hi w a n cap cs) := h
  have HR' : Hid (RdL (RdC lo' hi' w d') lo' hi' w a' n cap' cs) := h'
  obtain ⟨hl, ⟨hm, hM⟩, hcs⟩ := h
  obtain ⟨hl', ⟨hm', hM'⟩, hcs'⟩ := h'
  have hb0 : ((n : Int) != (n : Int)) = false := by simp
  clear hcs hcs' hl hl'
  go_enter Tryz.func27, Tryz.ntmps27
  go_wp2_with fail
  go_loopw [5] (fun i wr => ∃ k : Nat, k ≤ n ∧ i = .int .i64 k ∧ Below w.heap.size w wr) (fun i _ => n - (intOf i).toNat)
  case atStart => exact ⟨0, Nat.zero_le _, rfl, Below.refl _ _⟩
  case round =>
    obtain ⟨k, hk, rfl, hbel⟩ := hrel
    have HB : Hid (Below w.heap.size w wr) := hbel
    by_cases hlt : k < n
    · have h1 := HR.out.same (Same.of_below hbel hh)
      have h2 := HR'.out.same (Same.of_below hbel hh')
      rcases h1.cells with h0 | ⟨b1, off1, e1, _, _, hc1⟩
      · omega
      · rcases h2.cells with h0 | ⟨b2, off2, e2, _, _, hc2⟩
        · omega
        · subst e1 e2
          obtain ⟨v0, v1, v2, v3, c0, c1, c2, c3, hr⟩ := hc1 k hlt
          obtain ⟨x0, x1, x2, x3, q0, q1, q2, q3, hr'⟩ := hc2 k hlt
          have HK : Hid (RdC lo hi wr.drew d (.agg #[v0, v1, v2, v3]) (cs.getD k CN.zero)) := RdC.same (w := wr) (w' := wr.drew) (fun _ _ _ => rfl) hr
          have HK' : Hid (RdC lo' hi' wr.drew d' (.agg #[x0, x1, x2, x3]) (cs.getD k CN.zero)) := RdC.same (w := wr) (w' := wr.drew) (fun _ _ _ => rfl) hr'
          have hki : (k : Int) < (n : Int) := by omega
          clear h1 h2 hc1 hc2 hr hr' hbel
          go_wp2_with fail
          go_region_with (go_at_call 59; refine (H _ _ (cs.getD k CN.zero) d' _ lo hi lo' hi' ?_ ?_ ?_ ?_).mono ?_; exact HK.out; exact HK'.out; exact Nat.le_trans hh HB.out.size; exact Nat.le_trans hh' HB.out.size; rintro e w' ⟨rfl, hbe⟩)
          all_goals
            go_wp2_with fail
            go_roundw
            case rel => exact ⟨k + 1, by omega, by go_num, HB.out.drew.trans (hbe.mono HB.out.size)⟩
            case measure => simp [intOf]; omega
    · clear hbel
      go_wp2_with fail
      go_ret
      exact ⟨rfl, HB.out⟩

set_option maxHeartbeats 800000 in
theorem eqC_of {d : Nat} (H : EqL d) : EqC (d + 1) := by
  intro v v' c d' w lo hi lo' hi' h h' hh hh'
  cases d' with
  | zero => exact h'.elim
  | succ d' =>
    obtain ⟨na, nn, nc, ra, rn, rc, ka, kn, kc, rfl, hn, hr, hk⟩ := h
    obtain ⟨na', nn', nc', ra', rn', rc', ka', kn', kc', rfl, hn', hr', hk'⟩ := h'
    obtain ⟨k, hkd⟩ : ∃ k, k = c.kind := ⟨_, rfl⟩
    rw [← hkd]
    have hkk : (k != k) = false := by simp
    have e1 : nn' = nn := by rw [← hn.len, ← hn'.len]
    have e2 : rn' = rn := by rw [← hr.len, ← hr'.len]
    have e3 : kn' = kn := by rw [← hk.len, ← hk'.len]
    subst e1 e2 e3
    have hb : Below w.heap.size w ((w.alloc (Obj.cells #[Value.int IntKind.i64 k, .slice na nn' nc, .slice ra rn' rc, .slice ka kn' kc] 47)).alloc (Obj.cells #[Value.int IntKind.i64 k, .slice na' nn' nc', .slice ra' rn' rc', .slice ka' kn' kc'] 47)) := ((Below.refl _ _).alloc (Nat.le_refl _) _).alloc (by simp) _
    obtain ⟨W, hW⟩ : ∃ W, W = ((w.alloc (Obj.cells #[Value.int IntKind.i64 k, .slice na nn' nc, .slice ra rn' rc, .slice ka kn' kc] 47)).alloc (Obj.cells #[Value.int IntKind.i64 k, .slice na' nn' nc', .slice ra' rn' rc', .slice ka' kn' kc'] 47)) := ⟨_, rfl⟩
    rw [← hW] at hb
    have HW : Hid (W = ((w.alloc (Obj.cells #[Value.int IntKind.i64 k, .slice na nn' nc, .slice ra rn' rc, .slice ka kn' kc] 47)).alloc (Obj.cells #[Value.int IntKind.i64 k, .slice na' nn' nc', .slice ra' rn' rc', .slice ka' kn' kc'] 47))) := hW
    have HN : Hid (Rd lo hi W na nn' nc c.name ∧ Rd lo' hi' W na' nn' nc' c.name) := ⟨hn.below hb hh, hn'.below hb hh'⟩
    have HRo : Hid (Rd lo hi W ra rn' rc c.role ∧ Rd lo' hi' W ra' rn' rc' c.role) := ⟨hr.below hb hh, hr'.below hb hh'⟩
    have HK : Hid (RdL (RdC lo hi W d) lo hi W ka kn' kc c.kids ∧ RdL (RdC lo' hi' W d') lo' hi' W ka' kn' kc' c.kids) := ⟨hk.below hb hh, hk'.below hb hh'⟩
    have HBW : Hid (Below w.heap.size w W) := hb
    clear hn hn' hr hr' hk hk' hb hkd hW
    go_enter Tryz.func59, Tryz.ntmps59
    go_wp2_with fail
    rw [← HW.out]
    refine (eqByteS_any na na' nn' nc nn' nc' c.name c.name W HN.out.1 HN.out.2).mono ?_
    rintro e w1 ⟨rfl, n1, hw1⟩
    rw [show decide (c.name = c.name) = true from by simp, hw1, HW.out]
    clear hw1
    go_wp2_with fail
    rw [← HW.out]
    refine (eqByteS_any ra ra' rn' rc rn' rc' c.role c.role _ (HRo.out.1.same (w' := W.drewN n1) (fun _ _ _ => rfl)) (HRo.out.2.same (w' := W.drewN n1) (fun _ _ _ => rfl))).mono ?_
    rintro e w2 ⟨rfl, n2, hw2⟩
    rw [show decide (c.role = c.role) = true from by simp, hw2, drew_add, HW.out]
    clear hw2
    go_wp2_with fail
    rw [← HW.out]
    refine (H ka ka' kn' kc kc' c.kids d' (W.drewN (n1 + n2)) lo hi lo' hi' (RdL.same (w := W) HK.out.1 (fun _ _ _ => rfl)) (RdL.same (w := W) HK.out.2 (fun _ _ _ => rfl)) (Nat.le_trans hh HBW.out.size) (Nat.le_trans hh' HBW.out.size)).mono ?_
    rintro e w3 ⟨rfl, hb3⟩
    have HB3 : Hid (Below w.heap.size w w3) := (below_drewN HBW.out (n1 + n2)).trans (hb3.mono HBW.out.size)
    clear hb3
    go_wp2_with fail
    go_ret
    exact ⟨rfl, HB3.out⟩

theorem eqC_any : ∀ d, EqC d
  | 0 => fun _ _ _ _ _ _ _ _ _ h => h.elim
  | d + 1 => eqC_of (eqL_of (eqC_any d))
end

end Go.Proofs.YtknainelonaigaaGreatDoor
