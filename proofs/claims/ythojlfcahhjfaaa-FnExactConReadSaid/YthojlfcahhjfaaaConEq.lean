/- The laws' comparison of two concepts that read alike: true. -/
import Derived.Test.YthojlfcahhjfaaaConMem
import Derived.Test.YthojlfcahhjfaaaBytes
import Derived.Deep.RegionWith
namespace Go.Proofs.Ythojlfcahhjfaaa
open Go.RowKit

def EqC (d : Nat) : Prop := ∀ (v v' : Value) (c : CN) (d' : Nat) (w : World) (lo hi lo' hi' : Nat), RdC lo hi w d v c → RdC lo' hi' w d' v' c → hi ≤ w.heap.size → hi' ≤ w.heap.size →
  Calls Try.prog 27 #[v, v'] w fun e w' => e = .returned (.bool true) ∧ Below w.heap.size w w'

def EqL (d : Nat) : Prop := ∀ (a a' : Option Addr) (n cap cap' : Nat) (cs : List CN) (d' : Nat) (w : World) (lo hi lo' hi' : Nat), RdL (RdC lo hi w d) lo hi w a n cap cs → RdL (RdC lo' hi' w d') lo' hi' w a' n cap' cs → hi ≤ w.heap.size → hi' ≤ w.heap.size →
  Calls Try.prog 70 #[.slice a n cap, .slice a' n cap'] w fun e w' => e = .returned (.bool true) ∧ Below w.heap.size w w'

set_option maxHeartbeats 800000 in
theorem eqL_of {d : Nat} (H : EqC d) : EqL d := by
  intro a a' n cap cap' cs d' w lo hi lo' hi' h h' hh hh'
  have HR : Hid (RdL (RdC lo hi w d) lo hi w a n cap cs) := h
  have HR' : Hid (RdL (RdC lo' hi' w d') lo' hi' w a' n cap' cs) := h'
  obtain ⟨hl, ⟨hm, hM⟩, hcs⟩ := h
  obtain ⟨hl', ⟨hm', hM'⟩, hcs'⟩ := h'
  have hb0 : ((n : Int) != (n : Int)) = false := by simp
  clear hcs hcs' hl hl'
  go_enter Try.func70, Try.ntmps70
  go_wp2_with fail
  go_loopw [5] (fun i wr => ∃ k : Nat, k ≤ n ∧ i = .int .i64 k ∧ Below w.heap.size w wr) (fun i _ => n - (intOf i).toNat)
  case atStart => exact ⟨0, Nat.zero_le _, rfl, Below.refl _ _⟩
  case round =>
    obtain ⟨k, hk, rfl, hbel⟩ := hrel
    have HB : Hid (Below w.heap.size w wr) := hbel
    by_cases hlt : k < n
    · have h1 := HR.out.same (Same.of_below hbel hh)
      have h2 := HR'.out.same (Same.of_below hbel hh')
      rcases h1.cells with h0 | ⟨b1, off1, e1, _, _, hc1⟩
      · omega
      · rcases h2.cells with h0 | ⟨b2, off2, e2, _, _, hc2⟩
        · omega
        · subst e1 e2
          obtain ⟨v0, v1, v2, v3, c0, c1, c2, c3, hr⟩ := hc1 k hlt
          obtain ⟨x0, x1, x2, x3, q0, q1, q2, q3, hr'⟩ := hc2 k hlt
          have HK : Hid (RdC lo hi wr.drew d (.agg #[v0, v1, v2, v3]) (cs.getD k CN.zero)) := RdC.same (w := wr) (w' := wr.drew) (fun _ _ _ => rfl) hr
          have HK' : Hid (RdC lo' hi' wr.drew d' (.agg #[x0, x1, x2, x3]) (cs.getD k CN.zero)) := RdC.same (w := wr) (w' := wr.drew) (fun _ _ _ => rfl) hr'
          have hki : (k : Int) < (n : Int) := by omega
          clear h1 h2 hc1 hc2 hr hr' hbel
          go_wp2_with fail
          go_region_with (go_at_call 27; refine (H _ _ (cs.getD k CN.zero) d' _ lo hi lo' hi' ?_ ?_ ?_ ?_).mono ?_; exact HK.out; exact HK'.out; exact Nat.le_trans hh HB.out.size; exact Nat.le_trans hh' HB.out.size; rintro e w' ⟨rfl, hbe⟩)
          all_goals
            go_wp2_with fail
            go_roundw
            case rel => exact ⟨k + 1, by omega, by go_num, HB.out.drew.trans (hbe.mono HB.out.size)⟩
            case measure => simp [intOf]; omega
    · clear hbel
      go_wp2_with fail
      go_ret
      exact ⟨rfl, HB.out⟩

set_option maxHeartbeats 800000 in
theorem eqC_of {d : Nat} (H : EqL d) : EqC (d + 1) := by
  intro v v' c d' w lo hi lo' hi' h h' hh hh'
  cases d' with
  | zero => exact h'.elim
  | succ d' =>
    obtain ⟨na, nn, nc, ra, rn, rc, ka, kn, kc, rfl, hn, hr, hk⟩ := h
    obtain ⟨na', nn', nc', ra', rn', rc', ka', kn', kc', rfl, hn', hr', hk'⟩ := h'
    obtain ⟨k, hkd⟩ : ∃ k, k = c.kind := ⟨_, rfl⟩
    rw [← hkd]
    have hkk : (k != k) = false := by simp
    have e1 : nn' = nn := by rw [← hn.len, ← hn'.len]
    have e2 : rn' = rn := by rw [← hr.len, ← hr'.len]
    have e3 : kn' = kn := by rw [← hk.len, ← hk'.len]
    subst e1 e2 e3
    have hb : Below w.heap.size w ((w.alloc (Obj.cells #[Value.int IntKind.i64 k, .slice na nn' nc, .slice ra rn' rc, .slice ka kn' kc] 35)).alloc (Obj.cells #[Value.int IntKind.i64 k, .slice na' nn' nc', .slice ra' rn' rc', .slice ka' kn' kc'] 35)) := ((Below.refl _ _).alloc (Nat.le_refl _) _).alloc (by simp) _
    obtain ⟨W, hW⟩ : ∃ W, W = ((w.alloc (Obj.cells #[Value.int IntKind.i64 k, .slice na nn' nc, .slice ra rn' rc, .slice ka kn' kc] 35)).alloc (Obj.cells #[Value.int IntKind.i64 k, .slice na' nn' nc', .slice ra' rn' rc', .slice ka' kn' kc'] 35)) := ⟨_, rfl⟩
    rw [← hW] at hb
    have HW : Hid (W = ((w.alloc (Obj.cells #[Value.int IntKind.i64 k, .slice na nn' nc, .slice ra rn' rc, .slice ka kn' kc] 35)).alloc (Obj.cells #[Value.int IntKind.i64 k, .slice na' nn' nc', .slice ra' rn' rc', .slice ka' kn' kc'] 35))) := hW
    have HN : Hid (Rd lo hi W na nn' nc c.name ∧ Rd lo' hi' W na' nn' nc' c.name) := ⟨hn.below hb hh, hn'.below hb hh'⟩
    have HRo : Hid (Rd lo hi W ra rn' rc c.role ∧ Rd lo' hi' W ra' rn' rc' c.role) := ⟨hr.below hb hh, hr'.below hb hh'⟩
    have HK : Hid (RdL (RdC lo hi W d) lo hi W ka kn' kc c.kids ∧ RdL (RdC lo' hi' W d') lo' hi' W ka' kn' kc' c.kids) := ⟨hk.below hb hh, hk'.below hb hh'⟩
    have HBW : Hid (Below w.heap.size w W) := hb
    clear hn hn' hr hr' hk hk' hb hkd hW
    go_enter Try.func27, Try.ntmps27
    go_wp2_with fail
    rw [← HW.out]
    refine (eqByteS_any na na' nn' nc nn' nc' c.name c.name W HN.out.1 HN.out.2).mono ?_
    rintro e w1 ⟨rfl, n1, hw1⟩
    rw [show decide (c.name = c.name) = true from by simp, hw1, HW.out]
    clear hw1
    go_wp2_with fail
    rw [← HW.out]
    refine (eqByteS_any ra ra' rn' rc rn' rc' c.role c.role _ (HRo.out.1.same (w' := W.drewN n1) (fun _ _ _ => rfl)) (HRo.out.2.same (w' := W.drewN n1) (fun _ _ _ => rfl))).mono ?_
    rintro e w2 ⟨rfl, n2, hw2⟩
    rw [show decide (c.role = c.role) = true from by simp, hw2, drew_add, HW.out]
    clear hw2
    go_wp2_with fail
    rw [← HW.out]
    refine (H ka ka' kn' kc kc' c.kids d' (W.drewN (n1 + n2)) lo hi lo' hi' (RdL.same (w := W) HK.out.1 (fun _ _ _ => rfl)) (RdL.same (w := W) HK.out.2 (fun _ _ _ => rfl)) (Nat.le_trans hh HBW.out.size) (Nat.le_trans hh' HBW.out.size)).mono ?_
    rintro e w3 ⟨rfl, hb3⟩
    have HB3 : Hid (Below w.heap.size w w3) := (below_drewN HBW.out (n1 + n2)).trans (hb3.mono HBW.out.size)
    clear hb3
    go_wp2_with fail
    go_ret
    exact ⟨rfl, HB3.out⟩

theorem eqC_any : ∀ d, EqC d
  | 0 => fun _ _ _ _ _ _ _ _ _ h => h.elim
  | d + 1 => eqC_of (eqL_of (eqC_any d))

end Go.Proofs.Ythojlfcahhjfaaa
