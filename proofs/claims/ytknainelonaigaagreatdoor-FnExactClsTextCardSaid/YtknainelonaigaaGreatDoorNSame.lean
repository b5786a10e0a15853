/- Several texts in one: ConSame, ConPlace, ConInj, ConSubs1. -/
import Derived.Test.YtknainelonaigaaGreatDoorNCon
import Derived.Test.YtknainelonaigaaGreatDoorNWords
import Derived.Test.YtknainelonaigaaGreatDoorConTo
import Derived.Deep.RegionWith
import Derived.Deep.DeepCutAuto
import Derived.Test.YtknainelonaigaaGreatDoorNTell
import Derived.Test.YtknainelonaigaaGreatDoorNSay
import Derived.Deep.RegionHeld
namespace Go.Proofs.YtknainelonaigaaGreatDoor

section
open Go.RowKit

mutual
def sameC : CN → CN → Bool
  | .mk k n r ks, .mk k' n' r' ks' => decide (k = k') && (decide (n = n') && (decide (r = r') && sameL ks ks'))
def sameL : List CN → List CN → Bool
  | [], [] => true
  | a :: xs1, b :: ys1 => sameC a b && sameL xs1 ys1
  | _, _ => false
end

mutual
theorem sameC_iff : ∀ a b : CN, sameC a b = true ↔ a = b
  | .mk k n r ks, .mk k' n' r' ks' => by
    rw [sameC]
    simp only [Bool.and_eq_true, decide_eq_true_eq, sameL_iff ks ks', CN.mk.injEq]
theorem sameL_iff : ∀ xs1 ys1 : List CN, sameL xs1 ys1 = true ↔ xs1 = ys1
  | [], [] => by simp [sameL]
  | a :: xs1, b :: ys1 => by
    rw [sameL, Bool.and_eq_true, sameC_iff a b, sameL_iff xs1 ys1, List.cons.injEq]
  | [], b :: ys1 => by simp [sameL]
  | a :: xs1, [] => by simp [sameL]
end

theorem sameC_eq (c c' : CN) : sameC c c' = (decide (c.kind = c'.kind) && (decide (c.name = c'.name) && (decide (c.role = c'.role) && sameL c.kids c'.kids))) := by
  cases c; cases c'; rw [sameC]; rfl

theorem sameL_false_of {xs1 ys1 : List CN} (h : xs1 ≠ ys1) : sameL xs1 ys1 = false := by
  cases e : sameL xs1 ys1
  · rfl
  · exact absurd ((sameL_iff xs1 ys1).1 e) h

theorem str_inj {xs ys : List Int} (hx : ∀ i, 0 ≤ xs.getD i 0 ∧ xs.getD i 0 ≤ 255) (hy : ∀ i, 0 ≤ ys.getD i 0 ∧ ys.getD i 0 ≤ 255) : ((strOfNums xs).toList == (strOfNums ys).toList) = decide (xs = ys) := by
  have e : ∀ zs : List Int, (strOfNums zs).toList = zs.map (fun n => UInt8.ofNat n.toNat) := fun zs => by rw [ByteArray.toList_eq]; rfl
  rw [e, e]
  by_cases h : xs = ys
  · subst h; simp
  · rw [decide_eq_false h]
    cases hb : (xs.map (fun n : Int => UInt8.ofNat n.toNat) == ys.map (fun n : Int => UInt8.ofNat n.toNat))
    · rfl
    · refine absurd ?_ h
      have hb' := eq_of_beq hb
      have hl : xs.length = ys.length := by have := congrArg List.length hb'; simpa using this
      refine List.ext_getElem hl (fun i h1 h2 => ?_)
      have hi := congrArg (fun l => l[i]?) hb'
      simp only [List.getElem?_map, List.getElem?_eq_getElem h1, List.getElem?_eq_getElem h2, Option.map_some, Option.some.injEq] at hi
      have a1 := hx i
      have a2 := hy i
      simp only [List.getD, List.getElem?_eq_getElem h1, List.getElem?_eq_getElem h2, Option.getD_some] at a1 a2
      have hi' := congrArg UInt8.toNat hi
      simp only [UInt8.toNat_ofNat'] at hi'
      omega

set_option maxRecDepth 100000 in
set_option maxHeartbeats 1000000 in
theorem bytesEqual_any {a a' : Option Addr} {n cap n' cap' : Nat} {xs ys : List Int} {w : World} {lo hi lo' hi' : Nat} (h : Rd lo hi w a n cap xs) (h' : Rd lo' hi' w a' n' cap' ys) : Calls Tryz.prog 112 #[.slice a n cap, .slice a' n' cap'] w fun e w' => e = .returned (.bool (decide (xs = ys))) ∧ w' = w := by
  have hc1 : (convert 28 9 (.slice a n cap)).run Tryz.prog w = .ok (.string (strOfNums xs)) w := conv_any h
  have hc2 : (convert 28 9 (.slice a' n' cap')).run Tryz.prog w = .ok (.string (strOfNums ys)) w := conv_any h'
  have hE := str_inj h.byte h'.byte
  obtain ⟨s, hs⟩ : ∃ s, s = strOfNums xs := ⟨_, rfl⟩
  obtain ⟨t, ht⟩ : ∃ t, t = strOfNums ys := ⟨_, rfl⟩
  obtain ⟨b, hb⟩ : ∃ b, b = decide (xs = ys) := ⟨_, rfl⟩
  rw [← hb]
  rw [← hs] at hc1 hE
  rw [← ht, ← hb] at hE
  rw [← ht] at hc2
  clear h h' hs ht hb
  go_enter Tryz.func112, Tryz.ntmps112
  go_wp2
  go_ret
  exact ⟨by first | rfl | exact rb hE, rfl⟩

def SmC (d : Nat) : Prop := ∀ (v v' : Value) (c c' : CN) (d' : Nat) (w : World) (lo hi lo' hi' : Nat), RdC lo hi w d v c → RdC lo' hi' w d' v' c' → hi ≤ w.heap.size → hi' ≤ w.heap.size →
  Calls Tryz.prog 97 #[v, v'] w fun e w' => e = .returned (.bool (sameC c c')) ∧ Below w.heap.size w w'

def SmL (d d' : Nat) : Prop := ∀ (a : Option Addr) (n cap : Nat) (cs : List CN) (a' : Option Addr) (n' cap' : Nat) (cs' : List CN) (w : World) (lo hi lo' hi' : Nat), RdL (RdC lo hi w d) lo hi w a n cap cs → RdL (RdC lo' hi' w d') lo' hi' w a' n' cap' cs' → hi ≤ w.heap.size → hi' ≤ w.heap.size →
  Calls Tryz.prog 113 #[.slice a n cap, .slice a' n' cap', .func (.func 97) #[] #[]] w fun e w' => e = .returned (.bool (sameL cs cs')) ∧ Below w.heap.size w w'

set_option maxRecDepth 100000 in
set_option maxHeartbeats 2000000 in
theorem smL_of {d d' : Nat} (H : SmC d) : SmL d d' := by
  intro a n cap cs a' n' cap' cs' w lo hi lo' hi' h h' hhi hhi'
  have HR : Hid (RdL (RdC lo hi w d) lo hi w a n cap cs) := h
  have HR' : Hid (RdL (RdC lo' hi' w d') lo' hi' w a' n' cap' cs') := h'
  have HL : Hid (cs.length = n) := h.len
  have HL' : Hid (cs'.length = n') := h'.len
  have hfit := h.fits
  have hfit' := h'.fits
  clear h h'
  by_cases hnn : n = n'
  · subst hnn
    have hb0 : ((n : Int) != (n : Int)) = false := by simp
    go_enter Tryz.func113, Tryz.ntmps113
    go_wp2_with fail
    go_loopw [17] (fun i wr => ∃ j : Nat, j ≤ n ∧ i = .int .i64 j ∧ cs.take j = cs'.take j ∧ Below w.heap.size w wr) (fun i _ => n - (intOf i).toNat)
    case atStart => exact ⟨0, Nat.zero_le _, rfl, by simp, Below.refl _ _⟩
    case round =>
      obtain ⟨j, hj, rfl, htk, hbel⟩ := hrel
      have HT : Hid (cs.take j = cs'.take j) := htk
      have HBe : Hid (Below w.heap.size w wr) := hbel
      by_cases hlt : j < n
      · have hji : (j : Int) < (n : Int) := by omega
        have hjl : j < cs.length := by rw [HL.out]; exact hlt
        have hjl' : j < cs'.length := by rw [HL'.out]; exact hlt
        have hR := HR.out.below hbel hhi
        have hR' := HR'.out.below hbel hhi'
        rcases hR.cells with hz | ⟨b, off, e1, _, hbhi, hc⟩
        · omega
        · rcases hR'.cells with hz | ⟨b', off', e1', _, hbhi', hc'⟩
          · omega
          · subst e1
            subst e1'
            obtain ⟨v0, v1, v2, v3, q0, q1, q2, q3, hrd⟩ := hc j hlt
            obtain ⟨u0, u1, u2, u3, p0, p1, p2, p3, hrd'⟩ := hc' j hlt
            obtain ⟨yk, yna, ynn, ync, yra, yrn, yrc, yka, ykn, ykc, rfl, rfl, rfl, rfl⟩ := hrd.sh.form
            obtain ⟨xk, xna, xnn, xnc, xra, xrn, xrc, xka, xkn, xkc, rfl, rfl, rfl, rfl⟩ := hrd'.sh.form
            have hsz := hbel.size
            have hblt : b < wr.heap.size := by omega
            have hblt' : b' < wr.heap.size := by omega
            obtain ⟨W4, hW4⟩ : ∃ W4, W4 = (wr.alloc (.cells #[.int .i64 yk, .slice yna ynn ync, .slice yra yrn yrc, .slice yka ykn ykc] 47)).alloc (.cells #[.int .i64 xk, .slice xna xnn xnc, .slice xra xrn xrc, .slice xka xkn xkc] 47) := ⟨_, rfl⟩
            have HW4 : Hid (W4 = (wr.alloc (.cells #[.int .i64 yk, .slice yna ynn ync, .slice yra yrn yrc, .slice yka ykn ykc] 47)).alloc (.cells #[.int .i64 xk, .slice xna xnn xnc, .slice xra xrn xrc, .slice xka xkn xkc] 47)) := hW4
            have hb4 : Below wr.heap.size wr W4 := by rw [hW4]; exact ((Below.refl _ _).alloc (Nat.le_refl _) _).alloc (by simp) _
            have HA : Hid (RdC lo hi W4 d (.agg #[.int .i64 yk, .slice yna ynn ync, .slice yra yrn yrc, .slice yka ykn ykc]) (cs.getD j CN.zero)) := hrd.below hb4 (by omega)
            have HA' : Hid (RdC lo' hi' W4 d' (.agg #[.int .i64 xk, .slice xna xnn xnc, .slice xra xrn xrc, .slice xka xkn xkc]) (cs'.getD j CN.zero)) := hrd'.below hb4 (by omega)
            have HB4 : Hid (Below w.heap.size w W4) := hbel.trans (hb4.mono hsz)
            obtain ⟨r, hr⟩ : ∃ r, r = sameC (cs.getD j CN.zero) (cs'.getD j CN.zero) := ⟨_, rfl⟩
            have HRr : Hid (r = sameC (cs.getD j CN.zero) (cs'.getD j CN.zero)) := hr
            clear hR hR' hc hc' hrd hrd' hb4 hW4 hbel htk hr
            go_wp2_with fail
            rw [← HW4.out]
            refine (H _ _ (cs.getD j CN.zero) (cs'.getD j CN.zero) d' W4 lo hi lo' hi' HA.out HA'.out (Nat.le_trans hhi HB4.out.size) (Nat.le_trans hhi' HB4.out.size)).mono ?_
            rintro e w5 ⟨rfl, hb5⟩
            rw [← HRr.out]
            have HB5 : Hid (Below w.heap.size w w5) := HB4.out.trans (hb5.mono HB4.out.size)
            clear hb5
            cases r with
            | false =>
              have HF : Hid (sameL cs cs' = false) := sameL_false_of (fun e => by
                have h1 := HRr.out
                rw [e] at h1
                rw [(sameC_iff _ _).2 rfl] at h1
                cases h1)
              go_wp2_with fail
              go_ret
              exact ⟨rb HF.out.symm, HB5.out⟩
            | true =>
              have HF : Hid (cs.take (j + 1) = cs'.take (j + 1)) := by
                unfold Hid
                rw [take_succ_getD cs CN.zero j hjl, take_succ_getD cs' CN.zero j hjl', HT.out, (sameC_iff _ _).1 HRr.out.symm]
              go_wp2_with fail
              go_roundw
              case rel => exact ⟨j + 1, by omega, by go_num, HF.out, HB5.out⟩
              case measure => simp [intOf]; omega
      · have HF : Hid (sameL cs cs' = true) := (sameL_iff _ _).2 (by
          have h1 := HT.out
          rwa [List.take_of_length_le (by rw [HL.out]; omega), List.take_of_length_le (by rw [HL'.out]; omega)] at h1)
        clear htk hbel
        go_wp2_with fail
        go_ret
        exact ⟨rb HF.out.symm, HBe.out⟩
  · have hb : ((n : Int) != (n' : Int)) = true := by simp; omega
    have HF : Hid (sameL cs cs' = false) := sameL_false_of (fun e => hnn (by rw [← HL.out, ← HL'.out, e]))
    clear hnn
    go_enter Tryz.func113, Tryz.ntmps113
    go_wp2_with fail
    go_ret
    exact ⟨rb HF.out.symm, Below.refl _ _⟩

set_option maxRecDepth 100000 in
set_option maxHeartbeats 4000000 in
theorem smC_of {d : Nat} (H0 : ∀ d0, d = d0 + 1 → ∀ d', SmL d0 d') : SmC d := by
  intro v v' c c' d' w lo hi lo' hi' h h' hhi hhi'
  cases d with
  | zero => exact h.elim
  | succ d =>
    cases d' with
    | zero => exact h'.elim
    | succ d' =>
      have H := H0 d rfl d'
      obtain ⟨na, nn, nc, ra, rn, rc, ka, kn, kc, rfl, hn, hr, hks⟩ := h
      obtain ⟨na', nn', nc', ra', rn', rc', ka', kn', kc', rfl, hn', hr', hks'⟩ := h'
      obtain ⟨k, hk⟩ : ∃ k, k = c.kind := ⟨_, rfl⟩
      obtain ⟨k', hk'⟩ : ∃ k, k = c'.kind := ⟨_, rfl⟩
      rw [← hk, ← hk']
      have HZ : Hid (sameC c c' = (decide (k = k') && (decide (c.name = c'.name) && (decide (c.role = c'.role) && sameL c.kids c'.kids)))) := by unfold Hid; rw [hk, hk']; exact sameC_eq c c'
      obtain ⟨W0, hW0⟩ : ∃ W0, W0 = (w.alloc (.cells #[.int .i64 k, .slice na nn nc, .slice ra rn rc, .slice ka kn kc] 47)).alloc (.cells #[.int .i64 k', .slice na' nn' nc', .slice ra' rn' rc', .slice ka' kn' kc'] 47) := ⟨_, rfl⟩
      have HW0 : Hid (W0 = (w.alloc (.cells #[.int .i64 k, .slice na nn nc, .slice ra rn rc, .slice ka kn kc] 47)).alloc (.cells #[.int .i64 k', .slice na' nn' nc', .slice ra' rn' rc', .slice ka' kn' kc'] 47)) := hW0
      have HB : Hid (Below w.heap.size w W0) := by rw [hW0]; exact ((Below.refl _ _).alloc (Nat.le_refl _) _).alloc (by simp) _
      have hbx : BoxC W0 w.heap.size (.int .i64 k) (.slice na nn nc) (.slice ra rn rc) (.slice ka kn kc) := by rw [hW0]; exact (BoxC.new w _ _ _ _).below ((Below.refl _ _).alloc (Nat.le_refl _) _) (by simp)
      have hby : BoxC W0 (w.heap.size + 1) (.int .i64 k') (.slice na' nn' nc') (.slice ra' rn' rc') (.slice ka' kn' kc') := by
        rw [hW0]
        have := BoxC.new (w.alloc (.cells #[.int .i64 k, .slice na nn nc, .slice ra rn rc, .slice ka kn kc] 47)) (.int .i64 k') (.slice na' nn' nc') (.slice ra' rn' rc') (.slice ka' kn' kc')
        rwa [World.size_alloc] at this
      obtain ⟨z0, z1, z2, z3⟩ := hbx.cells
      obtain ⟨y0, y1, y2, y3⟩ := hby.cells
      have HN : Hid (Rd lo hi w na nn nc c.name) := hn
      have HR : Hid (Rd lo hi w ra rn rc c.role) := hr
      have HKs : Hid (RdL (RdC lo hi w d) lo hi w ka kn kc c.kids) := hks
      have HN' : Hid (Rd lo' hi' w na' nn' nc' c'.name) := hn'
      have HR' : Hid (Rd lo' hi' w ra' rn' rc' c'.role) := hr'
      have HKs' : Hid (RdL (RdC lo' hi' w d') lo' hi' w ka' kn' kc' c'.kids) := hks'
      clear hk hk' hn hr hks hn' hr' hks' hW0 hbx hby H0
      by_cases h0 : k = k'
      · have b0 : (k == k') = true := by simpa using h0
        cases hNn : decide (c.name = c'.name)
        · have HE : Hid (sameC c c' = false) := by unfold Hid; rw [HZ.out]; simp [hNn]
          clear h0
          go_enter Tryz.func97, Tryz.ntmps97
          go_upto_region 1 with fail
          rw [← HW0.out]
          go_wp2_with (first | (go_at_call_of 112 na; refine (bytesEqual_any (HN.out.below HB.out hhi) (HN'.out.below HB.out hhi')).mono ?_; rintro e w' ⟨rfl, hw⟩; rw [hw, hNn]; clear hw) | (go_at_call_of 112 ra; refine (bytesEqual_any (HR.out.below HB.out hhi) (HR'.out.below HB.out hhi')).mono ?_; rintro e w' ⟨rfl, hw⟩; rw [hw, hRr]; clear hw) | (go_at_call 113; refine (H ka kn kc c.kids ka' kn' kc' c'.kids W0 lo hi lo' hi' (HKs.out.below HB.out hhi) (HKs'.out.below HB.out hhi') (Nat.le_trans hhi HB.out.size) (Nat.le_trans hhi' HB.out.size)).mono ?_; rintro e w1 ⟨rfl, hb1⟩; rw [hKk]; have HB1 : Hid (Below w.heap.size w w1) := HB.out.trans (hb1.mono HB.out.size); clear hb1))
          go_ret
          exact ⟨rb HE.out.symm, by first | exact HB1.out | exact HB.out⟩
        · cases hRr : decide (c.role = c'.role)
          · have HE : Hid (sameC c c' = false) := by unfold Hid; rw [HZ.out]; simp [hRr]
            clear h0
            go_enter Tryz.func97, Tryz.ntmps97
            go_upto_region 1 with fail
            rw [← HW0.out]
            go_wp2_with (first | (go_at_call_of 112 na; refine (bytesEqual_any (HN.out.below HB.out hhi) (HN'.out.below HB.out hhi')).mono ?_; rintro e w' ⟨rfl, hw⟩; rw [hw, hNn]; clear hw) | (go_at_call_of 112 ra; refine (bytesEqual_any (HR.out.below HB.out hhi) (HR'.out.below HB.out hhi')).mono ?_; rintro e w' ⟨rfl, hw⟩; rw [hw, hRr]; clear hw) | (go_at_call 113; refine (H ka kn kc c.kids ka' kn' kc' c'.kids W0 lo hi lo' hi' (HKs.out.below HB.out hhi) (HKs'.out.below HB.out hhi') (Nat.le_trans hhi HB.out.size) (Nat.le_trans hhi' HB.out.size)).mono ?_; rintro e w1 ⟨rfl, hb1⟩; rw [hKk]; have HB1 : Hid (Below w.heap.size w w1) := HB.out.trans (hb1.mono HB.out.size); clear hb1))
            go_ret
            exact ⟨rb HE.out.symm, by first | exact HB1.out | exact HB.out⟩
          · cases hKk : sameL c.kids c'.kids
            · have HE : Hid (sameC c c' = false) := by unfold Hid; rw [HZ.out]; simp [hKk]
              clear h0
              go_enter Tryz.func97, Tryz.ntmps97
              go_upto_region 1 with fail
              rw [← HW0.out]
              go_wp2_with (first | (go_at_call_of 112 na; refine (bytesEqual_any (HN.out.below HB.out hhi) (HN'.out.below HB.out hhi')).mono ?_; rintro e w' ⟨rfl, hw⟩; rw [hw, hNn]; clear hw) | (go_at_call_of 112 ra; refine (bytesEqual_any (HR.out.below HB.out hhi) (HR'.out.below HB.out hhi')).mono ?_; rintro e w' ⟨rfl, hw⟩; rw [hw, hRr]; clear hw) | (go_at_call 113; refine (H ka kn kc c.kids ka' kn' kc' c'.kids W0 lo hi lo' hi' (HKs.out.below HB.out hhi) (HKs'.out.below HB.out hhi') (Nat.le_trans hhi HB.out.size) (Nat.le_trans hhi' HB.out.size)).mono ?_; rintro e w1 ⟨rfl, hb1⟩; rw [hKk]; have HB1 : Hid (Below w.heap.size w w1) := HB.out.trans (hb1.mono HB.out.size); clear hb1))
              go_ret
              exact ⟨rb HE.out.symm, by first | exact HB1.out | exact HB.out⟩
            · have HE : Hid (sameC c c' = true) := by unfold Hid; rw [HZ.out]; simp [h0, hNn, hRr, hKk]
              clear h0
              go_enter Tryz.func97, Tryz.ntmps97
              go_upto_region 1 with fail
              rw [← HW0.out]
              go_wp2_with (first | (go_at_call_of 112 na; refine (bytesEqual_any (HN.out.below HB.out hhi) (HN'.out.below HB.out hhi')).mono ?_; rintro e w' ⟨rfl, hw⟩; rw [hw, hNn]; clear hw) | (go_at_call_of 112 ra; refine (bytesEqual_any (HR.out.below HB.out hhi) (HR'.out.below HB.out hhi')).mono ?_; rintro e w' ⟨rfl, hw⟩; rw [hw, hRr]; clear hw) | (go_at_call 113; refine (H ka kn kc c.kids ka' kn' kc' c'.kids W0 lo hi lo' hi' (HKs.out.below HB.out hhi) (HKs'.out.below HB.out hhi') (Nat.le_trans hhi HB.out.size) (Nat.le_trans hhi' HB.out.size)).mono ?_; rintro e w1 ⟨rfl, hb1⟩; rw [hKk]; have HB1 : Hid (Below w.heap.size w w1) := HB.out.trans (hb1.mono HB.out.size); clear hb1))
              go_ret
              exact ⟨rb HE.out.symm, by first | exact HB1.out | exact HB.out⟩
      · have b0 : (k == k') = false := by simpa using h0
        have HE : Hid (sameC c c' = false) := by unfold Hid; rw [HZ.out]; simp [h0]
        clear h0
        go_enter Tryz.func97, Tryz.ntmps97
        go_upto_region 1 with fail
        rw [← HW0.out]
        go_wp2_with fail
        go_ret
        exact ⟨rb HE.out.symm, HB.out⟩

theorem smC_any : ∀ d, SmC d
  | 0 => smC_of (fun d0 h => by omega)
  | d + 1 => smC_of (fun d0 h d' => by obtain rfl : d = d0 := (by omega); exact smL_of (smC_any d))
end

section
open Go.RowKit

def placeC (l : List CN) (c : CN) : Int := match (List.range l.length).find? (fun i => sameC (l.getD i CN.zero) c) with | some i => (i : Int) | none => -1
/-- None of the first j is alike. -/
def noneC (l : List CN) (c : CN) (j : Nat) : Prop := ∀ i, i < j → sameC (l.getD i CN.zero) c = false

theorem noneC_zero (l : List CN) (c : CN) : noneC l c 0 := fun i hi => by omega
theorem noneC_succ {l : List CN} {c : CN} {j : Nat} (h : noneC l c j) (e : sameC (l.getD j CN.zero) c = false) : noneC l c (j + 1) := fun i hi => by
  by_cases e' : i = j
  · subst e'; exact e
  · exact h i (by omega)

theorem placeC_some {l : List CN} {c : CN} {j : Nat} (hj : j < l.length) (e : sameC (l.getD j CN.zero) c = true) (h : noneC l c j) : placeC l c = j := by
  unfold placeC
  rw [List.find?_range_eq_some.2 ⟨e, by simpa using hj, fun i hi => by rw [h i hi]; rfl⟩]

theorem placeC_none {l : List CN} {c : CN} (h : noneC l c l.length) : placeC l c = -1 := by
  unfold placeC
  rw [List.find?_eq_none.2 (fun i hi => by rw [h i (List.mem_range.1 hi)]; simp)]

set_option maxRecDepth 100000 in
set_option maxHeartbeats 4000000 in
theorem alike_any {d d' lo hi lo' hi' pb : Nat} {v p0 p1 p2 p3 : Value} {x c : CN} {w : World} (h : RdC lo hi w d v x) (h' : RdC lo' hi' w d' (.agg #[p0, p1, p2, p3]) c) (hhi : hi ≤ w.heap.size) (hhi' : hi' ≤ w.heap.size) (hbx : BoxC w pb p0 p1 p2 p3) :
    Calls Tryz.prog 96 #[v, .pointer (some ⟨pb, 0, none⟩)] w fun e w' => e = .returned (.bool (sameC x c)) ∧ Below w.heap.size w w' := by
  have HRd : Hid (RdC lo hi w d v x) := h
  have HRd' : Hid (RdC lo' hi' w d' (.agg #[p0, p1, p2, p3]) c) := h'
  obtain ⟨k, na, nn, nc, ra, rn, rc, ka, kn, kc, rfl⟩ := h.shape
  obtain ⟨pk, pna, pnn, pnc, pra, prn, prc, pka, pkn, pkc, rfl, rfl, rfl, rfl⟩ := h'.form4
  obtain ⟨W0, hW0⟩ : ∃ W0, W0 = w.alloc (.cells #[.int .i64 k, .slice na nn nc, .slice ra rn rc, .slice ka kn kc] 47) := ⟨_, rfl⟩
  have HW0 : Hid (W0 = w.alloc (.cells #[.int .i64 k, .slice na nn nc, .slice ra rn rc, .slice ka kn kc] 47)) := hW0
  have hb0 : Below w.heap.size w W0 := by rw [hW0]; exact (Below.refl _ _).alloc (Nat.le_refl _) _
  have HB0 : Hid (Below w.heap.size w W0) := hb0
  have hl0 : w.heap.size < W0.heap.size := by rw [hW0]; simp
  have hbx0 : BoxC W0 w.heap.size (.int .i64 k) (.slice na nn nc) (.slice ra rn rc) (.slice ka kn kc) := by rw [hW0]; exact BoxC.new w _ _ _ _
  obtain ⟨b0, b1, b2, b3⟩ := hbx0.cells
  obtain ⟨q0, q1, q2, q3⟩ := (hbx.below hb0 hbx.lt).cells
  have HA : Hid (RdC lo hi W0 d (.agg #[.int .i64 k, .slice na nn nc, .slice ra rn rc, .slice ka kn kc]) x) := h.below hb0 hhi
  have HC : Hid (RdC lo' hi' W0 d' (.agg #[.int .i64 pk, .slice pna pnn pnc, .slice pra prn prc, .slice pka pkn pkc]) c) := h'.below hb0 hhi'
  have hh0 : hi ≤ W0.heap.size := by omega
  have hh1 : hi' ≤ W0.heap.size := by omega
  obtain ⟨r, hr⟩ : ∃ r, r = sameC x c := ⟨_, rfl⟩
  have HR : Hid (r = sameC x c) := hr
  clear hb0 hW0 hbx0 h h' hr hbx
  go_enter Tryz.func96, Tryz.ntmps96
  go_upto_region 1 with fail
  rw [← HW0.out]
  go_wp2_with fail
  refine (smC_any d _ _ x c d' W0 lo hi lo' hi' HA.out HC.out hh0 hh1).mono ?_
  rintro e w5 ⟨rfl, hb5⟩
  rw [← HR.out]
  have HB5 : Hid (Below w.heap.size w w5) := HB0.out.trans (hb5.mono (by omega))
  clear hb5
  go_wp2_with fail
  go_ret
  exact ⟨by rw [← HR.out]; rfl, HB5.out⟩

set_option maxRecDepth 100000 in
set_option maxHeartbeats 4000000 in
theorem indexAlike_any {d d' lo hi lo' hi' pb n cap : Nat} {a : Option Addr} {p0 p1 p2 p3 : Value} {cs : List CN} {c : CN} {w : World} (h : RdL (RdC lo hi w d) lo hi w a n cap cs) (h' : RdC lo' hi' w d' (.agg #[p0, p1, p2, p3]) c) (hhi : hi ≤ w.heap.size) (hhi' : hi' ≤ w.heap.size) (hbx : BoxC w pb p0 p1 p2 p3) (hn : n ≤ 1048576) :
    Calls Tryz.prog 92 #[.slice a n cap, .func (.func 96) #[] #[.pointer (some ⟨pb, 0, none⟩)]] w fun e w' => e = .returned (.int .i64 (placeC cs c)) ∧ Below w.heap.size w w' := by
  have HL : Hid (RdL (RdC lo hi w d) lo hi w a n cap cs) := h
  have HC : Hid (RdC lo' hi' w d' (.agg #[p0, p1, p2, p3]) c) := h'
  have HBx : Hid (BoxC w pb p0 p1 p2 p3) := hbx
  have HLn : Hid (cs.length = n) := h.len
  have hpl : pb < w.heap.size := hbx.lt
  clear h h' hbx
  go_enter Tryz.func92, Tryz.ntmps92
  go_upto_region 2 with fail
  go_loopw [8] (fun i wr => ∃ j : Nat, j ≤ n ∧ i = .int .i64 j ∧ noneC cs c j ∧ Below w.heap.size w wr) (fun i _ => n - (intOf i).toNat)
  case atStart => exact ⟨0, Nat.zero_le _, rfl, noneC_zero cs c, Below.refl _ _⟩
  case round =>
    obtain ⟨j, hj, rfl, hnot, hbel⟩ := hrel
    have HNt : Hid (noneC cs c j) := hnot
    have HBe : Hid (Below w.heap.size w wr) := hbel
    have hszr := hbel.size
    by_cases hlt : j < n
    · have hji : (j : Int) < (n : Int) := by omega
      have hjl : j < cs.length := by rw [HLn.out]; exact hlt
      have hR := HL.out.same (Same.of_below hbel hhi)
      rcases hR.cells with e | ⟨b, off, rfl, _, _, hc⟩
      · omega
      · obtain ⟨v0, v1, v2, v3, q0, q1, q2, q3, hrd⟩ := hc j hlt
        have HEl : Hid (RdC lo hi wr d (.agg #[v0, v1, v2, v3]) (cs.getD j CN.zero)) := hrd
        have HCw : Hid (RdC lo' hi' wr d' (.agg #[p0, p1, p2, p3]) c) := HC.out.below hbel hhi'
        have HBw : Hid (BoxC wr pb p0 p1 p2 p3) := HBx.out.below hbel hpl
        have hh1 : hi ≤ wr.heap.size := by omega
        have hh2 : hi' ≤ wr.heap.size := by omega
        obtain ⟨r, hr⟩ : ∃ r, r = sameC (cs.getD j CN.zero) c := ⟨_, rfl⟩
        have HRr : Hid (r = sameC (cs.getD j CN.zero) c) := hr
        clear hR hc hrd hr hnot hbel
        go_wp2_with fail
        refine (alike_any HEl.out HCw.out hh1 hh2 HBw.out).mono ?_
        rintro e w5 ⟨rfl, hb5⟩
        rw [← HRr.out]
        have HB5 : Hid (Below w.heap.size w w5) := HBe.out.trans (hb5.mono hszr)
        clear hb5
        cases r with
        | true =>
          have HP : Hid (placeC cs c = j) := placeC_some hjl HRr.out.symm HNt.out
          go_wp2_with fail
          go_ret
          exact ⟨by rw [HP.out]; rfl, HB5.out⟩
        | false =>
          have HF : Hid (noneC cs c (j + 1)) := noneC_succ HNt.out HRr.out.symm
          go_wp2_with fail
          go_roundw
          case rel => exact ⟨j + 1, by omega, by go_num, HF.out, HB5.out⟩
          case measure => simp [intOf]; omega
    · have HP : Hid (placeC cs c = -1) := placeC_none (by rw [HLn.out, show n = j by omega]; exact HNt.out)
      clear hnot hbel
      go_wp2_with fail
      go_ret
      exact ⟨by rw [HP.out]; rfl, HBe.out⟩

set_option maxRecDepth 100000 in
set_option maxHeartbeats 4000000 in
theorem conIn_any {d d' lo hi lo' hi' n cap : Nat} {a : Option Addr} {v : Value} {cs : List CN} {c : CN} {w : World} (h : RdL (RdC lo hi w d) lo hi w a n cap cs) (h' : RdC lo' hi' w d' v c) (hhi : hi ≤ w.heap.size) (hhi' : hi' ≤ w.heap.size) (hn : n ≤ 1048576) :
    Calls Tryz.prog 74 #[.slice a n cap, v] w fun e w' => e = .returned (.int .i64 (placeC cs c)) ∧ Below w.heap.size w w' := by
  obtain ⟨k, na, nn, nc, ra, rn, rc, ka, kn, kc, rfl⟩ := h'.shape
  obtain ⟨W0, hW0⟩ : ∃ W0, W0 = w.alloc (.cells #[.int .i64 k, .slice na nn nc, .slice ra rn rc, .slice ka kn kc] 47) := ⟨_, rfl⟩
  have HW0 : Hid (W0 = w.alloc (.cells #[.int .i64 k, .slice na nn nc, .slice ra rn rc, .slice ka kn kc] 47)) := hW0
  have hb0 : Below w.heap.size w W0 := by rw [hW0]; exact (Below.refl _ _).alloc (Nat.le_refl _) _
  have HB0 : Hid (Below w.heap.size w W0) := hb0
  have hl0 : w.heap.size < W0.heap.size := by rw [hW0]; simp
  have HBx : Hid (BoxC W0 w.heap.size (.int .i64 k) (.slice na nn nc) (.slice ra rn rc) (.slice ka kn kc)) := by unfold Hid; rw [hW0]; exact BoxC.new w _ _ _ _
  have HL : Hid (RdL (RdC lo hi W0 d) lo hi W0 a n cap cs) := h.same (Same.of_below hb0 hhi)
  have HC : Hid (RdC lo' hi' W0 d' (.agg #[.int .i64 k, .slice na nn nc, .slice ra rn rc, .slice ka kn kc]) c) := h'.below hb0 hhi'
  clear h h' hW0 hb0
  go_enter Tryz.func74, Tryz.ntmps74
  go_upto_region 1 with fail
  rw [← HW0.out]
  go_wp2_with fail
  refine (indexAlike_any HL.out HC.out (by omega) (by omega) HBx.out hn).mono ?_
  rintro e w5 ⟨rfl, hb5⟩
  obtain ⟨r, hr⟩ : ∃ r, r = placeC cs c := ⟨_, rfl⟩
  rw [← hr]
  have HR : Hid (r = placeC cs c) := hr
  have HB5 : Hid (Below w.heap.size w w5) := HB0.out.trans (hb5.mono (by omega))
  clear hb5 hr
  go_wp2_with fail
  go_ret
  exact ⟨by rw [← HR.out]; rfl, HB5.out⟩
end

section
open Go.RowKit

/-- No blank, no bracket. -/
def wordChar (z : Int) : Bool := decide (z ≠ 32 ∧ z ≠ 40 ∧ z ≠ 41)

/-- Nothing, or a sign that ends a word. -/
def Ends (u : List Int) : Prop := ∀ z zs, u = z :: zs → wordChar z = false

theorem ends_nil : Ends [] := fun z zs h => by cases h
theorem ends_40 (u : List Int) : Ends (40 :: u) := fun z zs h => by cases h; rfl
theorem ends_41 (u : List Int) : Ends (41 :: u) := fun z zs h => by cases h; rfl
theorem ends_32 (u : List Int) : Ends (32 :: u) := fun z zs h => by cases h; rfl

theorem split_word {x y u v : List Int} (hx : x.all wordChar = true) (hy : y.all wordChar = true) (hu : Ends u) (hv : Ends v) (h : x ++ u = y ++ v) : x = y ∧ u = v := by
  induction x generalizing y with
  | nil =>
    cases y with
    | nil => exact ⟨rfl, by simpa using h⟩
    | cons b y =>
      have h1 := hu b (y ++ v) (by simpa using h)
      rw [List.all_cons, h1] at hy
      simp at hy
  | cons a x ih =>
    cases y with
    | nil =>
      have h1 := hv a (x ++ u) (by simpa using h.symm)
      rw [List.all_cons, h1] at hx
      simp at hx
    | cons b y =>
      rw [List.all_cons, Bool.and_eq_true] at hx hy
      rw [List.cons_append, List.cons_append, List.cons.injEq] at h
      obtain ⟨e, h⟩ := h
      obtain ⟨h1, h2⟩ := ih hx.2 hy.2 h
      exact ⟨by rw [e, h1], h2⟩

theorem char_low {z : Int} (h : lowB z = true) : wordChar z = true := by
  unfold lowB at h
  simp only [Bool.and_eq_true, decide_eq_true_eq] at h
  unfold wordChar
  simp only [decide_eq_true_eq]
  omega

theorem char_up {z : Int} (h : upB z = true) : wordChar z = true := by
  unfold upB at h
  simp only [Bool.and_eq_true, decide_eq_true_eq] at h
  unfold wordChar
  simp only [decide_eq_true_eq]
  omega

theorem chars_low {zs : List Int} (h : lowOk zs = true) : zs.all wordChar = true := by
  unfold lowOk at h
  rw [Bool.and_eq_true] at h
  have h2 := h.2
  rw [List.all_eq_true] at h2 ⊢
  exact fun z hz => char_low (h2 z hz)

theorem chars_up {zs : List Int} (h : upOk zs = true) : zs.all wordChar = true := by
  unfold upOk at h
  simp only [Bool.and_eq_true] at h
  obtain ⟨_, h1, h2⟩ := h
  cases zs with
  | nil => rfl
  | cons z zs =>
    rw [List.all_cons, Bool.and_eq_true]
    refine ⟨char_up (by simpa using h1), ?_⟩
    rw [List.all_eq_true] at h2 ⊢
    exact fun y hy => char_low (h2 y (by simpa using hy))

theorem chars_word (k : Int) : (wordOf k).all wordChar = true := by
  unfold wordOf
  repeat' split
  all_goals decide

/-- The word ahead of a text, and what is behind it. -/
def headW (c : CN) : List Int := if c.kind = 2 then c.name else wordOf c.kind
def restW (c : CN) : List Int := if c.kind = 2 then [] else if c.kids.length = 0 then [] else 40 :: (roleT c.role ++ (textJ 0 c.kids ++ [41]))

theorem text_split (c : CN) : textC c = headW c ++ restW c := by
  rw [textC_eq]
  unfold headW restW
  split
  · simp
  · split
    · simp
    · simp

theorem rest_ends (c : CN) (u : List Int) (hu : Ends u) : Ends (restW c ++ u) := by
  unfold restW
  split
  · exact hu
  · split
    · exact hu
    · exact ends_40 _

theorem kept_word {k : Int} (h : 0 ≤ k ∧ k ≤ 7) (h2 : k ≠ 2) : keptB (strOfNums (wordOf k)).toList = true := by
  have hkk : k = 0 ∨ k = 1 ∨ k = 3 ∨ k = 4 ∨ k = 5 ∨ k = 6 ∨ k = 7 := by omega
  rw [ByteArray.toList_eq]
  rcases hkk with rfl | rfl | rfl | rfl | rfl | rfl | rfl <;> decide +kernel

theorem word_inj {k l : Int} (hk : 0 ≤ k ∧ k ≤ 7) (hl : 0 ≤ l ∧ l ≤ 7) (h2 : k ≠ 2) (h2' : l ≠ 2) (h : wordOf k = wordOf l) : k = l := by
  have hkk : k = 0 ∨ k = 1 ∨ k = 3 ∨ k = 4 ∨ k = 5 ∨ k = 6 ∨ k = 7 := by omega
  have hll : l = 0 ∨ l = 1 ∨ l = 3 ∨ l = 4 ∨ l = 5 ∨ l = 6 ∨ l = 7 := by omega
  rcases hkk with rfl | rfl | rfl | rfl | rfl | rfl | rfl <;> rcases hll with rfl | rfl | rfl | rfl | rfl | rfl | rfl <;> first | rfl | (exact absurd h (by decide))

/-- What a part that is as its kind asks is. -/
theorem shape_more {c : CN} (h : shapeB c = true) : (0 ≤ c.kind ∧ c.kind ≤ 7) ∧ (c.kind = 2 → upOk c.name = true ∧ keptB (strOfNums c.name).toList = false) ∧ (c.kind ≠ 2 → c.name = []) ∧ (roleB c.kind = true → lowOk c.role = true) ∧ (roleB c.kind = false → c.role = []) ∧ (c.kids.length : Int) = kidN c.kind := by
  have hf := shape_facts h
  unfold shapeB at h
  simp only [Bool.and_eq_true, decide_eq_true_eq] at h
  obtain ⟨h1, h2, h3⟩ := h
  refine ⟨hf.1, fun hk => ?_, fun hk => ?_, fun hr => ?_, hf.2.2.2, h3⟩
  · unfold nameFit at h1
    rw [if_pos hk, Bool.and_eq_true] at h1
    exact ⟨h1.1, by simpa using h1.2⟩
  · unfold nameFit at h1
    rw [if_neg hk] at h1
    exact List.eq_nil_of_length_eq_zero (by simpa using h1)
  · unfold roleFit at h2
    rw [if_pos hr] at h2
    exact h2

theorem head_chars {c : CN} (h : shapeB c = true) : (headW c).all wordChar = true := by
  unfold headW
  split
  · rename_i hk; exact chars_up ((shape_more h).2.1 hk).1
  · exact chars_word _

theorem head_kind {a b : CN} (ha : shapeB a = true) (hb : shapeB b = true) (h : headW a = headW b) : a.kind = b.kind := by
  obtain ⟨a1, a2, _⟩ := shape_more ha
  obtain ⟨b1, b2, _⟩ := shape_more hb
  unfold headW at h
  by_cases ka : a.kind = 2
  · by_cases kb : b.kind = 2
    · rw [ka, kb]
    · rw [if_pos ka, if_neg kb] at h
      have := (a2 ka).2
      rw [h, kept_word b1 kb] at this
      cases this
  · by_cases kb : b.kind = 2
    · rw [if_neg ka, if_pos kb] at h
      have := (b2 kb).2
      rw [← h, kept_word a1 ka] at this
      cases this
    · rw [if_neg ka, if_neg kb] at h
      exact word_inj a1 b1 ka kb h

theorem CN.ext4 {a b : CN} (h1 : a.kind = b.kind) (h2 : a.name = b.name) (h3 : a.role = b.role) (h4 : a.kids = b.kids) : a = b := by
  cases a; cases b
  simp only [CN.kind, CN.name, CN.role, CN.kids] at h1 h2 h3 h4
  rw [h1, h2, h3, h4]

theorem text_inj : ∀ (n : Nat) (a b : CN) (u v : List Int), a.bulk < n → wfC a = true → wfC b = true → Ends u → Ends v → textC a ++ u = textC b ++ v → a = b ∧ u = v
  | 0, _, _, _, _, h, _, _, _, _, _ => by omega
  | n + 1, a, b, u, v, hn, ha, hb, hu, hv, h => by
    rw [wfC_eq, Bool.and_eq_true] at ha hb
    obtain ⟨sa, ka⟩ := ha
    obtain ⟨sb, kb⟩ := hb
    rw [text_split a, text_split b, List.append_assoc, List.append_assoc] at h
    obtain ⟨h1, h2⟩ := split_word (head_chars sa) (head_chars sb) (rest_ends a u hu) (rest_ends b v hv) h
    have hk := head_kind sa sb h1
    obtain ⟨a1, a2, a3, a4, a5, a6⟩ := shape_more sa
    obtain ⟨b1, b2, b3, b4, b5, b6⟩ := shape_more sb
    have hlen : a.kids.length = b.kids.length := by rw [← hk] at b6; omega
    by_cases h2k : a.kind = 2
    · have hb2 : b.kind = 2 := by rw [← hk]; exact h2k
      have z : a.kids.length = 0 := by rw [h2k] at a6; simp [kidN] at a6; rw [a6]; rfl
      have e1 : a.name = b.name := by unfold headW at h1; rw [if_pos h2k, if_pos hb2] at h1; exact h1
      have e2 : a.role = b.role := by rw [a5 (by rw [h2k]; rfl), b5 (by rw [hb2]; rfl)]
      have zb : b.kids.length = 0 := by omega
      have e3 : a.kids = b.kids := by rw [List.eq_nil_of_length_eq_zero z, List.eq_nil_of_length_eq_zero zb]
      unfold restW at h2
      rw [if_pos h2k, if_pos hb2] at h2
      exact ⟨CN.ext4 hk e1 e2 e3, by simpa using h2⟩
    · have hb2 : b.kind ≠ 2 := by rw [← hk]; exact h2k
      have e1 : a.name = b.name := by rw [a3 h2k, b3 hb2]
      unfold restW at h2
      rw [if_neg h2k, if_neg hb2] at h2
      by_cases z : a.kids.length = 0
      · have zb : b.kids.length = 0 := by omega
        rw [if_pos z, if_pos zb] at h2
        have e2 : a.role = b.role := by
          have hr : roleB a.kind = false := by
            cases hr : roleB a.kind
            · rfl
            · unfold roleB at hr
              simp only [Bool.or_eq_true, decide_eq_true_eq] at hr
              rcases hr with e | e <;> (rw [e] at a6; simp [kidN] at a6; omega)
          rw [a5 hr, b5 (by rw [← hk]; exact hr)]
        have e3 : a.kids = b.kids := by rw [List.eq_nil_of_length_eq_zero z, List.eq_nil_of_length_eq_zero zb]
        exact ⟨CN.ext4 hk e1 e2 e3, by simpa using h2⟩
      · have zb : ¬ b.kids.length = 0 := by omega
        rw [if_neg z, if_neg zb, List.cons_append, List.cons_append, List.cons.injEq] at h2
        have h3 := h2.2
        have key : a.role = b.role ∧ textJ 0 a.kids ++ (41 :: u) = textJ 0 b.kids ++ (41 :: v) := by
          cases hr : roleB a.kind
          · have ea := a5 hr
            have eb := b5 (by rw [← hk]; exact hr)
            rw [ea, eb] at h3
            refine ⟨by rw [ea, eb], ?_⟩
            simpa [roleT] using h3
          · have la := a4 hr
            have lb := b4 (by rw [← hk]; exact hr)
            have na : a.role ≠ [] := fun e => by have := (longB_of_low la).1; rw [e] at this; simp at this
            have nb : b.role ≠ [] := fun e => by have := (longB_of_low lb).1; rw [e] at this; simp at this
            have h4 : a.role ++ (32 :: (textJ 0 a.kids ++ (41 :: u))) = b.role ++ (32 :: (textJ 0 b.kids ++ (41 :: v))) := by
              unfold roleT at h3
              rw [if_neg na, if_neg nb] at h3
              simpa using h3
            obtain ⟨e1, e2⟩ := split_word (chars_low la) (chars_low lb) (ends_32 _) (ends_32 _) h4
            rw [List.cons.injEq] at e2
            exact ⟨e1, e2.2⟩
        obtain ⟨e2, h5⟩ := key
        have hbulk := a.bulk_eq
        have h12 : a.kids.length = 1 ∨ a.kids.length = 2 := by
          have hkk : a.kind = 0 ∨ a.kind = 1 ∨ a.kind = 3 ∨ a.kind = 4 ∨ a.kind = 5 ∨ a.kind = 6 ∨ a.kind = 7 := by omega
          rcases hkk with e | e | e | e | e | e | e
          · rw [e, show kidN 0 = 0 from rfl] at a6; omega
          · rw [e, show kidN 1 = 0 from rfl] at a6; omega
          · rw [e, show kidN 3 = 1 from rfl] at a6; omega
          · rw [e, show kidN 4 = 2 from rfl] at a6; omega
          · rw [e, show kidN 5 = 2 from rfl] at a6; omega
          · rw [e, show kidN 6 = 1 from rfl] at a6; omega
          · rw [e, show kidN 7 = 1 from rfl] at a6; omega
        rcases h12 with l1 | l2
        · obtain ⟨x, hx⟩ : ∃ x, a.kids = [x] := by
            match hq : a.kids, l1 with
            | [x], _ => exact ⟨x, rfl⟩
          obtain ⟨y, hy⟩ : ∃ y, b.kids = [y] := by
            have : b.kids.length = 1 := by omega
            match hq : b.kids, this with
            | [y], _ => exact ⟨y, rfl⟩
          rw [hx, hy] at h5
          rw [hx] at ka hbulk
          rw [hy] at kb
          simp only [wfL, Bool.and_true] at ka kb
          simp only [bulks] at hbulk
          simp only [textJ, gapT_zero, List.nil_append, List.append_nil] at h5
          obtain ⟨e3, e4⟩ := text_inj n x y (41 :: u) (41 :: v) (by omega) ka kb (ends_41 _) (ends_41 _) h5
          rw [List.cons.injEq] at e4
          exact ⟨CN.ext4 hk e1 e2 (by rw [hx, hy, e3]), e4.2⟩
        · obtain ⟨x, x', hx⟩ : ∃ x x', a.kids = [x, x'] := by
            match hq : a.kids, l2 with
            | [x, x'], _ => exact ⟨x, x', rfl⟩
          obtain ⟨y, y', hy⟩ : ∃ y y', b.kids = [y, y'] := by
            have : b.kids.length = 2 := by omega
            match hq : b.kids, this with
            | [y, y'], _ => exact ⟨y, y', rfl⟩
          rw [hx, hy] at h5
          rw [hx] at ka hbulk
          rw [hy] at kb
          simp only [wfL, Bool.and_true, Bool.and_eq_true] at ka kb
          simp only [bulks] at hbulk
          simp only [textJ, gapT_zero, gapT_pos (show 0 < 0 + 1 by omega), List.nil_append, List.append_nil, List.append_assoc, List.cons_append] at h5
          obtain ⟨e3, e4⟩ := text_inj n x y _ _ (by omega) ka.1 kb.1 (ends_32 _) (ends_32 _) h5
          rw [List.cons.injEq] at e4
          obtain ⟨e5, e6⟩ := text_inj n x' y' (41 :: u) (41 :: v) (by omega) ka.2 kb.2 (ends_41 _) (ends_41 _) e4.2
          rw [List.cons.injEq] at e6
          exact ⟨CN.ext4 hk e1 e2 (by rw [hx, hy, e3, e5]), e6.2⟩

theorem textC_inj {a b : CN} (ha : wfC a = true) (hb : wfC b = true) (h : textC a = textC b) : a = b :=
  (text_inj (a.bulk + 1) a b [] [] (by omega) ha hb ends_nil ends_nil (by rw [h])).1
end

section
open Go.RowKit

theorem textJ_bytes {cs : List CN} (h : ∀ c ∈ cs, ∀ x ∈ textC c, 0 ≤ x ∧ x ≤ 255) : ∀ (i : Nat), ∀ x ∈ textJ i cs, 0 ≤ x ∧ x ≤ 255 := by
  induction cs with
  | nil => intro i x hx; simp [textJ] at hx
  | cons c cs ih =>
    intro i x hx
    simp only [textJ, List.mem_append] at hx
    rcases hx with (hx | hx) | hx
    · unfold gapT at hx; split at hx <;> simp at hx; omega
    · exact h c (by simp) x hx
    · exact ih (fun c hc => h c (by simp [hc])) _ x hx

theorem Rd.memB {lo hi : Nat} {w : World} {a : Option Addr} {n cap : Nat} {zs : List Int} (h : Rd lo hi w a n cap zs) : ∀ x ∈ zs, 0 ≤ x ∧ x ≤ 255 := by
  intro x hx
  obtain ⟨j, hj, rfl⟩ := List.mem_iff_getElem.1 hx
  have := h.byte j
  rwa [List.getD, List.getElem?_eq_getElem hj] at this

theorem textC_bytes {lo hi : Nat} {w : World} : ∀ {d : Nat} {v : Value} {c : CN}, RdC lo hi w d v c → ∀ x ∈ textC c, 0 ≤ x ∧ x ≤ 255 := by
  intro d
  induction d with
  | zero => intro v c h; exact h.elim
  | succ d ih =>
    intro v c h x hx
    obtain ⟨na, nn, nc, ra, rn, rc, ka, kn, kc, _, h1, h2, h3⟩ := h
    have hkids : ∀ c' ∈ c.kids, ∀ x ∈ textC c', 0 ≤ x ∧ x ≤ 255 := by
      intro c' hc'
      obtain ⟨j, hj, rfl⟩ := List.mem_iff_getElem.1 hc'
      rcases h3.cells with h0 | ⟨b, off, _, _, _, hc⟩
      · have := h3.len; omega
      · obtain ⟨v0, v1, v2, v3, _, _, _, _, hr⟩ := hc j (by have := h3.len; omega)
        rw [List.getD, List.getElem?_eq_getElem hj] at hr
        exact ih hr
    rw [textC_eq] at hx
    split at hx
    · exact h1.memB x hx
    · split at hx
      · exact wordOf_byte _ x hx
      · simp only [List.mem_append, List.mem_singleton] at hx
        rcases hx with (((hx | hx) | hx) | hx) | hx
        · exact wordOf_byte _ x hx
        · omega
        · unfold roleT at hx
          split at hx
          · simp at hx
          · simp only [List.mem_append, List.mem_singleton] at hx
            rcases hx with hx | hx
            · exact h2.memB x hx
            · omega
        · exact textJ_bytes hkids _ x hx
        · omega

theorem getD_bytes {zs : List Int} (h : ∀ x ∈ zs, 0 ≤ x ∧ x ≤ 255) : ∀ i, 0 ≤ zs.getD i 0 ∧ zs.getD i 0 ≤ 255 := by
  intro i
  by_cases hi : i < zs.length
  · have := h _ (List.getElem_mem hi)
    simpa [List.getD, hi] using this
  · rw [List.getD, List.getElem?_eq_none (by omega)]; simp

theorem sayW_any : ∀ d, SayC 18 d
  | 0 => fun _ _ _ _ _ _ _ _ h => h.elim
  | d + 1 => sayC_of (sayW_any d)

theorem sayW_nil {d : Nat} {v : Value} {c : CN} {w : World} {lo hi : Nat} (h : RdC lo hi w d v c) (hhi : hi ≤ w.heap.size) (hbk : c.bulk ≤ 1048576) (hwf : wfC c = true) :
    Calls Tryz.prog 18 #[.slice none 0 0, v] w fun e w' => ∃ a n cap, e = .returned (.slice a n cap) ∧ (∃ lo hi, Rd lo hi w' a n cap (textC c) ∧ hi ≤ w'.heap.size) ∧ Below w.heap.size w w' := by
  have htl := textC_len c
  refine (sayW_any d v c (.slice none 0 0) [] w w.heap.size lo hi h hhi (Nat.le_refl _) hwf (OwnB.nil _ _) (by simp; omega)).mono ?_
  rintro e w2 ⟨v2, rfl, hO2, hK2⟩
  have hO : OwnB w.heap.size w2 v2 (textC c) := by simpa using hO2
  obtain ⟨a, cap, _, rfl, hr, _, _, _⟩ := hO.form (getD_bytes (textC_bytes h))
  exact ⟨a, _, cap, rfl, ⟨_, _, hr, Nat.le_refl _⟩, hK2.1⟩

set_option maxRecDepth 100000 in
set_option maxHeartbeats 4000000 in
theorem l2same_any {dA dB : Nat} {vA vB : Value} {a b : CN} {w : World} {loA hiA loB hiB : Nat} (hA : RdC loA hiA w dA vA a) (hB : RdC loB hiB w dB vB b) (hhA : hiA ≤ w.heap.size) (hhB : hiB ≤ w.heap.size) (hbA : a.bulk ≤ 1048576) (hbB : b.bulk ≤ 1048576) (hwA : wfC a = true) (hwB : wfC b = true) :
    Calls Tryz.prog 38 #[vA, vB] w fun e w' => e = .returned (.bool (sameC a b)) ∧ Below w.heap.size w w' := by
  have HRA : Hid (RdC loA hiA w dA vA a) := hA
  have HRB : Hid (RdC loB hiB w dB vB b) := hB
  obtain ⟨kA, naA, nnA, ncA, raA, rnA, rcA, kaA, knA, kcA, rfl⟩ := hA.shape
  obtain ⟨kB, naB, nnB, ncB, raB, rnB, rcB, kaB, knB, kcB, rfl⟩ := hB.shape
  have HBy : Hid ((∀ i, 0 ≤ (textC a).getD i 0 ∧ (textC a).getD i 0 ≤ 255) ∧ (∀ i, 0 ≤ (textC b).getD i 0 ∧ (textC b).getD i 0 ≤ 255)) := ⟨getD_bytes (textC_bytes hA), getD_bytes (textC_bytes hB)⟩
  obtain ⟨W0, hW0⟩ : ∃ W0, W0 = (w.alloc (.cells #[.int .i64 kA, .slice naA nnA ncA, .slice raA rnA rcA, .slice kaA knA kcA] 47)).alloc (.cells #[.int .i64 kB, .slice naB nnB ncB, .slice raB rnB rcB, .slice kaB knB kcB] 47) := ⟨_, rfl⟩
  have HW0 : Hid (W0 = (w.alloc (.cells #[.int .i64 kA, .slice naA nnA ncA, .slice raA rnA rcA, .slice kaA knA kcA] 47)).alloc (.cells #[.int .i64 kB, .slice naB nnB ncB, .slice raB rnB rcB, .slice kaB knB kcB] 47)) := hW0
  have hb0 : Below w.heap.size w W0 := by rw [hW0]; exact ((Below.refl _ _).alloc (Nat.le_refl _) _).alloc (by simp) _
  have HB0 : Hid (Below w.heap.size w W0) := hb0
  have hs0 : W0.heap.size = w.heap.size + 2 := by rw [hW0]; simp
  have hbx : BoxC W0 w.heap.size (.int .i64 kA) (.slice naA nnA ncA) (.slice raA rnA rcA) (.slice kaA knA kcA) := by rw [hW0]; exact (BoxC.new w _ _ _ _).below ((Below.refl _ _).alloc (Nat.le_refl _) _) (by simp)
  have hby : BoxC W0 (w.heap.size + 1) (.int .i64 kB) (.slice naB nnB ncB) (.slice raB rnB rcB) (.slice kaB knB kcB) := by
    rw [hW0]
    have := BoxC.new (w.alloc (.cells #[.int .i64 kA, .slice naA nnA ncA, .slice raA rnA rcA, .slice kaA knA kcA] 47)) (.int .i64 kB) (.slice naB nnB ncB) (.slice raB rnB rcB) (.slice kaB knB kcB)
    rwa [World.size_alloc] at this
  have hsat : ∀ W, Below W0.heap.size W0 W → W.cell? ⟨w.heap.size, 0, none⟩ = some (.int .i64 kA) ∧ W.cell? ⟨w.heap.size, 1, none⟩ = some (.slice naA nnA ncA) ∧ W.cell? ⟨w.heap.size, 2, none⟩ = some (.slice raA rnA rcA) ∧ W.cell? ⟨w.heap.size, 3, none⟩ = some (.slice kaA knA kcA) ∧ W.cell? ⟨w.heap.size + 1, 0, none⟩ = some (.int .i64 kB) ∧ W.cell? ⟨w.heap.size + 1, 1, none⟩ = some (.slice naB nnB ncB) ∧ W.cell? ⟨w.heap.size + 1, 2, none⟩ = some (.slice raB rnB rcB) ∧ W.cell? ⟨w.heap.size + 1, 3, none⟩ = some (.slice kaB knB kcB) := fun W hW => by
    obtain ⟨x0, x1, x2, x3⟩ := (hbx.below hW (by omega)).cells
    obtain ⟨y0, y1, y2, y3⟩ := (hby.below hW (by omega)).cells
    exact ⟨x0, x1, x2, x3, y0, y1, y2, y3⟩
  have HSat : Hid (∀ W, Below W0.heap.size W0 W → W.cell? ⟨w.heap.size, 0, none⟩ = some (.int .i64 kA) ∧ W.cell? ⟨w.heap.size, 1, none⟩ = some (.slice naA nnA ncA) ∧ W.cell? ⟨w.heap.size, 2, none⟩ = some (.slice raA rnA rcA) ∧ W.cell? ⟨w.heap.size, 3, none⟩ = some (.slice kaA knA kcA) ∧ W.cell? ⟨w.heap.size + 1, 0, none⟩ = some (.int .i64 kB) ∧ W.cell? ⟨w.heap.size + 1, 1, none⟩ = some (.slice naB nnB ncB) ∧ W.cell? ⟨w.heap.size + 1, 2, none⟩ = some (.slice raB rnB rcB) ∧ W.cell? ⟨w.heap.size + 1, 3, none⟩ = some (.slice kaB knB kcB)) := hsat
  have HB0d : Hid (Below W0.heap.size W0 W0.drew) := (Below.refl _ _).drew
  have HhA : Hid (a.bulk ≤ 1048576 ∧ b.bulk ≤ 1048576 ∧ wfC a = true ∧ wfC b = true) := ⟨hbA, hbB, hwA, hwB⟩
  obtain ⟨s, hs⟩ : ∃ s, s = strOfNums (textC a) := ⟨_, rfl⟩
  obtain ⟨t, ht⟩ : ∃ t, t = strOfNums (textC b) := ⟨_, rfl⟩
  obtain ⟨r, hr⟩ : ∃ r, r = sameC a b := ⟨_, rfl⟩
  rw [← hr]
  have hE : (s.toList == t.toList) = r := by
    rw [hs, ht, hr, str_inj HBy.out.1 HBy.out.2]
    by_cases e : textC a = textC b
    · rw [textC_inj hwA hwB e]
      simp [(sameC_iff b b).2 rfl]
    · rw [decide_eq_false e]
      cases q : sameC a b
      · rfl
      · exact absurd (by rw [(sameC_iff a b).1 q]) e
  have Hs : Hid (s = strOfNums (textC a)) := hs
  have Ht : Hid (t = strOfNums (textC b)) := ht
  clear hA hB hbA hbB hwA hwB hW0 hb0 hbx hby hsat hs ht hr hs0
  go_enter Tryz.func38, Tryz.ntmps38
  go_upto_region 1 with fail
  rw [← HW0.out]
  first | go_region_held (fun W => W.cell? ⟨w.heap.size, 0, none⟩ = some (.int .i64 kA) ∧ W.cell? ⟨w.heap.size, 1, none⟩ = some (.slice naA nnA ncA) ∧ W.cell? ⟨w.heap.size, 2, none⟩ = some (.slice raA rnA rcA) ∧ W.cell? ⟨w.heap.size, 3, none⟩ = some (.slice kaA knA kcA) ∧ W.cell? ⟨w.heap.size + 1, 0, none⟩ = some (.int .i64 kB) ∧ W.cell? ⟨w.heap.size + 1, 1, none⟩ = some (.slice naB nnB ncB) ∧ W.cell? ⟨w.heap.size + 1, 2, none⟩ = some (.slice raB rnB rcB) ∧ W.cell? ⟨w.heap.size + 1, 3, none⟩ = some (.slice kaB knB kcB)) (first | with_reducible exact HSat.out _ Hw4.out | with_reducible exact HSat.out _ Hw3.out | with_reducible exact HSat.out _ HB0d.out) (first
    | (go_at_call_of 18 kA; refine (sayW_nil (HRA.out.below (HB0.out.trans (HB0d.out.mono HB0.out.size)) hhA) (Nat.le_trans hhA (HB0.out.trans (HB0d.out.mono HB0.out.size)).size) HhA.out.1 HhA.out.2.2.1).mono ?_; rintro e w3 ⟨aA, lA, cA, rfl, hrA, hb3⟩; have Hw3 : Hid (Below W0.heap.size W0 w3) := HB0d.out.trans (hb3.mono HB0d.out.size); have HrA : Hid (∃ lo hi, Rd lo hi w3 aA lA cA (textC a) ∧ hi ≤ w3.heap.size) := hrA; have hcv3 : (convert 28 9 (.slice aA lA cA)).run Tryz.prog w3 = .ok (.string s) w3 := (by obtain ⟨lo, hi, hr, _⟩ := HrA.out; rw [Hs.out]; exact conv_any hr); clear hb3 hrA)
    | (go_at_call_of 18 kB; refine (sayW_nil (HRB.out.below (HB0.out.trans (Hw3.out.mono HB0.out.size)) hhB) (Nat.le_trans hhB (HB0.out.trans (Hw3.out.mono HB0.out.size)).size) HhA.out.2.1 HhA.out.2.2.2).mono ?_; rintro e w4 ⟨aB, lB, cB, rfl, hrB, hb4⟩; have Hw4 : Hid (Below W0.heap.size W0 w4) := Hw3.out.trans (hb4.mono Hw3.out.size); have hcv4 : (convert 28 9 (.slice aA lA cA)).run Tryz.prog w4 = .ok (.string s) w4 := (by obtain ⟨lo, hi, hr, hh⟩ := HrA.out; rw [Hs.out]; exact conv_any (hr.below hb4 hh)); have hcv5 : (convert 28 9 (.slice aB lB cB)).run Tryz.prog w4 = .ok (.string t) w4 := (by obtain ⟨lo, hi, hr, _⟩ := hrB; rw [Ht.out]; exact conv_any hr); clear hb4 hrB)) | fail
  all_goals
    go_wp2_with fail
    go_ret
    exact ⟨by first | rfl | exact rb hE, HB0.out.trans (Hw4.out.mono HB0.out.size)⟩
end

end Go.Proofs.YtknainelonaigaaGreatDoor
