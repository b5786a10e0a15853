/- Several texts in one: ConSame, ConPlace. -/
import Derived.Test.YteeofekpiiahdaaDoorNCon
import Derived.Test.YteeofekpiiahdaaDoorNWords
import Derived.Test.YteeofekpiiahdaaDoorConTo
import Derived.Deep.RegionWith
import Derived.Deep.DeepCutAuto
import Derived.Test.YteeofekpiiahdaaDoorNTell
namespace Go.Proofs.YteeofekpiiahdaaDoor

section
open Go.RowKit

mutual
def sameC : CN → CN → Bool
  | .mk k n r ks, .mk k' n' r' ks' => decide (k = k') && (decide (n = n') && (decide (r = r') && sameL ks ks'))
def sameL : List CN → List CN → Bool
  | [], [] => true
  | a :: xs1, b :: ys1 => sameC a b && sameL xs1 ys1
  | _, _ => false
end

mutual
theorem sameC_iff : ∀ a b : CN, sameC a b = true ↔ a = b
  | .mk k n r ks, .mk k' n' r' ks' => by
    rw [sameC]
    simp only [Bool.and_eq_true, decide_eq_true_eq, sameL_iff ks ks', CN.mk.injEq]
theorem sameL_iff : ∀ xs1 ys1 : List CN, sameL xs1 ys1 = true ↔ xs1 = ys1
  | [], [] => by simp [sameL]
  | a :: xs1, b :: ys1 => by
    rw [sameL, Bool.and_eq_true, sameC_iff a b, sameL_iff xs1 ys1, List.cons.injEq]
  | [], b :: ys1 => by simp [sameL]
  | a :: xs1, [] => by simp [sameL]
end

theorem sameC_eq (c c' : CN) : sameC c c' = (decide (c.kind = c'.kind) && (decide (c.name = c'.name) && (decide (c.role = c'.role) && sameL c.kids c'.kids))) := by
  cases c; cases c'; rw [sameC]; rfl

theorem sameL_false_of {xs1 ys1 : List CN} (h : xs1 ≠ ys1) : sameL xs1 ys1 = false := by
  cases e : sameL xs1 ys1
  · rfl
  · exact absurd ((sameL_iff xs1 ys1).1 e) h

theorem str_inj {xs ys : List Int} (hx : ∀ i, 0 ≤ xs.getD i 0 ∧ xs.getD i 0 ≤ 255) (hy : ∀ i, 0 ≤ ys.getD i 0 ∧ ys.getD i 0 ≤ 255) : ((strOfNums xs).toList == (strOfNums ys).toList) = decide (xs = ys) := by
  have e : ∀ zs : List Int, (strOfNums zs).toList = zs.map (fun n => UInt8.ofNat n.toNat) := fun zs => by rw [ByteArray.toList_eq]; rfl
  rw [e, e]
  by_cases h : xs = ys
  · subst h; simp
  · rw [decide_eq_false h]
    cases hb : (xs.map (fun n : Int => UInt8.ofNat n.toNat) == ys.map (fun n : Int => UInt8.ofNat n.toNat))
    · rfl
    · refine absurd ?_ h
      have hb' := eq_of_beq hb
      have hl : xs.length = ys.length := by have := congrArg List.length hb'; simpa using this
      refine List.ext_getElem hl (fun i h1 h2 => ?_)
      have hi := congrArg (fun l => l[i]?) hb'
      simp only [List.getElem?_map, List.getElem?_eq_getElem h1, List.getElem?_eq_getElem h2, Option.map_some, Option.some.injEq] at hi
      have a1 := hx i
      have a2 := hy i
      simp only [List.getD, List.getElem?_eq_getElem h1, List.getElem?_eq_getElem h2, Option.getD_some] at a1 a2
      have hi' := congrArg UInt8.toNat hi
      simp only [UInt8.toNat_ofNat'] at hi'
      omega

set_option maxRecDepth 100000 in
set_option maxHeartbeats 1000000 in
theorem bytesEqual_any {a a' : Option Addr} {n cap n' cap' : Nat} {xs ys : List Int} {w : World} {lo hi lo' hi' : Nat} (h : Rd lo hi w a n cap xs) (h' : Rd lo' hi' w a' n' cap' ys) : Calls Tryd.prog 89 #[.slice a n cap, .slice a' n' cap'] w fun e w' => e = .returned (.bool (decide (xs = ys))) ∧ w' = w := by
  have hc1 : (convert 36 9 (.slice a n cap)).run Tryd.prog w = .ok (.string (strOfNums xs)) w := conv_any h
  have hc2 : (convert 36 9 (.slice a' n' cap')).run Tryd.prog w = .ok (.string (strOfNums ys)) w := conv_any h'
  have hE := str_inj h.byte h'.byte
  obtain ⟨s, hs⟩ : ∃ s, s = strOfNums xs := ⟨_, rfl⟩
  obtain ⟨t, ht⟩ : ∃ t, t = strOfNums ys := ⟨_, rfl⟩
  obtain ⟨b, hb⟩ : ∃ b, b = decide (xs = ys) := ⟨_, rfl⟩
  rw [← hb]
  rw [← hs] at hc1 hE
  rw [← ht, ← hb] at hE
  rw [← ht] at hc2
  clear h h' hs ht hb
  go_enter Tryd.func89, Tryd.ntmps89
  go_wp2
  go_ret
  exact ⟨by first | rfl | exact rb hE, rfl⟩

def SmC (d : Nat) : Prop := ∀ (v v' : Value) (c c' : CN) (d' : Nat) (w : World) (lo hi lo' hi' : Nat), RdC lo hi w d v c → RdC lo' hi' w d' v' c' → hi ≤ w.heap.size → hi' ≤ w.heap.size →
  Calls Tryd.prog 65 #[v, v'] w fun e w' => e = .returned (.bool (sameC c c')) ∧ Below w.heap.size w w'

def SmL (d d' : Nat) : Prop := ∀ (a : Option Addr) (n cap : Nat) (cs : List CN) (a' : Option Addr) (n' cap' : Nat) (cs' : List CN) (w : World) (lo hi lo' hi' : Nat), RdL (RdC lo hi w d) lo hi w a n cap cs → RdL (RdC lo' hi' w d') lo' hi' w a' n' cap' cs' → hi ≤ w.heap.size → hi' ≤ w.heap.size →
  Calls Tryd.prog 90 #[.slice a n cap, .slice a' n' cap', .func (.func 65) #[] #[]] w fun e w' => e = .returned (.bool (sameL cs cs')) ∧ Below w.heap.size w w'

set_option maxRecDepth 100000 in
set_option maxHeartbeats 2000000 in
theorem smL_of {d d' : Nat} (H : SmC d) : SmL d d' := by
  intro a n cap cs a' n' cap' cs' w lo hi lo' hi' h h' hhi hhi'
  have HR : Hid (RdL (RdC lo hi w d) lo hi w a n cap cs) := h
  have HR' : Hid (RdL (RdC lo' hi' w d') lo' hi' w a' n' cap' cs') := h'
  have HL : Hid (cs.length = n) := h.len
  have HL' : Hid (cs'.length = n') := h'.len
  have hfit := h.fits
  have hfit' := h'.fits
  clear h h'
  by_cases hnn : n = n'
  · subst hnn
    have hb0 : ((n : Int) != (n : Int)) = false := by simp
    go_enter Tryd.func90, Tryd.ntmps90
    go_wp2_with fail
    go_loopw [17] (fun i wr => ∃ j : Nat, j ≤ n ∧ i = .int .i64 j ∧ cs.take j = cs'.take j ∧ Below w.heap.size w wr) (fun i _ => n - (intOf i).toNat)
    case atStart => exact ⟨0, Nat.zero_le _, rfl, by simp, Below.refl _ _⟩
    case round =>
      obtain ⟨j, hj, rfl, htk, hbel⟩ := hrel
      have HT : Hid (cs.take j = cs'.take j) := htk
      have HBe : Hid (Below w.heap.size w wr) := hbel
      by_cases hlt : j < n
      · have hji : (j : Int) < (n : Int) := by omega
        have hjl : j < cs.length := by rw [HL.out]; exact hlt
        have hjl' : j < cs'.length := by rw [HL'.out]; exact hlt
        have hR := HR.out.below hbel hhi
        have hR' := HR'.out.below hbel hhi'
        rcases hR.cells with hz | ⟨b, off, e1, _, hbhi, hc⟩
        · omega
        · rcases hR'.cells with hz | ⟨b', off', e1', _, hbhi', hc'⟩
          · omega
          · subst e1
            subst e1'
            obtain ⟨v0, v1, v2, v3, q0, q1, q2, q3, hrd⟩ := hc j hlt
            obtain ⟨u0, u1, u2, u3, p0, p1, p2, p3, hrd'⟩ := hc' j hlt
            obtain ⟨yk, yna, ynn, ync, yra, yrn, yrc, yka, ykn, ykc, rfl, rfl, rfl, rfl⟩ := hrd.sh.form
            obtain ⟨xk, xna, xnn, xnc, xra, xrn, xrc, xka, xkn, xkc, rfl, rfl, rfl, rfl⟩ := hrd'.sh.form
            have hsz := hbel.size
            have hblt : b < wr.heap.size := by omega
            have hblt' : b' < wr.heap.size := by omega
            obtain ⟨W4, hW4⟩ : ∃ W4, W4 = (wr.alloc (.cells #[.int .i64 yk, .slice yna ynn ync, .slice yra yrn yrc, .slice yka ykn ykc] 42)).alloc (.cells #[.int .i64 xk, .slice xna xnn xnc, .slice xra xrn xrc, .slice xka xkn xkc] 42) := ⟨_, rfl⟩
            have HW4 : Hid (W4 = (wr.alloc (.cells #[.int .i64 yk, .slice yna ynn ync, .slice yra yrn yrc, .slice yka ykn ykc] 42)).alloc (.cells #[.int .i64 xk, .slice xna xnn xnc, .slice xra xrn xrc, .slice xka xkn xkc] 42)) := hW4
            have hb4 : Below wr.heap.size wr W4 := by rw [hW4]; exact ((Below.refl _ _).alloc (Nat.le_refl _) _).alloc (by simp) _
            have HA : Hid (RdC lo hi W4 d (.agg #[.int .i64 yk, .slice yna ynn ync, .slice yra yrn yrc, .slice yka ykn ykc]) (cs.getD j CN.zero)) := hrd.below hb4 (by omega)
            have HA' : Hid (RdC lo' hi' W4 d' (.agg #[.int .i64 xk, .slice xna xnn xnc, .slice xra xrn xrc, .slice xka xkn xkc]) (cs'.getD j CN.zero)) := hrd'.below hb4 (by omega)
            have HB4 : Hid (Below w.heap.size w W4) := hbel.trans (hb4.mono hsz)
            obtain ⟨r, hr⟩ : ∃ r, r = sameC (cs.getD j CN.zero) (cs'.getD j CN.zero) := ⟨_, rfl⟩
            have HRr : Hid (r = sameC (cs.getD j CN.zero) (cs'.getD j CN.zero)) := hr
            clear hR hR' hc hc' hrd hrd' hb4 hW4 hbel htk hr
            go_wp2_with fail
            rw [← HW4.out]
            refine (H _ _ (cs.getD j CN.zero) (cs'.getD j CN.zero) d' W4 lo hi lo' hi' HA.out HA'.out (Nat.le_trans hhi HB4.out.size) (Nat.le_trans hhi' HB4.out.size)).mono ?_
            rintro e w5 ⟨rfl, hb5⟩
            rw [← HRr.out]
            have HB5 : Hid (Below w.heap.size w w5) := HB4.out.trans (hb5.mono HB4.out.size)
            clear hb5
            cases r with
            | false =>
              have HF : Hid (sameL cs cs' = false) := sameL_false_of (fun e => by
                have h1 := HRr.out
                rw [e] at h1
                rw [(sameC_iff _ _).2 rfl] at h1
                cases h1)
              go_wp2_with fail
              go_ret
              exact ⟨rb HF.out.symm, HB5.out⟩
            | true =>
              have HF : Hid (cs.take (j + 1) = cs'.take (j + 1)) := by
                unfold Hid
                rw [take_succ_getD cs CN.zero j hjl, take_succ_getD cs' CN.zero j hjl', HT.out, (sameC_iff _ _).1 HRr.out.symm]
              go_wp2_with fail
              go_roundw
              case rel => exact ⟨j + 1, by omega, by go_num, HF.out, HB5.out⟩
              case measure => simp [intOf]; omega
      · have HF : Hid (sameL cs cs' = true) := (sameL_iff _ _).2 (by
          have h1 := HT.out
          rwa [List.take_of_length_le (by rw [HL.out]; omega), List.take_of_length_le (by rw [HL'.out]; omega)] at h1)
        clear htk hbel
        go_wp2_with fail
        go_ret
        exact ⟨rb HF.out.symm, HBe.out⟩
  · have hb : ((n : Int) != (n' : Int)) = true := by simp; omega
    have HF : Hid (sameL cs cs' = false) := sameL_false_of (fun e => hnn (by rw [← HL.out, ← HL'.out, e]))
    clear hnn
    go_enter Tryd.func90, Tryd.ntmps90
    go_wp2_with fail
    go_ret
    exact ⟨rb HF.out.symm, Below.refl _ _⟩

set_option maxRecDepth 100000 in
set_option maxHeartbeats 4000000 in
theorem smC_of {d : Nat} (H0 : ∀ d0, d = d0 + 1 → ∀ d', SmL d0 d') : SmC d := by
  intro v v' c c' d' w lo hi lo' hi' h h' hhi hhi'
  cases d with
  | zero => exact h.elim
  | succ d =>
    cases d' with
    | zero => exact h'.elim
    | succ d' =>
      have H := H0 d rfl d'
      obtain ⟨na, nn, nc, ra, rn, rc, ka, kn, kc, rfl, hn, hr, hks⟩ := h
      obtain ⟨na', nn', nc', ra', rn', rc', ka', kn', kc', rfl, hn', hr', hks'⟩ := h'
      obtain ⟨k, hk⟩ : ∃ k, k = c.kind := ⟨_, rfl⟩
      obtain ⟨k', hk'⟩ : ∃ k, k = c'.kind := ⟨_, rfl⟩
      rw [← hk, ← hk']
      have HZ : Hid (sameC c c' = (decide (k = k') && (decide (c.name = c'.name) && (decide (c.role = c'.role) && sameL c.kids c'.kids)))) := by unfold Hid; rw [hk, hk']; exact sameC_eq c c'
      obtain ⟨W0, hW0⟩ : ∃ W0, W0 = (w.alloc (.cells #[.int .i64 k, .slice na nn nc, .slice ra rn rc, .slice ka kn kc] 42)).alloc (.cells #[.int .i64 k', .slice na' nn' nc', .slice ra' rn' rc', .slice ka' kn' kc'] 42) := ⟨_, rfl⟩
      have HW0 : Hid (W0 = (w.alloc (.cells #[.int .i64 k, .slice na nn nc, .slice ra rn rc, .slice ka kn kc] 42)).alloc (.cells #[.int .i64 k', .slice na' nn' nc', .slice ra' rn' rc', .slice ka' kn' kc'] 42)) := hW0
      have HB : Hid (Below w.heap.size w W0) := by rw [hW0]; exact ((Below.refl _ _).alloc (Nat.le_refl _) _).alloc (by simp) _
      have hbx : BoxC W0 w.heap.size (.int .i64 k) (.slice na nn nc) (.slice ra rn rc) (.slice ka kn kc) := by rw [hW0]; exact (BoxC.new w _ _ _ _).below ((Below.refl _ _).alloc (Nat.le_refl _) _) (by simp)
      have hby : BoxC W0 (w.heap.size + 1) (.int .i64 k') (.slice na' nn' nc') (.slice ra' rn' rc') (.slice ka' kn' kc') := by
        rw [hW0]
        have := BoxC.new (w.alloc (.cells #[.int .i64 k, .slice na nn nc, .slice ra rn rc, .slice ka kn kc] 42)) (.int .i64 k') (.slice na' nn' nc') (.slice ra' rn' rc') (.slice ka' kn' kc')
        rwa [World.size_alloc] at this
      obtain ⟨z0, z1, z2, z3⟩ := hbx.cells
      obtain ⟨y0, y1, y2, y3⟩ := hby.cells
      have HN : Hid (Rd lo hi w na nn nc c.name) := hn
      have HR : Hid (Rd lo hi w ra rn rc c.role) := hr
      have HKs : Hid (RdL (RdC lo hi w d) lo hi w ka kn kc c.kids) := hks
      have HN' : Hid (Rd lo' hi' w na' nn' nc' c'.name) := hn'
      have HR' : Hid (Rd lo' hi' w ra' rn' rc' c'.role) := hr'
      have HKs' : Hid (RdL (RdC lo' hi' w d') lo' hi' w ka' kn' kc' c'.kids) := hks'
      clear hk hk' hn hr hks hn' hr' hks' hW0 hbx hby H0
      by_cases h0 : k = k'
      · have b0 : (k == k') = true := by simpa using h0
        cases hNn : decide (c.name = c'.name)
        · have HE : Hid (sameC c c' = false) := by unfold Hid; rw [HZ.out]; simp [hNn]
          clear h0
          go_enter Tryd.func65, Tryd.ntmps65
          go_upto_region 1 with fail
          rw [← HW0.out]
          go_wp2_with (first | (go_at_call_of 89 na; refine (bytesEqual_any (HN.out.below HB.out hhi) (HN'.out.below HB.out hhi')).mono ?_; rintro e w' ⟨rfl, hw⟩; rw [hw, hNn]; clear hw) | (go_at_call_of 89 ra; refine (bytesEqual_any (HR.out.below HB.out hhi) (HR'.out.below HB.out hhi')).mono ?_; rintro e w' ⟨rfl, hw⟩; rw [hw, hRr]; clear hw) | (go_at_call 90; refine (H ka kn kc c.kids ka' kn' kc' c'.kids W0 lo hi lo' hi' (HKs.out.below HB.out hhi) (HKs'.out.below HB.out hhi') (Nat.le_trans hhi HB.out.size) (Nat.le_trans hhi' HB.out.size)).mono ?_; rintro e w1 ⟨rfl, hb1⟩; rw [hKk]; have HB1 : Hid (Below w.heap.size w w1) := HB.out.trans (hb1.mono HB.out.size); clear hb1))
          go_ret
          exact ⟨rb HE.out.symm, by first | exact HB1.out | exact HB.out⟩
        · cases hRr : decide (c.role = c'.role)
          · have HE : Hid (sameC c c' = false) := by unfold Hid; rw [HZ.out]; simp [hRr]
            clear h0
            go_enter Tryd.func65, Tryd.ntmps65
            go_upto_region 1 with fail
            rw [← HW0.out]
            go_wp2_with (first | (go_at_call_of 89 na; refine (bytesEqual_any (HN.out.below HB.out hhi) (HN'.out.below HB.out hhi')).mono ?_; rintro e w' ⟨rfl, hw⟩; rw [hw, hNn]; clear hw) | (go_at_call_of 89 ra; refine (bytesEqual_any (HR.out.below HB.out hhi) (HR'.out.below HB.out hhi')).mono ?_; rintro e w' ⟨rfl, hw⟩; rw [hw, hRr]; clear hw) | (go_at_call 90; refine (H ka kn kc c.kids ka' kn' kc' c'.kids W0 lo hi lo' hi' (HKs.out.below HB.out hhi) (HKs'.out.below HB.out hhi') (Nat.le_trans hhi HB.out.size) (Nat.le_trans hhi' HB.out.size)).mono ?_; rintro e w1 ⟨rfl, hb1⟩; rw [hKk]; have HB1 : Hid (Below w.heap.size w w1) := HB.out.trans (hb1.mono HB.out.size); clear hb1))
            go_ret
            exact ⟨rb HE.out.symm, by first | exact HB1.out | exact HB.out⟩
          · cases hKk : sameL c.kids c'.kids
            · have HE : Hid (sameC c c' = false) := by unfold Hid; rw [HZ.out]; simp [hKk]
              clear h0
              go_enter Tryd.func65, Tryd.ntmps65
              go_upto_region 1 with fail
              rw [← HW0.out]
              go_wp2_with (first | (go_at_call_of 89 na; refine (bytesEqual_any (HN.out.below HB.out hhi) (HN'.out.below HB.out hhi')).mono ?_; rintro e w' ⟨rfl, hw⟩; rw [hw, hNn]; clear hw) | (go_at_call_of 89 ra; refine (bytesEqual_any (HR.out.below HB.out hhi) (HR'.out.below HB.out hhi')).mono ?_; rintro e w' ⟨rfl, hw⟩; rw [hw, hRr]; clear hw) | (go_at_call 90; refine (H ka kn kc c.kids ka' kn' kc' c'.kids W0 lo hi lo' hi' (HKs.out.below HB.out hhi) (HKs'.out.below HB.out hhi') (Nat.le_trans hhi HB.out.size) (Nat.le_trans hhi' HB.out.size)).mono ?_; rintro e w1 ⟨rfl, hb1⟩; rw [hKk]; have HB1 : Hid (Below w.heap.size w w1) := HB.out.trans (hb1.mono HB.out.size); clear hb1))
              go_ret
              exact ⟨rb HE.out.symm, by first | exact HB1.out | exact HB.out⟩
            · have HE : Hid (sameC c c' = true) := by unfold Hid; rw [HZ.out]; simp [h0, hNn, hRr, hKk]
              clear h0
              go_enter Tryd.func65, Tryd.ntmps65
              go_upto_region 1 with fail
              rw [← HW0.out]
              go_wp2_with (first | (go_at_call_of 89 na; refine (bytesEqual_any (HN.out.below HB.out hhi) (HN'.out.below HB.out hhi')).mono ?_; rintro e w' ⟨rfl, hw⟩; rw [hw, hNn]; clear hw) | (go_at_call_of 89 ra; refine (bytesEqual_any (HR.out.below HB.out hhi) (HR'.out.below HB.out hhi')).mono ?_; rintro e w' ⟨rfl, hw⟩; rw [hw, hRr]; clear hw) | (go_at_call 90; refine (H ka kn kc c.kids ka' kn' kc' c'.kids W0 lo hi lo' hi' (HKs.out.below HB.out hhi) (HKs'.out.below HB.out hhi') (Nat.le_trans hhi HB.out.size) (Nat.le_trans hhi' HB.out.size)).mono ?_; rintro e w1 ⟨rfl, hb1⟩; rw [hKk]; have HB1 : Hid (Below w.heap.size w w1) := HB.out.trans (hb1.mono HB.out.size); clear hb1))
              go_ret
              exact ⟨rb HE.out.symm, by first | exact HB1.out | exact HB.out⟩
      · have b0 : (k == k') = false := by simpa using h0
        have HE : Hid (sameC c c' = false) := by unfold Hid; rw [HZ.out]; simp [h0]
        clear h0
        go_enter Tryd.func65, Tryd.ntmps65
        go_upto_region 1 with fail
        rw [← HW0.out]
        go_wp2_with fail
        go_ret
        exact ⟨rb HE.out.symm, HB.out⟩

theorem smC_any : ∀ d, SmC d
  | 0 => smC_of (fun d0 h => by omega)
  | d + 1 => smC_of (fun d0 h d' => by obtain rfl : d = d0 := (by omega); exact smL_of (smC_any d))
end

section
open Go.RowKit

def placeC (l : List CN) (c : CN) : Int := match (List.range l.length).find? (fun i => sameC (l.getD i CN.zero) c) with | some i => (i : Int) | none => -1
/-- None of the first j is alike. -/
def noneC (l : List CN) (c : CN) (j : Nat) : Prop := ∀ i, i < j → sameC (l.getD i CN.zero) c = false

theorem noneC_zero (l : List CN) (c : CN) : noneC l c 0 := fun i hi => by omega
theorem noneC_succ {l : List CN} {c : CN} {j : Nat} (h : noneC l c j) (e : sameC (l.getD j CN.zero) c = false) : noneC l c (j + 1) := fun i hi => by
  by_cases e' : i = j
  · subst e'; exact e
  · exact h i (by omega)

theorem placeC_some {l : List CN} {c : CN} {j : Nat} (hj : j < l.length) (e : sameC (l.getD j CN.zero) c = true) (h : noneC l c j) : placeC l c = j := by
  unfold placeC
  rw [List.find?_range_eq_some.2 ⟨e, by simpa using hj, fun i hi => by rw [h i hi]; rfl⟩]

theorem placeC_none {l : List CN} {c : CN} (h : noneC l c l.length) : placeC l c = -1 := by
  unfold placeC
  rw [List.find?_eq_none.2 (fun i hi => by rw [h i (List.mem_range.1 hi)]; simp)]

set_option maxRecDepth 100000 in
set_option maxHeartbeats 4000000 in
theorem alike_any {d d' lo hi lo' hi' pb : Nat} {v p0 p1 p2 p3 : Value} {x c : CN} {w : World} (h : RdC lo hi w d v x) (h' : RdC lo' hi' w d' (.agg #[p0, p1, p2, p3]) c) (hhi : hi ≤ w.heap.size) (hhi' : hi' ≤ w.heap.size) (hbx : BoxC w pb p0 p1 p2 p3) :
    Calls Tryd.prog 64 #[v, .pointer (some ⟨pb, 0, none⟩)] w fun e w' => e = .returned (.bool (sameC x c)) ∧ Below w.heap.size w w' := by
  have HRd : Hid (RdC lo hi w d v x) := h
  have HRd' : Hid (RdC lo' hi' w d' (.agg #[p0, p1, p2, p3]) c) := h'
  obtain ⟨k, na, nn, nc, ra, rn, rc, ka, kn, kc, rfl⟩ := h.shape
  obtain ⟨pk, pna, pnn, pnc, pra, prn, prc, pka, pkn, pkc, rfl, rfl, rfl, rfl⟩ := h'.form4
  obtain ⟨W0, hW0⟩ : ∃ W0, W0 = w.alloc (.cells #[.int .i64 k, .slice na nn nc, .slice ra rn rc, .slice ka kn kc] 42) := ⟨_, rfl⟩
  have HW0 : Hid (W0 = w.alloc (.cells #[.int .i64 k, .slice na nn nc, .slice ra rn rc, .slice ka kn kc] 42)) := hW0
  have hb0 : Below w.heap.size w W0 := by rw [hW0]; exact (Below.refl _ _).alloc (Nat.le_refl _) _
  have HB0 : Hid (Below w.heap.size w W0) := hb0
  have hl0 : w.heap.size < W0.heap.size := by rw [hW0]; simp
  have hbx0 : BoxC W0 w.heap.size (.int .i64 k) (.slice na nn nc) (.slice ra rn rc) (.slice ka kn kc) := by rw [hW0]; exact BoxC.new w _ _ _ _
  obtain ⟨b0, b1, b2, b3⟩ := hbx0.cells
  obtain ⟨q0, q1, q2, q3⟩ := (hbx.below hb0 hbx.lt).cells
  have HA : Hid (RdC lo hi W0 d (.agg #[.int .i64 k, .slice na nn nc, .slice ra rn rc, .slice ka kn kc]) x) := h.below hb0 hhi
  have HC : Hid (RdC lo' hi' W0 d' (.agg #[.int .i64 pk, .slice pna pnn pnc, .slice pra prn prc, .slice pka pkn pkc]) c) := h'.below hb0 hhi'
  have hh0 : hi ≤ W0.heap.size := by omega
  have hh1 : hi' ≤ W0.heap.size := by omega
  obtain ⟨r, hr⟩ : ∃ r, r = sameC x c := ⟨_, rfl⟩
  have HR : Hid (r = sameC x c) := hr
  clear hb0 hW0 hbx0 h h' hr hbx
  go_enter Tryd.func64, Tryd.ntmps64
  go_upto_region 1 with fail
  rw [← HW0.out]
  go_wp2_with fail
  refine (smC_any d _ _ x c d' W0 lo hi lo' hi' HA.out HC.out hh0 hh1).mono ?_
  rintro e w5 ⟨rfl, hb5⟩
  rw [← HR.out]
  have HB5 : Hid (Below w.heap.size w w5) := HB0.out.trans (hb5.mono (by omega))
  clear hb5
  go_wp2_with fail
  go_ret
  exact ⟨by rw [← HR.out]; rfl, HB5.out⟩

set_option maxRecDepth 100000 in
set_option maxHeartbeats 4000000 in
theorem indexAlike_any {d d' lo hi lo' hi' pb n cap : Nat} {a : Option Addr} {p0 p1 p2 p3 : Value} {cs : List CN} {c : CN} {w : World} (h : RdL (RdC lo hi w d) lo hi w a n cap cs) (h' : RdC lo' hi' w d' (.agg #[p0, p1, p2, p3]) c) (hhi : hi ≤ w.heap.size) (hhi' : hi' ≤ w.heap.size) (hbx : BoxC w pb p0 p1 p2 p3) (hn : n ≤ 1048576) :
    Calls Tryd.prog 63 #[.slice a n cap, .func (.func 64) #[] #[.pointer (some ⟨pb, 0, none⟩)]] w fun e w' => e = .returned (.int .i64 (placeC cs c)) ∧ Below w.heap.size w w' := by
  have HL : Hid (RdL (RdC lo hi w d) lo hi w a n cap cs) := h
  have HC : Hid (RdC lo' hi' w d' (.agg #[p0, p1, p2, p3]) c) := h'
  have HBx : Hid (BoxC w pb p0 p1 p2 p3) := hbx
  have HLn : Hid (cs.length = n) := h.len
  have hpl : pb < w.heap.size := hbx.lt
  clear h h' hbx
  go_enter Tryd.func63, Tryd.ntmps63
  go_upto_region 2 with fail
  go_loopw [8] (fun i wr => ∃ j : Nat, j ≤ n ∧ i = .int .i64 j ∧ noneC cs c j ∧ Below w.heap.size w wr) (fun i _ => n - (intOf i).toNat)
  case atStart => exact ⟨0, Nat.zero_le _, rfl, noneC_zero cs c, Below.refl _ _⟩
  case round =>
    obtain ⟨j, hj, rfl, hnot, hbel⟩ := hrel
    have HNt : Hid (noneC cs c j) := hnot
    have HBe : Hid (Below w.heap.size w wr) := hbel
    have hszr := hbel.size
    by_cases hlt : j < n
    · have hji : (j : Int) < (n : Int) := by omega
      have hjl : j < cs.length := by rw [HLn.out]; exact hlt
      have hR := HL.out.same (Same.of_below hbel hhi)
      rcases hR.cells with e | ⟨b, off, rfl, _, _, hc⟩
      · omega
      · obtain ⟨v0, v1, v2, v3, q0, q1, q2, q3, hrd⟩ := hc j hlt
        have HEl : Hid (RdC lo hi wr d (.agg #[v0, v1, v2, v3]) (cs.getD j CN.zero)) := hrd
        have HCw : Hid (RdC lo' hi' wr d' (.agg #[p0, p1, p2, p3]) c) := HC.out.below hbel hhi'
        have HBw : Hid (BoxC wr pb p0 p1 p2 p3) := HBx.out.below hbel hpl
        have hh1 : hi ≤ wr.heap.size := by omega
        have hh2 : hi' ≤ wr.heap.size := by omega
        obtain ⟨r, hr⟩ : ∃ r, r = sameC (cs.getD j CN.zero) c := ⟨_, rfl⟩
        have HRr : Hid (r = sameC (cs.getD j CN.zero) c) := hr
        clear hR hc hrd hr hnot hbel
        go_wp2_with fail
        refine (alike_any HEl.out HCw.out hh1 hh2 HBw.out).mono ?_
        rintro e w5 ⟨rfl, hb5⟩
        rw [← HRr.out]
        have HB5 : Hid (Below w.heap.size w w5) := HBe.out.trans (hb5.mono hszr)
        clear hb5
        cases r with
        | true =>
          have HP : Hid (placeC cs c = j) := placeC_some hjl HRr.out.symm HNt.out
          go_wp2_with fail
          go_ret
          exact ⟨by rw [HP.out]; rfl, HB5.out⟩
        | false =>
          have HF : Hid (noneC cs c (j + 1)) := noneC_succ HNt.out HRr.out.symm
          go_wp2_with fail
          go_roundw
          case rel => exact ⟨j + 1, by omega, by go_num, HF.out, HB5.out⟩
          case measure => simp [intOf]; omega
    · have HP : Hid (placeC cs c = -1) := placeC_none (by rw [HLn.out, show n = j by omega]; exact HNt.out)
      clear hnot hbel
      go_wp2_with fail
      go_ret
      exact ⟨by rw [HP.out]; rfl, HBe.out⟩

set_option maxRecDepth 100000 in
set_option maxHeartbeats 4000000 in
theorem conIn_any {d d' lo hi lo' hi' n cap : Nat} {a : Option Addr} {v : Value} {cs : List CN} {c : CN} {w : World} (h : RdL (RdC lo hi w d) lo hi w a n cap cs) (h' : RdC lo' hi' w d' v c) (hhi : hi ≤ w.heap.size) (hhi' : hi' ≤ w.heap.size) (hn : n ≤ 1048576) :
    Calls Tryd.prog 38 #[.slice a n cap, v] w fun e w' => e = .returned (.int .i64 (placeC cs c)) ∧ Below w.heap.size w w' := by
  obtain ⟨k, na, nn, nc, ra, rn, rc, ka, kn, kc, rfl⟩ := h'.shape
  obtain ⟨W0, hW0⟩ : ∃ W0, W0 = w.alloc (.cells #[.int .i64 k, .slice na nn nc, .slice ra rn rc, .slice ka kn kc] 42) := ⟨_, rfl⟩
  have HW0 : Hid (W0 = w.alloc (.cells #[.int .i64 k, .slice na nn nc, .slice ra rn rc, .slice ka kn kc] 42)) := hW0
  have hb0 : Below w.heap.size w W0 := by rw [hW0]; exact (Below.refl _ _).alloc (Nat.le_refl _) _
  have HB0 : Hid (Below w.heap.size w W0) := hb0
  have hl0 : w.heap.size < W0.heap.size := by rw [hW0]; simp
  have HBx : Hid (BoxC W0 w.heap.size (.int .i64 k) (.slice na nn nc) (.slice ra rn rc) (.slice ka kn kc)) := by unfold Hid; rw [hW0]; exact BoxC.new w _ _ _ _
  have HL : Hid (RdL (RdC lo hi W0 d) lo hi W0 a n cap cs) := h.same (Same.of_below hb0 hhi)
  have HC : Hid (RdC lo' hi' W0 d' (.agg #[.int .i64 k, .slice na nn nc, .slice ra rn rc, .slice ka kn kc]) c) := h'.below hb0 hhi'
  clear h h' hW0 hb0
  go_enter Tryd.func38, Tryd.ntmps38
  go_upto_region 1 with fail
  rw [← HW0.out]
  go_wp2_with fail
  refine (indexAlike_any HL.out HC.out (by omega) (by omega) HBx.out hn).mono ?_
  rintro e w5 ⟨rfl, hb5⟩
  obtain ⟨r, hr⟩ : ∃ r, r = placeC cs c := ⟨_, rfl⟩
  rw [← hr]
  have HR : Hid (r = placeC cs c) := hr
  have HB5 : Hid (Below w.heap.size w w5) := HB0.out.trans (hb5.mono (by omega))
  clear hb5 hr
  go_wp2_with fail
  go_ret
  exact ⟨by rw [← HR.out]; rfl, HB5.out⟩
end

end Go.Proofs.YteeofekpiiahdaaDoor
