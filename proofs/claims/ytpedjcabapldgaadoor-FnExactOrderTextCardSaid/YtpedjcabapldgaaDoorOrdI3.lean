/- The program's look at the edges of an order: a contract. -/
import Derived.Test.YtpedjcabapldgaaDoorOrdI2
namespace Go.Proofs.YtpedjcabapldgaaDoor
open Go.RowKit

theorem range_all_snoc {f : Nat → Bool} {k : Nat} (h : (List.range k).all f = true) (hk : f k = true) : (List.range (k + 1)).all f = true := by
  rw [List.range_succ, List.all_append, h]; simp [hk]
theorem edg_bad {cn : Int} {xs : List (Int × Int)} {k : Nat} (hk : k < xs.length) (h : edgeAt cn xs k = false) : edgB cn xs = false := by
  unfold edgB
  rw [List.all_eq_false]
  exact ⟨k, by simp [hk], by simp [h]⟩

theorem not_yes {b : Bool} (e : true = !b) : b = false := by cases b <;> first | rfl | cases e
theorem not_no {b : Bool} (e : false = !b) : b = true := by cases b <;> first | rfl | cases e

set_option maxRecDepth 100000 in
set_option maxHeartbeats 4000000 in
theorem edgesFit_any {a : Option Addr} {n cap : Nat} {xs : List (Int × Int)} {w : World} {lo hi : Nat} (cn : Int) (h : RP lo hi w a n cap xs) (hhi : hi ≤ w.heap.size) :
    Calls Tryd.prog 31 #[.slice a n cap, .int .i64 cn] w fun e w' => e = .returned (.bool (decide (n ≤ 50) && edgB cn xs)) ∧ Below w.heap.size w w' := by
  have HR : Hid (RP lo hi w a n cap xs) := h
  have HL : Hid (xs.length = n) := h.len
  have hf := h.fits
  by_cases h7 : 50 < n
  · have HG : Hid (decide (n ≤ 50) = false) := decide_eq_false (by omega)
    have hg0 : (50 : Int) < (n : Int) := by omega
    clear h
    go_enter Tryd.func31, Tryd.ntmps31
    go_wp2_with fail
    go_ret
    exact ⟨rb (by rw [HG.out]; rfl), Below.refl _ _⟩
  · have HG : Hid (decide (n ≤ 50) = true) := decide_eq_true (by omega)
    have hg0 : ¬ (50 : Int) < (n : Int) := by omega
    have H50 : Hid (n ≤ 50) := by unfold Hid; omega
    clear h7 h
    go_enter Tryd.func31, Tryd.ntmps31
    go_upto_region 3 with fail
    clear hg0
    go_wp2_with fail
    go_loopw [12] (fun i wr => ∃ k : Nat, k ≤ n ∧ i = .int .i64 k ∧ (List.range k).all (edgeAt cn xs) = true ∧ Below w.heap.size w wr) (fun i _ => n - (intOf i).toNat)
    case atStart => exact ⟨0, Nat.zero_le _, rfl, by simp, Below.refl _ _⟩
    case round =>
      obtain ⟨k, hk, rfl, hall, hbel⟩ := hrel
      have HAll : Hid ((List.range k).all (edgeAt cn xs) = true) := hall
      have HB : Hid (Below w.heap.size w wr) := hbel
      clear hall
      by_cases hlt : k < n
      · have hR := HR.out.below hbel hhi
        obtain ⟨b, off, rfl⟩ : ∃ b off, a = some ⟨b, off, none⟩ := by
          rcases hR.cells with h0 | ⟨b, off, e, _⟩
          · omega
          · exact ⟨b, off, e⟩
        obtain ⟨c0, c1, hbh⟩ := hR.at hlt
        obtain ⟨t, ht⟩ : ∃ t, t = xs.getD k (0, 0) := ⟨_, rfl⟩
        rw [← ht] at c0 c1
        have HT : Hid (t = xs.getD k (0, 0)) := ht
        obtain ⟨p, q⟩ := t
        have hki : (k : Int) < (n : Int) := by omega
        obtain ⟨W, hW⟩ : ∃ W, W = wr.alloc (.cells #[.int .i64 p, .int .i64 q] 44) := ⟨_, rfl⟩
        have HW : Hid (W = wr.alloc (.cells #[.int .i64 p, .int .i64 q] 44)) := hW
        have HBW : Hid (Below w.heap.size w W) := by unfold Hid; rw [hW]; exact HB.out.alloc HB.out.size _
        have hbx : BoxP 44 W wr.heap.size p q := by rw [hW]; exact BoxP.new _ wr _ _
        have HBx : Hid (BoxP 44 W wr.heap.size p q) := hbx
        obtain ⟨z0, z1⟩ := hbx.cells
        have HAt : Hid (edgeAt cn xs k = (edgeIn cn (p, q) && (decide (k = 0) || edgeLt (xs.getD (k - 1) (0, 0)) (p, q)))) := by unfold Hid edgeAt; rw [← ht]
        have HSt : Hid (edgeAt cn xs k = true → (List.range (k + 1)).all (edgeAt cn xs) = true) := fun h1 => range_all_snoc HAll.out h1
        have HFa : Hid (edgeAt cn xs k = false → edgB cn xs = false) := fun h1 => edg_bad (by rw [HL.out]; exact hlt) h1
        clear hR hbel ht hW hbx
        go_upto_region 6 with fail
        rw [← HW.out]
        clear c0 c1
        cases hp : numB p cn true
        · have HP : Hid (numB p cn true = false) := hp
          have HF : Hid (edgB cn xs = false) := HFa.out (by rw [HAt.out, edgeIn, hp]; rfl)
          clear hp
          go_wp2_with (first | (go_at_call 42; refine (numberFits_any p cn true _).mono ?_; rintro e w5 ⟨rfl, hw5⟩; rw [hw5, HP.out]; clear hw5))
          go_ret
          exact ⟨rb (by rw [HF.out, Bool.and_false]), HBW.out⟩
        · have HP : Hid (numB p cn true = true) := hp
          clear hp
          cases hq : numB q cn true
          · have HQ : Hid (numB q cn true = false) := hq
            have HF : Hid (edgB cn xs = false) := HFa.out (by rw [HAt.out, edgeIn, hq]; simp)
            clear hq
            go_wp2_with (first | (go_at_call_of 42 p; refine (numberFits_any p cn true _).mono ?_; rintro e w5 ⟨rfl, hw5⟩; rw [hw5, HP.out]; clear hw5) | (go_at_call_of 42 q; refine (numberFits_any q cn true _).mono ?_; rintro e w5 ⟨rfl, hw5⟩; rw [hw5, HQ.out]; clear hw5))
            go_ret
            exact ⟨rb (by rw [HF.out, Bool.and_false]), HBW.out⟩
          · have HQ : Hid (numB q cn true = true) := hq
            clear hq
            cases hpq : (p == q)
            · have HPq : Hid ((p == q) = false) := hpq
              have HIn : Hid (edgeIn cn (p, q) = true) := by unfold Hid edgeIn; rw [HP.out, HQ.out, hpq]; rfl
              go_upto_region 8 with (first | (go_at_call_of 42 p; refine (numberFits_any p cn true _).mono ?_; rintro e w5 ⟨rfl, hw5⟩; rw [hw5, HP.out]; clear hw5) | (go_at_call_of 42 q; refine (numberFits_any q cn true _).mono ?_; rintro e w5 ⟨rfl, hw5⟩; rw [hw5, HQ.out]; clear hw5))
              clear hpq
              by_cases hk0 : k = 0
              · have hd0 : decide (0 < k) = false := by simp; omega
                have HE : Hid (edgeAt cn xs k = true) := by rw [Hid, HAt.out, HIn.out, decide_eq_true hk0]; rfl
                clear hk0
                go_quiet (fail)
                go_wp2_with fail
                go_roundw
                case rel => exact ⟨k + 1, by omega, by go_num, HSt.out HE.out, below_drewN HBW.out _⟩
                case measure => simp [intOf]; omega
              · obtain ⟨j, HJ⟩ : ∃ j, Hid (k = j + 1) := ⟨k - 1, by unfold Hid; omega⟩
                have hjn : j < n := by have := HJ.out; omega
                obtain ⟨c2, c3, _⟩ := (HR.out.below HBW.out hhi).at hjn
                obtain ⟨u, hu⟩ : ∃ u, u = xs.getD j (0, 0) := ⟨_, rfl⟩
                rw [← hu] at c2 c3
                have HU : Hid (u = xs.getD (k - 1) (0, 0)) := by unfold Hid; rw [hu, show k - 1 = j from by have := HJ.out; omega]
                obtain ⟨p', q'⟩ := u
                have hd0 : decide (0 < k) = true := by simp; omega
                have hd1 : 0 < k := by omega
                have hj1 : IntKind.i64.wrap ((k : Int) - 1) = (j : Int) := by rw [show (k : Int) - 1 = (j : Int) by have := HJ.out; omega]; exact wrap64_id (by have := H50.out; omega)
                have hj2 : (j : Int) < (n : Int) := by omega
                obtain ⟨cv, hcv⟩ : ∃ cv, orZ (sgn p' p) (sgn q' q) = cv := ⟨_, rfl⟩
                have HCv : Hid (orZ (sgn p' p) (sgn q' q) = cv) := hcv
                have HLt : Hid (decide (0 ≤ cv) = !(edgeLt (p', q') (p, q))) := by unfold Hid; rw [← hcv]; exact orZ_lt (p', q') (p, q)
                clear hk0 hcv hu hjn
                by_cases h0 : 0 ≤ cv
                · have hd2 : decide (0 ≤ cv) = true := decide_eq_true h0
                  have HE : Hid (edgB cn xs = false) := HFa.out (by
                    have e := HLt.out
                    rw [hd2] at e
                    have e2 : edgeLt (p', q') (p, q) = false := not_yes e
                    rw [HAt.out, ← HU.out, e2, decide_eq_false (show ¬ k = 0 by omega)]; simp)
                  go_region_with (first | (go_at_call 43; refine (edgeCmp_any p' q' p q _).mono ?_; rintro e w6 ⟨rfl, hb6⟩; rw [HCv.out]; have HB6 : Hid (Below w.heap.size w w6) := HBW.out.drew.trans (hb6.mono HBW.out.size); clear hb6))
                  all_goals
                    go_wp2_with fail
                    go_ret
                    exact ⟨rb (by rw [HE.out, Bool.and_false]), HB6.out⟩
                · have hd2 : decide (0 ≤ cv) = false := decide_eq_false h0
                  have HE : Hid (edgeAt cn xs k = true) := by
                    have e := HLt.out
                    rw [hd2] at e
                    have e2 : edgeLt (p', q') (p, q) = true := not_no e
                    rw [Hid, HAt.out, ← HU.out, e2, HIn.out]; simp
                  first | go_region_with (first | (go_at_call 43; refine (edgeCmp_any p' q' p q _).mono ?_; rintro e w6 ⟨rfl, hb6⟩; rw [HCv.out]; have HB6 : Hid (Below w.heap.size w w6) := HBW.out.drew.trans (hb6.mono HBW.out.size); clear hb6)) | fail
                  all_goals
                    go_wp2_with fail
                    go_roundw
                    case rel => exact ⟨k + 1, by omega, by go_num, HSt.out HE.out, HB6.out⟩
                    case measure => simp [intOf]; omega
            · have HF : Hid (edgB cn xs = false) := HFa.out (by rw [HAt.out, edgeIn, hpq]; simp)
              go_wp2_with (first | (go_at_call_of 42 p; refine (numberFits_any p cn true _).mono ?_; rintro e w5 ⟨rfl, hw5⟩; rw [hw5, HP.out]; clear hw5) | (go_at_call_of 42 q; refine (numberFits_any q cn true _).mono ?_; rintro e w5 ⟨rfl, hw5⟩; rw [hw5, HQ.out]; clear hw5))
              go_ret
              exact ⟨rb (by rw [HF.out, Bool.and_false]), HBW.out⟩
      · have hkn : k = n := by omega
        have HF : Hid (edgB cn xs = true) := by have := HAll.out; rw [hkn] at this; unfold Hid edgB; rw [HL.out]; exact this
        clear hkn hbel
        go_wp2_with fail
        go_ret
        exact ⟨rb (by rw [HG.out, HF.out]; rfl), HB.out⟩

end Go.Proofs.YtpedjcabapldgaaDoor
