/- Atoms that may be, no two alike, as the program looks: a contract. -/
import Derived.Test.YtknainelonaigaaGreatDoorClsS3
import Derived.Test.YtknainelonaigaaGreatDoorNSame
import Derived.Test.YtknainelonaigaaGreatDoorConOkImpl
namespace Go.Proofs.YtknainelonaigaaGreatDoor
open Go.RowKit

theorem sameC_refl (c : CN) : sameC c c = true := (sameC_iff c c).2 rfl

/-- The first one alike stands at or ahead of it. -/
theorem first_alike (l : List CN) (i : Nat) : ∃ m, m ≤ i ∧ noneC l (l.getD i CN.zero) m ∧ sameC (l.getD m CN.zero) (l.getD i CN.zero) = true := by
  have key : ∀ j, j ≤ i → noneC l (l.getD i CN.zero) j ∨ ∃ m, m < j ∧ noneC l (l.getD i CN.zero) m ∧ sameC (l.getD m CN.zero) (l.getD i CN.zero) = true := by
    intro j
    induction j with
    | zero => intro _; exact .inl (noneC_zero _ _)
    | succ j ih =>
      intro hj
      rcases ih (by omega) with h | ⟨m, h1, h2, h3⟩
      · cases hs : sameC (l.getD j CN.zero) (l.getD i CN.zero) with
        | true => exact .inr ⟨j, by omega, h, hs⟩
        | false => exact .inl (noneC_succ h hs)
      · exact .inr ⟨m, by omega, h2, h3⟩
  rcases key i (Nat.le_refl _) with h | ⟨m, h1, h2, h3⟩
  · exact ⟨i, Nat.le_refl _, h, sameC_refl _⟩
  · exact ⟨m, by omega, h2, h3⟩

theorem place_self {l : List CN} {i : Nat} (hi : i < l.length) : (placeC l (l.getD i CN.zero) = i) ↔ ∀ m, m < i → sameC (l.getD m CN.zero) (l.getD i CN.zero) = false := by
  obtain ⟨m, h1, h2, h3⟩ := first_alike l i
  have hp := placeC_some (by omega : m < l.length) h3 h2
  constructor
  · intro e
    have : m = i := by omega
    subst this
    exact h2
  · intro h
    by_cases e : m = i
    · subst e; exact hp
    · have := h m (by omega)
      rw [h3] at this
      cases this

set_option maxRecDepth 100000 in
set_option maxHeartbeats 1000000 in
theorem badC_any {d lo hi : Nat} {v : Value} {c : CN} {w : World} (h : RdC lo hi w d v c) (hhi : hi ≤ w.heap.size) (hbk : c.bulk ≤ 1048576) :
    Calls Tryz.prog 72 #[v] w fun e w' => e = .returned (.bool (!conOk c)) ∧ Below w.heap.size w w' := by
  have HRd : Hid (RdC lo hi w d v c) := h
  obtain ⟨k, na, nn, nc, ra, rn, rc, ka, kn, kc, rfl⟩ := h.shape
  obtain ⟨W0, hW0⟩ : ∃ W0, W0 = w.alloc (.cells #[.int .i64 k, .slice na nn nc, .slice ra rn rc, .slice ka kn kc] 47) := ⟨_, rfl⟩
  have HW0 : Hid (W0 = w.alloc (.cells #[.int .i64 k, .slice na nn nc, .slice ra rn rc, .slice ka kn kc] 47)) := hW0
  have hb0 : Below w.heap.size w W0 := by rw [hW0]; exact (Below.refl _ _).alloc (Nat.le_refl _) _
  have HB0 : Hid (Below w.heap.size w W0) := hb0
  have hbx0 : BoxC W0 w.heap.size (.int .i64 k) (.slice na nn nc) (.slice ra rn rc) (.slice ka kn kc) := by rw [hW0]; exact BoxC.new w _ _ _ _
  obtain ⟨b0, b1, b2, b3⟩ := hbx0.cells
  have HA : Hid (RdC lo hi W0 d (.agg #[.int .i64 k, .slice na nn nc, .slice ra rn rc, .slice ka kn kc]) c) := h.below hb0 hhi
  have hh0 : hi ≤ W0.heap.size := Nat.le_trans hhi hb0.size
  clear hb0 hW0 hbx0 h
  go_enter Tryz.func72, Tryz.ntmps72
  go_upto_region 1 with fail
  rw [← HW0.out]
  go_wp2_with fail
  refine (implConOk_any HA.out hh0 hbk).mono ?_
  rintro e w5 ⟨rfl, hb5⟩
  have HB5 : Hid (Below w.heap.size w w5) := HB0.out.trans (hb5.mono HB0.out.size)
  clear hb5
  go_wp2_with fail
  go_ret
  exact ⟨rfl, HB5.out⟩

set_option maxRecDepth 100000 in
set_option maxHeartbeats 2000000 in
theorem indexBad_any {d lo hi n cap : Nat} {a : Option Addr} {cs : List CN} {w : World} (h : RdL (RdC lo hi w d) lo hi w a n cap cs) (hhi : hi ≤ w.heap.size) (hbk : bulks cs ≤ 1048576) (hn : n ≤ 1048576) :
    Calls Tryz.prog 92 #[.slice a n cap, .func (.func 72) #[] #[]] w fun e w' => ∃ r : Int, e = .returned (.int .i64 r) ∧ ((0 ≤ r ∧ cs.all conOk = false) ∨ (r < 0 ∧ cs.all conOk = true)) ∧ Below w.heap.size w w' := by
  have HL : Hid (RdL (RdC lo hi w d) lo hi w a n cap cs) := h
  have HLn : Hid (cs.length = n) := h.len
  have HBk : Hid (bulks cs ≤ 1048576) := hbk
  clear h hbk
  go_enter Tryz.func92, Tryz.ntmps92
  go_upto_region 2 with fail
  go_loopw [8] (fun i wr => ∃ j : Nat, j ≤ n ∧ i = .int .i64 j ∧ (∀ m, m < j → conOk (cs.getD m CN.zero) = true) ∧ Below w.heap.size w wr) (fun i _ => n - (intOf i).toNat)
  case atStart => exact ⟨0, Nat.zero_le _, rfl, fun m hm => absurd hm (by omega), Below.refl _ _⟩
  case round =>
    obtain ⟨j, hj, rfl, hnot, hbel⟩ := hrel
    have HNt : Hid (∀ m, m < j → conOk (cs.getD m CN.zero) = true) := hnot
    have HBe : Hid (Below w.heap.size w wr) := hbel
    have hszr := hbel.size
    by_cases hlt : j < n
    · have hji : (j : Int) < (n : Int) := by omega
      have hjl : j < cs.length := by rw [HLn.out]; exact hlt
      have hR := HL.out.same (Same.of_below hbel hhi)
      rcases hR.cells with e | ⟨b, off, rfl, _, _, hc⟩
      · omega
      · obtain ⟨v0, v1, v2, v3, q0, q1, q2, q3, hrd⟩ := hc j hlt
        have HEl : Hid (RdC lo hi wr d (.agg #[v0, v1, v2, v3]) (cs.getD j CN.zero)) := hrd
        have hh1 : hi ≤ wr.heap.size := by omega
        have HCb : Hid ((cs.getD j CN.zero).bulk ≤ 1048576) := by unfold Hid; have := getD_bulk_le cs j hjl; have := HBk.out; omega
        obtain ⟨r, hr⟩ : ∃ r, r = conOk (cs.getD j CN.zero) := ⟨_, rfl⟩
        have HRr : Hid (r = conOk (cs.getD j CN.zero)) := hr
        clear hR hc hrd hr hnot hbel
        go_wp2_with fail
        refine (badC_any HEl.out hh1 HCb.out).mono ?_
        rintro e w5 ⟨rfl, hb5⟩
        rw [← HRr.out]
        have HB5 : Hid (Below w.heap.size w w5) := HBe.out.trans (hb5.mono hszr)
        clear hb5
        cases r with
        | false =>
          have HP : Hid (cs.all conOk = false) := all_not (d := CN.zero) hjl HRr.out.symm
          go_wp2_with fail
          go_ret
          exact ⟨_, rfl, .inl ⟨by omega, HP.out⟩, HB5.out⟩
        | true =>
          have HF : Hid (∀ m, m < j + 1 → conOk (cs.getD m CN.zero) = true) := fun m hm => by
            by_cases e : m = j
            · subst e; exact HRr.out.symm
            · exact HNt.out m (by omega)
          go_wp2_with fail
          go_roundw
          case rel => exact ⟨j + 1, by omega, by go_num, HF.out, HB5.out⟩
          case measure => simp [intOf]; omega
    · have HP : Hid (cs.all conOk = true) := all_take (d := CN.zero) HLn.out (fun m hm => hnot m (by omega))
      clear hnot hbel
      go_wp2_with fail
      go_ret
      exact ⟨-1, rfl, .inr ⟨by omega, HP.out⟩, HBe.out⟩

set_option maxRecDepth 100000 in
set_option maxHeartbeats 1000000 in
theorem hasBad_any {d lo hi n cap : Nat} {a : Option Addr} {cs : List CN} {w : World} (h : RdL (RdC lo hi w d) lo hi w a n cap cs) (hhi : hi ≤ w.heap.size) (hbk : bulks cs ≤ 1048576) (hn : n ≤ 1048576) :
    Calls Tryz.prog 71 #[.slice a n cap, .func (.func 72) #[] #[]] w fun e w' => e = .returned (.bool (!cs.all conOk)) ∧ Below w.heap.size w w' := by
  go_enter Tryz.func71, Tryz.ntmps71
  go_wp2_with fail
  refine (indexBad_any h hhi hbk hn).mono ?_
  rintro e w1 ⟨r, rfl, hr, hb⟩
  have HR : Hid ((0 ≤ r ∧ cs.all conOk = false) ∨ (r < 0 ∧ cs.all conOk = true)) := hr
  have HB : Hid (Below w.heap.size w w1) := hb
  clear hr hb h hbk
  go_wp2_with fail
  go_ret
  refine ⟨rb ?_, HB.out⟩
  rcases HR.out with ⟨h1, h2⟩ | ⟨h1, h2⟩
  · rw [h2]; exact decide_eq_true h1
  · rw [h2]; exact decide_eq_false (by omega)

set_option maxRecDepth 100000 in
set_option maxHeartbeats 4000000 in
theorem atomsFit_any {d lo hi n cap : Nat} {a : Option Addr} {cs : List CN} {w : World} (h : RdL (RdC lo hi w d) lo hi w a n cap cs) (hhi : hi ≤ w.heap.size) (hbk : bulks cs ≤ 1048576) (hn : n ≤ 1048576) :
    Calls Tryz.prog 46 #[.slice a n cap] w fun e w' => e = .returned (.bool (decide (n ≤ 24) && atomsB cs)) ∧ Below w.heap.size w w' := by
  have HL : Hid (RdL (RdC lo hi w d) lo hi w a n cap cs) := h
  have HLn : Hid (cs.length = n) := h.len
  have HBk : Hid (bulks cs ≤ 1048576) := hbk
  have hf := h.fits
  clear h hbk
  by_cases c1 : 24 < n
  · have HE : Hid ((decide (n ≤ 24) && atomsB cs) = false) := by unfold Hid; rw [decide_eq_false (show ¬ n ≤ 24 by omega)]; rfl
    have c1' : decide ((24 : Int) < (n : Int)) = true := decide_eq_true (by omega)
    go_enter Tryz.func46, Tryz.ntmps46
    go_wp2_with fail
    go_ret
    exact ⟨rb HE.out.symm, Below.refl _ _⟩
  · have c1' : decide ((24 : Int) < (n : Int)) = false := decide_eq_false (by omega)
    have D1 : Hid (decide (n ≤ 24) = true) := decide_eq_true (by omega)
    go_enter Tryz.func46, Tryz.ntmps46
    go_wp2_with fail
    refine (hasBad_any HL.out hhi HBk.out hn).mono ?_
    rintro e w1 ⟨rfl, hb1⟩
    obtain ⟨v, hv⟩ : ∃ v, v = cs.all conOk := ⟨_, rfl⟩
    rw [← hv]
    have HV : Hid (cs.all conOk = v) := hv.symm
    have HB1 : Hid (Below w.heap.size w w1) := hb1
    clear hb1 hv
    cases v with
    | false =>
      have HE : Hid ((decide (n ≤ 24) && atomsB cs) = false) := by
        have h1 := HV.out
        rw [List.all_eq_false] at h1
        obtain ⟨x, hx, hxo⟩ := h1
        obtain ⟨i, hi, rfl⟩ := List.mem_iff_getElem.1 hx
        unfold Hid
        rw [atomsB_no hi (atomAt_no (by rw [List.getD_eq_getElem?_getD, List.getElem?_eq_getElem hi]; simpa using hxo)), Bool.and_false]
      go_wp2_with fail
      go_ret
      exact ⟨rb HE.out.symm, HB1.out⟩
    | true =>
      go_wp2_with fail
      go_loopw [14] (fun i wr => ∃ j : Nat, j ≤ n ∧ i = .int .i64 j ∧ (∀ m, m < j → atomAt cs m = true) ∧ Below w.heap.size w wr) (fun i _ => n - (intOf i).toNat)
      case atStart => exact ⟨0, Nat.zero_le _, rfl, fun m hm => absurd hm (by omega), HB1.out⟩
      case round =>
        obtain ⟨j, hj, rfl, hall, hbel⟩ := hrel
        have HAl : Hid (∀ m, m < j → atomAt cs m = true) := hall
        have HB : Hid (Below w.heap.size w wr) := hbel
        have hszr := hbel.size
        by_cases hlt : j < n
        · have hji : (j : Int) < (n : Int) := by omega
          have hjl : j < cs.length := by rw [HLn.out]; exact hlt
          have hR := HL.out.same (Same.of_below hbel hhi)
          rcases hR.cells with e | ⟨b, off, rfl, _, _, hc⟩
          · omega
          · obtain ⟨v0, v1, v2, v3, q0, q1, q2, q3, hrd⟩ := hc j hlt
            obtain ⟨k, na, nn, nc, ra, rn, rc, ka, kn, kc, rfl, rfl, rfl, rfl⟩ := hrd.form4S
            obtain ⟨W2, hW2⟩ : ∃ W2, W2 = wr.alloc (.cells #[.int .i64 k, .slice na nn nc, .slice ra rn rc, .slice ka kn kc] 47) := ⟨_, rfl⟩
            have HW2 : Hid (W2 = wr.alloc (.cells #[.int .i64 k, .slice na nn nc, .slice ra rn rc, .slice ka kn kc] 47)) := hW2
            have hb2 : Below wr.heap.size wr W2 := by rw [hW2]; exact (Below.refl _ _).alloc (Nat.le_refl _) _
            have hs2 := hb2.size
            have HB2 : Hid (Below w.heap.size w W2) := hbel.trans (hb2.mono hszr)
            have hbx : BoxC W2 wr.heap.size (.int .i64 k) (.slice na nn nc) (.slice ra rn rc) (.slice ka kn kc) := by rw [hW2]; exact BoxC.new wr _ _ _ _
            obtain ⟨b0, b1, b2, b3⟩ := hbx.cells
            have HEl : Hid (RdC lo hi W2 d (.agg #[.int .i64 k, .slice na nn nc, .slice ra rn rc, .slice ka kn kc]) (cs.getD j CN.zero)) := hrd.below hb2 (by omega)
            have HLs : Hid (RdL (RdC lo hi W2 d) lo hi W2 (some ⟨b, off, none⟩) n cap cs) := hR.same (Same.of_below hb2 (by omega))
            obtain ⟨p, hp⟩ : ∃ p, p = placeC cs (cs.getD j CN.zero) := ⟨_, rfl⟩
            have HP : Hid (placeC cs (cs.getD j CN.zero) = p) := hp.symm
            have HCo : Hid (conOk (cs.getD j CN.zero) = true) := by
              have h1 := HV.out
              rw [List.all_eq_true] at h1
              unfold Hid
              rw [List.getD_eq_getElem?_getD, List.getElem?_eq_getElem hjl]
              exact h1 _ (List.getElem_mem _)
            clear hR hc hrd hall hbel hp hb2 hW2 hbx
            go_upto_region 6 with fail
            rw [← HW2.out]
            go_wp2_with fail
            refine (conIn_any HLs.out HEl.out (by omega) (by omega) hn).mono ?_
            rintro e w3 ⟨rfl, hb3⟩
            rw [HP.out]
            have HB3 : Hid (Below w.heap.size w w3) := HB2.out.trans (hb3.mono (by omega))
            clear hb3 b0 b1 b2 b3
            by_cases hpe : p = (j : Int)
            · have HN : Hid (∀ m, m < j + 1 → atomAt cs m = true) := fun m hm => by
                by_cases e : m = j
                · subst e; exact atomAt_yes HCo.out ((place_self hjl).1 (by rw [HP.out]; exact hpe))
                · exact HAl.out m (by omega)
              have hpn : (p != (j : Int)) = false := by simp [hpe]
              clear hpe
              go_wp2_with fail
              go_roundw
              case rel => exact ⟨j + 1, by omega, by go_num, HN.out, HB3.out⟩
              case measure => simp [intOf]; omega
            · have HE : Hid ((decide (n ≤ 24) && atomsB cs) = false) := by
                have h1 : ¬ ∀ m, m < j → sameC (cs.getD m CN.zero) (cs.getD j CN.zero) = false := fun hh => hpe (by rw [← HP.out]; exact (place_self hjl).2 hh)
                have h2 : atomAt cs j = false := by
                  cases ha : atomAt cs j with
                  | false => rfl
                  | true =>
                    exfalso
                    apply h1
                    intro m hm
                    unfold atomAt at ha
                    rw [Bool.and_eq_true, List.all_eq_true] at ha
                    simpa using ha.2 m (List.mem_range.2 hm)
                unfold Hid
                rw [atomsB_no hjl h2, Bool.and_false]
              have hpn : (p != (j : Int)) = true := by simpa using hpe
              clear hpe
              go_wp2_with fail
              go_ret
              exact ⟨rb HE.out.symm, HB3.out⟩
        · have HE : Hid ((decide (n ≤ 24) && atomsB cs) = true) := by unfold Hid; rw [D1.out, atomsB_yes HLn.out (fun i hi => hall i (by omega))]; rfl
          clear hall hbel
          go_wp2_with fail
          go_ret
          exact ⟨rb HE.out.symm, HB.out⟩

end Go.Proofs.YtknainelonaigaaGreatDoor
