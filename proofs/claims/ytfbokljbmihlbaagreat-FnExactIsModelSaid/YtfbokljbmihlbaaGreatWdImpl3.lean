/- Who is who: impl.peopleOf, has; where each individual is. -/
import Derived.Test.YtfbokljbmihlbaaGreatWdSpec
namespace Go.Proofs.YtfbokljbmihlbaaGreat
open Go.RowKit

def hasB (nx z : Int) : Bool := decide (0 ≤ z ∧ z < nx)

set_option maxRecDepth 100000 in
set_option maxHeartbeats 2000000 in
theorem has_any {ia : Option Addr} {im ic : Nat} {ta : Option Addr} {tn tc : Nat} (nx z : Int) (w : World) :
    Calls Tryz.prog 74 #[.agg #[.int .i64 nx, .slice ia im ic, .slice ta tn tc], .int .i64 z] w fun e w' => e = .returned (.bool (hasB nx z)) ∧ Below w.heap.size w w' := by
  have HB0 : Hid (Below w.heap.size w (w.alloc (.cells #[.int .i64 nx, .slice ia im ic, .slice ta tn tc] 71))) := (Below.refl _ _).alloc (Nat.le_refl _) _
  have HD : Hid (hasB nx z = decide (0 ≤ z ∧ z < nx)) := rfl
  by_cases h0 : 0 ≤ z
  · have hd0 : decide (0 ≤ z) = true := decide_eq_true h0
    by_cases h1 : z < nx
    · have hd1 : decide (z < nx) = true := decide_eq_true h1
      have HG : Hid (hasB nx z = true) := by rw [Hid, HD.out]; exact decide_eq_true ⟨h0, h1⟩
      go_enter Tryz.func74, Tryz.ntmps74
      go_wp2_with fail
      go_ret
      exact ⟨rb HG.out.symm, HB0.out⟩
    · have hd1 : decide (z < nx) = false := decide_eq_false h1
      have HG : Hid (hasB nx z = false) := by rw [Hid, HD.out]; exact decide_eq_false (fun h => h1 h.2)
      go_enter Tryz.func74, Tryz.ntmps74
      go_wp2_with fail
      go_ret
      exact ⟨rb HG.out.symm, HB0.out⟩
  · have hd0 : decide (0 ≤ z) = false := decide_eq_false h0
    have HG : Hid (hasB nx z = false) := by rw [Hid, HD.out]; exact decide_eq_false (fun h => h0 h.1)
    go_enter Tryz.func74, Tryz.ntmps74
    go_wp2_with fail
    go_ret
    exact ⟨rb HG.out.symm, HB0.out⟩

set_option maxRecDepth 100000 in
set_option maxHeartbeats 4000000 in
theorem peopleOf_any {na : Option Addr} {nn nc : Nat} {sa : Option Addr} {sn sc : Nat} {ra : Option Addr} {rn rc : Nat} {la : Option Addr} {ln lc : Nat} {ia : Option Addr} {im ic : Nat} {ta : Option Addr} {tn tc : Nat} {nx : Int} (w : World) :
    Calls Tryz.prog 61 #[.agg #[.int .i64 nx, .slice na nn nc, .slice sa sn sc, .slice ra rn rc, .slice la ln lc, .slice ia im ic, .slice ta tn tc]] w fun e w' => e = .returned (.agg #[.int .i64 nx, .slice ia im ic, .slice ta tn tc]) ∧ Below w.heap.size w w' := by
  obtain ⟨W0, hW0⟩ : ∃ W0, W0 = w.alloc (.cells #[.int .i64 nx, .slice na nn nc, .slice sa sn sc, .slice ra rn rc, .slice la ln lc, .slice ia im ic, .slice ta tn tc] 36) := ⟨_, rfl⟩
  have HW0 : Hid (W0 = w.alloc (.cells #[.int .i64 nx, .slice na nn nc, .slice sa sn sc, .slice ra rn rc, .slice la ln lc, .slice ia im ic, .slice ta tn tc] 36)) := hW0
  have hb0 : Below w.heap.size w W0 := by rw [hW0]; exact (Below.refl _ _).alloc (Nat.le_refl _) _
  have HB0 : Hid (Below w.heap.size w W0) := hb0
  have hs : W0.heap.size = w.heap.size + 1 := by rw [hW0]; simp
  have hbx : BoxW 36 W0 w.heap.size nx (.slice na nn nc) (.slice sa sn sc) (.slice ra rn rc) (.slice la ln lc) (.slice ia im ic) (.slice ta tn tc) := by rw [hW0]; exact BoxW.new _ w _ _ _ _ _ _ _
  obtain ⟨z0, z1, z2, z3, z4, z5, z6⟩ := hbx.cells
  clear hb0 hW0 hbx
  go_enter Tryz.func61, Tryz.ntmps61
  go_wp2_with fail
  refine bodyPost_ret (v := .agg #[.int .i64 nx, .slice ia im ic, .slice ta tn tc]) (by simp [results, Tryz.results61, go_sem]) rfl ⟨rfl, ?_⟩
  exact ((Below.refl _ _).alloc (Nat.le_refl _) _).alloc (by simp) _

set_option maxRecDepth 100000 in
set_option maxHeartbeats 4000000 in
theorem notHas_any {na : Option Addr} {nn nc : Nat} {sa : Option Addr} {sn sc : Nat} {ra : Option Addr} {rn rc : Nat} {la : Option Addr} {ln lc : Nat} {ia : Option Addr} {im ic : Nat} {ta : Option Addr} {tn tc : Nat} {nx z : Int} {pb : Nat} (w : World) (hbx : BoxW 36 w pb nx (.slice na nn nc) (.slice sa sn sc) (.slice ra rn rc) (.slice la ln lc) (.slice ia im ic) (.slice ta tn tc)) :
    Calls Tryz.prog 92 #[.int .i64 z, .pointer (some ⟨pb, 0, none⟩)] w fun e w' => e = .returned (.bool (!(hasB nx z))) ∧ Below w.heap.size w w' := by
  obtain ⟨z0, z1, z2, z3, z4, z5, z6⟩ := hbx.cells
  clear hbx
  go_enter Tryz.func92, Tryz.ntmps92
  go_wp2_with fail
  refine (peopleOf_any w).mono ?_
  rintro e w1 ⟨rfl, hb1⟩
  have HB1 : Hid (Below w.heap.size w w1) := hb1
  clear hb1 z0 z1 z2 z3 z4 z5 z6
  go_wp2_with fail
  refine (has_any nx z w1).mono ?_
  rintro e w2 ⟨rfl, hb2⟩
  have HB2 : Hid (Below w.heap.size w w2) := HB1.out.trans (hb2.mono HB1.out.size)
  clear hb2
  go_wp2_with fail
  go_ret
  exact ⟨rb rfl, HB2.out⟩

set_option maxRecDepth 100000 in
set_option maxHeartbeats 8000000 in
theorem indexAt_any {na : Option Addr} {nn nc : Nat} {sa : Option Addr} {sn sc : Nat} {ra : Option Addr} {rn rc : Nat} {la : Option Addr} {ln lc : Nat} {ia : Option Addr} {im ic : Nat} {ta : Option Addr} {tn tc : Nat} {nx : Int} {pb : Nat} (a : Option Addr) (n cap : Nat) (xs : List Int) (w : World) {lo hi : Nat} (h : RI lo hi w a n cap xs) (hhi : hi ≤ w.heap.size) (hbx : BoxW 36 w pb nx (.slice na nn nc) (.slice sa sn sc) (.slice ra rn rc) (.slice la ln lc) (.slice ia im ic) (.slice ta tn tc)) :
    Calls Tryz.prog 121 #[.slice a n cap, .func (.func 92) #[] #[.pointer (some ⟨pb, 0, none⟩)]] w fun e w' => ∃ i : Int, e = .returned (.int .i64 i) ∧ decide (0 ≤ i) = !(atB xs nx) ∧ Below w.heap.size w w' := by
  have HR : Hid (RI lo hi w a n cap xs) := h
  have HL : Hid (xs.length = n) := h.len
  have HP : Hid (BoxW 36 w pb nx (.slice na nn nc) (.slice sa sn sc) (.slice ra rn rc) (.slice la ln lc) (.slice ia im ic) (.slice ta tn tc)) := hbx
  have hpl : pb < w.heap.size := hbx.lt
  have hf := h.fits
  clear h hbx
  go_enter Tryz.func121, Tryz.ntmps121
  go_upto_region 2 with fail
  go_loopw [8] (fun i wr => ∃ k : Nat, k ≤ n ∧ i = .int .i64 k ∧ (List.range k).all (fun i => hasB nx (xs.getD i 0)) = true ∧ Below w.heap.size w wr) (fun i _ => n - (intOf i).toNat)
  case atStart => exact ⟨0, Nat.zero_le _, rfl, by simp, Below.refl _ _⟩
  case round =>
    obtain ⟨k, hk, rfl, hall, hbel⟩ := hrel
    have HAll : Hid ((List.range k).all (fun i => hasB nx (xs.getD i 0)) = true) := hall
    have HBe : Hid (Below w.heap.size w wr) := hbel
    have HPr : Hid (BoxW 36 wr pb nx (.slice na nn nc) (.slice sa sn sc) (.slice ra rn rc) (.slice la ln lc) (.slice ia im ic) (.slice ta tn tc)) := HP.out.below hbel hpl
    have hszr := hbel.size
    clear hall
    by_cases hlt : k < n
    · rcases (HR.out.below hbel hhi).cells with hz | ⟨b, off, e1, _, _, hc⟩
      · omega
      · subst e1
        obtain ⟨v, c0, rfl⟩ := hc k hlt
        obtain ⟨z, hz⟩ : ∃ z, z = xs.getD k 0 := ⟨_, rfl⟩
        rw [← hz] at c0
        have HZz : Hid (z = xs.getD k 0) := hz
        have hki : (k : Int) < (n : Int) := by omega
        clear hc hz hbel
        go_wp2_with fail
        refine (notHas_any wr HPr.out).mono ?_
        rintro e w5 ⟨rfl, hb5⟩
        have HB5 : Hid (Below w.heap.size w w5) := HBe.out.trans (hb5.mono hszr)
        clear hb5
        cases hq : hasB nx z
        · have HE : Hid (atB xs nx = false) := range_all_false (by rw [HL.out]; exact hlt) (by rw [← HZz.out]; exact hq)
          clear hq
          go_wp2_with fail
          go_ret
          exact ⟨k, rfl, by rw [HE.out]; simp, HB5.out⟩
        · have HS : Hid ((List.range (k + 1)).all (fun i => hasB nx (xs.getD i 0)) = true) := by unfold Hid; rw [range_all_succ, HAll.out, ← HZz.out, hq]; rfl
          clear hq
          go_wp2_with fail
          go_roundw
          case rel => exact ⟨k + 1, by omega, by go_num, HS.out, HB5.out⟩
          case measure => simp [intOf]; omega
    · have HF : Hid (atB xs nx = true) := by rw [Hid, atB, HL.out, show n = k by omega]; exact HAll.out
      have hge : decide ((k : Int) < (n : Int)) = false := by simp; omega
      clear hbel
      go_wp2_with fail
      go_ret
      exact ⟨-1, rfl, by rw [HF.out]; simp, HBe.out⟩

set_option maxRecDepth 100000 in
theorem hasAt_any {na : Option Addr} {nn nc : Nat} {sa : Option Addr} {sn sc : Nat} {ra : Option Addr} {rn rc : Nat} {la : Option Addr} {ln lc : Nat} {ia : Option Addr} {im ic : Nat} {ta : Option Addr} {tn tc : Nat} {nx : Int} {pb : Nat} (a : Option Addr) (n cap : Nat) (xs : List Int) (w : World) {lo hi : Nat} (h : RI lo hi w a n cap xs) (hhi : hi ≤ w.heap.size) (hbx : BoxW 36 w pb nx (.slice na nn nc) (.slice sa sn sc) (.slice ra rn rc) (.slice la ln lc) (.slice ia im ic) (.slice ta tn tc)) :
    Calls Tryz.prog 91 #[.slice a n cap, .func (.func 92) #[] #[.pointer (some ⟨pb, 0, none⟩)]] w fun e w' => e = .returned (.bool (!(atB xs nx))) ∧ Below w.heap.size w w' := by
  have HR : Hid (RI lo hi w a n cap xs) := h
  have HP : Hid (BoxW 36 w pb nx (.slice na nn nc) (.slice sa sn sc) (.slice ra rn rc) (.slice la ln lc) (.slice ia im ic) (.slice ta tn tc)) := hbx
  clear h hbx
  go_enter Tryz.func91, Tryz.ntmps91
  go_wp2_with fail
  refine (indexAt_any a n cap xs w HR.out hhi HP.out).mono ?_
  rintro e w5 ⟨i, rfl, hi5, hb5⟩
  have HB5 : Hid (Below w.heap.size w w5) := hb5
  have HI : Hid (decide (0 ≤ i) = !(atB xs nx)) := hi5
  clear hi5 hb5
  by_cases hi0 : 0 ≤ i
  · go_wp2_with fail
    go_ret
    exact ⟨rb (by rw [← HI.out]; simp [hi0]), HB5.out⟩
  · go_wp2_with fail
    go_ret
    exact ⟨rb (by rw [← HI.out]), HB5.out⟩

end Go.Proofs.YtfbokljbmihlbaaGreat
