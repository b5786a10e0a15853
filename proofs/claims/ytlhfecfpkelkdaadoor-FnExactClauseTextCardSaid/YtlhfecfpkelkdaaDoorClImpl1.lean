/- What the program asks of a clause, piece by piece: a contract of each function. -/
import Derived.Test.YtlhfecfpkelkdaaDoorNGr
import Derived.Deep.RegionWith
namespace Go.Proofs.YtlhfecfpkelkdaaDoor
open Go.RowKit

theorem numberFits_any (n lim : Int) (c : Bool) (w : World) : Calls Tryd.prog 34 #[.int .i64 n, .int .i64 lim, .bool c] w fun e w' => e = .returned (.bool (numB n lim c)) ∧ w' = w := by
  cases c with
  | true =>
    go_enter Tryd.func34, Tryd.ntmps34
    go_wp2
    all_goals
      go_ret
      refine ⟨rb ?_, rfl⟩
      rw [Bool.eq_iff_iff]
      simp [numB]
      omega
  | false =>
    go_enter Tryd.func34, Tryd.ntmps34
    go_wp2
    go_ret
    refine ⟨rb ?_, rfl⟩
    rw [Bool.eq_iff_iff]
    simp [numB]

theorem partFits_any (p n : Int) (c : Bool) (w : World) : Calls Tryd.prog 35 #[.agg #[.int .i64 p, .int .i64 n], .bool c] w fun e w' => e = .returned (.bool (parB p n c)) ∧ Below w.heap.size w w' := by
  obtain ⟨W, hW⟩ : ∃ W, W = w.alloc (.cells #[.int .i64 p, .int .i64 n] 29) := ⟨_, rfl⟩
  have HW : Hid (W = w.alloc (.cells #[.int .i64 p, .int .i64 n] 29)) := hW
  have HB0 : Hid (Below w.heap.size w W) := by rw [hW]; exact (Below.refl _ _).alloc (Nat.le_refl _) _
  have hbx : BoxP 29 W w.heap.size p n := by rw [hW]; exact BoxP.new _ w _ _
  obtain ⟨z0, z1⟩ := hbx.cells
  have hbuild : ∀ V : World, (Instr.build 29 #[]).run Tryd.prog V = .ok (.agg #[.int .i64 0, .int .i64 0]) V := fun V => run_build V _ _ _ (by kernel_rfl)
  clear hW hbx
  cases c with
  | true =>
    go_enter Tryd.func35, Tryd.ntmps35
    go_upto_region 1 with fail
    rw [← HW.out]
    go_wp2_with fail
    refine (partOk_any p n W).mono ?_
    rintro e w1 ⟨rfl, hb1⟩
    have H1 : Hid (Below w.heap.size w w1) := HB0.out.trans (hb1.mono HB0.out.size)
    clear hb1
    go_wp2_with fail
    go_ret
    exact ⟨rb rfl, H1.out⟩
  | false =>
    by_cases h0 : p = 0
    · have hp : (p == 0) = true := by simp [h0]
      have HR : Hid (parB p n false = (n == 0)) := by unfold Hid; rw [Bool.eq_iff_iff]; simp [parB, noneB, h0]
      clear h0
      go_enter Tryd.func35, Tryd.ntmps35
      go_upto_region 1 with fail
      rw [← HW.out]
      go_wp2_with fail
      all_goals
        go_ret
        refine ⟨rb ?_, HB0.out⟩
        rw [HR.out]
        simp_all
    · have hp : (p == 0) = false := by simpa using h0
      have HR : Hid (parB p n false = false) := by simp [Hid, parB, noneB, h0]
      clear h0
      go_enter Tryd.func35, Tryd.ntmps35
      go_upto_region 1 with fail
      rw [← HW.out]
      go_wp2_with fail
      go_ret
      exact ⟨rb HR.out.symm, HB0.out⟩

set_option maxRecDepth 100000 in
set_option maxHeartbeats 2000000 in
/-- The place of the first part of which what is asked for holds: there is one just if it holds of one. -/
theorem indexPart_any (F : Nat) (cp : Array Value) (g : Int × Int → Bool) (a : Option Addr) (n cap : Nat) (xs : List (Int × Int)) (w : World) {lo hi : Nat} (h : RP lo hi w a n cap xs) (hhi : hi ≤ w.heap.size)
    (hen : ∀ (args : Array Value) (V : World), (callFunc F args).run Tryd.prog V = .ok (.enter F args) V)
    (hg : ∀ (p q : Int) (V : World), Below w.heap.size w V → Calls Tryd.prog F (#[.agg #[.int .i64 p, .int .i64 q]] ++ cp) V fun e w' => e = .returned (.bool (g (p, q))) ∧ Below V.heap.size V w') :
    Calls Tryd.prog 52 #[.slice a n cap, .func (.func F) #[] cp] w fun e w' => ∃ i : Int, e = .returned (.int .i64 i) ∧ decide (0 ≤ i) = xs.any g ∧ Below w.heap.size w w' := by
  have HR : Hid (RP lo hi w a n cap xs) := h
  have HL : Hid (xs.length = n) := h.len
  have HG : Hid (∀ (p q : Int) (V : World), Below w.heap.size w V → Calls Tryd.prog F (#[.agg #[.int .i64 p, .int .i64 q]] ++ cp) V fun e w' => e = .returned (.bool (g (p, q))) ∧ Below V.heap.size V w') := hg
  have hf := h.fits
  clear h hg
  go_enter Tryd.func52, Tryd.ntmps52
  go_upto_region 2 with fail
  go_loopw [8] (fun i wr => ∃ k : Nat, k ≤ n ∧ i = .int .i64 k ∧ (∀ i, i < k → g (xs.getD i (0, 0)) = false) ∧ Below w.heap.size w wr) (fun i _ => n - (intOf i).toNat)
  case atStart => exact ⟨0, Nat.zero_le _, rfl, fun i hi => absurd hi (by omega), Below.refl _ _⟩
  case round =>
    obtain ⟨k, hk, rfl, hall, hbel⟩ := hrel
    have HAll : Hid (∀ i, i < k → g (xs.getD i (0, 0)) = false) := hall
    have HBe : Hid (Below w.heap.size w wr) := hbel
    have hszr := hbel.size
    clear hall
    by_cases hlt : k < n
    · rcases (HR.out.below hbel hhi).cells with hz | ⟨b, off, e1, _, _, hc⟩
      · omega
      · subst e1
        obtain ⟨c0, c1⟩ := hc k hlt
        obtain ⟨t, ht⟩ : ∃ t, t = xs.getD k (0, 0) := ⟨_, rfl⟩
        have HT : Hid (t = xs.getD k (0, 0)) := ht
        rw [← ht] at c0 c1
        obtain ⟨tp, tn⟩ := t
        have hki : (k : Int) < (n : Int) := by omega
        clear hc ht hbel
        go_wp2_with fail
        refine (HG.out tp tn wr HBe.out).mono ?_
        rintro e w5 ⟨rfl, hb5⟩
        have HB5 : Hid (Below w.heap.size w w5) := HBe.out.trans (hb5.mono hszr)
        clear hb5
        cases hq : g (tp, tn)
        · have HS : Hid (∀ i, i < k + 1 → g (xs.getD i (0, 0)) = false) := by
            intro i hi
            by_cases e : i = k
            · subst e; rw [← HT.out]; exact hq
            · exact HAll.out i (by omega)
          clear hq
          go_wp2_with fail
          go_roundw
          case rel => exact ⟨k + 1, by omega, by go_num, HS.out, HB5.out⟩
          case measure => simp [intOf]; omega
        · have HE : Hid (xs.any g = true) := by
            have hl := HL.out
            refine List.any_eq_true.2 ⟨xs.getD k (0, 0), ?_, by rw [← HT.out]; exact hq⟩
            rw [List.getD_eq_getElem?_getD, List.getElem?_eq_getElem (by omega)]
            exact List.getElem_mem _
          clear hq
          go_wp2_with fail
          go_ret
          exact ⟨k, rfl, by rw [HE.out]; simp, HB5.out⟩
    · have HF : Hid (xs.any g = false) := by
        have hl := HL.out
        unfold Hid
        rw [List.any_eq_false]
        intro p hp
        obtain ⟨i, hi, e⟩ := List.getElem_of_mem hp
        have := HAll.out i (by omega)
        rw [List.getD_eq_getElem?_getD, List.getElem?_eq_getElem hi, e] at this
        simpa using this
      have hge : decide ((k : Int) < (n : Int)) = false := by simp; omega
      clear hbel
      go_wp2_with fail
      go_ret
      exact ⟨-1, rfl, by rw [HF.out]; simp, HBe.out⟩

set_option maxRecDepth 100000 in
theorem hasPart_any (F : Nat) (cp : Array Value) (g : Int × Int → Bool) (a : Option Addr) (n cap : Nat) (xs : List (Int × Int)) (w : World) {lo hi : Nat} (h : RP lo hi w a n cap xs) (hhi : hi ≤ w.heap.size)
    (hen : ∀ (args : Array Value) (V : World), (callFunc F args).run Tryd.prog V = .ok (.enter F args) V)
    (hg : ∀ (p q : Int) (V : World), Below w.heap.size w V → Calls Tryd.prog F (#[.agg #[.int .i64 p, .int .i64 q]] ++ cp) V fun e w' => e = .returned (.bool (g (p, q))) ∧ Below V.heap.size V w') :
    Calls Tryd.prog 46 #[.slice a n cap, .func (.func F) #[] cp] w fun e w' => e = .returned (.bool (xs.any g)) ∧ Below w.heap.size w w' := by
  have HC : Hid (Calls Tryd.prog 52 #[.slice a n cap, .func (.func F) #[] cp] w fun e w' => ∃ i : Int, e = .returned (.int .i64 i) ∧ decide (0 ≤ i) = xs.any g ∧ Below w.heap.size w w') := indexPart_any F cp g a n cap xs w h hhi hen hg
  clear h hhi hg
  go_enter Tryd.func46, Tryd.ntmps46
  go_wp2_with fail
  refine HC.out.mono ?_
  rintro e w5 ⟨i, rfl, hi5, hb5⟩
  have HB5 : Hid (Below w.heap.size w w5) := hb5
  have HI : Hid (decide (0 ≤ i) = xs.any g) := hi5
  clear hi5 hb5
  by_cases hi0 : 0 ≤ i
  · go_wp2_with fail
    go_ret
    exact ⟨rb (by rw [← HI.out]; simp [hi0]), HB5.out⟩
  · go_wp2_with fail
    go_ret
    exact ⟨rb (by rw [← HI.out]), HB5.out⟩

theorem notPart_any (p n : Int) (w : World) : Calls Tryd.prog 47 #[.agg #[.int .i64 p, .int .i64 n]] w fun e w' => e = .returned (.bool (!(partB p n))) ∧ Below w.heap.size w w' := by
  obtain ⟨W, hW⟩ : ∃ W, W = w.alloc (.cells #[.int .i64 p, .int .i64 n] 29) := ⟨_, rfl⟩
  have HW : Hid (W = w.alloc (.cells #[.int .i64 p, .int .i64 n] 29)) := hW
  have HB0 : Hid (Below w.heap.size w W) := by rw [hW]; exact (Below.refl _ _).alloc (Nat.le_refl _) _
  have hbx : BoxP 29 W w.heap.size p n := by rw [hW]; exact BoxP.new _ w _ _
  obtain ⟨z0, z1⟩ := hbx.cells
  clear hW hbx
  go_enter Tryd.func47, Tryd.ntmps47
  go_upto_region 1 with fail
  rw [← HW.out]
  go_wp2_with fail
  refine (partOk_any p n W).mono ?_
  rintro e w1 ⟨rfl, hb1⟩
  have H1 : Hid (Below w.heap.size w w1) := HB0.out.trans (hb1.mono HB0.out.size)
  clear hb1
  go_wp2_with fail
  go_ret
  exact ⟨rfl, H1.out⟩

theorem indsFit_any {a : Option Addr} {n cap : Nat} {xs : List (Int × Int)} {w : World} {lo hi : Nat} (h : RP lo hi w a n cap xs) (hhi : hi ≤ w.heap.size) (c : Bool) :
    Calls Tryd.prog 36 #[.slice a n cap, .bool c] w fun e w' => e = .returned (.bool (indB xs c)) ∧ Below w.heap.size w w' := by
  have HR : Hid (RP lo hi w a n cap xs) := h
  have HL : Hid (xs.length = n) := h.len
  clear h
  cases c with
  | true =>
    by_cases hn : n = 4
    · subst hn
      have HI : Hid (indB xs true = !(xs.any (fun p => !(partB p.1 p.2)))) := by
        unfold Hid
        rw [indB, if_pos rfl, HL.out]
        simp [List.any_eq_not_all_not]
      go_enter Tryd.func36, Tryd.ntmps36
      go_wp2_with fail
      refine (hasPart_any 47 #[] (fun p => !(partB p.1 p.2)) a 4 cap xs w HR.out hhi Tryd.call47 (fun p q V _ => notPart_any p q V)).mono ?_
      rintro e w1 ⟨rfl, hb1⟩
      have H1 : Hid (Below w.heap.size w w1) := hb1
      clear hb1
      go_wp2_with fail
      go_ret
      exact ⟨rb HI.out.symm, H1.out⟩
    · have HI : Hid (indB xs true = false) := by
        have hl := HL.out
        have : ¬ xs.length = 4 := by omega
        simp [Hid, indB, this]
      have hne : ((n : Int) == 4) = false := by simp; omega
      go_enter Tryd.func36, Tryd.ntmps36
      go_wp2_with fail
      go_ret
      exact ⟨rb HI.out.symm, Below.refl _ _⟩
  | false =>
    have HI : Hid (indB xs false = ((n : Int) == 0)) := by
      have hl := HL.out
      unfold Hid
      rw [indB, if_neg (by simp), Bool.eq_iff_iff, hl]
      simp
    go_enter Tryd.func36, Tryd.ntmps36
    go_wp2_with fail
    go_ret
    exact ⟨rb HI.out.symm, Below.refl _ _⟩

end Go.Proofs.YtlhfecfpkelkdaaDoor
