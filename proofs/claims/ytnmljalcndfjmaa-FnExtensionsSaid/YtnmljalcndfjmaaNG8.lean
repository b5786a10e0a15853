/- Several texts in one: ConTxt, ConShape, ConShape2, ConSay. -/
import Derived.Test.YtnmljalcndfjmaaNG6
import Derived.Test.YtnmljalcndfjmaaNG4
import Derived.Lib.AppendStr
import Derived.Deep.RegionWith
import Derived.Deep.RegionLaw
import Derived.Deep.DeepCutAuto
namespace Go.Proofs.Ytnmljalcndfjmaa

section
open Go.RowKit

mutual
/-- Each part is as its kind asks. -/
def wfC : CN → Bool
  | .mk k n r ks => shapeB (.mk k n r ks) && wfL ks
def wfL : List CN → Bool
  | [] => true
  | c :: cs => wfC c && wfL cs
end

theorem wfC_eq (c : CN) : wfC c = (shapeB c && wfL c.kids) := by cases c; rw [wfC]; rfl

theorem wfL_getD : ∀ (cs : List CN) (j : Nat), j < cs.length → wfL cs = true → wfC (cs.getD j CN.zero) = true
  | [], _, h, _ => by simp at h
  | c :: cs, 0, _, hw => by rw [wfL, Bool.and_eq_true] at hw; exact hw.1
  | c :: cs, j + 1, h, hw => by
    rw [wfL, Bool.and_eq_true] at hw
    have := wfL_getD cs j (by simpa using h) hw.2
    simpa [List.getD] using this

mutual
theorem wfC_of_parts : ∀ (c : CN) (deep : Nat), (parts c deep).all okOne = true → wfC c = true
  | .mk k n r ks, deep, h => by
    rw [parts, List.all_cons, Bool.and_eq_true] at h
    rw [wfC, wfL_of_parts ks (deep + 1) h.2, Bool.and_true]
    have := h.1
    unfold okOne at this
    rw [Bool.and_eq_true] at this
    exact this.2
theorem wfL_of_parts : ∀ (cs : List CN) (deep : Nat), (partsL cs deep).all okOne = true → wfL cs = true
  | [], _, _ => by rw [wfL]
  | c :: cs, deep, h => by
    rw [partsL, List.all_append, Bool.and_eq_true] at h
    rw [wfL, wfC_of_parts c deep h.1, wfL_of_parts cs deep h.2]; rfl
end

theorem wfC_of_ok {c : CN} (h : conOk c = true) : wfC c = true := by
  unfold conOk at h
  rw [Bool.and_eq_true] at h
  exact wfC_of_parts c 1 h.2

theorem kidN_in {k : Int} (h : 0 ≤ kidN k) : 0 ≤ k ∧ k ≤ 7 := by
  by_cases ho : k < 0 ∨ 7 < k
  · rw [kidN_out ho] at h; omega
  · omega

/-- What is known of a part that is as its kind asks. -/
theorem shape_facts {c : CN} (h : shapeB c = true) : (0 ≤ c.kind ∧ c.kind ≤ 7) ∧ (c.kind = 2 → 1 ≤ c.name.length ∧ c.kids.length = 0) ∧ (roleB c.kind = true → 1 ≤ c.role.length) ∧ (roleB c.kind = false → c.role = []) := by
  unfold shapeB at h
  simp only [Bool.and_eq_true, decide_eq_true_eq] at h
  obtain ⟨h1, h2, h3⟩ := h
  refine ⟨kidN_in (by omega), fun hk => ?_, fun hr => ?_, fun hr => ?_⟩
  · unfold nameFit at h1
    rw [if_pos hk, Bool.and_eq_true] at h1
    refine ⟨(longB_of_up h1.1).1, ?_⟩
    rw [hk] at h3
    simp [kidN] at h3
    rw [h3]; rfl
  · unfold roleFit at h2
    rw [if_pos hr] at h2
    exact (longB_of_low h2).1
  · unfold roleFit at h2
    rw [if_neg (by rw [hr]; simp)] at h2
    exact List.eq_nil_of_length_eq_zero (by simpa using h2)

/-- The word of a kind, as a string. -/
def wordB (k : Int) : ByteArray := if k = 0 then ⟨#[84, 111, 112]⟩ else if k = 1 then ⟨#[66, 111, 116]⟩ else if k = 3 then ⟨#[78, 111, 116]⟩ else if k = 4 then ⟨#[65, 110, 100]⟩ else if k = 5 then ⟨#[79, 114]⟩ else if k = 6 then ⟨#[83, 111, 109, 101]⟩ else if k = 7 then ⟨#[65, 108, 108]⟩ else ⟨#[]⟩

set_option maxHeartbeats 400000 in
theorem l2words_any (w : World) : Calls Try.prog 86 #[] w fun e w' => e = .returned (.slice (some ⟨w.heap.size, 0, none⟩) 8 8) ∧ (∀ i : Nat, i < 8 → w'.cell? ⟨w.heap.size, i, none⟩ = some (.string (wordB i))) ∧ Below w.heap.size w w' := by
  go_enter Try.func86, Try.ntmps86
  go_wp2
  go_ret
  refine ⟨rfl, fun i hi => ?_, (Below.refl _ _).alloc (Nat.le_refl _) _⟩
  match i, hi with
  | 0, _ | 1, _ | 2, _ | 3, _ | 4, _ | 5, _ | 6, _ | 7, _ => simp; rfl
end

section
open Go.RowKit

set_option maxHeartbeats 400000 in
theorem kidCount_any (k : Int) (w : World) : Calls Try.prog 64 #[.int .i64 k] w fun e w' => e = .returned (.int .i64 (kidN k)) ∧ w' = w := by
  go_enter Try.func64, Try.ntmps64
  go_wp2
  all_goals
    go_ret
    refine ⟨ri ?_, rfl⟩
    first | (simp_all [kidN]; done) | (unfold kidN; simp_all; omega)

set_option maxHeartbeats 400000 in
theorem hasRole_any (k : Int) (w : World) : Calls Try.prog 79 #[.int .i64 k] w fun e w' => e = .returned (.bool (roleB k)) ∧ w' = w := by
  by_cases h : k = 6
  · subst h
    go_enter Try.func79, Try.ntmps79
    go_wp2
    go_ret
    exact ⟨rfl, rfl⟩
  · have h6 : (k == 6) = false := by simpa using h
    have HE : Hid (roleB k = (k == 7)) := by unfold Hid roleB; simp [h]; rfl
    go_enter Try.func79, Try.ntmps79
    go_wp2
    go_ret
    exact ⟨rb HE.out.symm, rfl⟩

set_option maxRecDepth 100000 in
set_option maxHeartbeats 1000000 in
theorem nameFits_any {d : Nat} {v : Value} {c : CN} {w : World} {lo hi : Nat} (h : RdC lo hi w d v c) (hhi : hi ≤ w.heap.size) :
    Calls Try.prog 62 #[v] w fun e w' => e = .returned (.bool (nameFit c)) ∧ Below w.heap.size w w' := by
  cases d with
  | zero => exact h.elim
  | succ d =>
    obtain ⟨na, nn, nc, ra, rn, rc, ka, kn, kc, rfl, hn, _, _⟩ := h
    have hnl := hn.len
    have hb0 : Below w.heap.size w (w.alloc (.cells #[.int .i64 c.kind, .slice na nn nc, .slice ra rn rc, .slice ka kn kc] 30)) := (Below.refl _ _).alloc (Nat.le_refl _) _
    have HB0 : Hid (Below w.heap.size w (w.alloc (.cells #[.int .i64 c.kind, .slice na nn nc, .slice ra rn rc, .slice ka kn kc] 30))) := hb0
    have HN : Hid (Rd lo hi (w.alloc (.cells #[.int .i64 c.kind, .slice na nn nc, .slice ra rn rc, .slice ka kn kc] 30)) na nn nc c.name) := hn.below hb0 hhi
    have HNF : Hid (nameFit c = if c.kind = 2 then (upOk c.name && !keptB (strOfNums c.name).toList) else decide (nn = 0)) := by unfold Hid nameFit; rw [hnl]
    obtain ⟨k, hkd⟩ : ∃ k, k = c.kind := ⟨_, rfl⟩
    rw [← hkd] at HB0 HN HNF ⊢
    clear hb0 hn hkd hnl
    by_cases k2 : k = 2
    · subst k2
      rw [if_pos rfl] at HNF
      cases hU : upOk c.name
      · have HX : Hid (nameFit c = false) := by unfold Hid; rw [HNF.out, hU]; rfl
        go_enter Try.func62, Try.ntmps62
        go_wp2_with (first | (go_at_call 51; refine (implUpperOk_any na nn nc c.name _ HN.out).mono ?_; rintro e w' ⟨rfl, hw⟩; rw [hw, hU]; clear hw))
        go_ret
        exact ⟨rb HX.out.symm, HB0.out⟩
      · obtain ⟨kp, hkp⟩ : ∃ kp, kp = keptB (strOfNums c.name).toList := ⟨_, rfl⟩
        have HX : Hid (nameFit c = !kp) := by unfold Hid; rw [HNF.out, hU, hkp]; rfl
        have HKp : Hid (kp = keptB (strOfNums c.name).toList) := hkp
        clear hkp
        go_enter Try.func62, Try.ntmps62
        go_wp2_with (first | (go_at_call 51; refine (implUpperOk_any na nn nc c.name _ HN.out).mono ?_; rintro e w' ⟨rfl, hw⟩; rw [hw, hU]; clear hw) | (go_at_call 78; refine (implKept_any na nn nc c.name _ HN.out).mono ?_; rintro e w' ⟨rfl, hw⟩; rw [hw, ← HKp.out]; clear hw))
        go_ret
        exact ⟨rb HX.out.symm, HB0.out⟩
    · rw [if_neg k2] at HNF
      have hk2 : (k == 2) = false := by simpa using k2
      have HX : Hid (nameFit c = ((nn : Int) == 0)) := by unfold Hid; rw [HNF.out]; by_cases h : nn = 0 <;> simp [h]
      go_enter Try.func62, Try.ntmps62
      go_wp2_with fail
      go_ret
      exact ⟨rb (by rw [HX.out]), HB0.out⟩

set_option maxRecDepth 100000 in
set_option maxHeartbeats 1000000 in
theorem roleFits_any {d : Nat} {v : Value} {c : CN} {w : World} {lo hi : Nat} (h : RdC lo hi w d v c) (hhi : hi ≤ w.heap.size) :
    Calls Try.prog 63 #[v] w fun e w' => e = .returned (.bool (roleFit c)) ∧ Below w.heap.size w w' := by
  cases d with
  | zero => exact h.elim
  | succ d =>
    obtain ⟨na, nn, nc, ra, rn, rc, ka, kn, kc, rfl, _, hr, _⟩ := h
    have hrl := hr.len
    have hb0 : Below w.heap.size w (w.alloc (.cells #[.int .i64 c.kind, .slice na nn nc, .slice ra rn rc, .slice ka kn kc] 30)) := (Below.refl _ _).alloc (Nat.le_refl _) _
    have HB0 : Hid (Below w.heap.size w (w.alloc (.cells #[.int .i64 c.kind, .slice na nn nc, .slice ra rn rc, .slice ka kn kc] 30))) := hb0
    have HR : Hid (Rd lo hi (w.alloc (.cells #[.int .i64 c.kind, .slice na nn nc, .slice ra rn rc, .slice ka kn kc] 30)) ra rn rc c.role) := hr.below hb0 hhi
    have HRF : Hid (roleFit c = if roleB c.kind = true then lowOk c.role else decide (rn = 0)) := by unfold Hid roleFit; rw [hrl]
    obtain ⟨k, hkd⟩ : ∃ k, k = c.kind := ⟨_, rfl⟩
    rw [← hkd] at HB0 HR HRF ⊢
    clear hb0 hr hkd hrl
    cases hm : roleB k
    · have HX : Hid (roleFit c = ((rn : Int) == 0)) := by unfold Hid; rw [HRF.out, hm, if_neg (by simp)]; by_cases h : rn = 0 <;> simp [h]
      go_enter Try.func63, Try.ntmps63
      go_wp2_with (first | (go_at_call 79; refine (hasRole_any _ _).mono ?_; rintro e w' ⟨rfl, hw⟩; rw [hw, hm]; clear hw))
      go_ret
      exact ⟨rb (by rw [HX.out]), HB0.out⟩
    · have HX : Hid (roleFit c = lowOk c.role) := by unfold Hid; rw [HRF.out, hm, if_pos rfl]
      go_enter Try.func63, Try.ntmps63
      go_wp2_with (first | (go_at_call 79; refine (hasRole_any _ _).mono ?_; rintro e w' ⟨rfl, hw⟩; rw [hw, hm]; clear hw) | (go_at_call 53; refine (implLowerOk_any ra rn rc c.role _ HR.out).mono ?_; rintro e w' ⟨rfl, hw⟩; rw [hw]; clear hw))
      go_ret
      exact ⟨rb HX.out.symm, HB0.out⟩
end

section
open Go.RowKit

set_option maxRecDepth 100000 in
set_option maxHeartbeats 2000000 in
theorem shapeOk_any {d : Nat} {v : Value} {c : CN} {w : World} {lo hi : Nat} (h : RdC lo hi w d v c) (hhi : hi ≤ w.heap.size) :
    Calls Try.prog 34 #[v] w fun e w' => e = .returned (.bool (shapeB c)) ∧ Below w.heap.size w w' := by
  cases d with
  | zero => exact h.elim
  | succ d =>
    have HRd : Hid (RdC lo hi w (d + 1) v c) := h
    obtain ⟨na, nn, nc, ra, rn, rc, ka, kn, kc, rfl, _, _, hk⟩ := h
    have HKL : Hid (c.kids.length = kn) := hk.len
    have HS : Hid (shapeB c = (nameFit c && (roleFit c && decide ((kn : Int) = kidN c.kind)))) := by unfold Hid shapeB; rw [hk.len]
    obtain ⟨k, hkd⟩ : ∃ k, k = c.kind := ⟨_, rfl⟩
    rw [← hkd] at HRd HS ⊢
    have hb0 : Below w.heap.size w (w.alloc (.cells #[.int .i64 k, .slice na nn nc, .slice ra rn rc, .slice ka kn kc] 30)).drew := ((Below.refl _ _).alloc (Nat.le_refl _) _).drew
    have HB0 : Hid (Below w.heap.size w (w.alloc (.cells #[.int .i64 k, .slice na nn nc, .slice ra rn rc, .slice ka kn kc] 30)).drew) := hb0
    have HR0 : Hid (RdC lo hi (w.alloc (.cells #[.int .i64 k, .slice na nn nc, .slice ra rn rc, .slice ka kn kc] 30)).drew (d + 1) (.agg #[.int .i64 k, .slice na nn nc, .slice ra rn rc, .slice ka kn kc]) c) := HRd.out.below hb0 hhi
    have HBx0 : Hid (BoxC (w.alloc (.cells #[.int .i64 k, .slice na nn nc, .slice ra rn rc, .slice ka kn kc] 30)).drew w.heap.size (.int .i64 k) (.slice na nn nc) (.slice ra rn rc) (.slice ka kn kc)) := BoxC.new w _ _ _ _
    clear hk hkd hb0
    cases hN : nameFit c
    · have HE : Hid (shapeB c = false) := by unfold Hid; rw [HS.out, hN]; rfl
      go_enter Try.func34, Try.ntmps34
      go_wp2_with fail
      first | go_region_with (go_at_call 62; refine (nameFits_any HR0.out (Nat.le_trans hhi HB0.out.size)).mono ?_; rintro e w1 ⟨rfl, hb1⟩; rw [hN]; have HB1 : Hid (Below w.heap.size w w1) := HB0.out.trans (hb1.mono HB0.out.size); clear hb1) | fail
      all_goals
        go_wp2_with fail
        go_ret
        exact ⟨rb HE.out.symm, HB1.out⟩
    · cases hR : roleFit c
      · have HE : Hid (shapeB c = false) := by unfold Hid; rw [HS.out, hN, hR]; rfl
        go_enter Try.func34, Try.ntmps34
        go_wp2_with fail
        first | go_region_with (first | (go_at_call 62; refine (nameFits_any HR0.out (Nat.le_trans hhi HB0.out.size)).mono ?_; rintro e w1 ⟨rfl, hb1⟩; rw [hN]; have HB1 : Hid (Below w.heap.size w w1) := HB0.out.trans (hb1.mono HB0.out.size); have HR1 : Hid (RdC lo hi w1 (d + 1) (.agg #[.int .i64 k, .slice na nn nc, .slice ra rn rc, .slice ka kn kc]) c) := HRd.out.below HB1.out hhi; have HBx1 : Hid (BoxC w1 w.heap.size (.int .i64 k) (.slice na nn nc) (.slice ra rn rc) (.slice ka kn kc)) := HBx0.out.below hb1 HBx0.out.lt; obtain ⟨c0, c1, c2, c3⟩ := HBx1.out.cells; clear hb1) | (go_at_call 63; refine (roleFits_any HR1.out (Nat.le_trans hhi HB1.out.size)).mono ?_; rintro e w2 ⟨rfl, hb2⟩; rw [hR]; have HB2 : Hid (Below w.heap.size w w2) := HB1.out.trans (hb2.mono HB1.out.size); clear hb2)) | fail
        all_goals
          go_wp2_with fail
          go_ret
          exact ⟨rb HE.out.symm, HB2.out⟩
      · have HE : Hid (shapeB c = ((kn : Int) == kidN k)) := by unfold Hid; rw [HS.out, hN, hR]; rfl
        go_enter Try.func34, Try.ntmps34
        go_wp2_with fail
        first | go_region_with (first | (go_at_call 62; refine (nameFits_any HR0.out (Nat.le_trans hhi HB0.out.size)).mono ?_; rintro e w1 ⟨rfl, hb1⟩; rw [hN]; have HB1 : Hid (Below w.heap.size w w1) := HB0.out.trans (hb1.mono HB0.out.size); have HR1 : Hid (RdC lo hi w1 (d + 1) (.agg #[.int .i64 k, .slice na nn nc, .slice ra rn rc, .slice ka kn kc]) c) := HRd.out.below HB1.out hhi; have HBx1 : Hid (BoxC w1 w.heap.size (.int .i64 k) (.slice na nn nc) (.slice ra rn rc) (.slice ka kn kc)) := HBx0.out.below hb1 HBx0.out.lt; obtain ⟨c0, c1, c2, c3⟩ := HBx1.out.cells; clear hb1) | (go_at_call 63; refine (roleFits_any HR1.out (Nat.le_trans hhi HB1.out.size)).mono ?_; rintro e w2 ⟨rfl, hb2⟩; rw [hR]; have HB2 : Hid (Below w.heap.size w w2) := HB1.out.trans (hb2.mono HB1.out.size); have HBx2 : Hid (BoxC w2 w.heap.size (.int .i64 k) (.slice na nn nc) (.slice ra rn rc) (.slice ka kn kc)) := HBx1.out.below hb2 HBx1.out.lt; obtain ⟨e0, e1, e2, e3⟩ := HBx2.out.cells; clear hb2) | (go_at_call 64; refine (kidCount_any _ _).mono ?_; rintro e w3 ⟨rfl, hw⟩; rw [hw]; clear hw)) | fail
        all_goals
          go_wp2_with fail
          go_ret
          exact ⟨rb HE.out.symm, HB2.out⟩
end

section
open Go.RowKit
end

end Go.Proofs.Ytnmljalcndfjmaa
