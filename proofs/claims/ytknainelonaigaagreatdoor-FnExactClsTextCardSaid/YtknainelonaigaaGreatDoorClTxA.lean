/- The text of a clause, both sides, whole: contracts. -/
import Derived.Test.YtknainelonaigaaGreatDoorNTxT
import Derived.Test.YtknainelonaigaaGreatDoorNTxI
import Derived.Test.YtknainelonaigaaGreatDoorClTxT5
import Derived.Test.YtknainelonaigaaGreatDoorClTxT6
namespace Go.Proofs.YtknainelonaigaaGreatDoor
open Go.RowKit
set_option linter.unusedVariables false

/-- A clause's text; nothing where it may not be. -/
def clauseT (k f r u xp xn yp yn : Int) (xs : List (Int × Int)) (a b : Int) : List Int := if clauseB k f r u xp xn yp yn xs a b = true then clT k f.toNat r.toNat u.toNat (natP (six xp xn yp yn xs)) a.toNat b.toNat else []

theorem litsW_byt (p n : Nat) (os : List Int) (ho : ∀ x ∈ os, 0 ≤ x ∧ x ≤ 255) : ∀ k, k ≤ 24 → ∀ x ∈ litsW p n os k, 0 ≤ x ∧ x ≤ 255
  | 0, _ => by intro x hx; simp [litsW] at hx
  | k + 1, hk => by
    intro x hx
    simp only [litsW, List.mem_append] at hx
    rcases hx with hx | hx
    · exact litsW_byt p n os ho k (by omega) x hx
    · unfold litAtT at hx
      rcases List.mem_append.1 hx with hx | hx
      · split at hx
        · simp only [List.mem_append] at hx
          rcases hx with (hx | hx) | hx
          · simp at hx; omega
          · exact digT_byt (by omega) x hx
          · exact ho x hx
        · simp at hx
      · split at hx
        · simp only [List.mem_append] at hx
          rcases hx with (hx | hx) | hx
          · simp at hx; omega
          · exact digT_byt (by omega) x hx
          · exact ho x hx
        · simp at hx
theorem markT_byt (i : Nat) : ∀ x ∈ [markT.getD i 0], 0 ≤ x ∧ x ≤ 255 := by
  intro x hx
  simp only [List.mem_singleton] at hx
  subst hx
  match i with
  | 0 => decide
  | 1 => decide
  | 2 => decide
  | 3 => decide
  | 4 => decide
  | 5 => decide
  | n + 6 => simp [markT]
theorem partsW_byt : ∀ (ps : List (Nat × Nat)) (i : Nat), ∀ x ∈ partsW i ps, 0 ≤ x ∧ x ≤ 255
  | [], _ => by intro x hx; simp [partsW] at hx
  | p :: ps, i => by
    intro x hx
    rw [partsW, List.mem_append] at hx
    rcases hx with hx | hx
    · exact litsW_byt _ _ _ (markT_byt i) 24 (Nat.le_refl _) x hx
    · exact partsW_byt ps (i + 1) x hx
theorem wdK_byt (k : Int) : ∀ x ∈ wdK k, 0 ≤ x ∧ x ≤ 255 := by
  unfold wdK
  repeat' split
  all_goals decide
theorem wdK_len (k : Int) : (wdK k).length ≤ 4 := by
  unfold wdK
  repeat' split
  all_goals decide
theorem numsK_byt {k : Int} {f r u a b : Nat} (hf : f < 100) (hr : r < 100) (hu : u < 100) (ha : a < 100) (hb : b < 100) : ∀ x ∈ numsK k f r u a b, 0 ≤ x ∧ x ≤ 255 := by
  intro x hx
  unfold numsK at hx
  simp only [List.mem_append] at hx
  have hW : ∀ x ∈ fW, 0 ≤ x ∧ x ≤ 255 := by decide
  have hW' : ∀ x ∈ rW, 0 ≤ x ∧ x ≤ 255 := by decide
  rcases hx with hx | hx | hx | hx
  · split at hx
    · rcases List.mem_append.1 hx with q | q
      · exact hW x q
      · exact digT_byt hf x q
    · simp at hx
  · split at hx
    · rcases List.mem_append.1 hx with q | q
      · exact hW' x q
      · exact digT_byt hr x q
    · simp at hx
  · split at hx
    · rcases List.mem_append.1 hx with q | q
      · exact hW' x q
      · exact digT_byt hu x q
    · simp at hx
  · split at hx
    · simp only [List.mem_append] at hx
      rcases hx with ((q | q) | q) | q
      · simp at q; omega
      · exact digT_byt ha x q
      · simp at q; omega
      · exact digT_byt hb x q
    · simp at hx
theorem numsK_len (k : Int) (f r u a b : Nat) : (numsK k f r u a b).length ≤ 20 := by
  have h1 := digT_len f
  have h2 := digT_len r
  have h3 := digT_len u
  have h4 := digT_len a
  have h5 := digT_len b
  have e1 := fW_len
  have e2 := rW_len
  unfold numsK
  simp only [List.length_append]
  split <;> split <;> split <;> split <;> simp only [List.length_append, List.length_cons, List.length_nil] <;> omega
theorem getD_byt {zs : List Int} (h : ∀ x ∈ zs, 0 ≤ x ∧ x ≤ 255) : ∀ i, 0 ≤ zs.getD i 0 ∧ zs.getD i 0 ≤ 255 := by
  intro i
  by_cases hi : i < zs.length
  · rw [List.getD_eq_getElem?_getD, List.getElem?_eq_getElem hi]; exact h _ (List.getElem_mem hi)
  · rw [List.getD_eq_getElem?_getD, List.getElem?_eq_none (by omega)]; simp

theorem numC_small {n lim : Int} {h : Bool} (hl : lim ≤ 16) (hl' : 0 < lim) (e : numB n lim h = true) : 0 ≤ n ∧ n < 16 := by
  unfold numB at e
  split at e
  · have := of_decide_eq_true e; omega
  · have := of_decide_eq_true e; omega
theorem clauseC_nums {k f r u xp xn yp yn a b : Int} {xs : List (Int × Int)} (h : clauseB k f r u xp xn yp yn xs a b = true) : (0 ≤ k ∧ k ≤ 6) ∧ (0 ≤ f ∧ f < 16) ∧ (0 ≤ r ∧ r < 16) ∧ (0 ≤ u ∧ u < 16) ∧ (0 ≤ a ∧ a < 16) ∧ (0 ≤ b ∧ b < 16) := by
  unfold clauseB at h
  simp only [Bool.and_eq_true] at h
  obtain ⟨h0, h1, h2, h3, h4, h5, _⟩ := h
  exact ⟨of_decide_eq_true h0, numC_small (by decide) (by decide) h1, numC_small (by decide) (by decide) h2, numC_small (by decide) (by decide) h3, numC_small (by decide) (by decide) h4, numC_small (by decide) (by decide) h5⟩
theorem clauseT_byt (k f r u xp xn yp yn : Int) (xs : List (Int × Int)) (a b : Int) : (∀ i, 0 ≤ (clauseT k f r u xp xn yp yn xs a b).getD i 0 ∧ (clauseT k f r u xp xn yp yn xs a b).getD i 0 ≤ 255) ∧ (clauseT k f r u xp xn yp yn xs a b).length ≤ 5000 := by
  unfold clauseT
  split
  · rename_i h
    obtain ⟨_, h1, h2, h3, h4, h5⟩ := clauseC_nums h
    rw [clT_eq]
    refine ⟨getD_byt (fun x hx => ?_), ?_⟩
    · simp only [List.mem_append] at hx
      rcases hx with (hx | hx) | hx
      · exact wdK_byt k x hx
      · exact numsK_byt (by omega) (by omega) (by omega) (by omega) (by omega) x hx
      · exact partsW_byt _ _ x hx
    · have e1 := wdK_len k
      have e2 := numsK_len k f.toNat r.toNat u.toNat a.toNat b.toNat
      have e3 := partsW_len (natP (six xp xn yp yn xs)) 0
      have e4 : (natP (six xp xn yp yn xs)).length = 6 := by simp [natP, six]
      rw [List.length_append, List.length_append]
      omega
  · exact ⟨fun i => by simp, by simp⟩

theorem ownB_low {base base' : Nat} {w : World} {v : Value} {xs : List Int} (h : OwnB base w v xs) (hb : base' ≤ base) : OwnB base' w v xs := by
  obtain ⟨h1, h2⟩ := h
  refine ⟨h1, ?_⟩
  rcases h2 with h2 | ⟨g, cap, cur, fz, hv, hg, r⟩
  · exact .inl h2
  · exact .inr ⟨g, cap, cur, fz, hv, by omega, r⟩

/-- The document's text of the parts is the program's. -/
theorem parts_none {xp xn yp yn : Nat} {xs : List (Int × Int)} (h : xs.length = 0) : partsW 0 (natP (six (xp : Nat) (xn : Nat) (yp : Nat) (yn : Nat) xs)) = litsW xp xn [120] 24 ++ litsW yp yn [121] 24 := by
  obtain rfl := List.eq_nil_of_length_eq_zero h
  simp [six, natP, partsW, litsW_zero, markT]
theorem parts_four {xp xn yp yn : Nat} {xs : List (Int × Int)} (h : xs.length = 4) : partsW 0 (natP (six (xp : Nat) (xn : Nat) (yp : Nat) (yn : Nat) xs)) = litsW xp xn [120] 24 ++ litsW yp yn [121] 24 ++ partsW 2 (natP xs) := by
  match xs, h with
  | [p, q, r, s], _ => simp [six, natP, partsW, markT]

theorem clause_inds {k f r u xp xn yp yn a b : Int} {xs : List (Int × Int)} (h : clauseB k f r u xp xn yp yn xs a b = true) (hk : k ≠ 5) : xs.length = 0 := by
  unfold clauseB at h
  simp only [Bool.and_eq_true] at h
  obtain ⟨_, _, _, _, _, _, _, _, h, _⟩ := h
  unfold indB hasI at h
  rw [decide_eq_false hk] at h
  simpa using h
theorem clause_five {f r u xp xn yp yn a b : Int} {xs : List (Int × Int)} (h : clauseB 5 f r u xp xn yp yn xs a b = true) : xs.length = 4 ∧ ∀ x ∈ xs, partB x.1 x.2 = true := by
  unfold clauseB at h
  simp only [Bool.and_eq_true] at h
  obtain ⟨_, _, _, _, _, _, _, _, h, _⟩ := h
  unfold indB hasI at h
  simp only [decide_true, if_true, Bool.and_eq_true, List.all_eq_true] at h
  exact ⟨of_decide_eq_true h.1, h.2⟩

theorem nats_of {k f r u xp xn yp yn a b : Int} {xs : List (Int × Int)} (h : clauseB k f r u xp xn yp yn xs a b = true) :
    ∃ fn rn un an bn p1 n1 p2 n2 : Nat, f = fn ∧ r = rn ∧ u = un ∧ a = an ∧ b = bn ∧ xp = p1 ∧ xn = n1 ∧ yp = p2 ∧ yn = n2 ∧ fn < 100 ∧ rn < 100 ∧ un < 100 ∧ an < 100 ∧ bn < 100 ∧ p1 < 16777216 ∧ n1 < 16777216 ∧ p2 < 16777216 ∧ n2 < 16777216 := by
  obtain ⟨_, h1, h2, h3, h4, h5⟩ := clauseC_nums h
  have hp := clauseB_parts h
  have q1 := hp (xp, xn) (by simp [six])
  have q2 := hp (yp, yn) (by simp [six])
  rw [partB_iff] at q1 q2
  obtain ⟨fn, rfl⟩ := Int.eq_ofNat_of_zero_le h1.1
  obtain ⟨rn, rfl⟩ := Int.eq_ofNat_of_zero_le h2.1
  obtain ⟨un, rfl⟩ := Int.eq_ofNat_of_zero_le h3.1
  obtain ⟨an, rfl⟩ := Int.eq_ofNat_of_zero_le h4.1
  obtain ⟨bn, rfl⟩ := Int.eq_ofNat_of_zero_le h5.1
  obtain ⟨p1, e1⟩ := Int.eq_ofNat_of_zero_le q1.1.1
  obtain ⟨n1, e2⟩ := Int.eq_ofNat_of_zero_le q1.2.1
  obtain ⟨p2, e3⟩ := Int.eq_ofNat_of_zero_le q2.1.1
  obtain ⟨n2, e4⟩ := Int.eq_ofNat_of_zero_le q2.2.1
  simp only at e1 e2 e3 e4 q1 q2
  subst e1 e2 e3 e4
  exact ⟨fn, rn, un, an, bn, p1, n1, p2, n2, rfl, rfl, rfl, rfl, rfl, rfl, rfl, rfl, rfl, by omega, by omega, by omega, by omega, by omega, by omega, by omega, by omega, by omega⟩

theorem l5text_any {k f r u xp xn yp yn : Int} {ia : Option Addr} {im ic : Nat} {a b : Int} {xs : List (Int × Int)} {w : World} {lo hi : Nat} (hR : RP lo hi w ia im ic xs) (hhi : hi ≤ w.heap.size) (hok : clauseB k f r u xp xn yp yn xs a b = true) :
    Calls Tryz.prog 19 #[.agg #[.int .i64 k, .int .i64 f, .int .i64 r, .int .i64 u, .int .i64 xp, .int .i64 xn, .int .i64 yp, .int .i64 yn, .slice ia im ic, .int .i64 a, .int .i64 b]] w fun e w' => ∃ v, e = .returned v ∧ OwnB w.heap.size w' v (clauseT k f r u xp xn yp yn xs a b) ∧ Below w.heap.size w w' := by
  have hT : clauseT k f r u xp xn yp yn xs a b = clT k f.toNat r.toNat u.toNat (natP (six xp xn yp yn xs)) a.toNat b.toNat := if_pos hok
  rw [hT, clT_eq]
  have hk := (clauseC_nums hok).1
  obtain ⟨fn, rn, un, an, bn, p1, n1, p2, n2, rfl, rfl, rfl, rfl, rfl, rfl, rfl, rfl, rfl, hfn, hrn, hun, han, hbn, hxp, hxn, hyp, hyn⟩ := nats_of hok
  simp only [Int.toNat_natCast]
  have hl := hR.len
  by_cases h5 : k = 5
  · subst h5
    obtain ⟨e4, hpt⟩ := clause_five hok
    have him : im = 4 := by omega
    subst him
    rw [parts_four e4, ← List.append_assoc, ← List.append_assoc]
    exact l5text_5 hfn hrn hun han hbn hxp hxn hyp hyn hR hhi hpt
  · have e0 := clause_inds hok h5
    have him : im = 0 := by omega
    subst him
    rw [parts_none e0, ← List.append_assoc]
    have hkk : k = 0 ∨ k = 1 ∨ k = 2 ∨ k = 3 ∨ k = 4 ∨ k = 6 := by omega
    rcases hkk with rfl | rfl | rfl | rfl | rfl | rfl
    · exact l5text_0 hfn hrn hun han hbn hxp hxn hyp hyn
    · exact l5text_1 hfn hrn hun han hbn hxp hxn hyp hyn
    · exact l5text_2 hfn hrn hun han hbn hxp hxn hyp hyn
    · exact l5text_3 hfn hrn hun han hbn hxp hxn hyp hyn
    · exact l5text_4 hfn hrn hun han hbn hxp hxn hyp hyn
    · exact l5text_6 hfn hrn hun han hbn hxp hxn hyp hyn

set_option maxRecDepth 100000 in
set_option maxHeartbeats 1000000 in
theorem implClauseText_any {k f r u xp xn yp yn : Int} {ia : Option Addr} {im ic : Nat} {a b : Int} {xs : List (Int × Int)} {w : World} {lo hi : Nat} (hR : RP lo hi w ia im ic xs) (hhi : hi ≤ w.heap.size) (hT : TabD w) (hg : 2 < w.heap.size) :
    Calls Tryz.prog 26 #[.agg #[.int .i64 k, .int .i64 f, .int .i64 r, .int .i64 u, .int .i64 xp, .int .i64 xn, .int .i64 yp, .int .i64 yn, .slice ia im ic, .int .i64 a, .int .i64 b]] w fun e w' => ∃ v, e = .returned v ∧ OwnB w.heap.size w' v (clauseT k f r u xp xn yp yn xs a b) ∧ Below w.heap.size w w' := by
  cases hok : clauseB k f r u xp xn yp yn xs a b with
  | true =>
    have hE : clauseT k f r u xp xn yp yn xs a b = clT k f.toNat r.toNat u.toNat (natP (six xp xn yp yn xs)) a.toNat b.toNat := if_pos hok
    rw [hE]
    have hk := (clauseC_nums hok).1
    obtain ⟨fn, rn, un, an, bn, p1, n1, p2, n2, rfl, rfl, rfl, rfl, rfl, rfl, rfl, rfl, rfl, hfn, hrn, hun, han, hbn, _, _, _, _⟩ := nats_of hok
    simp only [Int.toNat_natCast]
    have hkk : k = 0 ∨ k = 1 ∨ k = 2 ∨ k = 3 ∨ k = 4 ∨ k = 5 ∨ k = 6 := by omega
    rcases hkk with rfl | rfl | rfl | rfl | rfl | rfl | rfl
    · exact implClauseText_0 hR hhi hT hg hfn hrn hun han hbn hok
    · exact implClauseText_1 hR hhi hT hg hfn hrn hun han hbn hok
    · exact implClauseText_2 hR hhi hT hg hfn hrn hun han hbn hok
    · exact implClauseText_3 hR hhi hT hg hfn hrn hun han hbn hok
    · exact implClauseText_4 hR hhi hT hg hfn hrn hun han hbn hok
    · exact implClauseText_5 hR hhi hT hg hfn hrn hun han hbn hok
    · exact implClauseText_6 hR hhi hT hg hfn hrn hun han hbn hok
  | false =>
    obtain ⟨W, hW⟩ : ∃ W, W = w.alloc (.cells #[.int .i64 k, .int .i64 f, .int .i64 r, .int .i64 u, .int .i64 xp, .int .i64 xn, .int .i64 yp, .int .i64 yn, .slice ia im ic, .int .i64 a, .int .i64 b] 53) := ⟨_, rfl⟩
    have HW : Hid (W = w.alloc (.cells #[.int .i64 k, .int .i64 f, .int .i64 r, .int .i64 u, .int .i64 xp, .int .i64 xn, .int .i64 yp, .int .i64 yn, .slice ia im ic, .int .i64 a, .int .i64 b] 53)) := hW
    have hb0 : Below w.heap.size w W := by rw [hW]; exact (Below.refl _ _).alloc (Nat.le_refl _) _
    have HB0 : Hid (Below w.heap.size w W) := hb0
    have HR : Hid (RP lo hi W ia im ic xs) := hR.below hb0 hhi
    have hbx : BoxK 53 W w.heap.size k f r u xp xn yp yn (.slice ia im ic) a b := by rw [hW]; exact BoxK.new _ w _ _ _ _ _ _ _ _ _ _ _
    have HE : Hid (clauseT k f r u xp xn yp yn xs a b = []) := by unfold Hid clauseT; rw [hok]; rfl
    obtain ⟨z0, z1, z2, z3, z4, z5, z6, z7, z8, z9, z10⟩ := hbx.cells
    clear hR hW hb0 hbx hT
    go_enter Tryz.func26, Tryz.ntmps26
    go_wp2_with fail
    rw [← HW.out]
    refine (implClauseOk_any HR.out (Nat.le_trans hhi HB0.out.size)).mono ?_
    rintro e w1 ⟨rfl, hb1⟩
    rw [hok]
    have HB1 : Hid (Below w.heap.size w w1) := HB0.out.trans (hb1.mono HB0.out.size)
    clear hb1 z0 z1 z2 z3 z4 z5 z6 z7 z8 z9 z10
    go_wp2_with fail
    go_ret
    exact ⟨_, rfl, by rw [HE.out]; exact OwnB.nil _ _, HB1.out⟩

end Go.Proofs.YtknainelonaigaaGreatDoor
