/- A concept with Not ahead of names alone, and its opposite, as a function; how much it holds. -/
import Derived.Test.YthojlfcahhjfaaaConTxt
import Derived.Test.YthojlfcahhjfaaaConClone
namespace Go.Proofs.Ythojlfcahhjfaaa
open Go.RowKit

mutual
/-- Not brought down to names; with no: the opposite. -/
def nnfC (no : Bool) : CN → CN
  | .mk k n r ks => if k = 3 then nnfH (!no) ks else if k = 2 then (if no = true then .mk 3 [] [] [.mk k n r ks] else .mk k n r ks) else .mk (if no = true then otherK k else k) [] r (nnfL no ks)
def nnfH (no : Bool) : List CN → CN
  | [] => CN.zero
  | c :: _ => nnfC no c
def nnfL (no : Bool) : List CN → List CN
  | [] => []
  | c :: cs => nnfC no c :: nnfL no cs
end

theorem nnfL_map (no : Bool) (cs : List CN) : nnfL no cs = cs.map (nnfC no) := by
  induction cs with
  | nil => rw [nnfL]; rfl
  | cons c cs ih => rw [nnfL, ih]; rfl

theorem nnfC_not {no : Bool} {c : CN} (h : c.kind = 3) (hl : 0 < c.kids.length) : nnfC no c = nnfC (!no) (c.kids.getD 0 CN.zero) := by
  cases c with
  | mk k n r ks =>
    simp only [CN.kind] at h
    simp only [CN.kids] at hl ⊢
    subst h
    rw [nnfC, if_pos rfl]
    cases ks with
    | nil => simp at hl
    | cons x xs => rw [nnfH]; rfl

theorem nnfC_name {no : Bool} {c : CN} (h : c.kind = 2) : nnfC no c = if no = true then .mk 3 [] [] [c] else c := by
  cases c with
  | mk k n r ks =>
    simp only [CN.kind] at h
    subst h
    rw [nnfC, if_neg (by decide), if_pos rfl]

theorem nnfC_else {no : Bool} {c : CN} (h3 : c.kind ≠ 3) (h2 : c.kind ≠ 2) : nnfC no c = .mk (if no = true then otherK c.kind else c.kind) [] c.role (c.kids.map (nnfC no)) := by
  cases c with
  | mk k n r ks =>
    simp only [CN.kind] at h3 h2
    rw [nnfC, if_neg h3, if_neg h2, nnfL_map]
    rfl

mutual
theorem nnfC_bulk (no : Bool) : ∀ c : CN, (nnfC no c).bulk + 1 ≤ 2 * (c.bulk + 1)
  | .mk k n r ks => by
    rw [nnfC]
    split
    · have := nnfH_bulk (!no) ks
      rw [CN.bulk]; omega
    · split
      · split
        · simp only [CN.bulk, bulks, List.length_nil]; omega
        · omega
      · have := nnfL_bulk no ks
        simp only [CN.bulk, List.length_nil]
        omega
theorem nnfH_bulk (no : Bool) : ∀ cs : List CN, (nnfH no cs).bulk + 1 ≤ 2 * bulks cs + 1
  | [] => by rw [nnfH, bulks]; simp [CN.zero, CN.bulk, bulks]
  | c :: cs => by
    have := nnfC_bulk no c
    rw [nnfH, bulks]; omega
theorem nnfL_bulk (no : Bool) : ∀ cs : List CN, bulks (nnfL no cs) ≤ 2 * bulks cs
  | [] => by rw [nnfL, bulks]; omega
  | c :: cs => by
    have h1 := nnfC_bulk no c
    have h2 := nnfL_bulk no cs
    rw [nnfL, bulks, bulks]; omega
end

theorem shape_len {c : CN} (h : shapeB c = true) : c.name.length + c.role.length ≤ 12 := by
  unfold shapeB at h
  simp only [Bool.and_eq_true, decide_eq_true_eq] at h
  obtain ⟨h1, h2, _⟩ := h
  have hn : c.name.length ≤ 6 := by
    unfold nameFit at h1
    split at h1
    · rw [Bool.and_eq_true] at h1; exact (longB_of_up h1.1).2
    · simp only [decide_eq_true_eq] at h1; omega
  have hr : c.role.length ≤ 6 := by
    unfold roleFit at h2
    split at h2
    · exact (longB_of_low h2).2
    · simp only [decide_eq_true_eq] at h2; omega
  omega

mutual
theorem bulk_parts : ∀ (c : CN) (deep : Nat), (parts c deep).all okOne = true → c.bulk + 1 ≤ 13 * (parts c deep).length
  | .mk k n r ks, deep, h => by
    rw [parts, List.all_cons, Bool.and_eq_true] at h
    have h1 := bulks_parts ks (deep + 1) h.2
    have h2 : shapeB (.mk k n r ks) = true := by have := h.1; unfold okOne at this; rw [Bool.and_eq_true] at this; exact this.2
    have h3 := shape_len h2
    simp only [CN.name, CN.role] at h3
    rw [parts, CN.bulk, List.length_cons]; omega
theorem bulks_parts : ∀ (cs : List CN) (deep : Nat), (partsL cs deep).all okOne = true → bulks cs ≤ 13 * (partsL cs deep).length
  | [], _, _ => by simp [bulks]
  | c :: cs, deep, h => by
    rw [partsL, List.all_append, Bool.and_eq_true] at h
    have h1 := bulk_parts c deep h.1
    have h2 := bulks_parts cs deep h.2
    rw [partsL, bulks, List.length_append]; omega
end

theorem bulk_of_ok {c : CN} (h : conOk c = true) : c.bulk ≤ 208 := by
  unfold conOk at h
  rw [Bool.and_eq_true, decide_eq_true_eq] at h
  have := bulk_parts c 1 h.2
  omega

theorem nnf_bulk_of_ok {c : CN} (h : conOk c = true) (no : Bool) : (nnfC no c).bulk ≤ 1000 := by
  have h1 := bulk_of_ok h
  have h2 := nnfC_bulk no c
  omega

end Go.Proofs.Ythojlfcahhjfaaa
