/- Clauses that hold whatever there is: as mathematics: one has an atom and not it, in one of its parts. -/
import Derived.Test.YtcaljggnihinaaaDoorLitTell
import Derived.Test.YtcaljggnihinaaaDoorClOk
namespace Go.Proofs.YtcaljggnihinaaaDoor
open Go.RowKit

def bothB (p n : Int) : Bool := bits .and .i64 p n != 0
def tautB (k r u xp xn yp yn : Int) (xs : List (Int × Int)) : Bool := xs.any (fun p => bothB p.1 p.2) || (bothB xp xn || (bothB yp yn || (decide (k = 4) && decide (r = u))))

theorem both_nat (p n : Nat) (hp : p < 16777216) (hn : n < 16777216) : bothB (p : Int) (n : Int) = true ↔ ∃ a, a < 24 ∧ p.testBit a = true ∧ n.testBit a = true := by
  unfold bothB
  rw [bits_and_nat p n (by omega) (by omega)]
  simp only [bne_iff_ne, ne_eq, Int.natCast_eq_zero]
  constructor
  · intro h
    obtain ⟨a, ha⟩ := Nat.exists_testBit_of_ne_zero h
    rw [Nat.testBit_and, Bool.and_eq_true] at ha
    refine ⟨a, ?_, ha.1, ha.2⟩
    apply Nat.lt_of_not_le
    intro hle
    have := ha.1
    rw [Nat.testBit_lt_two_pow (x := p) (Nat.lt_of_lt_of_le (show p < 2 ^ 24 by omega) (Nat.pow_le_pow_right (by omega) hle))] at this
    cases this
  · rintro ⟨a, _, h1, h2⟩ e
    have : (p &&& n).testBit a = true := by rw [Nat.testBit_and, h1, h2]; rfl
    rw [e, Nat.zero_testBit] at this
    cases this

/-- The same atom in the same part. -/
def LT.twin (x y : LT) : Prop := x.place = y.place ∧ x.atom = y.atom

theorem mem_litsTo' (i p n : Nat) (x : LT) : ∀ k, x ∈ litsTo i p n k ↔ ∃ a, a < k ∧ ((p.testBit a = true ∧ x = ⟨i, a, false⟩) ∨ (n.testBit a = true ∧ x = ⟨i, a, true⟩))
  | 0 => by simp [litsTo]
  | k + 1 => by
    rw [litsTo, List.mem_append, mem_litsTo' i p n x k]
    constructor
    · rintro (⟨a, h1, h2⟩ | h)
      · exact ⟨a, by omega, h2⟩
      · unfold litAt at h
        rw [List.mem_append] at h
        rcases h with h | h
        · split at h
          · rename_i hb; exact ⟨k, by omega, .inl ⟨hb, by simpa using h⟩⟩
          · simp at h
        · split at h
          · rename_i hb; exact ⟨k, by omega, .inr ⟨hb, by simpa using h⟩⟩
          · simp at h
    · rintro ⟨a, h1, h2⟩
      by_cases e : a = k
      · subst e
        refine .inr ?_
        unfold litAt
        rw [List.mem_append]
        rcases h2 with ⟨hb, rfl⟩ | ⟨hb, rfl⟩
        · exact .inl (by rw [if_pos hb]; simp)
        · exact .inr (by rw [if_pos hb]; simp)
      · exact .inl ⟨a, by omega, h2⟩

/-- Of two literals with one atom in one part the atom stands first. -/
def LT.fine (x y : LT) : Prop := x.twin y → x.no = false ∧ y.no = true

theorem fine_litsTo (i p n : Nat) : ∀ k, (litsTo i p n k).Pairwise LT.fine
  | 0 => by simp [litsTo]
  | k + 1 => by
    rw [litsTo, List.pairwise_append]
    refine ⟨fine_litsTo i p n k, ?_, ?_⟩
    · unfold litAt
      by_cases h1 : p.testBit k = true <;> by_cases h2 : n.testBit k = true <;> simp [h1, h2, LT.fine]
    · intro x hx y hy ht
      obtain ⟨a, ha, hx⟩ := (mem_litsTo' i p n x k).1 hx
      have hy' : y.atom = k := by
        unfold litAt at hy
        rw [List.mem_append] at hy
        rcases hy with hy | hy <;> split at hy <;> simp at hy <;> simp [hy]
      have hx' : x.atom = a := by rcases hx with ⟨_, rfl⟩ | ⟨_, rfl⟩ <;> rfl
      have := ht.2
      omega

theorem mem_litsL : ∀ (l : List (Nat × Nat)) (i : Nat) (x : LT), x ∈ litsL i l ↔ ∃ j, j < l.length ∧ x ∈ litsP (i + j) (l.getD j (0, 0)).1 (l.getD j (0, 0)).2
  | [], i, x => by simp [litsL]
  | y :: l, i, x => by
    rw [litsL, List.mem_append, mem_litsL l (i + 1) x]
    constructor
    · rintro (h | ⟨j, hj, h⟩)
      · exact ⟨0, by simp, by simpa using h⟩
      · exact ⟨j + 1, by simpa using hj, by rw [show i + (j + 1) = i + 1 + j by omega]; simpa using h⟩
    · rintro ⟨j, hj, h⟩
      cases j with
      | zero => exact .inl (by simpa using h)
      | succ j => exact .inr ⟨j, by simpa using hj, by rw [show i + 1 + j = i + (j + 1) by omega]; simpa using h⟩

theorem place_litsP {i p n : Nat} {x : LT} (h : x ∈ litsP i p n) : x.place = i := by
  obtain ⟨a, _, h⟩ := (mem_litsTo' i p n x 24).1 h
  rcases h with ⟨_, rfl⟩ | ⟨_, rfl⟩ <;> rfl

theorem fine_litsL : ∀ (l : List (Nat × Nat)) (i : Nat), (litsL i l).Pairwise LT.fine
  | [], _ => by simp [litsL]
  | y :: l, i => by
    rw [litsL, List.pairwise_append]
    refine ⟨fine_litsTo i y.1 y.2 24, fine_litsL l (i + 1), ?_⟩
    intro x hx z hz ht
    obtain ⟨j, _, hz⟩ := (mem_litsL l (i + 1) z).1 hz
    have h1 := place_litsP hx
    have h2 := place_litsP hz
    have := ht.1
    omega

theorem lit_bit {l : List (Nat × Nat)} {x : LT} (h : x ∈ litsL 0 l) : x.place < l.length ∧ x.atom < 24 ∧ (if x.no = true then (l.getD x.place (0, 0)).2.testBit x.atom = true else (l.getD x.place (0, 0)).1.testBit x.atom = true) := by
  obtain ⟨j, hj, h⟩ := (mem_litsL l 0 x).1 h
  have hp := place_litsP h
  obtain ⟨a, ha, h⟩ := (mem_litsTo' _ _ _ x 24).1 h
  rw [Nat.zero_add] at hp
  subst hp
  rcases h with ⟨hb, e⟩ | ⟨hb, e⟩
  · rw [e] at hj hb ⊢
    exact ⟨hj, ha, by simpa using hb⟩
  · rw [e] at hj hb ⊢
    exact ⟨hj, ha, by simpa using hb⟩

/-- A literal behind its twin: that part has both. -/
theorem both_of_twin {l : List (Nat × Nat)} {pre : List LT} {x y : LT} (h : pre ++ [x] <+: litsL 0 l) (hy : y ∈ pre) (ht : y.twin x) : ∃ j, j < l.length ∧ ∃ a, a < 24 ∧ (l.getD j (0, 0)).1.testBit a = true ∧ (l.getD j (0, 0)).2.testBit a = true := by
  obtain ⟨t, e⟩ := h
  have hf := fine_litsL l 0
  rw [← e, List.append_assoc, List.pairwise_append] at hf
  obtain ⟨h1, h2⟩ := hf.2.2 y hy x (by simp) ht
  have my : y ∈ litsL 0 l := by rw [← e]; simp [hy]
  have mx : x ∈ litsL 0 l := by rw [← e]; simp
  obtain ⟨_, _, b1⟩ := lit_bit my
  obtain ⟨p2, a2, b2⟩ := lit_bit mx
  rw [h1] at b1
  rw [h2] at b2
  simp only [Bool.false_eq_true, if_false, if_true] at b1 b2
  rw [ht.1, ht.2] at b1
  exact ⟨x.place, p2, x.atom, a2, b1, b2⟩

/-- No literal has a twin ahead of it: no part has both. -/
theorem no_both {l : List (Nat × Nat)} (h : (litsL 0 l).Pairwise (fun x y => ¬ x.twin y)) (j : Nat) (hj : j < l.length) (a : Nat) (ha : a < 24) : ¬ ((l.getD j (0, 0)).1.testBit a = true ∧ (l.getD j (0, 0)).2.testBit a = true) := by
  rintro ⟨h1, h2⟩
  have m1 : (⟨j, a, false⟩ : LT) ∈ litsL 0 l := (mem_litsL l 0 _).2 ⟨j, hj, by rw [Nat.zero_add]; exact (mem_litsTo' _ _ _ _ 24).2 ⟨a, ha, .inl ⟨h1, rfl⟩⟩⟩
  have m2 : (⟨j, a, true⟩ : LT) ∈ litsL 0 l := (mem_litsL l 0 _).2 ⟨j, hj, by rw [Nat.zero_add]; exact (mem_litsTo' _ _ _ _ 24).2 ⟨a, ha, .inr ⟨h2, rfl⟩⟩⟩
  obtain ⟨i1, q1, e1⟩ := List.mem_iff_getElem.1 m1
  obtain ⟨i2, q2, e2⟩ := List.mem_iff_getElem.1 m2
  rw [List.pairwise_iff_getElem] at h
  have hne : i1 ≠ i2 := by
    intro e
    subst e
    rw [e1] at e2
    simp at e2
  rcases Nat.lt_or_gt_of_ne hne with hl | hl
  · have := h i1 i2 q1 q2 hl
    rw [e1, e2] at this
    exact this ⟨rfl, rfl⟩
  · have := h i2 i1 q2 q1 hl
    rw [e1, e2] at this
    exact this ⟨rfl, rfl⟩

theorem six_any {xp xn yp yn : Int} {xs : List (Int × Int)} (hl : xs.length = 0 ∨ xs.length = 4) : (six xp xn yp yn xs).any (fun p => bothB p.1 p.2) = (xs.any (fun p => bothB p.1 p.2) || (bothB xp xn || bothB yp yn)) := by
  have z : bothB 0 0 = false := by decide +kernel
  rcases hl with h | h
  · obtain rfl := List.eq_nil_of_length_eq_zero h
    simp [six, z]
  · match xs, h with
    | [x0, x1, x2, x3], _ =>
      simp only [six, List.any_cons, List.any_nil, List.getD_cons_zero, List.getD_cons_succ, Bool.or_false]
      cases bothB xp xn <;> cases bothB yp yn <;> simp

theorem any_both {l : List (Int × Int)} (hok : ∀ x ∈ l, partB x.1 x.2 = true) : l.any (fun p => bothB p.1 p.2) = true ↔ ∃ j, j < (natP l).length ∧ ∃ a, a < 24 ∧ ((natP l).getD j (0, 0)).1.testBit a = true ∧ ((natP l).getD j (0, 0)).2.testBit a = true := by
  have hlen : (natP l).length = l.length := by simp [natP]
  have key : ∀ j, j < l.length → (bothB (l.getD j (0, 0)).1 (l.getD j (0, 0)).2 = true ↔ ∃ a, a < 24 ∧ ((natP l).getD j (0, 0)).1.testBit a = true ∧ ((natP l).getD j (0, 0)).2.testBit a = true) := by
    intro j hj
    have hm : l.getD j (0, 0) ∈ l := by rw [List.getD_eq_getElem?_getD, List.getElem?_eq_getElem hj]; exact List.getElem_mem _
    obtain ⟨⟨h1, h2⟩, h3, h4⟩ := partB_iff.1 (hok _ hm)
    rw [natP_getD l j hj]
    have e := both_nat (l.getD j (0, 0)).1.toNat (l.getD j (0, 0)).2.toNat (by omega) (by omega)
    rw [show (((l.getD j (0, 0)).1.toNat : Nat) : Int) = (l.getD j (0, 0)).1 by omega, show (((l.getD j (0, 0)).2.toNat : Nat) : Int) = (l.getD j (0, 0)).2 by omega] at e
    exact e
  rw [List.any_eq_true]
  constructor
  · rintro ⟨x, hx, hb⟩
    obtain ⟨j, hj, rfl⟩ := List.mem_iff_getElem.1 hx
    refine ⟨j, by omega, (key j hj).1 ?_⟩
    rw [List.getD_eq_getElem?_getD, List.getElem?_eq_getElem hj]
    exact hb
  · rintro ⟨j, hj, h⟩
    have hj' : j < l.length := by omega
    refine ⟨l.getD j (0, 0), by rw [List.getD_eq_getElem?_getD, List.getElem?_eq_getElem hj']; exact List.getElem_mem _, (key j hj').2 h⟩

end Go.Proofs.YtcaljggnihinaaaDoor
