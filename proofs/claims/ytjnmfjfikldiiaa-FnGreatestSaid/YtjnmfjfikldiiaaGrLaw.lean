/- What the greatest literal of a part is, said by shifts. -/
import Derived.Test.YtjnmfjfikldiiaaGrImpl
import Derived.Test.YtjnmfjfikldiiaaDraw3
namespace Go.Proofs.Ytjnmfjfikldiiaa
open Go.RowKit

theorem great_four : greatest 4 4 = (2, true, true) := by decide +kernel

/-- No part, or one without a literal: zeros. -/
theorem great_no {p q : Int} (h : (greatest p q).2.2 = false) : greatest p q = (0, false, false) ∧ (partB p q = false ∨ p = 0 ∧ q = 0) := by
  unfold greatest at h ⊢
  by_cases hp : partB p q = true
  · rw [if_pos hp] at h ⊢
    have hq := partB_iff.1 hp
    by_cases h0 : p = 0 ∧ q = 0
    · obtain ⟨rfl, rfl⟩ := h0
      exact ⟨grF_none, .inr ⟨rfl, rfl⟩⟩
    · have hx0 : p.toNat ||| q.toNat ≠ 0 := by
        intro hx
        have q1 : p.toNat ≤ p.toNat ||| q.toNat := Nat.left_le_or
        have q2 : q.toNat ≤ p.toNat ||| q.toNat := Nat.right_le_or
        omega
      rw [grF_all p.toNat q.toNat (by omega) (by omega) hx0] at h
      simp at h
  · rw [if_neg hp]
    exact ⟨rfl, .inl (by simpa using hp)⟩

/-- The greatest literal is there, and none is greater. -/
theorem great_yes {p q : Int} (h : (greatest p q).2.2 = true) : ∃ l : Nat, l < 24 ∧ (greatest p q).1 = (l : Int) ∧ (0 ≤ p ∧ p < 16777216) ∧ (0 ≤ q ∧ q < 16777216) ∧
    ((greatest p q).2.1 = true → q / 2 ^ l = 1 ∧ p / 2 ^ l ≤ 1) ∧ ((greatest p q).2.1 = false → p / 2 ^ l = 1 ∧ q / 2 ^ l = 0) := by
  unfold greatest at h ⊢
  by_cases hp : partB p q = true
  · rw [if_pos hp] at h ⊢
    have hq := partB_iff.1 hp
    by_cases h0 : p = 0 ∧ q = 0
    · obtain ⟨rfl, rfl⟩ := h0
      rw [show grF (0 : Int).toNat (0 : Int).toNat 24 = (0, false, false) from grF_none] at h
      simp at h
    · obtain ⟨a, rfl⟩ : ∃ a : Nat, p = (a : Int) := ⟨p.toNat, by omega⟩
      obtain ⟨c, rfl⟩ : ∃ c : Nat, q = (c : Int) := ⟨q.toNat, by omega⟩
      simp only [Int.toNat_natCast] at h ⊢
      have q1 : a ≤ a ||| c := Nat.left_le_or
      have q2 : c ≤ a ||| c := Nat.right_le_or
      have hx0 : a ||| c ≠ 0 := by omega
      have hx : a ||| c < 2 ^ 24 := Nat.or_lt_two_pow (by omega) (by omega)
      rw [grF_all a c (by omega) (by omega) hx0]
      obtain ⟨l, e1, hl, r1, r2⟩ := bitLen_pos (a ||| c) hx0 (by omega)
      rw [e1]
      have hpos : 0 < 2 ^ l := Nat.two_pow_pos l
      have ha1 : a / 2 ^ l ≤ 1 := by
        have : a / 2 ^ l < 2 := (Nat.div_lt_iff_lt_mul hpos).2 (by rw [Nat.pow_succ] at r2; omega)
        omega
      have hc1 : c / 2 ^ l ≤ 1 := by
        have : c / 2 ^ l < 2 := (Nat.div_lt_iff_lt_mul hpos).2 (by rw [Nat.pow_succ] at r2; omega)
        omega
      have ht : (a ||| c).testBit l = true := by
        rw [Nat.testBit_eq_decide_div_mod_eq]
        have : (a ||| c) / 2 ^ l = 1 := by
          apply Nat.div_eq_of_lt_le
          · omega
          · rw [Nat.pow_succ] at r2; omega
        simp [this]
      rw [Nat.testBit_or, Nat.testBit_eq_decide_div_mod_eq, Nat.testBit_eq_decide_div_mod_eq] at ht
      have ca : ((a : Int) / 2 ^ l) = ((a / 2 ^ l : Nat) : Int) := by simp
      have cc : ((c : Int) / 2 ^ l) = ((c / 2 ^ l : Nat) : Int) := by simp
      refine ⟨l, hl, by simp, hq.1, hq.2, ?_⟩
      rw [ca, cc]
      have tb : c.testBit (l + 1 - 1) = decide (c / 2 ^ l % 2 = 1) := by rw [Nat.add_sub_cancel, Nat.testBit_eq_decide_div_mod_eq]
      simp only [tb]
      clear ca cc tb
      generalize a / 2 ^ l = x at *
      generalize c / 2 ^ l = y at *
      refine ⟨?_, ?_⟩
      · intro hb
        have hb := of_decide_eq_true hb
        omega
      · intro hb
        have hb := of_decide_eq_false hb
        simp only [Bool.or_eq_true, decide_eq_true_eq] at ht
        omega
  · rw [if_neg hp] at h
    simp at h

end Go.Proofs.Ytjnmfjfikldiiaa
