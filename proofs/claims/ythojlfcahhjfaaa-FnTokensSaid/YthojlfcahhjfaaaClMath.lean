/- Clauses as mathematics: what a part is, what a clause is, which may be; the greatest literal of a part. -/
import Derived.WalkKit
import Derived.Lib.BitFns
namespace Go.Proofs.Ythojlfcahhjfaaa
open Go.RowKit

/-- A clause: its numbers, its two parts, those of its somebodies. -/
structure CL where
  kind : Int
  fn : Int
  role : Int
  above : Int
  xp : Int
  xn : Int
  yp : Int
  yn : Int
  inds : List (Int × Int)
  a : Int
  b : Int

def maskB (m : Int) : Bool := decide (0 ≤ m) && decide (m < 16777216)
def partB (p n : Int) : Bool := maskB p && maskB n
def noneB (p n : Int) : Bool := decide (p = 0) && decide (n = 0)

theorem maskB_iff {m : Int} : maskB m = true ↔ 0 ≤ m ∧ m < 16777216 := by simp [maskB]
theorem partB_iff {p n : Int} : partB p n = true ↔ (0 ≤ p ∧ p < 16777216) ∧ (0 ≤ n ∧ n < 16777216) := by simp [partB, maskB]
theorem noneB_iff {p n : Int} : noneB p n = true ↔ p = 0 ∧ n = 0 := by simp [noneB]

/-! ### Bits -/

theorem wrap_id (k : Nat) (h : k < 9223372036854775808) : IntKind.i64.wrap (k : Int) = (k : Int) := by
  simp [IntKind.wrap, IntKind.bits, IntKind.signed]
  omega

theorem bits_and_nat (a b : Nat) (ha : a < 9223372036854775808) (hb : b < 9223372036854775808) : bits .and .i64 (a : Int) (b : Int) = ((a &&& b : Nat) : Int) := by
  have h1 : a &&& b ≤ a := Nat.and_le_left
  have e : ((BitVec.ofInt 64 (a : Int)) &&& (BitVec.ofInt 64 (b : Int))).toNat = a &&& b := by
    rw [BitVec.toNat_and, BitVec.ofInt_natCast, BitVec.ofInt_natCast, BitVec.toNat_ofNat, BitVec.toNat_ofNat, Nat.mod_eq_of_lt (by omega), Nat.mod_eq_of_lt (by omega)]
  show IntKind.i64.wrap (((BitVec.ofInt 64 (a : Int)) &&& (BitVec.ofInt 64 (b : Int))).toNat : Int) = _
  rw [e, wrap_id _ (by omega)]

theorem bits_or_nat (a b : Nat) (ha : a < 16777216) (hb : b < 16777216) : bits .or .i64 (a : Int) (b : Int) = ((a ||| b : Nat) : Int) := by
  have h1 : a ||| b < 2 ^ 24 := Nat.or_lt_two_pow (by omega) (by omega)
  have e : ((BitVec.ofInt 64 (a : Int)) ||| (BitVec.ofInt 64 (b : Int))).toNat = a ||| b := by
    rw [BitVec.toNat_or, BitVec.ofInt_natCast, BitVec.ofInt_natCast, BitVec.toNat_ofNat, BitVec.toNat_ofNat, Nat.mod_eq_of_lt (by omega), Nat.mod_eq_of_lt (by omega)]
  show IntKind.i64.wrap (((BitVec.ofInt 64 (a : Int)) ||| (BitVec.ofInt 64 (b : Int))).toNat : Int) = _
  rw [e, wrap_id _ (by omega)]

/-- The bit i of a number that is no less than nothing. -/
theorem bit_at (a i : Nat) (ha : a < 16777216) : (bits .and .i64 ((a : Int) / 2 ^ i) 1 == 1) = a.testBit i := by
  have e : ((a : Int) / 2 ^ i) = ((a / 2 ^ i : Nat) : Int) := by simp
  have hl : a / 2 ^ i < 9223372036854775808 := Nat.lt_of_le_of_lt (Nat.div_le_self _ _) (by omega)
  rw [e, show (1 : Int) = ((1 : Nat) : Int) from rfl, bits_and_nat _ _ hl (by omega), Nat.and_one_is_mod]
  rw [Nat.testBit_eq_decide_div_mod_eq]
  by_cases h : a / 2 ^ i % 2 = 1
  · rw [h]; simp
  · have : a / 2 ^ i % 2 = 0 := by omega
    rw [this]; simp

/-- The greatest literal below i: its atom, whether it is not it, whether there is one. -/
def grF (p n : Nat) : Nat → Int × Bool × Bool
  | 0 => (0, false, false)
  | i + 1 => if n.testBit i = true then ((i : Int), true, true) else if p.testBit i = true then ((i : Int), false, true) else grF p n i

theorem bitLen_pos (x : Nat) (h0 : x ≠ 0) (h : x < 16777216) : ∃ l, Lib.bitLen x = l + 1 ∧ l < 24 ∧ 2 ^ l ≤ x ∧ x < 2 ^ (l + 1) := by
  have key : ∀ k x : Nat, x ≠ 0 → x < 2 ^ k → x < 18446744073709551616 → ∃ l, Lib.bitLen x = l + 1 ∧ l < k ∧ 2 ^ l ≤ x ∧ x < 2 ^ (l + 1) := by
    intro k
    induction k with
    | zero => intro x h0 h; simp at h; omega
    | succ k ih =>
      intro x h0 h hx
      rw [Lib.bitLen_half x h0 hx]
      by_cases h1 : x / 2 = 0
      · have : x = 1 := by omega
        subst this
        exact ⟨0, by decide +kernel, by omega, by decide, by decide⟩
      · obtain ⟨l, e, hl, q1, q2⟩ := ih (x / 2) h1 (by rw [Nat.pow_succ] at h; omega) (by omega)
        refine ⟨l + 1, by omega, by omega, ?_, ?_⟩
        · rw [Nat.pow_succ]; omega
        · rw [Nat.pow_succ]; omega
  exact key 24 x h0 (by omega) (by omega)

theorem grF_all (p n : Nat) (hp : p < 16777216) (hn : n < 16777216) (h0 : p ||| n ≠ 0) :
    grF p n 24 = ((Lib.bitLen (p ||| n) : Int) - 1, n.testBit (Lib.bitLen (p ||| n) - 1), true) := by
  have hx : p ||| n < 2 ^ 24 := Nat.or_lt_two_pow (by omega) (by omega)
  obtain ⟨l, e, hl, q1, q2⟩ := bitLen_pos (p ||| n) h0 (by omega)
  rw [e]
  have hi : ∀ i, l + 1 ≤ i → p.testBit i = false ∧ n.testBit i = false := by
    intro i hi
    have : (p ||| n).testBit i = false := Nat.testBit_lt_two_pow (Nat.lt_of_lt_of_le q2 (Nat.pow_le_pow_right (by omega) hi))
    rw [Nat.testBit_or] at this
    simpa using this
  have hd : ∀ d, grF p n (l + 1 + d) = grF p n (l + 1) := by
    intro d
    induction d with
    | zero => rfl
    | succ d ih =>
      obtain ⟨a, b⟩ := hi (l + 1 + d) (by omega)
      rw [← Nat.add_assoc, grF, a, b]
      simpa using ih
  have h24 : (24 : Nat) = l + 1 + (23 - l) := by omega
  rw [h24, hd, grF]
  have ht : (p ||| n).testBit l = true := by
    rw [Nat.testBit_eq_decide_div_mod_eq]
    have : (p ||| n) / 2 ^ l = 1 := by
      apply Nat.div_eq_of_lt_le
      · omega
      · rw [Nat.pow_succ] at q2; omega
    simp [this]
  rw [Nat.testBit_or] at ht
  by_cases hb : n.testBit l = true
  · simp [hb]
  · have hb' : n.testBit l = false := by simpa using hb
    rw [hb', Bool.or_false] at ht
    simp [hb', ht]

theorem grF_none : grF 0 0 24 = (0, false, false) := by decide +kernel

end Go.Proofs.Ythojlfcahhjfaaa
