/- Several texts in one: ClMath, ClMem, LitMath. -/
import Derived.WalkKit
import Derived.Lib.BitFns
import Derived.Test.YtknainelonaigaaGreatDoorNBase
import Derived.RangeFuncRecord
import Derived.Lib.TrailingZeros
namespace Go.Proofs.YtknainelonaigaaGreatDoor

section
open Go.RowKit

/-- A clause: its numbers, its two parts, those of its somebodies. -/
structure CL where
  kind : Int
  fn : Int
  role : Int
  above : Int
  xp : Int
  xn : Int
  yp : Int
  yn : Int
  inds : List (Int × Int)
  a : Int
  b : Int

def maskB (m : Int) : Bool := decide (0 ≤ m) && decide (m < 16777216)
def partB (p n : Int) : Bool := maskB p && maskB n
def noneB (p n : Int) : Bool := decide (p = 0) && decide (n = 0)

theorem maskB_iff {m : Int} : maskB m = true ↔ 0 ≤ m ∧ m < 16777216 := by simp [maskB]
theorem partB_iff {p n : Int} : partB p n = true ↔ (0 ≤ p ∧ p < 16777216) ∧ (0 ≤ n ∧ n < 16777216) := by simp [partB, maskB]
theorem noneB_iff {p n : Int} : noneB p n = true ↔ p = 0 ∧ n = 0 := by simp [noneB]

/-! ### Bits -/

theorem wrap_id (k : Nat) (h : k < 9223372036854775808) : IntKind.i64.wrap (k : Int) = (k : Int) := by
  simp [IntKind.wrap, IntKind.bits, IntKind.signed]
  omega

theorem bits_and_nat (a b : Nat) (ha : a < 9223372036854775808) (hb : b < 9223372036854775808) : bits .and .i64 (a : Int) (b : Int) = ((a &&& b : Nat) : Int) := by
  have h1 : a &&& b ≤ a := Nat.and_le_left
  have e : ((BitVec.ofInt 64 (a : Int)) &&& (BitVec.ofInt 64 (b : Int))).toNat = a &&& b := by
    rw [BitVec.toNat_and, BitVec.ofInt_natCast, BitVec.ofInt_natCast, BitVec.toNat_ofNat, BitVec.toNat_ofNat, Nat.mod_eq_of_lt (by omega), Nat.mod_eq_of_lt (by omega)]
  show IntKind.i64.wrap (((BitVec.ofInt 64 (a : Int)) &&& (BitVec.ofInt 64 (b : Int))).toNat : Int) = _
  rw [e, wrap_id _ (by omega)]

theorem bits_or_nat (a b : Nat) (ha : a < 16777216) (hb : b < 16777216) : bits .or .i64 (a : Int) (b : Int) = ((a ||| b : Nat) : Int) := by
  have h1 : a ||| b < 2 ^ 24 := Nat.or_lt_two_pow (by omega) (by omega)
  have e : ((BitVec.ofInt 64 (a : Int)) ||| (BitVec.ofInt 64 (b : Int))).toNat = a ||| b := by
    rw [BitVec.toNat_or, BitVec.ofInt_natCast, BitVec.ofInt_natCast, BitVec.toNat_ofNat, BitVec.toNat_ofNat, Nat.mod_eq_of_lt (by omega), Nat.mod_eq_of_lt (by omega)]
  show IntKind.i64.wrap (((BitVec.ofInt 64 (a : Int)) ||| (BitVec.ofInt 64 (b : Int))).toNat : Int) = _
  rw [e, wrap_id _ (by omega)]

/-- The bit i of a number that is no less than nothing. -/
theorem bit_at (a i : Nat) (ha : a < 16777216) : (bits .and .i64 ((a : Int) / 2 ^ i) 1 == 1) = a.testBit i := by
  have e : ((a : Int) / 2 ^ i) = ((a / 2 ^ i : Nat) : Int) := by simp
  have hl : a / 2 ^ i < 9223372036854775808 := Nat.lt_of_le_of_lt (Nat.div_le_self _ _) (by omega)
  rw [e, show (1 : Int) = ((1 : Nat) : Int) from rfl, bits_and_nat _ _ hl (by omega), Nat.and_one_is_mod]
  rw [Nat.testBit_eq_decide_div_mod_eq]
  by_cases h : a / 2 ^ i % 2 = 1
  · rw [h]; simp
  · have : a / 2 ^ i % 2 = 0 := by omega
    rw [this]; simp
end

section
open Go.RowKit

/-- The box of a part. -/
def BoxP (t : Nat) (W : World) (b : Nat) (p n : Int) : Prop := W.heap[b]? = some (.cells #[.int .i64 p, .int .i64 n] t (0, 0))
theorem BoxP.new (t : Nat) (W : World) (p n : Int) : BoxP t (W.alloc (.cells #[.int .i64 p, .int .i64 n] t)) W.heap.size p n := World.alloc_heap_new W _
theorem BoxP.below {t : Nat} {W W' : World} {b B : Nat} {p n : Int} (h : BoxP t W b p n) (hb : Below B W W') (hB : b < B) : BoxP t W' b p n := (hb.block b hB).trans h
theorem BoxP.lt {t : Nat} {W : World} {b : Nat} {p n : Int} (h : BoxP t W b p n) : b < W.heap.size := (Array.getElem?_eq_some_iff.1 h).1
theorem BoxP.cells {t : Nat} {W : World} {b : Nat} {p n : Int} (h : BoxP t W b p n) : W.cell? ⟨b, 0, none⟩ = some (.int .i64 p) ∧ W.cell? ⟨b, 1, none⟩ = some (.int .i64 n) := by
  unfold BoxP at h
  refine ⟨?_, ?_⟩ <;> simp [World.cell?, h]

/-- A slice's value reads as these parts. -/
structure RP (lo hi : Nat) (w : World) (a : Option Addr) (n cap : Nat) (xs : List (Int × Int)) : Prop where
  len : xs.length = n
  fits : n ≤ cap ∧ cap ≤ 9223372036854775807
  cells : n = 0 ∨ ∃ b off, a = some ⟨b, off, none⟩ ∧ lo ≤ b ∧ b < hi ∧ ∀ i, i < n →
    w.cell? ⟨b, off + i * 2, none⟩ = some (.int .i64 (xs.getD i (0, 0)).1) ∧ w.cell? ⟨b, off + i * 2 + 1, none⟩ = some (.int .i64 (xs.getD i (0, 0)).2)

theorem RP.same {lo hi : Nat} {w w' : World} {a : Option Addr} {n cap : Nat} {xs : List (Int × Int)} (h : RP lo hi w a n cap xs) (hs : Same lo hi w w') : RP lo hi w' a n cap xs := by
  obtain ⟨hl, hm, hc⟩ := h
  refine ⟨hl, hm, ?_⟩
  rcases hc with h0 | ⟨b, off, e, h1, h2, hc⟩
  · exact .inl h0
  · exact .inr ⟨b, off, e, h1, h2, fun i hi => ⟨(hs.cell (p := ⟨b, _, none⟩) h1 h2).trans (hc i hi).1, (hs.cell (p := ⟨b, _, none⟩) h1 h2).trans (hc i hi).2⟩⟩
theorem RP.below {lo hi B : Nat} {w w' : World} {a : Option Addr} {n cap : Nat} {xs : List (Int × Int)} (h : RP lo hi w a n cap xs) (hb : Below B w w') (hB : hi ≤ B) : RP lo hi w' a n cap xs := h.same (Same.of_below hb hB)
theorem RP.mono {lo hi lo' hi' : Nat} {w : World} {a : Option Addr} {n cap : Nat} {xs : List (Int × Int)} (h : RP lo hi w a n cap xs) (h1 : lo' ≤ lo) (h2 : hi ≤ hi') : RP lo' hi' w a n cap xs := by
  obtain ⟨hl, hm, hc⟩ := h
  refine ⟨hl, hm, ?_⟩
  rcases hc with h0 | ⟨b, off, e, q1, q2, hc⟩
  · exact .inl h0
  · exact .inr ⟨b, off, e, by omega, by omega, hc⟩
/-- One of them, by its place. -/
theorem RP.at {lo hi : Nat} {w : World} {b off n cap : Nat} {xs : List (Int × Int)} (h : RP lo hi w (some ⟨b, off, none⟩) n cap xs) {i : Nat} (hin : i < n) :
    w.cell? ⟨b, off + i * 2, none⟩ = some (.int .i64 (xs.getD i (0, 0)).1) ∧ w.cell? ⟨b, off + i * 2 + 1, none⟩ = some (.int .i64 (xs.getD i (0, 0)).2) ∧ b < hi := by
  rcases h.cells with h0 | ⟨b', off', e, _, h2, hc⟩
  · omega
  · simp only [Option.some.injEq, Addr.mk.injEq, and_true] at e
    obtain ⟨rfl, rfl⟩ := e
    exact ⟨(hc i hin).1, (hc i hin).2, h2⟩

/-- Eleven cells: a clause. -/
def BoxK (t : Nat) (W : World) (q : Nat) (k f r u xp xn yp yn : Int) (s : Value) (a b : Int) : Prop := W.heap[q]? = some (.cells #[.int .i64 k, .int .i64 f, .int .i64 r, .int .i64 u, .int .i64 xp, .int .i64 xn, .int .i64 yp, .int .i64 yn, s, .int .i64 a, .int .i64 b] t (0, 0))
theorem BoxK.new (t : Nat) (W : World) (k f r u xp xn yp yn : Int) (s : Value) (a b : Int) : BoxK t (W.alloc (.cells #[.int .i64 k, .int .i64 f, .int .i64 r, .int .i64 u, .int .i64 xp, .int .i64 xn, .int .i64 yp, .int .i64 yn, s, .int .i64 a, .int .i64 b] t)) W.heap.size k f r u xp xn yp yn s a b := World.alloc_heap_new W _
theorem BoxK.below {t : Nat} {W W' : World} {q B : Nat} {k f r u xp xn yp yn : Int} {s : Value} {a b : Int} (h : BoxK t W q k f r u xp xn yp yn s a b) (hb : Below B W W') (hB : q < B) : BoxK t W' q k f r u xp xn yp yn s a b := (hb.block q hB).trans h
theorem BoxK.lt {t : Nat} {W : World} {q : Nat} {k f r u xp xn yp yn : Int} {s : Value} {a b : Int} (h : BoxK t W q k f r u xp xn yp yn s a b) : q < W.heap.size := (Array.getElem?_eq_some_iff.1 h).1
theorem BoxK.cells {t : Nat} {W : World} {q : Nat} {k f r u xp xn yp yn : Int} {s : Value} {a b : Int} (h : BoxK t W q k f r u xp xn yp yn s a b) :
    W.cell? ⟨q, 0, none⟩ = some (.int .i64 k) ∧ W.cell? ⟨q, 1, none⟩ = some (.int .i64 f) ∧ W.cell? ⟨q, 2, none⟩ = some (.int .i64 r) ∧ W.cell? ⟨q, 3, none⟩ = some (.int .i64 u) ∧ W.cell? ⟨q, 4, none⟩ = some (.int .i64 xp) ∧ W.cell? ⟨q, 5, none⟩ = some (.int .i64 xn) ∧
      W.cell? ⟨q, 6, none⟩ = some (.int .i64 yp) ∧ W.cell? ⟨q, 7, none⟩ = some (.int .i64 yn) ∧ W.cell? ⟨q, 8, none⟩ = some s ∧ W.cell? ⟨q, 9, none⟩ = some (.int .i64 a) ∧ W.cell? ⟨q, 10, none⟩ = some (.int .i64 b) := by
  unfold BoxK at h
  refine ⟨?_, ?_, ?_, ?_, ?_, ?_, ?_, ?_, ?_, ?_, ?_⟩ <;> simp [World.cell?, h]
theorem BoxK.frz {t : Nat} {W : World} {q : Nat} {k f r u xp xn yp yn : Int} {s : Value} {a b : Int} (h : BoxK t W q k f r u xp xn yp yn s a b) (o : Nat) : W.frozen? ⟨q, o, none⟩ = false := by
  unfold BoxK at h
  simp [World.frozen?, h]
theorem BoxK.at {t : Nat} {W : World} {q : Nat} {k f r u xp xn yp yn : Int} {s : Value} {a b : Int} (h : BoxK t W q k f r u xp xn yp yn s a b) (i : Nat) (v : Value) :
    (W.setCell ⟨q, i, none⟩ v).heap[q]? = some (.cells (#[.int .i64 k, .int .i64 f, .int .i64 r, .int .i64 u, .int .i64 xp, .int .i64 xn, .int .i64 yp, .int .i64 yn, s, .int .i64 a, .int .i64 b].setIfInBounds i v) t (0, 0)) := heap_setCell_same W q i _ _ v h
end

section
open Go.RowKit

/-- A literal: the number of its part, its atom, whether it is not it. -/
structure LT where
  place : Nat
  atom : Nat
  no : Bool

def litAt (i p n a : Nat) : List LT := (if p.testBit a = true then [⟨i, a, false⟩] else []) ++ (if n.testBit a = true then [⟨i, a, true⟩] else [])
/-- The literals of a part whose atoms are below k. -/
def litsTo (i p n : Nat) : Nat → List LT
  | 0 => []
  | k + 1 => litsTo i p n k ++ litAt i p n k
def litsP (i p n : Nat) : List LT := litsTo i p n 24
/-- The literals of parts, the first one's number being i. -/
def litsL : Nat → List (Nat × Nat) → List LT
  | _, [] => []
  | i, x :: xs => litsP i x.1 x.2 ++ litsL (i + 1) xs

theorem litsL_append : ∀ (xs ys : List (Nat × Nat)) (i : Nat), litsL i (xs ++ ys) = litsL i xs ++ litsL (i + xs.length) ys
  | [], ys, i => by simp [litsL]
  | x :: xs, ys, i => by
    rw [List.cons_append, litsL, litsL, litsL_append xs ys (i + 1), List.append_assoc, List.length_cons]
    congr 3
    omega

theorem litsTo_skip (i p n a : Nat) : ∀ d, (∀ j, a ≤ j → j < a + d → (p ||| n).testBit j = false) → litsTo i p n (a + d) = litsTo i p n a
  | 0, _ => rfl
  | d + 1, h => by
    have hb := h (a + d) (by omega) (by omega)
    rw [Nat.testBit_or, Bool.or_eq_false_iff] at hb
    rw [← Nat.add_assoc, litsTo, litsTo_skip i p n a d (fun j h1 h2 => h j h1 (by omega))]
    simp [litAt, hb.1, hb.2]

theorem litsTo_length (i p n : Nat) : ∀ k, (litsTo i p n k).length ≤ 2 * k
  | 0 => by simp [litsTo]
  | k + 1 => by
    have := litsTo_length i p n k
    have h : (litAt i p n k).length ≤ 2 := by unfold litAt; split <;> split <;> simp
    rw [litsTo, List.length_append]
    omega

theorem litsL_length : ∀ (xs : List (Nat × Nat)) (i : Nat), (litsL i xs).length ≤ 48 * xs.length
  | [], _ => by simp [litsL]
  | x :: xs, i => by
    have := litsL_length xs (i + 1)
    have h : (litsP i x.1 x.2).length ≤ 48 := litsTo_length _ _ _ 24
    rw [litsL, List.length_append, List.length_cons]
    omega

/-- What is left of a number when its bits below a are taken away. -/
def RestAt (x a r : Nat) : Prop := ∀ j, r.testBit j = (decide (a ≤ j) && x.testBit j)

theorem RestAt.start (x : Nat) : RestAt x 0 x := fun j => by simp

theorem RestAt.zero {x a : Nat} (h : RestAt x a 0) (j : Nat) (hj : a ≤ j) : x.testBit j = false := by
  have := h j
  simp [hj] at this
  exact this.symm ▸ rfl

theorem RestAt.lt {x a r : Nat} (h : RestAt x a r) (hx : x < 16777216) : r < 16777216 := by
  have : r < 2 ^ 24 := by
    apply Nat.lt_of_not_le
    intro hle
    obtain ⟨i, hi, hb⟩ := Nat.exists_ge_and_testBit_of_ge_two_pow hle
    rw [h i, Nat.testBit_lt_two_pow (x := x) (Nat.lt_of_lt_of_le (show x < 2 ^ 24 by omega) (Nat.pow_le_pow_right (by omega) hi))] at hb
    simp at hb
  omega

/-- The least bit of what is left, and what is left behind it. -/
theorem RestAt.step {x a r : Nat} (h : RestAt x a r) (hx : x < 16777216) (h0 : r ≠ 0) :
    a ≤ Lib.ctz 64 r ∧ Lib.ctz 64 r < 24 ∧ (∀ j, a ≤ j → j < Lib.ctz 64 r → x.testBit j = false) ∧ x.testBit (Lib.ctz 64 r) = true ∧ RestAt x (Lib.ctz 64 r + 1) (r &&& (r - 1)) ∧ r &&& (r - 1) < r := by
  have hr := h.lt hx
  obtain ⟨m, hm, hk⟩ := Lib.ctzFrom_spec 64 r (by omega) (by omega)
  have e : Lib.ctz 64 r = Lib.ctzFrom 64 r := by simp [Lib.ctz, h0]
  rw [← e] at hm hk
  obtain ⟨t, ht⟩ : ∃ t, t = Lib.ctz 64 r := ⟨_, rfl⟩
  rw [← ht] at hm ⊢
  have hpos : 0 < 2 ^ t := Nat.two_pow_pos t
  have hrb : ∀ j, r.testBit j = (decide (t ≤ j) && (2 * m + 1).testBit (j - t)) := by
    intro j
    rw [hm, Nat.testBit_two_pow_mul]
  have e1 : r - 1 = 2 ^ t * (2 * m) + (2 ^ t - 1) := by
    rw [hm, Nat.mul_add]
    omega
  have hr1 : ∀ j, (r - 1).testBit j = if j < t then (2 ^ t - 1).testBit j else (2 * m).testBit (j - t) := by
    intro j
    rw [e1, Nat.testBit_two_pow_mul_add _ (by omega)]
  have hta : r.testBit t = true := by rw [hrb]; simp
  have hand : ∀ j, (r &&& (r - 1)).testBit j = (decide (t + 1 ≤ j) && r.testBit j) := by
    intro j
    rw [Nat.testBit_and, hr1, hrb]
    by_cases h1 : j < t
    · simp [h1, show ¬ t ≤ j by omega]
    · by_cases h2 : j = t
      · subst h2
        simp
      · obtain ⟨d, rfl⟩ : ∃ d, j = t + (d + 1) := ⟨j - t - 1, by omega⟩
        have e2 : t + (d + 1) - t = d + 1 := by omega
        have d1 : (2 * m + 1) / 2 = m := by omega
        have d2 : 2 * m / 2 = m := by omega
        simp only [h1, e2, if_false, Nat.testBit_succ, d1, d2]
        simp
  have hx1 : ∀ j, r.testBit j = true → x.testBit j = true ∧ a ≤ j := by
    intro j hj
    rw [h j] at hj
    simp at hj
    exact ⟨hj.2, hj.1⟩
  obtain ⟨hxt, hat⟩ := hx1 t hta
  refine ⟨hat, ?_, ?_, hxt, ?_, ?_⟩
  · apply Nat.lt_of_not_le
    intro hle
    rw [Nat.testBit_lt_two_pow (x := x) (Nat.lt_of_lt_of_le (show x < 2 ^ 24 by omega) (Nat.pow_le_pow_right (by omega) hle))] at hxt
    cases hxt
  · intro j h1 h2
    have := h j
    rw [hrb, show decide (t ≤ j) = false from by simp; omega, show decide (a ≤ j) = true from by simp; omega] at this
    simpa using this.symm
  · intro j
    rw [hand, h j]
    by_cases hj : t + 1 ≤ j
    · simp [hj, show a ≤ j by omega]
    · simp [hj]
  · refine Nat.lt_of_le_of_ne Nat.and_le_left fun e => ?_
    have := hand t
    rw [e, hta] at this
    simp at this
    omega

theorem litsTo_step {x a p n i t : Nat} (hx : x = p ||| n) (hat : a ≤ t) (hsk : ∀ j, a ≤ j → j < t → x.testBit j = false) : litsTo i p n (t + 1) = litsTo i p n a ++ litAt i p n t := by
  have : litsTo i p n t = litsTo i p n a := by
    have := litsTo_skip i p n a (t - a) (fun j h1 h2 => by rw [← hx]; exact hsk j h1 (by omega))
    rwa [show a + (t - a) = t by omega] at this
  rw [litsTo, this]

theorem litsTo_end {x a p n i : Nat} (hx : x = p ||| n) (hr : RestAt x a 0) (ha : a ≤ 24) : litsP i p n = litsTo i p n a := by
  have := litsTo_skip i p n a (24 - a) (fun j h1 h2 => by rw [← hx]; exact hr.zero j h1)
  rwa [show a + (24 - a) = 24 by omega] at this
end

end Go.Proofs.YtknainelonaigaaGreatDoor
