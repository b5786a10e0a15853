/- Several texts in one: ConMath, TokMath, SpecTok. -/
import Derived.Test.YtckhjoancfbkfaaGreatNG1
import Derived.Test.YtckhjoancfbkfaaGreatNG4
import Derived.Test.YtckhjoancfbkfaaGreatNG3
import Derived.Deep.DeepCutAuto
namespace Go.Proofs.YtckhjoancfbkfaaGreat

section
open Go.RowKit

/-- How many kids a concept of this kind has; of no kind: -1. -/
def kidN (k : Int) : Int := if k = 0 ∨ k = 1 ∨ k = 2 then 0 else if k = 3 ∨ k = 6 ∨ k = 7 then 1 else if k = 4 ∨ k = 5 then 2 else -1
def roleB (k : Int) : Bool := decide (k = 6) || decide (k = 7)
def nameFit (c : CN) : Bool := if c.kind = 2 then (upOk c.name && !keptB (strOfNums c.name).toList) else decide (c.name.length = 0)
def roleFit (c : CN) : Bool := if roleB c.kind = true then lowOk c.role else decide (c.role.length = 0)
def shapeB (c : CN) : Bool := nameFit c && (roleFit c && decide ((c.kids.length : Int) = kidN c.kind))

mutual
/-- All parts, from the outside on, each with its depth. -/
def parts : CN → Nat → List (Nat × CN)
  | .mk k n r ks, deep => (deep, .mk k n r ks) :: partsL ks (deep + 1)
def partsL : List CN → Nat → List (Nat × CN)
  | [], _ => []
  | c :: cs, deep => parts c deep ++ partsL cs deep
end

theorem parts_eq (c : CN) (deep : Nat) : parts c deep = (deep, c) :: partsL c.kids (deep + 1) := by
  cases c; rw [parts]; rfl

theorem partsL_append (xs ys : List CN) (deep : Nat) : partsL (xs ++ ys) deep = partsL xs deep ++ partsL ys deep := by
  induction xs with
  | nil => simp [partsL]
  | cons x xs ih => simp only [List.cons_append, partsL, ih, List.append_assoc]

theorem partsL_take_succ (cs : List CN) (k deep : Nat) (h : k < cs.length) : partsL (cs.take (k + 1)) deep = partsL (cs.take k) deep ++ parts (cs.getD k CN.zero) deep := by
  rw [take_succ_getD cs CN.zero k h, partsL_append]
  simp only [partsL, List.append_nil]

theorem partsL_take_drop (cs : List CN) (k deep : Nat) : partsL cs deep = partsL (cs.take k) deep ++ partsL (cs.drop k) deep := by
  rw [← partsL_append, List.take_append_drop]

def okOne (x : Nat × CN) : Bool := decide (x.1 ≤ 6) && shapeB x.2

/-- It is one that may be. -/
def conOk (c : CN) : Bool := decide ((parts c 1).length ≤ 16) && (parts c 1).all okOne

/-- What is left behind these parts; -1: it may not be. -/
def leftOf (left : Int) (L : List (Nat × CN)) : Int := if (L.length : Int) ≤ left ∧ L.all okOne = true then left - L.length else -1

theorem leftOf_pos {left : Int} {L : List (Nat × CN)} (h : (L.length : Int) ≤ left) (k : L.all okOne = true) : leftOf left L = left - L.length := if_pos ⟨h, k⟩
theorem leftOf_neg {left : Int} {L : List (Nat × CN)} (h : ¬ ((L.length : Int) ≤ left ∧ L.all okOne = true)) : leftOf left L = -1 := if_neg h

theorem leftOf_append {left : Int} (L M : List (Nat × CN)) : leftOf left (L ++ M) = if leftOf left L < 0 then -1 else leftOf (leftOf left L) M := by
  by_cases h1 : (L.length : Int) ≤ left ∧ L.all okOne = true
  · rw [leftOf_pos h1.1 h1.2, if_neg (by omega)]
    by_cases h2 : (M.length : Int) ≤ left - L.length ∧ M.all okOne = true
    · rw [leftOf_pos h2.1 h2.2, leftOf_pos (by rw [List.length_append]; omega) (by rw [List.all_append, h1.2, h2.2]; rfl), List.length_append]; omega
    · rw [leftOf_neg h2, leftOf_neg]
      rintro ⟨h3, h4⟩
      rw [List.length_append] at h3
      rw [List.all_append, Bool.and_eq_true] at h4
      exact h2 ⟨by omega, h4.2⟩
  · rw [leftOf_neg h1, if_pos (by omega), leftOf_neg]
    rintro ⟨h3, h4⟩
    rw [List.length_append] at h3
    rw [List.all_append, Bool.and_eq_true] at h4
    exact h1 ⟨by omega, h4.1⟩

theorem leftOf_le {left : Int} (h : 0 ≤ left) (L : List (Nat × CN)) : leftOf left L ≤ left := by
  unfold leftOf; split <;> omega

theorem leftOf_nil (left : Int) (h : 0 ≤ left) : leftOf left [] = left := by simp [leftOf, h]

/-- The outermost part is refused. -/
theorem leftOf_bad (c : CN) (deep : Nat) (left : Int) (h : left - 1 < 0 ∨ 6 < deep ∨ shapeB c = false) : leftOf left (parts c deep) = -1 := by
  rw [parts_eq]
  unfold leftOf
  rw [if_neg]
  rintro ⟨h1, h2⟩
  simp only [List.length_cons, List.all_cons, okOne, Bool.and_eq_true, decide_eq_true_eq] at h1 h2
  rcases h with h | h | h
  · omega
  · omega
  · rw [h2.1.2] at h; cases h

theorem leftOf_good (c : CN) (deep : Nat) (left : Int) (h1 : 0 ≤ left - 1) (h2 : deep ≤ 6) (h3 : shapeB c = true) : leftOf left (parts c deep) = leftOf (left - 1) (partsL c.kids (deep + 1)) := by
  rw [parts_eq, show ((deep, c) :: partsL c.kids (deep + 1)) = [(deep, c)] ++ partsL c.kids (deep + 1) from rfl, leftOf_append]
  have e : leftOf left [(deep, c)] = left - 1 := by
    unfold leftOf
    rw [if_pos ⟨by simp; omega, by simp [okOne, h2, h3]⟩]; simp
  rw [e, if_neg (by omega)]

theorem conOk_left (c : CN) : conOk c = decide (0 ≤ leftOf 16 (parts c 1)) := by
  unfold conOk leftOf
  by_cases h1 : (parts c 1).length ≤ 16
  · by_cases h2 : (parts c 1).all okOne = true
    · rw [if_pos ⟨by omega, h2⟩, h2]; simp; omega
    · rw [if_neg (fun h => h2 h.2)]; simp at h2 ⊢; intro _; exact h2
  · rw [if_neg (by omega)]; simp [h1]
end

section
def runLow (zs : List Int) (i : Nat) : Nat := ((zs.drop i).takeWhile lowB).length

theorem runLow_le (zs : List Int) (i : Nat) : runLow zs i ≤ zs.length - i := by
  unfold runLow
  have := (List.takeWhile_sublist lowB (l := zs.drop i)).length_le
  simpa using this

theorem runLow_stop (zs : List Int) (i : Nat) (h : zs.length ≤ i ∨ lowB (zs.getD i 0) = false) : runLow zs i = 0 := by
  unfold runLow
  by_cases hi : i < zs.length
  · have h' : lowB (zs.getD i 0) = false := by rcases h with h | h; omega; exact h
    rw [List.drop_eq_getElem_cons hi, List.takeWhile_cons]
    simp [List.getD, hi] at h'
    simp [h']
  · rw [List.drop_eq_nil_of_le (by omega)]; rfl

theorem runLow_go (zs : List Int) (i : Nat) (hi : i < zs.length) (h : lowB (zs.getD i 0) = true) : runLow zs i = runLow zs (i + 1) + 1 := by
  unfold runLow
  rw [List.drop_eq_getElem_cons hi, List.takeWhile_cons]
  simp [List.getD, hi] at h
  simp [h]

/-- Where the piece that begins at i ends. -/
def pend (zs : List Int) (i : Nat) : Nat := if zs.getD i 0 = 40 ∨ zs.getD i 0 = 41 then i + 1 else i + 1 + runLow zs (i + 1)
def piece (zs : List Int) (i : Nat) : List Int := (zs.drop i).take (pend zs i - i)

theorem pend_gt (zs : List Int) (i : Nat) : i < pend zs i := by unfold pend; split <;> omega
theorem pend_le (zs : List Int) (i : Nat) (hi : i < zs.length) : pend zs i ≤ zs.length := by
  unfold pend
  have := runLow_le zs (i + 1)
  split <;> omega
theorem piece_length (zs : List Int) (i : Nat) (hi : i < zs.length) : (piece zs i).length = pend zs i - i := by
  have := pend_le zs i hi
  simp [piece]; omega
theorem piece_getD (zs : List Int) (i j : Nat) (hi : i < zs.length) (hj : j < pend zs i - i) : (piece zs i).getD j 0 = zs.getD (i + j) 0 := by
  have := pend_le zs i hi
  simp [piece, List.getD, hj]

/-- What a piece is: 1, 2 a word, 3, 4 a bracket, 0 none of these. -/
def kindOf (p : List Int) : Int := if upOk p then 1 else if lowOk p then 2 else if p = [40] then 3 else if p = [41] then 4 else 0
def blankB (c : Int) : Bool := c == 32 || c == 10

def tokAt (zs : List Int) (i : Nat) : Tok := ⟨kindOf (piece zs i), i, if kindOf (piece zs i) = 1 ∨ kindOf (piece zs i) = 2 then piece zs i else []⟩

def toksFrom (zs : List Int) : Nat → Nat → List Tok → List Tok × Int
  | 0, _, acc => (acc, -1)
  | f + 1, i, acc => if i < zs.length then (if blankB (zs.getD i 0) then toksFrom zs f (i + 1) acc else if kindOf (piece zs i) = 0 then ([], (i : Int)) else toksFrom zs f (pend zs i) (acc ++ [tokAt zs i])) else (acc, -1)

/-- The tokens of a text and -1; or none, and a place. -/
def toks (zs : List Int) : List Tok × Int := if 1500 < zs.length then ([], 0) else toksFrom zs (zs.length + 1) 0 []

theorem piece_open (zs : List Int) (i : Nat) (hi : i < zs.length) (h : zs.getD i 0 = 40) : piece zs i = [40] ∧ pend zs i = i + 1 := by
  have hp : pend zs i = i + 1 := by unfold pend; rw [if_pos (.inl h)]
  refine ⟨?_, hp⟩
  unfold piece; rw [hp, show i + 1 - i = 1 from by omega, List.drop_eq_getElem_cons hi]
  simp [List.getD, hi] at h
  simp [h]

theorem piece_close (zs : List Int) (i : Nat) (hi : i < zs.length) (h : zs.getD i 0 = 41) : piece zs i = [41] ∧ pend zs i = i + 1 := by
  have hp : pend zs i = i + 1 := by unfold pend; rw [if_pos (.inr h)]
  refine ⟨?_, hp⟩
  unfold piece; rw [hp, show i + 1 - i = 1 from by omega, List.drop_eq_getElem_cons hi]
  simp [List.getD, hi] at h
  simp [h]

theorem kind_open : kindOf [40] = 3 := by decide
theorem kind_close : kindOf [41] = 4 := by decide

def wordKind (c : Int) : Int := if upB c then 1 else 2
def wordOk (p : List Int) : Bool := upOk p || lowOk p

/-- Of a piece that is no bracket: a word, by its first letter, or nothing. -/
theorem kind_word (p : List Int) (h0 : p.getD 0 0 ≠ 40) (h1 : p.getD 0 0 ≠ 41) : kindOf p = if wordOk p then wordKind (p.getD 0 0) else 0 := by
  unfold wordOk wordKind
  have e0 : p ≠ [40] := fun e => by rw [e] at h0; simp at h0
  have e1 : p ≠ [41] := fun e => by rw [e] at h1; simp at h1
  unfold kindOf
  by_cases hu : upOk p = true
  · have hb : upB (p.getD 0 0) = true := by simp only [upOk, Bool.and_eq_true] at hu; exact hu.2.1
    rw [if_pos hu, hu, hb]
    rfl
  · have hu' : upOk p = false := by simpa using hu
    rw [if_neg hu]
    by_cases hl : lowOk p = true
    · have hb : upB (p.getD 0 0) = false := by
        simp only [lowOk, longB, Bool.and_eq_true, decide_eq_true_eq] at hl
        obtain ⟨⟨h1, _⟩, h2⟩ := hl
        have hm := List.all_eq_true.1 h2 (p.getD 0 0) (by
          simp only [List.getD]
          rw [List.getElem?_eq_getElem (by omega)]
          simp)
        generalize p.getD 0 0 = c at hm
        simp only [lowB, upB, Bool.and_eq_true, decide_eq_true_eq] at hm ⊢
        simp; omega
      rw [if_pos hl, hl, hb, hu']
      rfl
    · have hl' : lowOk p = false := by simpa using hl
      rw [if_neg hl, if_neg e0, if_neg e1]
      simp [hu', hl']
end

section
open Go.RowKit

set_option maxHeartbeats 400000 in
theorem l1one_open (a : Option Addr) (n cap : Nat) (zs : List Int) (i : Nat) (w : World) {lo hi : Nat} (h : Rd lo hi w a n cap zs) (hhi : hi ≤ w.heap.size) (hi' : i < n) (hc : zs.getD i 0 = 40) :
    Calls Tryz.prog 108 #[.slice a n cap, .int .i64 i] w fun e w' => e = .returned (.tuple #[.agg #[.int .i64 3, .int .i64 i, .slice none 0 0], .int .i64 ((i : Int) + 1), .bool true]) ∧ Below w.heap.size w w' := by
  obtain ⟨hl, ⟨hn, hm⟩, hby, hcs⟩ := h
  rcases hcs with h0 | ⟨b, off, rfl, hlo, hb, hcs⟩
  · omega
  · have hck : w.cell? ⟨b, off + i, none⟩ = some (.int .u8 40) := by rw [← hc]; exact hcs i hi'
    have hlt : b < w.heap.size := by omega
    clear hcs hby hl hc
    go_enter Tryz.func108, Tryz.ntmps108
    go_wp2
    exact bodyPost_ret (v := .tuple #[.agg #[.int .i64 3, .int .i64 i, .slice none 0 0], .int .i64 ((i : Int) + 1), .bool true]) (by simp [results, Tryz.results108, go_sem]) rfl ⟨rfl, ((Below.refl _ _).alloc (Nat.le_refl _) _).alloc (by simp) _⟩

set_option maxHeartbeats 400000 in
theorem l1one_close (a : Option Addr) (n cap : Nat) (zs : List Int) (i : Nat) (w : World) {lo hi : Nat} (h : Rd lo hi w a n cap zs) (hhi : hi ≤ w.heap.size) (hi' : i < n) (hc : zs.getD i 0 = 41) :
    Calls Tryz.prog 108 #[.slice a n cap, .int .i64 i] w fun e w' => e = .returned (.tuple #[.agg #[.int .i64 4, .int .i64 i, .slice none 0 0], .int .i64 ((i : Int) + 1), .bool true]) ∧ Below w.heap.size w w' := by
  obtain ⟨hl, ⟨hn, hm⟩, hby, hcs⟩ := h
  rcases hcs with h0 | ⟨b, off, rfl, hlo, hb, hcs⟩
  · omega
  · have hck : w.cell? ⟨b, off + i, none⟩ = some (.int .u8 41) := by rw [← hc]; exact hcs i hi'
    have hlt : b < w.heap.size := by omega
    clear hcs hby hl hc
    go_enter Tryz.func108, Tryz.ntmps108
    go_wp2
    exact bodyPost_ret (v := .tuple #[.agg #[.int .i64 4, .int .i64 i, .slice none 0 0], .int .i64 ((i : Int) + 1), .bool true]) (by simp [results, Tryz.results108, go_sem]) rfl ⟨rfl, ((Below.refl _ _).alloc (Nat.le_refl _) _).alloc (by simp) _⟩

theorem ownsRow_empty (w : World) (g base : Nat) (hg : g = w.heap.size) (hb : base ≤ g) : (w.alloc (.cells #[] 5)).ownsRow base 5 1 (.slice (some ⟨g, 0, none⟩) 0 0) 0 [] := by
  subst hg; exact World.ownsRow_lit w #[] 0 hb (by decide) rfl

theorem oneC (zs : List Int) : ∀ u ∈ zs.map (Value.int .u8), u.oneCell' = true := by
  intro u hu; simp only [List.mem_map] at hu; obtain ⟨x, _, rfl⟩ := hu; rfl

theorem after_text {w w1 : World} {i : Int} (hgrow : (((w.alloc (Obj.cells #[Value.int IntKind.i64 0, Value.int IntKind.i64 0, Value.slice none 0 0] 134)).alloc (Obj.cells #[Value.int IntKind.i64 0, Value.int IntKind.i64 i, Value.slice none 0 0] 134)).alloc (Obj.cells #[] 5)).grownBy w1 (Value.slice (some ⟨w.heap.size + 1 + 1, 0, none⟩) 0 0).ownBlock) :
    w1.cell? ⟨w.heap.size, 0, none⟩ = some (.int .i64 0) ∧ w1.cell? ⟨w.heap.size, 1, none⟩ = some (.int .i64 0) ∧ w1.cell? ⟨w.heap.size, 2, none⟩ = some (.slice none 0 0) ∧
    w1.cell? ⟨w.heap.size + 1, 0, none⟩ = some (.int .i64 0) ∧ w1.cell? ⟨w.heap.size + 1, 1, none⟩ = some (.int .i64 i) ∧ w1.cell? ⟨w.heap.size + 1, 2, none⟩ = some (.slice none 0 0) ∧
    (∀ o, w1.frozen? ⟨w.heap.size, o, none⟩ = false) ∧ (∀ o, w1.frozen? ⟨w.heap.size + 1, o, none⟩ = false) ∧ Below w.heap.size w w1 := by
  have hB := (Below.refl (w.heap.size + 2) _).grown hgrow (by simp) (fun k e => by simp [Value.ownBlock] at e; omega)
  refine ⟨(hB.cell (p := ⟨w.heap.size, 0, none⟩) (by simp)).trans (by go_simp), (hB.cell (p := ⟨w.heap.size, 1, none⟩) (by simp)).trans (by go_simp), (hB.cell (p := ⟨w.heap.size, 2, none⟩) (by simp)).trans (by go_simp),
    (hB.cell (p := ⟨w.heap.size + 1, 0, none⟩) (by simp)).trans (by go_simp), (hB.cell (p := ⟨w.heap.size + 1, 1, none⟩) (by simp)).trans (by go_simp), (hB.cell (p := ⟨w.heap.size + 1, 2, none⟩) (by simp)).trans (by go_simp),
    fun o => (hB.frozen (p := ⟨w.heap.size, o, none⟩) (by simp)).trans (by go_simp), fun o => (hB.frozen (p := ⟨w.heap.size + 1, o, none⟩) (by simp)).trans (by go_simp), ?_⟩
  exact ((((Below.refl _ _).alloc (Nat.le_refl _) _).alloc (by simp) _).alloc (by simp; omega) _).trans (hB.mono (by omega))

theorem row_of_owns {w : World} {base n : Nat} {v : Value} {zs : List Int} (h : w.ownsRow base 5 1 v n (zs.map (Value.int .u8))) (hn : 0 < n) :
    ∃ g c, v = .slice (some ⟨g, 0, none⟩) n c ∧ base ≤ g ∧ Row w g c zs ∧ c ≤ 9223372036854775807 := by
  obtain ⟨h1, h2⟩ := h
  rcases h2 with ⟨_, h0⟩ | ⟨g, cap, cur, hv, hg, hh, hc1, hc2, hc3, hc4⟩
  · omega
  · simp only [List.length_map, Nat.mul_one] at h1 hc3 hc4
    refine ⟨g, cap, hv, hg, ⟨cur, hh, hc3, by omega, fun i hi => ?_⟩, hc2⟩
    have e : (cur.toList.take n)[i]? = (zs.map (Value.int .u8))[i]? := by rw [hc4]
    rw [List.getElem?_take, if_pos (by omega)] at e
    simp only [Array.getElem?_toList] at e
    rw [e]
    simp [List.getD, hi]

set_option maxHeartbeats 4000000 in
theorem l1one_word (a : Option Addr) (n cap : Nat) (zs : List Int) (i : Nat) (w : World) {lo hi : Nat} (h : Rd lo hi w a n cap zs) (hhi : hi ≤ w.heap.size) (hi' : i < n) (hc : zs.getD i 0 ≠ 40) (hc' : zs.getD i 0 ≠ 41) (hbig : n ≤ 1048576) :
    Calls Tryz.prog 108 #[.slice a n cap, .int .i64 i] w fun e w' => ∃ g c, e = .returned (.tuple #[.agg #[.int .i64 (wordKind (zs.getD i 0)), .int .i64 i, .slice (some ⟨g, 0, none⟩) (pend zs i - i) c], .int .i64 (pend zs i), .bool (wordOk (piece zs i))]) ∧ Below w.heap.size w w' ∧ w.heap.size ≤ g ∧ Row w' g c (piece zs i) ∧ c ≤ 9223372036854775807 := by
  obtain ⟨hl, ⟨hn, hm⟩, hby, hcs⟩ := h
  rcases hcs with h0 | ⟨b, off, rfl, hlo, hb, hcs⟩
  · omega
  · obtain ⟨c0, hc0⟩ : ∃ c, c = zs.getD i 0 := ⟨_, rfl⟩
    have hck : w.cell? ⟨b, off + i, none⟩ = some (.int .u8 c0) := by rw [hc0]; exact hcs i hi'
    have hlt : b < w.heap.size := by omega
    have h40 : (c0 == 40) = false := by rw [hc0]; simpa using hc
    have h41 : (c0 == 41) = false := by rw [hc0]; simpa using hc'
    have HCell : Hid (∀ j, j < n → w.cell? ⟨b, off + j, none⟩ = some (.int .u8 (zs.getD j 0))) := hcs
    have HC : Hid (c0 = zs.getD i 0) := hc0
    have HL : Hid (zs.length = n) := hl
    have HN : Hid (∀ W : World, Below w.heap.size w W → ∀ j u, ((piece zs i).map (Value.int .u8))[j]? = some u → W.cell? ((⟨b, off + i, none⟩ : Addr).add j) = some u) := by
      intro W hW j u hu
      have hj : j < (piece zs i).length := by simpa using (List.getElem?_eq_some_iff.1 hu).1
      rw [Addr.add_lit, hW.cell (p := ⟨b, off + i + j, none⟩) hlt, Nat.add_assoc, hcs (i + j) (by have := pend_le zs i (by omega); rw [piece_length zs i (by omega)] at hj; omega)]
      rw [← piece_getD zs i j (by omega) (by rw [piece_length zs i (by omega)] at hj; exact hj), ← hu]
      simp [List.getD, hj]
    have HP : Hid ((piece zs i).length = pend zs i - i) := piece_length zs i (by omega)
    have HPE : Hid (pend zs i = i + 1 + runLow zs (i + 1)) := by unfold Hid pend; rw [if_neg (fun h => h.elim hc hc')]
    have HBy : Hid (∀ j, 0 ≤ (piece zs i).getD j 0 ∧ (piece zs i).getD j 0 ≤ 255) := by
      intro j
      by_cases hj : j < pend zs i - i
      · rw [piece_getD zs i j (by omega) hj]; exact hby _
      · rw [List.getD, List.getElem?_eq_none (by rw [piece_length zs i (by omega)]; omega)]; simp
    clear hcs hby hl hc hc' hc0
    obtain ⟨i0, hi0, hz0, hz1, hz2⟩ := info_parts Tryz.info5
    rw [← HC.out]
    go_enter Tryz.func108, Tryz.ntmps108
    go_wp2
    go_loop [8] (fun v => ∃ k : Nat, i + 1 ≤ k ∧ k ≤ n ∧ v = .int .i64 k ∧ runLow zs (i + 1) = (k - (i + 1)) + runLow zs k) (fun v => n - (intOf v).toNat)
    case atStart => exact ⟨i + 1, by omega, by omega, by go_num, by simp⟩
    case round =>
      obtain ⟨k, hk, hkn, rfl, hrun⟩ := hrel
      have HR : Hid (runLow zs (i + 1) = (k - (i + 1)) + runLow zs k) := hrun
      clear hrun
      obtain ⟨c, HC'⟩ : ∃ c, Hid (c = zs.getD k 0) := ⟨_, rfl⟩
      go_upto_region 9 with fail
      go_cut [43] (fun s W => s = .bool (decide (k < n) && lowB c) ∧ W = ((w.alloc (Obj.cells #[Value.int IntKind.i64 0, Value.int IntKind.i64 0, Value.slice none 0 0] 134)).alloc (Obj.cells #[Value.int IntKind.i64 0, Value.int IntKind.i64 i, Value.slice none 0 0] 134)))
      case first =>
        by_cases hkl : k < n
        · have hck' : w.cell? ⟨b, off + k, none⟩ = some (.int .u8 c) := by rw [HC'.out]; exact HCell.out k hkl
          have hkd : decide ((k : Int) < (n : Int)) = true := by simp; omega
          go_wp2_with (go_at_call 119; refine (l1small_any _ _).mono ?_; rintro e w' ⟨rfl, rfl⟩)
          go_meet
          case rel => exact ⟨by simp [hkl], rfl⟩
        · have hkd : decide ((k : Int) < (n : Int)) = false := by simp; omega
          go_wp2
          go_meet
          case rel => exact ⟨by simp [hkl], rfl⟩
      case rest =>
        obtain ⟨rfl, rfl⟩ := hcut
        cases hX : (decide (k < n) && lowB c)
        · have HE : Hid (runLow zs k = 0) := by
            refine runLow_stop zs k ?_
            rw [Bool.and_eq_false_iff] at hX
            rcases hX with h | h
            · left; rw [HL.out]; simpa using h
            · right; rw [← HC'.out]; exact h
          have HPK : Hid (pend zs i = k) := by have := HR.out; have := HE.out; have := HPE.out; unfold Hid; omega
          have hpl : (piece zs i).length = k - i := by rw [HP.out, HPK.out]
          go_upto_if 58 with (first | (at_builtin; refine wpList_append_own _ rfl (.tmp 46) (.tmp 50) 22 rfl (w.heap.size + 2) 5 i0 (.int .u8 0) 1 1 Tryz.underlying22 hi0 hz0 hz1 hz2 rfl (by decide) (.slice (some ⟨w.heap.size + 1 + 1, 0, none⟩) 0 0) 0 [] rfl (ownsRow_empty _ _ _ (by simp) (by omega)) ⟨b, off + i, none⟩ (k - i) (cap - i) ((piece zs i).map (Value.int .u8)) rfl (by simp [hpl]) (HN.out _ ((((Below.refl _ _).alloc (Nat.le_refl _) _).alloc (by simp) _).alloc (by simp <;> omega) _)) (oneC _) (by unfold maxLen; omega) (by omega) (by simp) ?_; intro v' w1 hown' hgrow hnil; obtain ⟨g, cg, hv', hg, hrow, hcg⟩ := row_of_owns hown' (by omega); rw [Nat.zero_add] at hv'; subst hv'; obtain ⟨q0, q1, q2, r0, r1, r2, fq, fr, hW1⟩ := after_text hgrow; have hbc := (hW1.cell (p := ⟨b, off + i, none⟩) hlt).trans hck; have HW1 : Hid (Below w.heap.size w w1) := hW1; have HRow : Hid (Row w1 g cg (piece zs i)) := hrow; have hb1 : b ≠ w.heap.size + 1 := (by omega); have hne0 : g ≠ w.heap.size := (by omega); have hne1 : g ≠ w.heap.size + 1 := (by omega); clear hown' hgrow hnil hrow hck hW1) | (go_at_call 146; refine (l1great_any _ _).mono ?_; rintro e w2 ⟨rfl, hw2⟩; subst hw2))
          go_cut [] (fun W => W.cell? ⟨w.heap.size + 1, 0, none⟩ = some (.int .i64 (wordKind c0)) ∧ W.cell? ⟨w.heap.size + 1, 1, none⟩ = some (.int .i64 i) ∧ W.cell? ⟨w.heap.size + 1, 2, none⟩ = some (.slice (some ⟨g, 0, none⟩) (k - i) cg) ∧ (∃ m0 m1, W.cell? ⟨w.heap.size, 0, none⟩ = some (.int .i64 m0) ∧ W.cell? ⟨w.heap.size, 1, none⟩ = some (.int .i64 m1)) ∧ W.cell? ⟨w.heap.size, 2, none⟩ = some (.slice none 0 0) ∧ (∀ o, W.frozen? ⟨w.heap.size, o, none⟩ = false) ∧ Row W g cg (piece zs i) ∧ Below w.heap.size w W)
          case first =>
            cases hup : upB c0
            · go_wp2
              go_meet
              case rel =>
                have hk2 : wordKind c0 = 2 := by simp [wordKind, hup]
                rw [hk2]
                refine ⟨by first | (go_simp; done) | exact World.cell?_setCell_same' _ _ _ (by rw [World.cell?_setCell_same' _ _ _ (by rw [World.cell?_setCell_other _ _ _ _ (by simp), r0]; rfl)]; rfl), by go_simp, by go_simp, ⟨0, 0, by go_simp, by go_simp⟩, by go_simp, fun o => by go_simp, ?_, ?_⟩
                · simp only [row_set _ _ _ _ _ _ _ hne1]; exact HRow.out
                · simp only [below_set _ _ _ _ _ _ (Nat.le_succ w.heap.size)]; exact HW1.out
            · go_wp2
              go_meet
              case rel =>
                have hk2 : wordKind c0 = 1 := by simp [wordKind, hup]
                rw [hk2]
                refine ⟨by first | (go_simp; done) | exact World.cell?_setCell_same' _ _ _ (by rw [World.cell?_setCell_same' _ _ _ (by rw [World.cell?_setCell_other _ _ _ _ (by simp), r0]; rfl)]; rfl), by go_simp, by go_simp, ⟨0, 0, by go_simp, by go_simp⟩, by go_simp, fun o => by go_simp, ?_, ?_⟩
                · simp only [row_set _ _ _ _ _ _ _ hne1]; exact HRow.out
                · simp only [below_set _ _ _ _ _ _ (Nat.le_succ w.heap.size)]; exact HW1.out
          case rest =>
            obtain ⟨r0, r1, r2, ⟨m0, m1, q0, q1⟩, q2, fq, hrow, hW⟩ := hcut
            have HRow' : Hid (Row wc g cg (piece zs i)) := hrow
            have HW' : Hid (Below w.heap.size w wc) := hW
            obtain ⟨kd, hkd⟩ : ∃ kd, kd = wordKind c0 := ⟨_, rfl⟩
            rw [← hkd] at r0
            have HKD : Hid (kd = wordKind c0) := hkd
            clear hrow hW HRow HW1 hbc hkd
            cases hu : upOk (piece zs i)
            · go_wp2
              first | go_region_with (first | (go_at_call 100; refine (specUpperOk_any _ _ _ (piece zs i) _ (lo := g) (hi := g + 1) ?_).mono ?_; exact Row.rd (by rw [row_drew]; exact HRow'.out) hpl HBy.out hcg (Nat.le_refl _) (Nat.lt_succ_self _); rintro e w3 ⟨rfl, rfl⟩; rw [hu]) | (go_at_call 73; refine (specLowerOk_any _ _ _ (piece zs i) _ (lo := g) (hi := g + 1) ?_).mono ?_; exact Row.rd (by rw [row_drew]; exact HRow'.out) hpl HBy.out hcg (Nat.le_refl _) (Nat.lt_succ_self _); rintro e w3 ⟨rfl, rfl⟩)) | fail
              all_goals
                go_wp2
                refine bodyPost_ret (v := .tuple #[.agg #[.int .i64 kd, .int .i64 i, .slice (some ⟨g, 0, none⟩) (k - i) cg], .int .i64 k, .bool (lowOk (piece zs i))]) (by simp [results, Tryz.results108, go_sem, q0, q1, q2]) rfl ⟨g, cg, ?_, ?_, by omega, ?_, hcg⟩
                · rw [HPK.out, HKD.out]; simp [wordOk, hu]
                · simp only [below_drewE, below_set _ _ _ _ _ _ (Nat.le_refl w.heap.size)]; exact HW'.out
                · simp only [row_drew, row_set _ _ _ _ _ _ _ hne0]; exact HRow'.out
            · go_wp2
              first | go_region_with (first | (go_at_call 100; refine (specUpperOk_any _ _ _ (piece zs i) _ (lo := g) (hi := g + 1) ?_).mono ?_; exact Row.rd (by rw [row_drew]; exact HRow'.out) hpl HBy.out hcg (Nat.le_refl _) (Nat.lt_succ_self _); rintro e w3 ⟨rfl, rfl⟩; rw [hu]) | (go_at_call 73; refine (specLowerOk_any _ _ _ (piece zs i) _ (lo := g) (hi := g + 1) ?_).mono ?_; exact Row.rd (by rw [row_drew]; exact HRow'.out) hpl HBy.out hcg (Nat.le_refl _) (Nat.lt_succ_self _); rintro e w3 ⟨rfl, rfl⟩)) | fail
              all_goals
                go_wp2
                refine bodyPost_ret (v := .tuple #[.agg #[.int .i64 kd, .int .i64 i, .slice (some ⟨g, 0, none⟩) (k - i) cg], .int .i64 k, .bool true]) (by simp [results, Tryz.results108, go_sem, q0, q1, q2]) rfl ⟨g, cg, ?_, ?_, by omega, ?_, hcg⟩
                · rw [HPK.out, HKD.out]; simp [wordOk, hu]
                · simp only [below_drewE, below_set _ _ _ _ _ _ (Nat.le_refl w.heap.size)]; exact HW'.out
                · simp only [row_drew, row_set _ _ _ _ _ _ _ hne0]; exact HRow'.out
        · have hX' : k < n ∧ lowB c = true := by simpa using hX
          have HE : Hid (runLow zs k = runLow zs (k + 1) + 1) := runLow_go zs k (by rw [HL.out]; exact hX'.1) (by rw [← HC'.out]; exact hX'.2)
          have hkl := hX'.1
          clear hX'
          go_wp2
          go_round
          case rel => exact ⟨k + 1, by omega, by omega, by go_num, by have := HR.out; have := HE.out; omega⟩
          case measure => simp [intOf]; omega
end

end Go.Proofs.YtckhjoancfbkfaaGreat
