/- Several texts in one: Kept, ConMath, ConSpec, ConMark, ConSame, ConTree. -/
import Derived.Test.YtnmljalcndfjmaaGreatNG1
import Derived.Test.YtnmljalcndfjmaaGreatNG3
import Derived.BigQuiet
import Derived.RangeFuncRecord
import Derived.Deep.RegionWith
import Derived.Deep.DeepCutAuto
import Derived.RangeFuncNested
import Derived.RangeFuncBound
import Derived.RangeFuncCalls
import Derived.RangeFuncLeaves
import Derived.RangeFuncBox
import Derived.Shelf.Abstract
import Derived.Shelf.RegionOpen
import Derived.OwnWalkIn
import Derived.TacticsInMore
import Derived.LoopNIn
import Derived.LoopIn
import Derived.Laws.EntriesVeiled
namespace Go.Proofs.YtnmljalcndfjmaaGreat

section
open Go.RowKit

/-- Top, Bot, Not, And, Or, Some, All, Sub, Eq, Dis, Role, Is, Rel, by their bytes. -/
def keptWords : List (List UInt8) := [[84, 111, 112], [66, 111, 116], [78, 111, 116], [65, 110, 100], [79, 114], [83, 111, 109, 101], [65, 108, 108], [83, 117, 98], [69, 113], [68, 105, 115], [82, 111, 108, 101], [73, 115], [82, 101, 108]]
def keptB (l : List UInt8) : Bool := (l == [84, 111, 112]) || ((l == [66, 111, 116]) || ((l == [78, 111, 116]) || ((l == [65, 110, 100]) || ((l == [79, 114]) || ((l == [83, 111, 109, 101]) || ((l == [65, 108, 108]) || ((l == [83, 117, 98]) || ((l == [69, 113]) || ((l == [68, 105, 115]) || ((l == [82, 111, 108, 101]) || ((l == [73, 115]) || (l == [82, 101, 108]))))))))))))

set_option maxRecDepth 100000 in
set_option maxHeartbeats 1000000 in
theorem implKept_any (a : Option Addr) (n cap : Nat) (zs : List Int) (w : World) {lo hi : Nat} (h : Rd lo hi w a n cap zs) :
    Calls Tryz.prog 142 #[.slice a n cap] w fun e w' => e = .returned (.bool (keptB (strOfNums zs).toList)) ∧ w' = w := by
  have hcv := conv_any h
  obtain ⟨s, hs⟩ : ∃ s, s = strOfNums zs := ⟨_, rfl⟩
  rw [← hs] at hcv ⊢
  clear hs h
  go_enter Tryz.func142, Tryz.ntmps142
  go_wp2
  all_goals
    go_ret
    refine ⟨rb ?_, rfl⟩
    clear hcv
    first | (simp only [keptB, *, Bool.true_or, Bool.false_or]; done) | (exfalso; simp_all; done)

theorem keptB_eq (l : List UInt8) : keptB l = keptWords.any (fun x => x == l) := by
  simp only [keptB, keptWords, List.any_cons, List.any_nil, Bool.or_false, Bool.beq_comm (a := l)]

def wordVal (j : Nat) : Value := .string ⟨(keptWords.getD j []).toArray⟩

theorem toList_mk (l : List UInt8) : (ByteArray.mk l.toArray).toList = l := by
  rw [ByteArray.toList_eq]

theorem any_take_succ (k : Nat) (hk : k < 13) (l : List UInt8) : (keptWords.take (k + 1)).any (fun x => x == l) = ((keptWords.take k).any (fun x => x == l) || (keptWords.getD k [] == l)) := by
  have : k < keptWords.length := by simp [keptWords]; omega
  rw [List.take_succ_eq_append_getElem this, List.any_append]; simp [List.getD, this]

theorem any_true_of (k : Nat) (hk : k < 13) (l : List UInt8) (h : (keptWords.getD k [] == l) = true) : keptB l = true := by
  have hk' : k < keptWords.length := by simp [keptWords]; omega
  rw [keptB_eq, List.any_eq_true]
  exact ⟨keptWords[k], List.getElem_mem hk', by simpa [List.getD, hk'] using h⟩

set_option maxRecDepth 100000 in
set_option maxHeartbeats 1000000 in
theorem specKept_any (a : Option Addr) (n cap : Nat) (zs : List Int) (w : World) {lo hi : Nat} (h : Rd lo hi w a n cap zs) (hhi : hi ≤ w.heap.size) :
    Calls Tryz.prog 85 #[.slice a n cap] w fun e w' => e = .returned (.bool (keptB (strOfNums zs).toList)) ∧ Below w.heap.size w w' := by
  have H : Hid (Rd lo hi w a n cap zs) := h
  clear h
  obtain ⟨s, HS⟩ : ∃ s, Hid (s = strOfNums zs) := ⟨_, rfl⟩
  rw [← HS.out]
  go_enter Tryz.func85, Tryz.ntmps85
  go_wp2
  go_loopw [4] (fun i wr => ∃ k : Nat, k ≤ 13 ∧ i = .int .i64 k ∧ wr.rowIs w.heap.size 9 13 wordVal ∧ Below w.heap.size w wr ∧ (keptWords.take k).any (fun x => x == s.toList) = false) (fun i _ => 13 - (intOf i).toNat)
  case atStart =>
    refine ⟨0, Nat.zero_le _, rfl, ?_, (Below.refl _ _).alloc (Nat.le_refl _) _, by simp⟩
    refine World.rowIs_alloc w _ 9 wordVal (fun i hi => ?_)
    simp at hi
    match i, hi with
    | 0, _ | 1, _ | 2, _ | 3, _ | 4, _ | 5, _ | 6, _ | 7, _ | 8, _ | 9, _ | 10, _ | 11, _ | 12, _ => rfl
  case round =>
    obtain ⟨k, hk, rfl, hrow, hbel, hany⟩ := hrel
    have HN : Hid ((keptWords.take k).any (fun x => x == s.toList) = false) := hany
    clear hany
    by_cases hlt : k < 13
    · have hki : (k : Int) < 13 := by omega
      obtain ⟨t, HT⟩ : ∃ t, Hid (t = ByteArray.mk (keptWords.getD k []).toArray) := ⟨_, rfl⟩
      have hcell : wr.cell? ⟨w.heap.size, k, none⟩ = some (.string t) := by rw [HT.out]; exact hrow.cell hlt
      have hcv : ∀ m, (convert 22 9 (.slice a n cap)).run Tryz.prog (wr.drewN m) = .ok (.string s) (wr.drewN m) := by
        intro m; rw [HS.out]; exact conv_any (H.out.below (below_drewN hbel m) hhi)
      have HR : Hid (wr.rowIs w.heap.size 9 13 wordVal) := hrow
      have HB : Hid (Below w.heap.size w wr) := hbel
      clear hrow hbel
      cases hb : (t.toList == s.toList)
      · have HF : Hid ((keptWords.take (k + 1)).any (fun x => x == s.toList) = false) := by
          unfold Hid; rw [any_take_succ k hlt, HN.out, Bool.false_or]; rw [HT.out, toList_mk] at hb; exact hb
        go_wp2
        go_quiet (fail)
        go_wp2
        go_roundw
        case rel => exact ⟨k + 1, by omega, by go_num, World.rowIs.of_block HR.out rfl, below_drewN HB.out _, HF.out⟩
        case measure => simp [intOf]; omega
      · have HF : Hid (keptB s.toList = true) := any_true_of k hlt _ (by rw [HT.out, toList_mk] at hb; exact hb)
        go_wp2
        go_quiet (fail)
        go_wp2
        go_ret
        exact ⟨rb HF.out.symm, below_drewN HB.out _⟩
    · have HF : Hid (keptB s.toList = false) := by
        have e : keptWords.take k = keptWords := List.take_of_length_le (by simp [keptWords]; omega)
        unfold Hid; rw [keptB_eq, ← e]; exact HN.out
      have HB : Hid (Below w.heap.size w wr) := hbel
      clear hrow hbel
      go_wp2
      go_ret
      exact ⟨rb HF.out.symm, HB.out⟩
end

section
open Go.RowKit

/-- How many kids a concept of this kind has; of no kind: -1. -/
def kidN (k : Int) : Int := if k = 0 ∨ k = 1 ∨ k = 2 then 0 else if k = 3 ∨ k = 6 ∨ k = 7 then 1 else if k = 4 ∨ k = 5 then 2 else -1
def roleB (k : Int) : Bool := decide (k = 6) || decide (k = 7)
def nameFit (c : CN) : Bool := if c.kind = 2 then (upOk c.name && !keptB (strOfNums c.name).toList) else decide (c.name.length = 0)
def roleFit (c : CN) : Bool := if roleB c.kind = true then lowOk c.role else decide (c.role.length = 0)
def shapeB (c : CN) : Bool := nameFit c && (roleFit c && decide ((c.kids.length : Int) = kidN c.kind))

mutual
/-- All parts, from the outside on, each with its depth. -/
def parts : CN → Nat → List (Nat × CN)
  | .mk k n r ks, deep => (deep, .mk k n r ks) :: partsL ks (deep + 1)
def partsL : List CN → Nat → List (Nat × CN)
  | [], _ => []
  | c :: cs, deep => parts c deep ++ partsL cs deep
end

theorem parts_eq (c : CN) (deep : Nat) : parts c deep = (deep, c) :: partsL c.kids (deep + 1) := by
  cases c; rw [parts]; rfl

theorem partsL_append (xs ys : List CN) (deep : Nat) : partsL (xs ++ ys) deep = partsL xs deep ++ partsL ys deep := by
  induction xs with
  | nil => simp [partsL]
  | cons x xs ih => simp only [List.cons_append, partsL, ih, List.append_assoc]

theorem partsL_take_succ (cs : List CN) (k deep : Nat) (h : k < cs.length) : partsL (cs.take (k + 1)) deep = partsL (cs.take k) deep ++ parts (cs.getD k CN.zero) deep := by
  rw [take_succ_getD cs CN.zero k h, partsL_append]
  simp only [partsL, List.append_nil]

theorem partsL_take_drop (cs : List CN) (k deep : Nat) : partsL cs deep = partsL (cs.take k) deep ++ partsL (cs.drop k) deep := by
  rw [← partsL_append, List.take_append_drop]

def okOne (x : Nat × CN) : Bool := decide (x.1 ≤ 6) && shapeB x.2

/-- It is one that may be. -/
def conOk (c : CN) : Bool := decide ((parts c 1).length ≤ 16) && (parts c 1).all okOne

/-- What is left behind these parts; -1: it may not be. -/
def leftOf (left : Int) (L : List (Nat × CN)) : Int := if (L.length : Int) ≤ left ∧ L.all okOne = true then left - L.length else -1

theorem leftOf_pos {left : Int} {L : List (Nat × CN)} (h : (L.length : Int) ≤ left) (k : L.all okOne = true) : leftOf left L = left - L.length := if_pos ⟨h, k⟩
theorem leftOf_neg {left : Int} {L : List (Nat × CN)} (h : ¬ ((L.length : Int) ≤ left ∧ L.all okOne = true)) : leftOf left L = -1 := if_neg h

theorem leftOf_append {left : Int} (L M : List (Nat × CN)) : leftOf left (L ++ M) = if leftOf left L < 0 then -1 else leftOf (leftOf left L) M := by
  by_cases h1 : (L.length : Int) ≤ left ∧ L.all okOne = true
  · rw [leftOf_pos h1.1 h1.2, if_neg (by omega)]
    by_cases h2 : (M.length : Int) ≤ left - L.length ∧ M.all okOne = true
    · rw [leftOf_pos h2.1 h2.2, leftOf_pos (by rw [List.length_append]; omega) (by rw [List.all_append, h1.2, h2.2]; rfl), List.length_append]; omega
    · rw [leftOf_neg h2, leftOf_neg]
      rintro ⟨h3, h4⟩
      rw [List.length_append] at h3
      rw [List.all_append, Bool.and_eq_true] at h4
      exact h2 ⟨by omega, h4.2⟩
  · rw [leftOf_neg h1, if_pos (by omega), leftOf_neg]
    rintro ⟨h3, h4⟩
    rw [List.length_append] at h3
    rw [List.all_append, Bool.and_eq_true] at h4
    exact h1 ⟨by omega, h4.1⟩

theorem leftOf_le {left : Int} (h : 0 ≤ left) (L : List (Nat × CN)) : leftOf left L ≤ left := by
  unfold leftOf; split <;> omega

theorem leftOf_nil (left : Int) (h : 0 ≤ left) : leftOf left [] = left := by simp [leftOf, h]

/-- The outermost part is refused. -/
theorem leftOf_bad (c : CN) (deep : Nat) (left : Int) (h : left - 1 < 0 ∨ 6 < deep ∨ shapeB c = false) : leftOf left (parts c deep) = -1 := by
  rw [parts_eq]
  unfold leftOf
  rw [if_neg]
  rintro ⟨h1, h2⟩
  simp only [List.length_cons, List.all_cons, okOne, Bool.and_eq_true, decide_eq_true_eq] at h1 h2
  rcases h with h | h | h
  · omega
  · omega
  · rw [h2.1.2] at h; cases h

theorem leftOf_good (c : CN) (deep : Nat) (left : Int) (h1 : 0 ≤ left - 1) (h2 : deep ≤ 6) (h3 : shapeB c = true) : leftOf left (parts c deep) = leftOf (left - 1) (partsL c.kids (deep + 1)) := by
  rw [parts_eq, show ((deep, c) :: partsL c.kids (deep + 1)) = [(deep, c)] ++ partsL c.kids (deep + 1) from rfl, leftOf_append]
  have e : leftOf left [(deep, c)] = left - 1 := by
    unfold leftOf
    rw [if_pos ⟨by simp; omega, by simp [okOne, h2, h3]⟩]; simp
  rw [e, if_neg (by omega)]

theorem conOk_left (c : CN) : conOk c = decide (0 ≤ leftOf 16 (parts c 1)) := by
  unfold conOk leftOf
  by_cases h1 : (parts c 1).length ≤ 16
  · by_cases h2 : (parts c 1).all okOne = true
    · rw [if_pos ⟨by omega, h2⟩, h2]; simp; omega
    · rw [if_neg (fun h => h2 h.2)]; simp at h2 ⊢; intro _; exact h2
  · rw [if_neg (by omega)]; simp [h1]
end

section
open Go.RowKit

def kidS (k : Int) : Int := if k = 0 ∨ k = 1 ∨ k = 2 then 0 else if k = 4 ∨ k = 5 then 2 else 1

set_option maxHeartbeats 400000 in
theorem l2kids_any (k : Int) (w : World) : Calls Tryz.prog 83 #[.int .i64 k] w fun e w' => e = .returned (.int .i64 (kidS k)) ∧ w' = w := by
  go_enter Tryz.func83, Tryz.ntmps83
  go_wp2
  all_goals
    go_ret
    refine ⟨ri ?_, rfl⟩
    first | (simp_all [kidS]; done) | (unfold kidS; simp_all; omega)

theorem kidS_kidN {k : Int} (h0 : 0 ≤ k) (h7 : k ≤ 7) : kidS k = kidN k := by
  unfold kidS kidN
  by_cases h1 : k = 0 ∨ k = 1 ∨ k = 2
  · rw [if_pos h1, if_pos h1]
  · rw [if_neg h1, if_neg h1]
    by_cases h2 : k = 4 ∨ k = 5
    · rw [if_pos h2, if_neg (by omega), if_pos h2]
    · rw [if_neg h2, if_pos (by omega)]

theorem kidN_out {k : Int} (h : k < 0 ∨ 7 < k) : kidN k = -1 := by
  unfold kidN
  rw [if_neg (by omega), if_neg (by omega), if_neg (by omega)]

/-- A box of four cells. -/
def BoxC (W : World) (b : Nat) (v0 v1 v2 v3 : Value) : Prop := W.heap[b]? = some (.cells #[v0, v1, v2, v3] 30 (0, 0))

theorem BoxC.new (W : World) (v0 v1 v2 v3 : Value) : BoxC (W.alloc (.cells #[v0, v1, v2, v3] 30)) W.heap.size v0 v1 v2 v3 := World.alloc_heap_new W _
theorem BoxC.below {W W' : World} {b B : Nat} {v0 v1 v2 v3 : Value} (h : BoxC W b v0 v1 v2 v3) (hb : Below B W W') (hB : b < B) : BoxC W' b v0 v1 v2 v3 := (hb.block b hB).trans h
theorem BoxC.lt {W : World} {b : Nat} {v0 v1 v2 v3 : Value} (h : BoxC W b v0 v1 v2 v3) : b < W.heap.size := (Array.getElem?_eq_some_iff.1 h).1
theorem BoxC.cells {W : World} {b : Nat} {v0 v1 v2 v3 : Value} (h : BoxC W b v0 v1 v2 v3) : W.cell? ⟨b, 0, none⟩ = some v0 ∧ W.cell? ⟨b, 1, none⟩ = some v1 ∧ W.cell? ⟨b, 2, none⟩ = some v2 ∧ W.cell? ⟨b, 3, none⟩ = some v3 := by
  unfold BoxC at h
  refine ⟨?_, ?_, ?_, ?_⟩ <;> simp [World.cell?, h]

def OkC (d : Nat) : Prop := ∀ (v : Value) (c : CN) (deep : Nat) (left : Int) (w : World) (lo hi : Nat), RdC lo hi w d v c → hi ≤ w.heap.size → deep ≤ 7 → 0 ≤ left → left ≤ 16 →
  Calls Tryz.prog 34 #[v, .int .i64 deep, .int .i64 left] w fun e w' => e = .returned (.int .i64 (leftOf left (parts c deep))) ∧ Below w.heap.size w w'

set_option maxRecDepth 100000 in
set_option maxHeartbeats 1000000 in
theorem l2ok_bad {v : Value} {c : CN} {d deep : Nat} {left : Int} {w : World} {lo hi : Nat} (h : RdC lo hi w (d + 1) v c) (hdp : deep ≤ 7) (h0 : 0 ≤ left) (h16 : left ≤ 16)
    (hbad : left = 0 ∨ deep = 7 ∨ c.kind < 0 ∨ 7 < c.kind ∨ ((c.kids.length : Nat) : Int) ≠ kidS c.kind) :
    Calls Tryz.prog 34 #[v, .int .i64 deep, .int .i64 left] w fun e w' => e = .returned (.int .i64 (leftOf left (parts c deep))) ∧ Below w.heap.size w w' := by
  obtain ⟨na, nn, nc, ra, rn, rc, ka, kn, kc, rfl, hn, hr, hk⟩ := h
  have hkl := hk.len
  have hE : leftOf left (parts c deep) = -1 := by
    refine leftOf_bad c deep left ?_
    rcases hbad with h | h | h | h | h
    · exact .inl (by omega)
    · exact .inr (.inl (by omega))
    · exact .inr (.inr (by simp [shapeB, kidN_out (.inl h)]; done))
    · exact .inr (.inr (by simp [shapeB, kidN_out (.inr h)]; done))
    · by_cases ho : c.kind < 0 ∨ 7 < c.kind
      · exact .inr (.inr (by simp [shapeB, kidN_out ho]; done))
      · rw [kidS_kidN (by omega) (by omega)] at h
        exact .inr (.inr (by simp [shapeB, h]))
  have HE : Hid (leftOf left (parts c deep) = -1) := hE
  have HB : Hid (∀ n, Below w.heap.size w ((w.alloc (.cells #[.int .i64 c.kind, .slice na nn nc, .slice ra rn rc, .slice ka kn kc] 30)).drewN n)) := fun n => below_drewN ((Below.refl _ _).alloc (Nat.le_refl _) _) n
  obtain ⟨k, hkd⟩ : ∃ k, k = c.kind := ⟨_, rfl⟩
  rw [← hkd] at hbad HB ⊢
  rw [hkl] at hbad
  have hdi : (deep : Int) ≤ 7 := by omega
  clear hn hr hk hE hkd hkl
  go_enter Tryz.func34, Tryz.ntmps34
  go_wp2_with fail
  by_cases b1 : left = 0
  · subst b1
    go_quiet (fail)
    go_wp2_with fail
    go_ret
    exact ⟨ri HE.out.symm, HB.out _⟩
  · have d1 : decide (left - 1 < 0) = false := by simp; omega
    by_cases b2 : deep = 7
    · subst b2
      go_quiet (fail)
      go_wp2_with fail
      go_ret
      exact ⟨ri HE.out.symm, HB.out _⟩
    · have d2 : decide ((6 : Int) < (deep : Int)) = false := by simp; omega
      by_cases b3 : k < 0
      · go_quiet (fail)
        go_wp2_with fail
        go_ret
        exact ⟨ri HE.out.symm, HB.out _⟩
      · have d3 : decide (k < 0) = false := by simp; omega
        by_cases b4 : 7 < k
        · go_quiet (fail)
          go_wp2_with fail
          go_ret
          exact ⟨ri HE.out.symm, HB.out _⟩
        · have d4 : decide (7 < k) = false := by simp; omega
          have b5 : ((kn : Int) != kidS k) = true := by simp; omega
          clear hbad
          go_quiet (first | (go_at_call 83; exact Calls.quiet_of_same (l2kids_any _ _)))
          go_wp2_with fail
          go_ret
          exact ⟨ri HE.out.symm, HB.out _⟩
end

section
open Go.RowKit

/-- Only numbers were turned, and only in the blocks from lo on, below hi. -/
structure MarkRel (lo hi : Nat) (w w' : World) : Prop where
  os : w'.os = w.os
  tape : w'.tape = w.tape
  output : w'.output = w.output
  size : w.heap.size ≤ w'.heap.size
  out : ∀ b, b < w.heap.size → (b < lo ∨ hi ≤ b) → w'.heap[b]? = w.heap[b]?
  cell : ∀ (p : Addr) (v : Value), w.cell? p = some v → w'.cell? p = some v ∨ ∃ kd m m', v = .int kd m ∧ w'.cell? p = some (.int kd m')
  frz : ∀ p : Addr, p.block < w.heap.size → w'.frozen? p = w.frozen? p

theorem MarkRel.refl (lo hi : Nat) (w : World) : MarkRel lo hi w w := ⟨rfl, rfl, rfl, Nat.le_refl _, fun _ _ _ => rfl, fun _ _ h => .inl h, fun _ _ => rfl⟩

theorem MarkRel.trans {lo hi : Nat} {a b c : World} (h : MarkRel lo hi a b) (k : MarkRel lo hi b c) : MarkRel lo hi a c := by
  refine ⟨k.os.trans h.os, k.tape.trans h.tape, k.output.trans h.output, Nat.le_trans h.size k.size, fun x h1 h2 => (k.out x (Nat.lt_of_lt_of_le h1 h.size) h2).trans (h.out x h1 h2), fun p v hp => ?_, fun p hp => (k.frz p (Nat.lt_of_lt_of_le hp h.size)).trans (h.frz p hp)⟩
  rcases h.cell p v hp with h1 | ⟨kd, m, m', e, h1⟩
  · exact k.cell p v h1
  · rcases k.cell p _ h1 with h2 | ⟨kd2, m2, m2', e2, h2⟩
    · exact .inr ⟨kd, m, m', e, h2⟩
    · simp only [Value.int.injEq] at e2
      obtain ⟨rfl, _⟩ := e2
      exact .inr ⟨kd, m, m2', e, h2⟩

theorem MarkRel.of_below {lo hi : Nat} {w w' : World} (h : Below w.heap.size w w') : MarkRel lo hi w w' :=
  ⟨h.os, h.tape, h.output, h.size, fun b h1 _ => h.block b h1, fun p _ hp => .inl ((h.cell (p := p) (block_lt_of_cell hp)).trans hp), fun p hp => World.frozen?_of_block (w := w) (h.block p.block hp)⟩

theorem MarkRel.set {lo hi : Nat} {w : World} {a : Addr} {kd : IntKind} {m : Int} (h : w.cell? a = some (.int kd m)) (h1 : lo ≤ a.block) (h2 : a.block < hi) (m' : Int) : MarkRel lo hi w (w.setCell a (.int kd m')) := by
  have hb := (Below.refl a.block w).setCell (p := a) (Nat.le_refl _) (.int kd m')
  refine ⟨hb.os, hb.tape, hb.output, hb.size, fun b _ hb' => Below.heap_setCell w a _ b (by omega), fun p v hp => ?_, fun p _ => by simp⟩
  by_cases e : a = p
  · subst e
    rw [h] at hp
    cases hp
    exact .inr ⟨kd, m, m', rfl, World.cell?_setCell_same _ _ _ h⟩
  · exact .inl (by rw [World.cell?_setCell_other _ _ _ _ e]; exact hp)

theorem MarkRel.keep {lo hi : Nat} {w w' : World} (h : MarkRel lo hi w w') {p : Addr} {v : Value} (hp : w.cell? p = some v) (hv : ∀ kd m, v ≠ .int kd m) : w'.cell? p = some v := by
  rcases h.cell p v hp with h1 | ⟨kd, m, _, e, _⟩
  · exact h1
  · exact absurd e (hv kd m)

theorem MarkRel.int {lo hi : Nat} {w w' : World} (h : MarkRel lo hi w w') {p : Addr} {kd : IntKind} {m : Int} (hp : w.cell? p = some (.int kd m)) : ∃ m', w'.cell? p = some (.int kd m') := by
  rcases h.cell p _ hp with h1 | ⟨kd', m1, m', e, h1⟩
  · exact ⟨m, h1⟩
  · simp only [Value.int.injEq] at e
    obtain ⟨rfl, _⟩ := e
    exact ⟨m', h1⟩

/-- A slice of bytes, whatever they are. -/
structure ShB (lo hi : Nat) (w : World) (a : Option Addr) (n cap : Nat) : Prop where
  fits : n ≤ cap ∧ cap ≤ 9223372036854775807
  cells : n = 0 ∨ ∃ b off, a = some ⟨b, off, none⟩ ∧ lo ≤ b ∧ b < hi ∧ ∀ i, i < n → ∃ z, w.cell? ⟨b, off + i, none⟩ = some (.int .u8 z)

theorem Rd.sh {lo hi : Nat} {w : World} {a : Option Addr} {n cap : Nat} {zs : List Int} (h : Rd lo hi w a n cap zs) : ShB lo hi w a n cap := by
  obtain ⟨_, hm, _, hc⟩ := h
  refine ⟨hm, ?_⟩
  rcases hc with h0 | ⟨b, off, e, h1, h2, hc⟩
  · exact .inl h0
  · exact .inr ⟨b, off, e, h1, h2, fun i hi => ⟨_, hc i hi⟩⟩

/-- A concept, whatever its numbers are: c says how long its lists are. -/
def ShC (lo hi : Nat) (w : World) : Nat → Value → CN → Prop
  | 0, _, _ => False
  | d + 1, v, c => ∃ k na nn nc ra rn rc ka kn kc, v = .agg #[.int .i64 k, .slice na nn nc, .slice ra rn rc, .slice ka kn kc] ∧
      c.name.length = nn ∧ ShB lo hi w na nn nc ∧ c.role.length = rn ∧ ShB lo hi w ra rn rc ∧ RdL (ShC lo hi w d) lo hi w ka kn kc c.kids

theorem RdC.sh {lo hi : Nat} {w : World} : ∀ {d : Nat} {v : Value} {c : CN}, RdC lo hi w d v c → ShC lo hi w d v c := by
  intro d
  induction d with
  | zero => intro v c h; exact h
  | succ d ih =>
    intro v c h
    obtain ⟨na, nn, nc, ra, rn, rc, ka, kn, kc, hv, h1, h2, h3⟩ := h
    exact ⟨_, na, nn, nc, ra, rn, rc, ka, kn, kc, hv, h1.len, h1.sh, h2.len, h2.sh, h3.imp (fun v c h => ih h) (Same.refl _ _ _) (Nat.le_refl _) (Nat.le_refl _)⟩

theorem ShC.form {lo hi : Nat} {w : World} {d : Nat} {v0 v1 v2 v3 : Value} {c : CN} (h : ShC lo hi w d (.agg #[v0, v1, v2, v3]) c) : ∃ k na nn nc ra rn rc ka kn kc, v0 = .int .i64 k ∧ v1 = .slice na nn nc ∧ v2 = .slice ra rn rc ∧ v3 = .slice ka kn kc := by
  cases d with
  | zero => exact h.elim
  | succ d =>
    obtain ⟨k, na, nn, nc, ra, rn, rc, ka, kn, kc, hv, _⟩ := h
    simp only [Value.agg.injEq, Array.mk.injEq, List.cons.injEq, and_true] at hv
    exact ⟨k, na, nn, nc, ra, rn, rc, ka, kn, kc, hv.1, hv.2.1, hv.2.2.1, hv.2.2.2⟩
end

section
open Go.RowKit

theorem str_inj {xs ys : List Int} (hx : ∀ i, 0 ≤ xs.getD i 0 ∧ xs.getD i 0 ≤ 255) (hy : ∀ i, 0 ≤ ys.getD i 0 ∧ ys.getD i 0 ≤ 255) : ((strOfNums xs).toList == (strOfNums ys).toList) = decide (xs = ys) := by
  have e : ∀ zs : List Int, (strOfNums zs).toList = zs.map (fun n => UInt8.ofNat n.toNat) := fun zs => by rw [ByteArray.toList_eq]; rfl
  rw [e, e]
  by_cases h : xs = ys
  · subst h; simp
  · rw [decide_eq_false h]
    cases hb : (xs.map (fun n : Int => UInt8.ofNat n.toNat) == ys.map (fun n : Int => UInt8.ofNat n.toNat))
    · rfl
    · refine absurd ?_ h
      have hb' := eq_of_beq hb
      have hl : xs.length = ys.length := by have := congrArg List.length hb'; simpa using this
      refine List.ext_getElem hl (fun i h1 h2 => ?_)
      have hi := congrArg (fun l => l[i]?) hb'
      simp only [List.getElem?_map, List.getElem?_eq_getElem h1, List.getElem?_eq_getElem h2, Option.map_some, Option.some.injEq] at hi
      have a1 := hx i
      have a2 := hy i
      simp only [List.getD, List.getElem?_eq_getElem h1, List.getElem?_eq_getElem h2, Option.getD_some] at a1 a2
      have hi' := congrArg UInt8.toNat hi
      simp only [UInt8.toNat_ofNat'] at hi'
      omega
end

section
open Go.RowKit Go.Shelf

attribute [local go_sem] Oper.semAt_some

set_option maxHeartbeats 1000000 in
theorem kidsOf_in (n : Nat) (v0 v1 v2 v3 : Value) (w : World) :
    CallsIn Fence.wide n Tryz.prog 126 #[.agg #[v0, v1, v2, v3]] w fun e w' => e = .returned v3 ∧ w' = w.alloc (.cells #[v0, v1, v2, v3] 30) := by
  refine callsIn_of_wp Tryz.func126 rfl trivial ?_ rfl
  simp only [Tryz.ntmps126, List.size_toArray, List.length_cons, List.length_nil, Nat.reduceAdd, Nat.reduceSub, Array.replicate_succ, Array.replicate_zero, List.push_toArray, List.append_toArray, List.nil_append, List.cons_append]
  gi_wp2
  go_ret
  exact ⟨rfl, rfl⟩

set_option maxHeartbeats 1000000 in
theorem conTree_in (n : Nat) (k : Int) (na : Option Addr) (nn nc : Nat) (ra : Option Addr) (rn rc : Nat) (ka : Option Addr) (kn kc : Nat) (w : World) :
    CallsIn Fence.wide n Tryz.prog 77 #[.agg #[.int .i64 k, .slice na nn nc, .slice ra rn rc, .slice ka kn kc]] w fun e w' => e = .returned (.agg #[.int .i64 k, .slice na nn nc, .slice ra rn rc, .slice ka kn kc, .func (.func 126) #[] #[]]) ∧
      w' = (w.alloc (.cells #[.int .i64 k, .slice na nn nc, .slice ra rn rc, .slice ka kn kc] 30)).alloc (.cells #[.int .i64 k, .slice na nn nc, .slice ra rn rc, .slice ka kn kc, .func (.func 126) #[] #[]] 114) := by
  refine callsIn_of_wp Tryz.func77 rfl trivial ?_ rfl
  simp only [Tryz.ntmps77, List.size_toArray, List.length_cons, List.length_nil, Nat.reduceAdd, Nat.reduceSub, Array.replicate_succ, Array.replicate_zero, List.push_toArray, List.append_toArray, List.nil_append, List.cons_append]
  gi_wp2
  refine bodyPost_ret (v := .agg #[.int .i64 k, .slice na nn nc, .slice ra rn rc, .slice ka kn kc, .func (.func 126) #[] #[]]) (by simp [results, Tryz.results77, go_sem]) rfl ⟨rfl, rfl⟩

set_option maxHeartbeats 1000000 in
theorem all_in (n : Nat) (k : Int) (na : Option Addr) (nn nc : Nat) (ra : Option Addr) (rn rc : Nat) (ka : Option Addr) (kn kc : Nat) (w : World) :
    CallsIn Fence.wide n Tryz.prog 78 #[.agg #[.int .i64 k, .slice na nn nc, .slice ra rn rc, .slice ka kn kc, .func (.func 126) #[] #[]]] w fun e w' => e = .returned (.func (.func 127) #[] #[.pointer (some ⟨w.heap.size, 0, none⟩)]) ∧
      w' = w.alloc (.cells #[.int .i64 k, .slice na nn nc, .slice ra rn rc, .slice ka kn kc, .func (.func 126) #[] #[]] 114) := by
  refine callsIn_of_wp Tryz.func78 rfl trivial ?_ rfl
  simp only [Tryz.ntmps78, List.size_toArray, List.length_cons, List.length_nil, Nat.reduceAdd, Nat.reduceSub, Array.replicate_succ, Array.replicate_zero, List.push_toArray, List.append_toArray, List.nil_append, List.cons_append]
  gi_wp2
  go_ret
  exact ⟨rfl, rfl⟩
end

end Go.Proofs.YtnmljalcndfjmaaGreat
