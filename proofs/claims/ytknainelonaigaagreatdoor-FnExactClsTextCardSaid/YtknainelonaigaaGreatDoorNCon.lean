/- Several texts in one: OwnB, ConMath, ConSpec, ConMark, AppAt, ConTxt. -/
import Derived.Test.YtknainelonaigaaGreatDoorNWords
import Derived.Laws.AppendOwn
import Derived.Test.YtknainelonaigaaGreatDoorOwnZ
import Derived.Test.YtknainelonaigaaGreatDoorNBase
import Derived.BigQuiet
import Derived.RangeFuncRecord
import Derived.Lib.AppendStr
import Derived.Maps.AppendAt
import Derived.Deep.AppendLies
import Derived.Deep.RegionLaw
import Derived.Deep.DeepCutAuto
namespace Go.Proofs.YtknainelonaigaaGreatDoor

section
open Go.RowKit

theorem longB_of_up {zs : List Int} (h : upOk zs = true) : 1 ≤ zs.length ∧ zs.length ≤ 6 := by
  unfold upOk longB at h
  simp only [Bool.and_eq_true, decide_eq_true_eq] at h
  exact h.1

theorem longB_of_low {zs : List Int} (h : lowOk zs = true) : 1 ≤ zs.length ∧ zs.length ≤ 6 := by
  unfold lowOk longB at h
  simp only [Bool.and_eq_true, decide_eq_true_eq] at h
  exact h.1

/-- The blank ahead of all but the first. -/
def gapT (k : Nat) : List Int := if 0 < k then [32] else []

theorem gapT_pos {k : Nat} (h : 0 < k) : gapT k = [32] := if_pos h
theorem gapT_zero : gapT 0 = [] := rfl

/-! ### A slice of bytes of the call's own -/

def OwnB (base : Nat) (w : World) (v : Value) (zs : List Int) : Prop := ownsZ w base 5 1 v zs.length (zs.map (Value.int .u8))

theorem OwnB.nil (base : Nat) (w : World) : OwnB base w (.slice none 0 0) [] := ownsZ_nil _ _ _ _

theorem OwnB.below {base B : Nat} {w w' : World} {v : Value} {zs : List Int} (h : OwnB base w v zs) (hb : Below B w w') (hB : w.heap.size ≤ B) : OwnB base w' v zs := by
  obtain ⟨h1, h2⟩ := h
  refine ⟨h1, ?_⟩
  rcases h2 with h2 | ⟨g, cap, cur, fz, hv, hg, hh, r⟩
  · exact .inl h2
  · exact .inr ⟨g, cap, cur, fz, hv, hg, by rw [hb.block g (Nat.lt_of_lt_of_le (Array.getElem?_eq_some_iff.1 hh).1 hB)]; exact hh, r⟩

/-- What it is: nil, with nothing in it; or a row of its own. -/
theorem OwnB.form {base : Nat} {w : World} {v : Value} {zs : List Int} (h : OwnB base w v zs) (hby : ∀ i, 0 ≤ zs.getD i 0 ∧ zs.getD i 0 ≤ 255) :
    ∃ a c b, v = .slice a zs.length c ∧ Rd base w.heap.size w a zs.length c zs ∧ (zs.length = 0 ∨ a = some ⟨b, 0, none⟩) ∧ LeafOk w (leafB b 0 zs.length) ∧ (zs.length = 0 ∨ (base ≤ b ∧ b < w.heap.size)) := by
  by_cases hz : zs.length = 0
  · rcases h.2 with ⟨hv, _⟩ | ⟨g, cap, cur, fz, hv, _, _, _, _, hc2, _⟩
    · refine ⟨none, 0, 0, by rw [hv, hz], ?_, .inl hz, ?_, .inl hz⟩
      · rw [List.eq_nil_of_length_eq_zero hz]; exact Rd.none_of (by omega)
      · rw [hz]; intro x hx; simp [leafB] at hx
    · unfold maxLen at hc2
      refine ⟨_, cap, 0, hv, ?_, .inl hz, ?_, .inl hz⟩
      · rw [List.eq_nil_of_length_eq_zero hz]; exact Rd.none_of hc2
      · rw [hz]; intro x hx; simp [leafB] at hx
  · obtain ⟨h1, h2⟩ := h
    rcases h2 with ⟨_, h0⟩ | ⟨g, cap, cur, fz, hv, hg, hh, hfz, hc1, hc2, hc3, hc4⟩
    · exact absurd h0 hz
    · simp only [Nat.mul_one] at hc3 hc4
      unfold maxLen at hc2
      have hcell : ∀ i, i < zs.length → w.cell? ⟨g, i, none⟩ = some (.int .u8 (zs.getD i 0)) := fun i hi => by
        have e : (cur.toList.take zs.length)[i]? = (zs.map (Value.int .u8))[i]? := by rw [hc4]
        rw [List.getElem?_take, if_pos hi] at e
        simp only [Array.getElem?_toList] at e
        rw [cell_of_row w g i cur 5 fz hh, e]
        simp [List.getD, hi]
      have hglt : g < w.heap.size := (Array.getElem?_eq_some_iff.1 hh).1
      refine ⟨_, cap, g, hv, ⟨rfl, ⟨hc1, hc2⟩, hby, .inr ⟨g, 0, rfl, hg, hglt, fun i hi => by rw [Nat.zero_add]; exact hcell i hi⟩⟩, .inr rfl, ?_, .inr ⟨hg, hglt⟩⟩
      intro x hx
      simp only [leafB, List.mem_map, List.mem_range] at hx
      obtain ⟨j, hj, rfl⟩ := hx
      simp only [Nat.zero_add]
      refine ⟨⟨_, hcell j hj⟩, ?_⟩
      have := hfz j (by omega)
      simp only [World.frozen?, hh, Bool.and_eq_false_iff, decide_eq_false_iff_not]
      omega

theorem leafB_nodup (b off n : Nat) : ((leafB b off n).map (·.1)).Nodup := by
  rw [List.nodup_iff_pairwise_ne, List.pairwise_iff_getElem]
  intro i j hi hj hij
  simp [leafB] <;> omega

theorem new1 (w : World) (g : Nat) (c : Int) (hg : g = w.heap.size) : ∀ j u, ([c].map (Value.int .u8))[j]? = some u → (w.alloc (.cells #[.int .u8 c] 5)).cell? ((⟨g, 0, none⟩ : Addr).add j) = some u := by
  intro j u hu
  subst hg
  rw [Addr.add_lit]
  match j, hu with
  | 0, hu => simp at hu; subst hu; simp

theorem oneCB (zs : List Int) : ∀ u ∈ zs.map (Value.int .u8), u.oneCell' = true := by
  intro u hu; simp only [List.mem_map] at hu; obtain ⟨x, _, rfl⟩ := hu; rfl

theorem rd_news {lo hi : Nat} {w : World} {b off n cap : Nat} {zs : List Int} (h : Rd lo hi w (some ⟨b, off, none⟩) n cap zs) : ∀ j u, (zs.map (Value.int .u8))[j]? = some u → w.cell? ((⟨b, off, none⟩ : Addr).add j) = some u := by
  intro j u hu
  have hj : j < zs.length := by simpa using (List.getElem?_eq_some_iff.1 hu).1
  rcases h.cells with h0 | ⟨b', off', e, _, _, hc⟩
  · have := h.len; omega
  · simp only [Option.some.injEq, Addr.mk.injEq, and_true] at e
    obtain ⟨rfl, rfl⟩ := e
    rw [Addr.add_lit, hc j (by have := h.len; omega), ← hu]
    simp [List.getD, hj]

/-- All that lay below base is as it was, and all blocks that are no bytes. -/
def Keep5 (base : Nat) (w w' : World) : Prop := Below base w w' ∧ ∀ (b : Nat) (c : Array Value) (t : TypeId) (f : Nat × Nat), t ≠ 5 → w.heap[b]? = some (.cells c t f) → w'.heap[b]? = some (.cells c t f)

theorem Keep5.refl (base : Nat) (w : World) : Keep5 base w w := ⟨Below.refl _ _, fun _ _ _ _ _ h => h⟩
theorem Keep5.trans {base : Nat} {a b c : World} (h : Keep5 base a b) (k : Keep5 base b c) : Keep5 base a c := ⟨h.1.trans k.1, fun x c t f h1 h2 => k.2 x c t f h1 (h.2 x c t f h1 h2)⟩
theorem Keep5.of_below {base : Nat} {w w' : World} (h : Below w.heap.size w w') (hb : base ≤ w.heap.size) : Keep5 base w w' := ⟨h.mono hb, fun b _ _ _ _ h2 => (h.block b (Array.getElem?_eq_some_iff.1 h2).1).trans h2⟩
theorem Keep5.drew {base : Nat} {w w' : World} (h : Keep5 base w w') : Keep5 base w w'.drew := ⟨h.1.drew, h.2⟩

theorem ownB_app {base : Nat} {W w2 : World} {v v' : Value} {xs ys : List Int} (hO : OwnB base W v xs) (hb : base ≤ W.heap.size)
    (hown : ownsZ w2 base 5 1 v' (xs.length + ys.length) (xs.map (Value.int .u8) ++ ys.map (Value.int .u8))) (hgrow : W.grownBy w2 v.ownBlock) :
    OwnB base w2 v' (xs ++ ys) ∧ Keep5 base W w2 := by
  refine ⟨by unfold OwnB; simpa using hown, (Below.refl base W).grown hgrow hb (fun x hx => ?_), fun b c t f ht hh => ?_⟩
  · rcases hO.2 with ⟨rfl, _⟩ | ⟨g1, cap1, cur, fz, rfl, hg1, _⟩
    · simp [Value.ownBlock] at hx
    · simp [Value.ownBlock] at hx; omega
  · refine (hgrow.block b (Array.getElem?_eq_some_iff.1 hh).1 (fun e => ?_)).trans hh
    rcases hO.2 with ⟨rfl, _⟩ | ⟨g1, cap1, cur, fz, rfl, hg1, hgb, _⟩
    · simp [Value.ownBlock] at e
    · simp [Value.ownBlock] at e
      subst e
      rw [hh] at hgb
      simp at hgb
      exact ht hgb.2.1
end

section
open Go.RowKit

/-- How many kids a concept of this kind has; of no kind: -1. -/
def kidN (k : Int) : Int := if k = 0 ∨ k = 1 ∨ k = 2 then 0 else if k = 3 ∨ k = 6 ∨ k = 7 then 1 else if k = 4 ∨ k = 5 then 2 else -1
def roleB (k : Int) : Bool := decide (k = 6) || decide (k = 7)
def nameFit (c : CN) : Bool := if c.kind = 2 then (upOk c.name && !keptB (strOfNums c.name).toList) else decide (c.name.length = 0)
def roleFit (c : CN) : Bool := if roleB c.kind = true then lowOk c.role else decide (c.role.length = 0)
def shapeB (c : CN) : Bool := nameFit c && (roleFit c && decide ((c.kids.length : Int) = kidN c.kind))

mutual
/-- All parts, from the outside on, each with its depth. -/
def parts : CN → Nat → List (Nat × CN)
  | .mk k n r ks, deep => (deep, .mk k n r ks) :: partsL ks (deep + 1)
def partsL : List CN → Nat → List (Nat × CN)
  | [], _ => []
  | c :: cs, deep => parts c deep ++ partsL cs deep
end

theorem parts_eq (c : CN) (deep : Nat) : parts c deep = (deep, c) :: partsL c.kids (deep + 1) := by
  cases c; rw [parts]; rfl

theorem partsL_append (xs ys : List CN) (deep : Nat) : partsL (xs ++ ys) deep = partsL xs deep ++ partsL ys deep := by
  induction xs with
  | nil => simp [partsL]
  | cons x xs ih => simp only [List.cons_append, partsL, ih, List.append_assoc]

theorem partsL_take_succ (cs : List CN) (k deep : Nat) (h : k < cs.length) : partsL (cs.take (k + 1)) deep = partsL (cs.take k) deep ++ parts (cs.getD k CN.zero) deep := by
  rw [take_succ_getD cs CN.zero k h, partsL_append]
  simp only [partsL, List.append_nil]

theorem partsL_take_drop (cs : List CN) (k deep : Nat) : partsL cs deep = partsL (cs.take k) deep ++ partsL (cs.drop k) deep := by
  rw [← partsL_append, List.take_append_drop]

def okOne (x : Nat × CN) : Bool := decide (x.1 ≤ 6) && shapeB x.2

/-- It is one that may be. -/
def conOk (c : CN) : Bool := decide ((parts c 1).length ≤ 16) && (parts c 1).all okOne

/-- What is left behind these parts; -1: it may not be. -/
def leftOf (left : Int) (L : List (Nat × CN)) : Int := if (L.length : Int) ≤ left ∧ L.all okOne = true then left - L.length else -1

theorem leftOf_pos {left : Int} {L : List (Nat × CN)} (h : (L.length : Int) ≤ left) (k : L.all okOne = true) : leftOf left L = left - L.length := if_pos ⟨h, k⟩
theorem leftOf_neg {left : Int} {L : List (Nat × CN)} (h : ¬ ((L.length : Int) ≤ left ∧ L.all okOne = true)) : leftOf left L = -1 := if_neg h

theorem leftOf_append {left : Int} (L M : List (Nat × CN)) : leftOf left (L ++ M) = if leftOf left L < 0 then -1 else leftOf (leftOf left L) M := by
  by_cases h1 : (L.length : Int) ≤ left ∧ L.all okOne = true
  · rw [leftOf_pos h1.1 h1.2, if_neg (by omega)]
    by_cases h2 : (M.length : Int) ≤ left - L.length ∧ M.all okOne = true
    · rw [leftOf_pos h2.1 h2.2, leftOf_pos (by rw [List.length_append]; omega) (by rw [List.all_append, h1.2, h2.2]; rfl), List.length_append]; omega
    · rw [leftOf_neg h2, leftOf_neg]
      rintro ⟨h3, h4⟩
      rw [List.length_append] at h3
      rw [List.all_append, Bool.and_eq_true] at h4
      exact h2 ⟨by omega, h4.2⟩
  · rw [leftOf_neg h1, if_pos (by omega), leftOf_neg]
    rintro ⟨h3, h4⟩
    rw [List.length_append] at h3
    rw [List.all_append, Bool.and_eq_true] at h4
    exact h1 ⟨by omega, h4.1⟩

theorem leftOf_le {left : Int} (h : 0 ≤ left) (L : List (Nat × CN)) : leftOf left L ≤ left := by
  unfold leftOf; split <;> omega

theorem leftOf_nil (left : Int) (h : 0 ≤ left) : leftOf left [] = left := by simp [leftOf, h]

/-- The outermost part is refused. -/
theorem leftOf_bad (c : CN) (deep : Nat) (left : Int) (h : left - 1 < 0 ∨ 6 < deep ∨ shapeB c = false) : leftOf left (parts c deep) = -1 := by
  rw [parts_eq]
  unfold leftOf
  rw [if_neg]
  rintro ⟨h1, h2⟩
  simp only [List.length_cons, List.all_cons, okOne, Bool.and_eq_true, decide_eq_true_eq] at h1 h2
  rcases h with h | h | h
  · omega
  · omega
  · rw [h2.1.2] at h; cases h

theorem leftOf_good (c : CN) (deep : Nat) (left : Int) (h1 : 0 ≤ left - 1) (h2 : deep ≤ 6) (h3 : shapeB c = true) : leftOf left (parts c deep) = leftOf (left - 1) (partsL c.kids (deep + 1)) := by
  rw [parts_eq, show ((deep, c) :: partsL c.kids (deep + 1)) = [(deep, c)] ++ partsL c.kids (deep + 1) from rfl, leftOf_append]
  have e : leftOf left [(deep, c)] = left - 1 := by
    unfold leftOf
    rw [if_pos ⟨by simp; omega, by simp [okOne, h2, h3]⟩]; simp
  rw [e, if_neg (by omega)]

theorem conOk_left (c : CN) : conOk c = decide (0 ≤ leftOf 16 (parts c 1)) := by
  unfold conOk leftOf
  by_cases h1 : (parts c 1).length ≤ 16
  · by_cases h2 : (parts c 1).all okOne = true
    · rw [if_pos ⟨by omega, h2⟩, h2]; simp; omega
    · rw [if_neg (fun h => h2 h.2)]; simp at h2 ⊢; intro _; exact h2
  · rw [if_neg (by omega)]; simp [h1]
end

section
open Go.RowKit

def kidS (k : Int) : Int := if k = 0 ∨ k = 1 ∨ k = 2 then 0 else if k = 4 ∨ k = 5 then 2 else 1

set_option maxHeartbeats 400000 in
theorem l2kids_any (k : Int) (w : World) : Calls Tryz.prog 90 #[.int .i64 k] w fun e w' => e = .returned (.int .i64 (kidS k)) ∧ w' = w := by
  go_enter Tryz.func90, Tryz.ntmps90
  go_wp2
  all_goals
    go_ret
    refine ⟨ri ?_, rfl⟩
    first | (simp_all [kidS]; done) | (unfold kidS; simp_all; omega)

theorem kidS_kidN {k : Int} (h0 : 0 ≤ k) (h7 : k ≤ 7) : kidS k = kidN k := by
  unfold kidS kidN
  by_cases h1 : k = 0 ∨ k = 1 ∨ k = 2
  · rw [if_pos h1, if_pos h1]
  · rw [if_neg h1, if_neg h1]
    by_cases h2 : k = 4 ∨ k = 5
    · rw [if_pos h2, if_neg (by omega), if_pos h2]
    · rw [if_neg h2, if_pos (by omega)]

theorem kidN_out {k : Int} (h : k < 0 ∨ 7 < k) : kidN k = -1 := by
  unfold kidN
  rw [if_neg (by omega), if_neg (by omega), if_neg (by omega)]

/-- A box of four cells. -/
def BoxC (W : World) (b : Nat) (v0 v1 v2 v3 : Value) : Prop := W.heap[b]? = some (.cells #[v0, v1, v2, v3] 47 (0, 0))

theorem BoxC.new (W : World) (v0 v1 v2 v3 : Value) : BoxC (W.alloc (.cells #[v0, v1, v2, v3] 47)) W.heap.size v0 v1 v2 v3 := World.alloc_heap_new W _
theorem BoxC.below {W W' : World} {b B : Nat} {v0 v1 v2 v3 : Value} (h : BoxC W b v0 v1 v2 v3) (hb : Below B W W') (hB : b < B) : BoxC W' b v0 v1 v2 v3 := (hb.block b hB).trans h
theorem BoxC.lt {W : World} {b : Nat} {v0 v1 v2 v3 : Value} (h : BoxC W b v0 v1 v2 v3) : b < W.heap.size := (Array.getElem?_eq_some_iff.1 h).1
theorem BoxC.cells {W : World} {b : Nat} {v0 v1 v2 v3 : Value} (h : BoxC W b v0 v1 v2 v3) : W.cell? ⟨b, 0, none⟩ = some v0 ∧ W.cell? ⟨b, 1, none⟩ = some v1 ∧ W.cell? ⟨b, 2, none⟩ = some v2 ∧ W.cell? ⟨b, 3, none⟩ = some v3 := by
  unfold BoxC at h
  refine ⟨?_, ?_, ?_, ?_⟩ <;> simp [World.cell?, h]

def OkC (d : Nat) : Prop := ∀ (v : Value) (c : CN) (deep : Nat) (left : Int) (w : World) (lo hi : Nat), RdC lo hi w d v c → hi ≤ w.heap.size → deep ≤ 7 → 0 ≤ left → left ≤ 16 →
  Calls Tryz.prog 65 #[v, .int .i64 deep, .int .i64 left] w fun e w' => e = .returned (.int .i64 (leftOf left (parts c deep))) ∧ Below w.heap.size w w'

set_option maxRecDepth 100000 in
set_option maxHeartbeats 1000000 in
theorem l2ok_bad {v : Value} {c : CN} {d deep : Nat} {left : Int} {w : World} {lo hi : Nat} (h : RdC lo hi w (d + 1) v c) (hdp : deep ≤ 7) (h0 : 0 ≤ left) (h16 : left ≤ 16)
    (hbad : left = 0 ∨ deep = 7 ∨ c.kind < 0 ∨ 7 < c.kind ∨ ((c.kids.length : Nat) : Int) ≠ kidS c.kind) :
    Calls Tryz.prog 65 #[v, .int .i64 deep, .int .i64 left] w fun e w' => e = .returned (.int .i64 (leftOf left (parts c deep))) ∧ Below w.heap.size w w' := by
  obtain ⟨na, nn, nc, ra, rn, rc, ka, kn, kc, rfl, hn, hr, hk⟩ := h
  have hkl := hk.len
  have hE : leftOf left (parts c deep) = -1 := by
    refine leftOf_bad c deep left ?_
    rcases hbad with h | h | h | h | h
    · exact .inl (by omega)
    · exact .inr (.inl (by omega))
    · exact .inr (.inr (by simp [shapeB, kidN_out (.inl h)]; done))
    · exact .inr (.inr (by simp [shapeB, kidN_out (.inr h)]; done))
    · by_cases ho : c.kind < 0 ∨ 7 < c.kind
      · exact .inr (.inr (by simp [shapeB, kidN_out ho]; done))
      · rw [kidS_kidN (by omega) (by omega)] at h
        exact .inr (.inr (by simp [shapeB, h]))
  have HE : Hid (leftOf left (parts c deep) = -1) := hE
  have HB : Hid (∀ n, Below w.heap.size w ((w.alloc (.cells #[.int .i64 c.kind, .slice na nn nc, .slice ra rn rc, .slice ka kn kc] 47)).drewN n)) := fun n => below_drewN ((Below.refl _ _).alloc (Nat.le_refl _) _) n
  obtain ⟨k, hkd⟩ : ∃ k, k = c.kind := ⟨_, rfl⟩
  rw [← hkd] at hbad HB ⊢
  rw [hkl] at hbad
  have hdi : (deep : Int) ≤ 7 := by omega
  clear hn hr hk hE hkd hkl
  go_enter Tryz.func65, Tryz.ntmps65
  go_wp2_with fail
  by_cases b1 : left = 0
  · subst b1
    go_quiet (fail)
    go_wp2_with fail
    go_ret
    exact ⟨ri HE.out.symm, HB.out _⟩
  · have d1 : decide (left - 1 < 0) = false := by simp; omega
    by_cases b2 : deep = 7
    · subst b2
      go_quiet (fail)
      go_wp2_with fail
      go_ret
      exact ⟨ri HE.out.symm, HB.out _⟩
    · have d2 : decide ((6 : Int) < (deep : Int)) = false := by simp; omega
      by_cases b3 : k < 0
      · go_quiet (fail)
        go_wp2_with fail
        go_ret
        exact ⟨ri HE.out.symm, HB.out _⟩
      · have d3 : decide (k < 0) = false := by simp; omega
        by_cases b4 : 7 < k
        · go_quiet (fail)
          go_wp2_with fail
          go_ret
          exact ⟨ri HE.out.symm, HB.out _⟩
        · have d4 : decide (7 < k) = false := by simp; omega
          have b5 : ((kn : Int) != kidS k) = true := by simp; omega
          clear hbad
          go_quiet (first | (go_at_call 90; exact Calls.quiet_of_same (l2kids_any _ _)))
          go_wp2_with fail
          go_ret
          exact ⟨ri HE.out.symm, HB.out _⟩
end

section
open Go.RowKit

/-- Only numbers were turned, and only in the blocks from lo on, below hi. -/
structure MarkRel (lo hi : Nat) (w w' : World) : Prop where
  os : w'.os = w.os
  tape : w'.tape = w.tape
  output : w'.output = w.output
  size : w.heap.size ≤ w'.heap.size
  out : ∀ b, b < w.heap.size → (b < lo ∨ hi ≤ b) → w'.heap[b]? = w.heap[b]?
  cell : ∀ (p : Addr) (v : Value), w.cell? p = some v → w'.cell? p = some v ∨ ∃ kd m m', v = .int kd m ∧ w'.cell? p = some (.int kd m')
  frz : ∀ p : Addr, p.block < w.heap.size → w'.frozen? p = w.frozen? p

theorem MarkRel.refl (lo hi : Nat) (w : World) : MarkRel lo hi w w := ⟨rfl, rfl, rfl, Nat.le_refl _, fun _ _ _ => rfl, fun _ _ h => .inl h, fun _ _ => rfl⟩

theorem MarkRel.trans {lo hi : Nat} {a b c : World} (h : MarkRel lo hi a b) (k : MarkRel lo hi b c) : MarkRel lo hi a c := by
  refine ⟨k.os.trans h.os, k.tape.trans h.tape, k.output.trans h.output, Nat.le_trans h.size k.size, fun x h1 h2 => (k.out x (Nat.lt_of_lt_of_le h1 h.size) h2).trans (h.out x h1 h2), fun p v hp => ?_, fun p hp => (k.frz p (Nat.lt_of_lt_of_le hp h.size)).trans (h.frz p hp)⟩
  rcases h.cell p v hp with h1 | ⟨kd, m, m', e, h1⟩
  · exact k.cell p v h1
  · rcases k.cell p _ h1 with h2 | ⟨kd2, m2, m2', e2, h2⟩
    · exact .inr ⟨kd, m, m', e, h2⟩
    · simp only [Value.int.injEq] at e2
      obtain ⟨rfl, _⟩ := e2
      exact .inr ⟨kd, m, m2', e, h2⟩

theorem MarkRel.of_below {lo hi : Nat} {w w' : World} (h : Below w.heap.size w w') : MarkRel lo hi w w' :=
  ⟨h.os, h.tape, h.output, h.size, fun b h1 _ => h.block b h1, fun p _ hp => .inl ((h.cell (p := p) (block_lt_of_cell hp)).trans hp), fun p hp => World.frozen?_of_block (w := w) (h.block p.block hp)⟩

theorem MarkRel.set {lo hi : Nat} {w : World} {a : Addr} {kd : IntKind} {m : Int} (h : w.cell? a = some (.int kd m)) (h1 : lo ≤ a.block) (h2 : a.block < hi) (m' : Int) : MarkRel lo hi w (w.setCell a (.int kd m')) := by
  have hb := (Below.refl a.block w).setCell (p := a) (Nat.le_refl _) (.int kd m')
  refine ⟨hb.os, hb.tape, hb.output, hb.size, fun b _ hb' => Below.heap_setCell w a _ b (by omega), fun p v hp => ?_, fun p _ => by simp⟩
  by_cases e : a = p
  · subst e
    rw [h] at hp
    cases hp
    exact .inr ⟨kd, m, m', rfl, World.cell?_setCell_same _ _ _ h⟩
  · exact .inl (by rw [World.cell?_setCell_other _ _ _ _ e]; exact hp)

theorem MarkRel.keep {lo hi : Nat} {w w' : World} (h : MarkRel lo hi w w') {p : Addr} {v : Value} (hp : w.cell? p = some v) (hv : ∀ kd m, v ≠ .int kd m) : w'.cell? p = some v := by
  rcases h.cell p v hp with h1 | ⟨kd, m, _, e, _⟩
  · exact h1
  · exact absurd e (hv kd m)

theorem MarkRel.int {lo hi : Nat} {w w' : World} (h : MarkRel lo hi w w') {p : Addr} {kd : IntKind} {m : Int} (hp : w.cell? p = some (.int kd m)) : ∃ m', w'.cell? p = some (.int kd m') := by
  rcases h.cell p _ hp with h1 | ⟨kd', m1, m', e, h1⟩
  · exact ⟨m, h1⟩
  · simp only [Value.int.injEq] at e
    obtain ⟨rfl, _⟩ := e
    exact ⟨m', h1⟩

theorem Free.mark {lo hi lo' hi' : Nat} {w w' : World} (h : Free lo hi w) (hm : MarkRel lo' hi' w w') (hh : hi ≤ w.heap.size) : Free lo hi w' := fun b h1 h2 o => (hm.frz ⟨b, o, none⟩ (Nat.lt_of_lt_of_le h2 hh)).trans (h b h1 h2 o)

theorem markRel_marks {lo hi : Nat} {L : List (Addr × IntKind)} : ∀ {w : World}, LeafOk w L → (∀ x ∈ L, lo ≤ x.1.block ∧ x.1.block < hi) → ∀ k, MarkRel lo hi w (marks w L k) := by
  induction L with
  | nil => intro w _ _ k; exact MarkRel.refl _ _ _
  | cons x L ih =>
    intro w hL hB k
    obtain ⟨a, kd⟩ := x
    obtain ⟨⟨m, hm⟩, _⟩ := hL (a, kd) (by simp)
    have h1' := hL.set hm (kd.wrap k)
    have hb := hB (a, kd) (by simp)
    exact (MarkRel.set hm hb.1 hb.2 _).trans (ih (fun x hx => h1' x (by simp [hx])) (fun x hx => hB x (by simp [hx])) (k + 1))

/-- A slice of bytes, whatever they are. -/
structure ShB (lo hi : Nat) (w : World) (a : Option Addr) (n cap : Nat) : Prop where
  fits : n ≤ cap ∧ cap ≤ 9223372036854775807
  cells : n = 0 ∨ ∃ b off, a = some ⟨b, off, none⟩ ∧ lo ≤ b ∧ b < hi ∧ ∀ i, i < n → ∃ z, w.cell? ⟨b, off + i, none⟩ = some (.int .u8 z)

theorem Rd.sh {lo hi : Nat} {w : World} {a : Option Addr} {n cap : Nat} {zs : List Int} (h : Rd lo hi w a n cap zs) : ShB lo hi w a n cap := by
  obtain ⟨_, hm, _, hc⟩ := h
  refine ⟨hm, ?_⟩
  rcases hc with h0 | ⟨b, off, e, h1, h2, hc⟩
  · exact .inl h0
  · exact .inr ⟨b, off, e, h1, h2, fun i hi => ⟨_, hc i hi⟩⟩

theorem ShB.mark {lo hi lo' hi' : Nat} {w w' : World} {a : Option Addr} {n cap : Nat} (h : ShB lo hi w a n cap) (hm : MarkRel lo' hi' w w') : ShB lo hi w' a n cap := by
  obtain ⟨hf, hc⟩ := h
  refine ⟨hf, ?_⟩
  rcases hc with h0 | ⟨b, off, e, h1, h2, hc⟩
  · exact .inl h0
  · exact .inr ⟨b, off, e, h1, h2, fun i hi => by obtain ⟨z, hz⟩ := hc i hi; exact hm.int hz⟩

/-- A concept, whatever its numbers are: c says how long its lists are. -/
def ShC (lo hi : Nat) (w : World) : Nat → Value → CN → Prop
  | 0, _, _ => False
  | d + 1, v, c => ∃ k na nn nc ra rn rc ka kn kc, v = .agg #[.int .i64 k, .slice na nn nc, .slice ra rn rc, .slice ka kn kc] ∧
      c.name.length = nn ∧ ShB lo hi w na nn nc ∧ c.role.length = rn ∧ ShB lo hi w ra rn rc ∧ RdL (ShC lo hi w d) lo hi w ka kn kc c.kids

theorem RdC.sh {lo hi : Nat} {w : World} : ∀ {d : Nat} {v : Value} {c : CN}, RdC lo hi w d v c → ShC lo hi w d v c := by
  intro d
  induction d with
  | zero => intro v c h; exact h
  | succ d ih =>
    intro v c h
    obtain ⟨na, nn, nc, ra, rn, rc, ka, kn, kc, hv, h1, h2, h3⟩ := h
    exact ⟨_, na, nn, nc, ra, rn, rc, ka, kn, kc, hv, h1.len, h1.sh, h2.len, h2.sh, h3.imp (fun v c h => ih h) (Same.refl _ _ _) (Nat.le_refl _) (Nat.le_refl _)⟩

theorem ShC.markL {lo hi lo' hi' : Nat} {w w' : World} {d : Nat} (ih : ∀ {v0 v1 v2 v3 : Value} {c : CN} (m : Int), ShC lo hi w d (.agg #[v0, v1, v2, v3]) c → ShC lo hi w' d (.agg #[.int .i64 m, v1, v2, v3]) c) (hm : MarkRel lo' hi' w w')
    (hform : ∀ {v0 v1 v2 v3 : Value} {c : CN}, ShC lo hi w d (.agg #[v0, v1, v2, v3]) c → ∃ k na nn nc ra rn rc ka kn kc, v0 = .int .i64 k ∧ v1 = .slice na nn nc ∧ v2 = .slice ra rn rc ∧ v3 = .slice ka kn kc)
    {a : Option Addr} {n cap : Nat} {cs : List CN} (h : RdL (ShC lo hi w d) lo hi w a n cap cs) : RdL (ShC lo hi w' d) lo hi w' a n cap cs := by
  obtain ⟨hl, hf, hc⟩ := h
  refine ⟨hl, hf, ?_⟩
  rcases hc with h0 | ⟨b, off, e, h1, h2, hc⟩
  · exact .inl h0
  · refine .inr ⟨b, off, e, h1, h2, fun i hi => ?_⟩
    obtain ⟨v0, v1, v2, v3, c0, c1, c2, c3, hr⟩ := hc i hi
    obtain ⟨k, na, nn, nc, ra, rn, rc, ka, kn, kc, rfl, rfl, rfl, rfl⟩ := hform hr
    obtain ⟨m, hm0⟩ := hm.int c0
    exact ⟨_, _, _, _, hm0, hm.keep c1 (by intros; simp), hm.keep c2 (by intros; simp), hm.keep c3 (by intros; simp), ih m hr⟩

theorem ShC.form {lo hi : Nat} {w : World} {d : Nat} {v0 v1 v2 v3 : Value} {c : CN} (h : ShC lo hi w d (.agg #[v0, v1, v2, v3]) c) : ∃ k na nn nc ra rn rc ka kn kc, v0 = .int .i64 k ∧ v1 = .slice na nn nc ∧ v2 = .slice ra rn rc ∧ v3 = .slice ka kn kc := by
  cases d with
  | zero => exact h.elim
  | succ d =>
    obtain ⟨k, na, nn, nc, ra, rn, rc, ka, kn, kc, hv, _⟩ := h
    simp only [Value.agg.injEq, Array.mk.injEq, List.cons.injEq, and_true] at hv
    exact ⟨k, na, nn, nc, ra, rn, rc, ka, kn, kc, hv.1, hv.2.1, hv.2.2.1, hv.2.2.2⟩

theorem ShC.mark {lo hi lo' hi' : Nat} {w w' : World} (hm : MarkRel lo' hi' w w') : ∀ {d : Nat} {v0 v1 v2 v3 : Value} {c : CN} (m : Int), ShC lo hi w d (.agg #[v0, v1, v2, v3]) c → ShC lo hi w' d (.agg #[.int .i64 m, v1, v2, v3]) c := by
  intro d
  induction d with
  | zero => intro v0 v1 v2 v3 c m h; exact h
  | succ d ih =>
    intro v0 v1 v2 v3 c m h
    obtain ⟨k, na, nn, nc, ra, rn, rc, ka, kn, kc, hv, h1, h2, h3, h4, h5⟩ := h
    simp only [Value.agg.injEq, Array.mk.injEq, List.cons.injEq, and_true] at hv
    obtain ⟨_, rfl, rfl, rfl⟩ := hv
    exact ⟨m, na, nn, nc, ra, rn, rc, ka, kn, kc, rfl, h1, h2.mark hm, h3, h4.mark hm, ShC.markL ih hm ShC.form h5⟩

theorem RdL.mark {lo hi lo' hi' : Nat} {w w' : World} (hm : MarkRel lo' hi' w w') {d : Nat} {a : Option Addr} {n cap : Nat} {cs : List CN} (h : RdL (ShC lo hi w d) lo hi w a n cap cs) : RdL (ShC lo hi w' d) lo hi w' a n cap cs :=
  ShC.markL (ShC.mark hm) hm ShC.form h

theorem markB_any (a : Option Addr) (n cap : Nat) (k : Int) (w : World) {lo hi : Nat} (h : ShB lo hi w a n cap) (hF : Free lo hi w) (hn : n ≤ 1048576) (hk : 0 ≤ k ∧ k ≤ 1073741824) :
    Calls Tryz.prog 11 #[.slice a n cap, .int .i64 k] w fun e w' => e = .returned (.int .i64 (k + n)) ∧ MarkRel lo hi w w' := by
  rcases h.cells with h0 | ⟨b, off, rfl, h1, h2, hc⟩
  · subst h0
    refine (markByteS_any a 0 cap k w 0 0 (.inl rfl) (by intro x hx; simp [leafB] at hx) (by omega) hk).mono ?_
    rintro e w' ⟨rfl, hw⟩
    exact ⟨rfl, by rw [hw]; exact MarkRel.refl _ _ _⟩
  · have hL : LeafOk w (leafB b off n) := by
      intro x hx
      simp only [leafB, List.mem_map, List.mem_range] at hx
      obtain ⟨j, hj, rfl⟩ := hx
      exact ⟨hc j hj, hF b h1 h2 _⟩
    refine (markByteS_any _ n cap k w b off (.inr rfl) hL hn hk).mono ?_
    rintro e w' ⟨rfl, hw⟩
    refine ⟨rfl, ?_⟩
    rw [hw]
    refine markRel_marks hL (fun x hx => ?_) k
    simp only [leafB, List.mem_map, List.mem_range] at hx
    obtain ⟨j, hj, rfl⟩ := hx
    exact ⟨h1, h2⟩

def MkL (d : Nat) : Prop := ∀ (a : Option Addr) (n cap : Nat) (cs : List CN) (k : Int) (w : World) (lo hi : Nat), RdL (ShC lo hi w d) lo hi w a n cap cs → hi ≤ w.heap.size → Free lo hi w → bulks cs ≤ 1048576 → 0 ≤ k → k + bulks cs ≤ 1073741824 →
  Calls Tryz.prog 30 #[.slice a n cap, .int .i64 k] w fun e w' => e = .returned (.int .i64 (k + bulks cs)) ∧ MarkRel lo hi w w'

set_option maxRecDepth 100000 in
set_option maxHeartbeats 1000000 in
theorem mkL_of {d : Nat} (H : ∀ d', d = d' + 1 → MkL d') : MkL d := by
  intro a n cap cs k w lo hi h hhi hF hbk hk0 hk1
  have HR : Hid (RdL (ShC lo hi w d) lo hi w a n cap cs) := h
  have HL : Hid (cs.length = n) := h.len
  have hfit := h.fits
  have HF : Hid (Free lo hi w) := hF
  clear h hF
  go_enter Tryz.func30, Tryz.ntmps30
  go_wp2_with fail
  go_loopw [1, 5] (fun q i wr => ∃ (j : Nat) (t : Nat), j ≤ n ∧ i = .int .i64 j ∧ t = bulks (cs.take j) ∧ q = .int .i64 (k + t) ∧ MarkRel lo hi w wr) (fun _ i _ => n - (intOf i).toNat)
  case atStart => exact ⟨0, 0, Nat.zero_le _, rfl, by simp [bulks], by simp, MarkRel.refl _ _ _⟩
  case round =>
    obtain ⟨j, t, hj, rfl, ht, rfl, hmr⟩ := hrel
    have HMR : Hid (MarkRel lo hi w wr) := hmr
    have HT : Hid (t = bulks (cs.take j)) := ht
    have htl : t ≤ 1048576 := by have := bulks_take_le cs j; omega
    by_cases hlt : j < n
    · have hjl : j < cs.length := by rw [HL.out]; exact hlt
      have hji : (j : Int) < (n : Int) := by omega
      have hR := RdL.mark hmr HR.out
      have hFr := HF.out.mark hmr hhi
      rcases hR.cells with h0 | ⟨b, off, e1, hb1, hb2, hc⟩
      · omega
      · subst e1
        obtain ⟨v0, v1, v2, v3, c0, c1, c2, c3, hs⟩ := hc j hlt
        cases d with
        | zero => exact hs.elim
        | succ d' =>
          have HH : Hid (MkL d') := H d' rfl
          obtain ⟨k0, na, nn, nc, ra, rn, rc, ka, kn, kc, hv, hnl, hnb, hrl, hrb, hkd⟩ := hs
          simp only [Value.agg.injEq, Array.mk.injEq, List.cons.injEq, and_true] at hv
          obtain ⟨rfl, rfl, rfl, rfl⟩ := hv
          have hts := bulks_take_succ cs j hjl
          have htl2 := bulks_take_le cs (j + 1)
          have hbe := (cs.getD j CN.zero).bulk_eq
          rw [hnl, hrl] at hbe
          obtain ⟨u, hu⟩ : ∃ u, u = bulks (cs.getD j CN.zero).kids := ⟨_, rfl⟩
          rw [← hu] at hbe
          have HU : Hid (u = bulks (cs.getD j CN.zero).kids) := hu
          have HTS : Hid (bulks (cs.take (j + 1)) = t + 1 + nn + rn + u) := by unfold Hid; rw [hts, ← ht]; omega
          have hbnd : t + 1 + nn + rn + u ≤ bulks cs := by rw [hts, ← ht] at htl2; omega
          have f0 := hFr b hb1 hb2 (off + j * 4)
          have hm1 : MarkRel lo hi wr (wr.setCell ⟨b, off + j * 4, none⟩ (.int .i64 (k + t))) := MarkRel.set c0 hb1 hb2 _
          obtain ⟨W1, hW1⟩ : ∃ W1, W1 = wr.setCell ⟨b, off + j * 4, none⟩ (.int .i64 (k + t)) := ⟨_, rfl⟩
          rw [← hW1] at hm1
          have HW1 : Hid (W1 = wr.setCell ⟨b, off + j * 4, none⟩ (.int .i64 (k + t))) := hW1
          have HM1 : Hid (MarkRel lo hi wr W1) := hm1
          have d1 := hm1.keep c1 (by intros; simp)
          have d2 := hm1.keep c2 (by intros; simp)
          have d3 := hm1.keep c3 (by intros; simp)
          have hsr := hmr.size
          have HFr : Hid (Free lo hi wr) := hFr
          have HNB : Hid (ShB lo hi wr na nn nc) := hnb
          have HRB : Hid (ShB lo hi wr ra rn rc) := hrb
          have HKD : Hid (RdL (ShC lo hi wr d') lo hi wr ka kn kc (cs.getD j CN.zero).kids) := hkd
          clear hR hc hFr hnb hrb hkd hW1 hm1 hts htl2 hbe hu hnl hrl H hmr ht
          go_wp2_with fail
          rw [← HW1.out]
          have sw1 := HM1.out.size
          refine (markB_any na nn nc (k + t + 1) W1 (HNB.out.mark HM1.out) (HFr.out.mark HM1.out (by omega)) (by omega) (by omega)).mono ?_
          rintro e W2 ⟨rfl, hm2⟩
          have HM2 : Hid (MarkRel lo hi wr W2) := HM1.out.trans hm2
          have e2 := hm2.keep d2 (by intros; simp)
          have e3 := hm2.keep d3 (by intros; simp)
          have sw2 := hm2.size
          clear hm2 d1 d2 d3
          go_wp2_with fail
          refine (markB_any ra rn rc (k + t + 1 + nn) W2 (HRB.out.mark HM2.out) (HFr.out.mark HM2.out (by omega)) (by omega) (by omega)).mono ?_
          rintro e W3 ⟨rfl, hm3⟩
          have HM3 : Hid (MarkRel lo hi wr W3) := HM2.out.trans hm3
          have g3 := hm3.keep e3 (by intros; simp)
          have sw3 := hm3.size
          clear hm3 e2 e3
          go_wp2_with fail
          refine (HH.out ka kn kc (cs.getD j CN.zero).kids (k + t + 1 + nn + rn) W3 lo hi (RdL.mark HM3.out HKD.out) (by omega) (HFr.out.mark HM3.out (by omega)) (by rw [← HU.out]; omega) (by omega) (by rw [← HU.out]; omega)).mono ?_
          rintro e W4 ⟨rfl, hm4⟩
          rw [← HU.out]
          have HM4 : Hid (MarkRel lo hi w W4) := HMR.out.trans (HM3.out.trans hm4)
          clear hm4 g3
          go_wp2_with fail
          go_roundw
          case rel => exact ⟨j + 1, t + 1 + nn + rn + u, by omega, by go_num, HTS.out.symm, by congr 1; push_cast; omega, HM4.out⟩
          case measure => simp [intOf]; omega
    · have hjn : j = n := by omega
      have HE : Hid (t = bulks cs) := by unfold Hid; rw [HT.out, List.take_of_length_le (by rw [HL.out]; omega)]
      clear hmr ht
      go_wp2_with fail
      go_ret
      exact ⟨ri (by rw [HE.out]), HMR.out⟩

theorem mkL_any : ∀ d, MkL d
  | 0 => mkL_of (fun d' h => by omega)
  | d + 1 => mkL_of (fun d' h => by obtain rfl : d = d' := (by omega); exact mkL_any d)

theorem BoxC.mark {lo hi : Nat} {W W' : World} {b : Nat} {v0 v1 v2 v3 : Value} (h : BoxC W b v0 v1 v2 v3) (hm : MarkRel lo hi W W') (hb : hi ≤ b) : BoxC W' b v0 v1 v2 v3 := (hm.out b h.lt (.inr hb)).trans h
end

section
open Go.RowKit

structure Keep6 (base : Nat) (w : World) (v : Value) (w' : World) (v' : Value) : Prop where
  k5 : Keep5 base w w'
  gr : ∀ b, b < w.heap.size → v.ownBlock ≠ some b → w'.heap[b]? = w.heap[b]?
  at' : v'.ownBlock = v.ownBlock ∨ ∃ g, v'.ownBlock = some g ∧ w.heap.size ≤ g

theorem Keep6.trans {base : Nat} {a b c : World} {u v z : Value} (h : Keep6 base a u b v) (k : Keep6 base b v c z) : Keep6 base a u c z := by
  have hs := h.k5.1.size
  refine ⟨h.k5.trans k.k5, fun x hx hne => (k.gr x (by omega) (fun e => ?_)).trans (h.gr x hx hne), ?_⟩
  · rcases h.at' with q | ⟨g, q, hg⟩
    · rw [q] at e; exact hne e
    · rw [q] at e; cases e; omega
  · rcases k.at' with q | ⟨g, q, hg⟩
    · rcases h.at' with r | ⟨g, r, hg⟩
      · exact .inl (q.trans r)
      · exact .inr ⟨g, q.trans r, hg⟩
    · exact .inr ⟨g, q, by omega⟩
theorem Keep6.of_below {base : Nat} {w w' : World} {v : Value} (h : Below w.heap.size w w') (hb : base ≤ w.heap.size) : Keep6 base w v w' v := ⟨Keep5.of_below h hb, fun b hb' _ => h.block b hb', .inl rfl⟩
theorem Keep6.refl (base : Nat) (w : World) (v : Value) : Keep6 base w v w v := ⟨Keep5.refl _ _, fun _ _ _ => rfl, .inl rfl⟩
theorem Keep6.drew {base : Nat} {w w' : World} {v v' : Value} (h : Keep6 base w v w' v') : Keep6 base w v w'.drew v' := ⟨h.k5.drew, h.gr, h.at'⟩

theorem ownB_app6 {base : Nat} {W w2 : World} {v v' : Value} {xs ys : List Int} (hO : OwnB base W v xs) (hb : base ≤ W.heap.size)
    (hown : ownsZ w2 base 5 1 v' (xs.length + ys.length) (xs.map (Value.int .u8) ++ ys.map (Value.int .u8))) (hgrow : W.grownBy w2 v.ownBlock) (hat : v'.ownBlock = v.ownBlock ∨ v'.ownBlock = some W.heap.size) :
    OwnB base w2 v' (xs ++ ys) ∧ Keep6 base W v w2 v' := by
  refine ⟨(ownB_app hO hb hown hgrow).1, (ownB_app hO hb hown hgrow).2, fun b hb' hne => hgrow.block b hb' (fun e => hne e.symm), ?_⟩
  rcases hat with e | e
  · exact .inl e
  · exact .inr ⟨_, e, Nat.le_refl _⟩

theorem step_append_strAt {P : Program} {ops : Array Oper} {o : Oper} {a : Act} {w : World} {K : Act → World → Prop} {Q : Exit → Act → World → Prop} {E : Prop}
    (hgd : o.guard = none) (sl x : Operand) (t u : TypeId) (ho : o.op = .call { callee := .builtin .append, args := #[sl, x], argTypes := #[t, u] })
    (base : Nat) (e : TypeId) (i : TypeInfo) (ht : P.underlying t = some (.slice e)) (hu : P.underlying u = some .string) (hi : P.info? e = some i) (hz : i.zero = some (.int .u8 0))
    (hsize : i.size = 1) (hby : i.bytes = 1) (v : Value) (n : Nat) (xs : List Value) (hs : a.eval sl = v) (hown : ownsZ w base e 1 v n xs) (s : ByteArray) (hx : a.eval x = .string s)
    (h63 : n + s.size ≤ maxLen) (hbytes : n + s.size ≤ 140737488355328) (hbase : base ≤ w.heap.size)
    (h : ∀ v' w', ownsZ w' base e 1 v' (n + s.size) (xs ++ Lib.strCells s) → w.grownBy w' v.ownBlock → (v'.ownBlock = v.ownBlock ∨ v'.ownBlock = some w.heap.size) → K (a.put o.dst v') w') :
    if Region.wanted o (yielded ops a.tmps) = true then Oper.wp P o a w K Q else E :=
  stepZ_str w hgd sl x t u ho base e i ht hu hi hz hsize hby v n xs hs hown s hx h63 hbytes hbase h

theorem list_append_strAt {P : Program} {ops : Array Oper} {rest : List Oper} {o : Oper} {a : Act} {w : World} {Q : Exit → Act → World → Prop}
    (hgd : o.guard = none) (sl x : Operand) (t u : TypeId) (ho : o.op = .call { callee := .builtin .append, args := #[sl, x], argTypes := #[t, u] })
    (base : Nat) (e : TypeId) (i : TypeInfo) (ht : P.underlying t = some (.slice e)) (hu : P.underlying u = some .string) (hi : P.info? e = some i) (hz : i.zero = some (.int .u8 0))
    (hsize : i.size = 1) (hby : i.bytes = 1) (v : Value) (n : Nat) (xs : List Value) (hs : a.eval sl = v) (hown : ownsZ w base e 1 v n xs) (s : ByteArray) (hx : a.eval x = .string s)
    (h63 : n + s.size ≤ maxLen) (hbytes : n + s.size ≤ 140737488355328) (hbase : base ≤ w.heap.size)
    (h : ∀ v' w', ownsZ w' base e 1 v' (n + s.size) (xs ++ Lib.strCells s) → w.grownBy w' v.ownBlock → (v'.ownBlock = v.ownBlock ∨ v'.ownBlock = some w.heap.size) → wpList P ops Q rest (a.put o.dst v') w') : wpList P ops Q (o :: rest) a w :=
  wpList_plain hgd fun _ hK => wpZ_str w sl x t u ho base e i ht hu hi hz hsize hby v n xs hs hown s hx h63 hbytes hbase (fun v' w' h2 h3 _ h5 => hK _ _ (h v' w' h2 h3 h5))
end

section
open Go.RowKit

/-- The word of a kind, by its bytes. -/
def wordOf (k : Int) : List Int := if k = 0 then [84, 111, 112] else if k = 1 then [66, 111, 116] else if k = 3 then [78, 111, 116] else if k = 4 then [65, 110, 100] else if k = 5 then [79, 114] else if k = 6 then [83, 111, 109, 101] else if k = 7 then [65, 108, 108] else []

theorem wordOf_len (k : Int) : (wordOf k).length ≤ 4 := by
  unfold wordOf
  repeat' split
  all_goals simp

theorem wordOf_byte (k : Int) : ∀ x ∈ wordOf k, 0 ≤ x ∧ x ≤ 255 := by
  unfold wordOf
  repeat' split
  all_goals (intro x hx; simp at hx; try omega)

def roleT (r : List Int) : List Int := if r = [] then [] else r ++ [32]

mutual
def textC : CN → List Int
  | .mk k n r ks => if k = 2 then n else if ks.length = 0 then wordOf k else wordOf k ++ [40] ++ roleT r ++ textJ 0 ks ++ [41]
/-- The kids' texts; a blank ahead of all but the first. -/
def textJ : Nat → List CN → List Int
  | _, [] => []
  | i, c :: cs => gapT i ++ textC c ++ textJ (i + 1) cs
end

theorem textC_eq (c : CN) : textC c = if c.kind = 2 then c.name else if c.kids.length = 0 then wordOf c.kind else wordOf c.kind ++ [40] ++ roleT c.role ++ textJ 0 c.kids ++ [41] := by
  cases c; rw [textC]; rfl

theorem textJ_append (xs ys : List CN) : ∀ i, textJ i (xs ++ ys) = textJ i xs ++ textJ (i + xs.length) ys := by
  induction xs with
  | nil => intro i; simp [textJ]
  | cons x xs ih => intro i; simp only [List.cons_append, textJ, ih, List.append_assoc, List.length_cons]; rw [show i + 1 + xs.length = i + (xs.length + 1) by omega]

theorem textJ_take_succ (cs : List CN) (j : Nat) (h : j < cs.length) : textJ 0 (cs.take (j + 1)) = textJ 0 (cs.take j) ++ gapT j ++ textC (cs.getD j CN.zero) := by
  rw [take_succ_getD cs CN.zero j h, textJ_append]
  simp only [textJ, List.append_nil, List.length_take, Nat.zero_add]
  rw [show min j cs.length = j by omega, List.append_assoc]

theorem textJ_take_le (cs : List CN) (j : Nat) : (textJ 0 (cs.take j)).length ≤ (textJ 0 cs).length := by
  have := textJ_append (cs.take j) (cs.drop j) 0
  rw [List.take_append_drop] at this
  rw [this, List.length_append]; omega

theorem gapT_len (i : Nat) : (gapT i).length ≤ 1 := by unfold gapT; split <;> simp

mutual
theorem textC_len : ∀ c : CN, (textC c).length ≤ 30 * c.bulk + 10
  | .mk k n r ks => by
    rw [textC, CN.bulk]
    have h1 := wordOf_len k
    have h2 := textJ_len ks 0
    have h3 : (roleT r).length ≤ r.length + 1 := by unfold roleT; split <;> simp
    split
    · omega
    · split
      · omega
      · simp only [List.length_append, List.length_cons, List.length_nil]; omega
theorem textJ_len : ∀ (cs : List CN) (i : Nat), (textJ i cs).length ≤ 30 * bulks cs
  | [], _ => by simp [textJ]
  | c :: cs, i => by
    rw [textJ, bulks]
    have h1 := textC_len c
    have h2 := textJ_len cs (i + 1)
    have h3 := gapT_len i
    simp only [List.length_append]; omega
end

mutual
/-- Each part is as its kind asks. -/
def wfC : CN → Bool
  | .mk k n r ks => shapeB (.mk k n r ks) && wfL ks
def wfL : List CN → Bool
  | [] => true
  | c :: cs => wfC c && wfL cs
end

theorem wfC_eq (c : CN) : wfC c = (shapeB c && wfL c.kids) := by cases c; rw [wfC]; rfl

theorem wfL_getD : ∀ (cs : List CN) (j : Nat), j < cs.length → wfL cs = true → wfC (cs.getD j CN.zero) = true
  | [], _, h, _ => by simp at h
  | c :: cs, 0, _, hw => by rw [wfL, Bool.and_eq_true] at hw; exact hw.1
  | c :: cs, j + 1, h, hw => by
    rw [wfL, Bool.and_eq_true] at hw
    have := wfL_getD cs j (by simpa using h) hw.2
    simpa [List.getD] using this

mutual
theorem wfC_of_parts : ∀ (c : CN) (deep : Nat), (parts c deep).all okOne = true → wfC c = true
  | .mk k n r ks, deep, h => by
    rw [parts, List.all_cons, Bool.and_eq_true] at h
    rw [wfC, wfL_of_parts ks (deep + 1) h.2, Bool.and_true]
    have := h.1
    unfold okOne at this
    rw [Bool.and_eq_true] at this
    exact this.2
theorem wfL_of_parts : ∀ (cs : List CN) (deep : Nat), (partsL cs deep).all okOne = true → wfL cs = true
  | [], _, _ => by rw [wfL]
  | c :: cs, deep, h => by
    rw [partsL, List.all_append, Bool.and_eq_true] at h
    rw [wfL, wfC_of_parts c deep h.1, wfL_of_parts cs deep h.2]; rfl
end

theorem wfC_of_ok {c : CN} (h : conOk c = true) : wfC c = true := by
  unfold conOk at h
  rw [Bool.and_eq_true] at h
  exact wfC_of_parts c 1 h.2

theorem kidN_in {k : Int} (h : 0 ≤ kidN k) : 0 ≤ k ∧ k ≤ 7 := by
  by_cases ho : k < 0 ∨ 7 < k
  · rw [kidN_out ho] at h; omega
  · omega

/-- What is known of a part that is as its kind asks. -/
theorem shape_facts {c : CN} (h : shapeB c = true) : (0 ≤ c.kind ∧ c.kind ≤ 7) ∧ (c.kind = 2 → 1 ≤ c.name.length ∧ c.kids.length = 0) ∧ (roleB c.kind = true → 1 ≤ c.role.length) ∧ (roleB c.kind = false → c.role = []) := by
  unfold shapeB at h
  simp only [Bool.and_eq_true, decide_eq_true_eq] at h
  obtain ⟨h1, h2, h3⟩ := h
  refine ⟨kidN_in (by omega), fun hk => ?_, fun hr => ?_, fun hr => ?_⟩
  · unfold nameFit at h1
    rw [if_pos hk, Bool.and_eq_true] at h1
    refine ⟨(longB_of_up h1.1).1, ?_⟩
    rw [hk] at h3
    simp [kidN] at h3
    rw [h3]; rfl
  · unfold roleFit at h2
    rw [if_pos hr] at h2
    exact (longB_of_low h2).1
  · unfold roleFit at h2
    rw [if_neg (by rw [hr]; simp)] at h2
    exact List.eq_nil_of_length_eq_zero (by simpa using h2)

theorem BoxC.keep5 {W W' : World} {base b : Nat} {v0 v1 v2 v3 : Value} (h : BoxC W b v0 v1 v2 v3) (hk : Keep5 base W W') : BoxC W' b v0 v1 v2 v3 := hk.2 b _ _ _ (by decide) h

/-- The word of a kind, as a string. -/
def wordB (k : Int) : ByteArray := if k = 0 then ⟨#[84, 111, 112]⟩ else if k = 1 then ⟨#[66, 111, 116]⟩ else if k = 3 then ⟨#[78, 111, 116]⟩ else if k = 4 then ⟨#[65, 110, 100]⟩ else if k = 5 then ⟨#[79, 114]⟩ else if k = 6 then ⟨#[83, 111, 109, 101]⟩ else if k = 7 then ⟨#[65, 108, 108]⟩ else ⟨#[]⟩

theorem wordB_cells (k : Int) : Lib.strCells (wordB k) = (wordOf k).map (Value.int .u8) := by
  unfold wordB wordOf
  repeat' split
  all_goals rfl

theorem wordB_size (k : Int) : (wordB k).size = (wordOf k).length := by
  rw [← Lib.strCells_length, wordB_cells, List.length_map]

set_option maxHeartbeats 400000 in
theorem l2words_any (w : World) : Calls Tryz.prog 41 #[] w fun e w' => e = .returned (.slice (some ⟨w.heap.size, 0, none⟩) 8 8) ∧ (∀ i : Nat, i < 8 → w'.cell? ⟨w.heap.size, i, none⟩ = some (.string (wordB i))) ∧ Below w.heap.size w w' := by
  go_enter Tryz.func41, Tryz.ntmps41
  go_wp2
  go_ret
  refine ⟨rfl, fun i hi => ?_, (Below.refl _ _).alloc (Nat.le_refl _) _⟩
  match i, hi with
  | 0, _ | 1, _ | 2, _ | 3, _ | 4, _ | 5, _ | 6, _ | 7, _ => simp; rfl

/-- An append of a string to bytes of the call's own, as a step of a region that draws its order. -/
theorem step_append_str {P : Program} {ops : Array Oper} {o : Oper} {a : Act} {w : World} {K : Act → World → Prop} {Q : Exit → Act → World → Prop} {E : Prop}
    (hgd : o.guard = none) (sl x : Operand) (t u : TypeId) (ho : o.op = .call { callee := .builtin .append, args := #[sl, x], argTypes := #[t, u] })
    (base : Nat) (e : TypeId) (i : TypeInfo) (ht : P.underlying t = some (.slice e)) (hu : P.underlying u = some .string) (hi : P.info? e = some i) (hz : i.zero = some (.int .u8 0))
    (hsize : i.size = 1) (hby : i.bytes = 1) (v : Value) (n : Nat) (xs : List Value) (hs : a.eval sl = v) (hown : ownsZ w base e 1 v n xs) (s : ByteArray) (hx : a.eval x = .string s)
    (h63 : n + s.size ≤ maxLen) (hbytes : n + s.size ≤ 140737488355328) (hbase : base ≤ w.heap.size)
    (h : ∀ v' w', ownsZ w' base e 1 v' (n + s.size) (xs ++ Lib.strCells s) → w.grownBy w' v.ownBlock → K (a.put o.dst v') w') :
    if Region.wanted o (yielded ops a.tmps) = true then Oper.wp P o a w K Q else E := by
  exact stepZ_str w hgd sl x t u ho base e i ht hu hi hz hsize hby v n xs hs hown s hx h63 hbytes hbase (fun v' w' h2 h3 _ => h v' w' h2 h3)

theorem ownB_str {base : Nat} {W w2 : World} {v v' : Value} {xs : List Int} {k : Int} (hO : OwnB base W v xs) (hb : base ≤ W.heap.size)
    (hown : ownsZ w2 base 5 1 v' (xs.length + (wordB k).size) (xs.map (Value.int .u8) ++ Lib.strCells (wordB k))) (hgrow : W.grownBy w2 v.ownBlock) :
    OwnB base w2 v' (xs ++ wordOf k) ∧ Keep5 base W w2 := by
  rw [wordB_size, wordB_cells] at hown
  exact ownB_app hO hb hown hgrow
end

end Go.Proofs.YtknainelonaigaaGreatDoor
