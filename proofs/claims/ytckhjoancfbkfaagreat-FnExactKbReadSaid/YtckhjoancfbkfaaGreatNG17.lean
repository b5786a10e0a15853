/- Several texts in one: KrM, ReadI1. -/
import Derived.Test.YtckhjoancfbkfaaGreatNG7
import Derived.Test.YtckhjoancfbkfaaGreatNG13
import Derived.Test.YtckhjoancfbkfaaGreatKbVocM
import Derived.Test.YtckhjoancfbkfaaGreatNG16
import Derived.Test.YtckhjoancfbkfaaGreatNG10
namespace Go.Proofs.YtckhjoancfbkfaaGreat

section
/-- What is read of one thing told and the place behind it; or what is wrong. -/
inductive ResX where
  | ok (x : AX) (j : Nat)
  | bad (at' : Int)

inductive ResK where
  | ok (xs : List AX)
  | bad (at' : Int)

/-- The kind that a word names; -1: none. -/
def kindX (l : List UInt8) : Int :=
  if l = [83, 117, 98] then 0 else if l = [69, 113] then 1 else if l = [68, 105, 115] then 2 else if l = [82, 111, 108, 101] then 3 else if l = [73, 115] then 4 else if l = [82, 101, 108] then 5 else -1

theorem kindX_range (l : List UInt8) : kindX l = -1 ∨ kindX l = 0 ∨ kindX l = 1 ∨ kindX l = 2 ∨ kindX l = 3 ∨ kindX l = 4 ∨ kindX l = 5 := by
  unfold kindX
  repeat' split
  all_goals simp

def kindXI (ts : List Tok) (i : Nat) : Int := kindX (strOfNums (wordI ts i)).toList

theorem kindXI_range (ts : List Tok) (i : Nat) : kindXI ts i = -1 ∨ kindXI ts i = 0 ∨ kindXI ts i = 1 ∨ kindXI ts i = 2 ∨ kindXI ts i = 3 ∨ kindXI ts i = 4 ∨ kindXI ts i = 5 := kindX_range _

/-- A field that is a word, laid down. -/
def putB (x : AX) (f : Nat) (t : List Int) : AX :=
  if f = 82 then { x with r := t } else if f = 83 then { x with s := t } else if f = 65 then { x with a := t } else if f = 66 then { x with b := t } else x

/-- One field read: C and D are concepts, the others words. -/
def fieldR (ts : List Tok) (en : Int) (f : Nat) (x : AX) (i : Nat) : ResX :=
  if f = 67 then (match conR ts en 6 i with | .bad p => .bad p | .ok c j => .ok { x with c := c } j)
  else if f = 68 then (match conR ts en 6 i with | .bad p => .bad p | .ok c j => .ok { x with d := c } j)
  else if isI ts 2 i = true then .ok (putB x f (wordI ts i)) (i + 1) else .bad (hereI ts en i)

def fieldsR (ts : List Tok) (en : Int) : List Nat → AX → Nat → ResX
  | [], x, i => .ok x i
  | f :: fs, x, i => match fieldR ts en f x i with | .bad p => .bad p | .ok x' j => fieldsR ts en fs x' j

/-- The bracket that ends it. -/
def closeX (ts : List Tok) (en : Int) : ResX → ResX
  | .bad p => .bad p
  | .ok x j => if isI ts 4 j = true then .ok x (j + 1) else .bad (hereI ts en j)

def AX.kd (k : Int) : AX := { AX.zero with kind := k }

/-- One thing told, from the token i on. -/
def axR (ts : List Tok) (en : Int) (i : Nat) : ResX :=
  if isI ts 1 i = false then .bad (hereI ts en i)
  else if kindXI ts i = -1 then .bad (hereI ts en i)
  else if isI ts 3 (i + 1) = false then .bad (hereI ts en (i + 1))
  else closeX ts en (fieldsR ts en (fieldsN (kindXI ts i)) (AX.kd (kindXI ts i)) (i + 2))

/-- All that is told, behind what was read already. -/
def axsR (ts : List Tok) (en : Int) : Nat → Nat → List AX → ResK
  | 0, _, acc => .ok acc
  | f + 1, i, acc => if i < ts.length then (match axR ts en i with | .bad p => .bad p | .ok x j => axsR ts en f j (acc ++ [x])) else .ok acc

/-- What a text reads as, whatever it is of parts. -/
def wholeK (zs : List Int) : List AX × Int :=
  if (toks zs).2 ≠ -1 then ([], (toks zs).2)
  else match axsR (toks zs).1 (zs.length : Nat) ((toks zs).1.length + 1) 0 [] with
    | .bad p => ([], p)
    | .ok xs => (xs, -1)

/-- What a text reads as: what is told, and -1; or the place of what is wrong. -/
def kbRead (zs : List Int) : List AX × Int := if (wholeK zs).2 = -1 ∧ kbB (wholeK zs).1 = false then ([], (zs.length : Nat)) else wholeK zs

theorem wholeK_tok {zs : List Int} {ts : List Tok} {p : Int} (ht : toks zs = (ts, p)) (hp : p ≠ -1) : wholeK zs = ([], p) := by
  unfold wholeK; rw [ht]; rw [if_pos hp]
theorem wholeK_bad {zs : List Int} {ts : List Tok} {n : Nat} {a : Int} (ht : toks zs = (ts, -1)) (hl : zs.length = n) (h : axsR ts (n : Nat) (ts.length + 1) 0 [] = .bad a) : wholeK zs = ([], a) := by
  unfold wholeK; rw [ht, hl]; rw [if_neg (by simp)]; simp only; rw [h]
theorem wholeK_ok {zs : List Int} {ts : List Tok} {n : Nat} {xs : List AX} (ht : toks zs = (ts, -1)) (hl : zs.length = n) (h : axsR ts (n : Nat) (ts.length + 1) 0 [] = .ok xs) : wholeK zs = (xs, -1) := by
  unfold wholeK; rw [ht, hl]; rw [if_neg (by simp)]; simp only; rw [h]
theorem kbRead_fell {zs : List Int} {p : Int} (h : wholeK zs = ([], p)) (hp : p ≠ -1) : kbRead zs = ([], p) := by
  unfold kbRead; rw [h]; rw [if_neg (fun e => hp e.1)]
theorem kbRead_no {zs : List Int} {n : Nat} {xs : List AX} (hl : zs.length = n) (h : wholeK zs = (xs, -1)) (hk : kbB xs = false) : kbRead zs = ([], ((n : Nat) : Int)) := by
  unfold kbRead; rw [h, hl]; rw [if_pos ⟨rfl, hk⟩]
theorem kbRead_ok {zs : List Int} {xs : List AX} (h : wholeK zs = (xs, -1)) (hk : kbB xs = true) : kbRead zs = (xs, -1) := by
  unfold kbRead; rw [h]; rw [if_neg (fun e => by rw [hk] at e; simp at e)]

theorem fieldR_kind {ts : List Tok} {en : Int} {f : Nat} {x x' : AX} {i j : Nat} (h : fieldR ts en f x i = .ok x' j) : x'.kind = x.kind := by
  unfold fieldR at h
  split at h
  · cases hc : conR ts en 6 i with
    | bad p => rw [hc] at h; simp at h
    | ok c k => rw [hc] at h; simp only [ResX.ok.injEq] at h; rw [← h.1]
  · split at h
    · cases hc : conR ts en 6 i with
      | bad p => rw [hc] at h; simp at h
      | ok c k => rw [hc] at h; simp only [ResX.ok.injEq] at h; rw [← h.1]
    · split at h
      · simp only [ResX.ok.injEq] at h
        rw [← h.1]
        unfold putB
        repeat' split
        all_goals rfl
      · simp at h
theorem fieldsR_kind {ts : List Tok} {en : Int} : ∀ {fs : List Nat} {x x' : AX} {i j : Nat}, fieldsR ts en fs x i = .ok x' j → x'.kind = x.kind := by
  intro fs
  induction fs with
  | nil => intro x x' i j h; simp only [fieldsR, ResX.ok.injEq] at h; rw [← h.1]
  | cons f fs ih =>
    intro x x' i j h
    simp only [fieldsR] at h
    cases h1 : fieldR ts en f x i with
    | bad p => rw [h1] at h; simp at h
    | ok x1 j1 => rw [h1] at h; exact (ih h).trans (fieldR_kind h1)

/-- Where a field ends. -/
theorem fieldR_end {ts : List Tok} {en : Int} {f : Nat} {x x' : AX} {i j : Nat} (h : fieldR ts en f x i = .ok x' j) : i < j ∧ j ≤ ts.length := by
  unfold fieldR at h
  split at h
  · cases hc : conR ts en 6 i with
    | bad p => rw [hc] at h; simp at h
    | ok c k => rw [hc] at h; simp only [ResX.ok.injEq] at h; have := conR_end ts en 6 i c k hc; omega
  · split at h
    · cases hc : conR ts en 6 i with
      | bad p => rw [hc] at h; simp at h
      | ok c k => rw [hc] at h; simp only [ResX.ok.injEq] at h; have := conR_end ts en 6 i c k hc; omega
    · split at h
      · rename_i h1
        have := isI_lt h1
        simp only [ResX.ok.injEq] at h
        omega
      · simp at h

theorem fieldsR_end {ts : List Tok} {en : Int} : ∀ {fs : List Nat} {x x' : AX} {i j : Nat}, fieldsR ts en fs x i = .ok x' j → i ≤ ts.length → i ≤ j ∧ j ≤ ts.length := by
  intro fs
  induction fs with
  | nil => intro x x' i j h hi; simp only [fieldsR, ResX.ok.injEq] at h; omega
  | cons f fs ih =>
    intro x x' i j h hi
    simp only [fieldsR] at h
    cases h1 : fieldR ts en f x i with
    | bad p => rw [h1] at h; simp at h
    | ok x1 j1 =>
      rw [h1] at h
      simp only at h
      have := fieldR_end h1
      have := ih h this.2
      omega

/-- Where it ends: behind its begin, and not behind the last token. -/
theorem axR_end {ts : List Tok} {en : Int} {i : Nat} {x : AX} {j : Nat} (h : axR ts en i = .ok x j) : i < j ∧ j ≤ ts.length := by
  unfold axR at h
  split at h
  · simp at h
  · split at h
    · simp at h
    · split at h
      · simp at h
      · rename_i h3
        have h3' : isI ts 3 (i + 1) = true := by simpa using h3
        have l3 := isI_lt h3'
        cases h5 : fieldsR ts en (fieldsN (kindXI ts i)) (AX.kd (kindXI ts i)) (i + 2) with
        | bad p => rw [h5] at h; simp [closeX] at h
        | ok x1 j1 =>
          rw [h5] at h
          simp only [closeX] at h
          split at h
          · rename_i h6
            have := isI_lt h6
            have := fieldsR_end h5 (by omega)
            simp only [ResX.ok.injEq] at h
            omega
          · simp at h

/-- One step. -/
theorem axsR_step {ts : List Tok} {en : Int} {f i j : Nat} {acc : List AX} {x : AX} (hi : i < ts.length) (h : axR ts en i = .ok x j) : axsR ts en (f + 1) i acc = axsR ts en f j (acc ++ [x]) := by
  rw [axsR, if_pos hi, h]
theorem axsR_bad {ts : List Tok} {en : Int} {f i : Nat} {acc : List AX} {p : Int} (hi : i < ts.length) (h : axR ts en i = .bad p) : axsR ts en (f + 1) i acc = .bad p := by
  rw [axsR, if_pos hi, h]
theorem axsR_end {ts : List Tok} {en : Int} {f i : Nat} {acc : List AX} (hi : ts.length ≤ i) : axsR ts en f i acc = .ok acc := by
  cases f with
  | zero => rfl
  | succ f => rw [axsR, if_neg (by omega)]

/-! ### How large it is -/

def AX.bulkR (x : AX) : Nat := x.c.bulk + x.d.bulk + x.r.length + x.s.length + x.a.length + x.b.length

theorem fieldR_bulk {ts : List Tok} {en : Int} (hw : ∀ i, (wordI ts i).length ≤ 6) {f : Nat} {x x' : AX} {i j : Nat} (h : fieldR ts en f x i = .ok x' j) : x'.bulkR + 7 * i ≤ x.bulkR + 7 * j ∧ x'.kind = x.kind := by
  unfold fieldR at h
  split at h
  · cases hc : conR ts en 6 i with
    | bad p => rw [hc] at h; simp at h
    | ok c k =>
      rw [hc] at h; simp only [ResX.ok.injEq] at h
      have := conR_bulk ts en hw 6 i c k hc
      obtain ⟨h1, h2⟩ := h
      subst h1 h2
      refine ⟨?_, rfl⟩
      simp only [AX.bulkR]
      omega
  · split at h
    · cases hc : conR ts en 6 i with
      | bad p => rw [hc] at h; simp at h
      | ok c k =>
        rw [hc] at h; simp only [ResX.ok.injEq] at h
        have := conR_bulk ts en hw 6 i c k hc
        obtain ⟨h1, h2⟩ := h
        subst h1 h2
        refine ⟨?_, rfl⟩
        simp only [AX.bulkR]
        omega
    · split at h
      · simp only [ResX.ok.injEq] at h
        have := hw i
        obtain ⟨h1, h2⟩ := h
        subst h1 h2
        unfold putB
        repeat' split
        all_goals
          refine ⟨?_, rfl⟩
          simp only [AX.bulkR]
          omega
      · simp at h

theorem fieldsR_bulk {ts : List Tok} {en : Int} (hw : ∀ i, (wordI ts i).length ≤ 6) : ∀ {fs : List Nat} {x x' : AX} {i j : Nat}, fieldsR ts en fs x i = .ok x' j → x'.bulkR + 7 * i ≤ x.bulkR + 7 * j ∧ x'.kind = x.kind := by
  intro fs
  induction fs with
  | nil => intro x x' i j h; simp only [fieldsR, ResX.ok.injEq] at h; rw [← h.1, ← h.2]; exact ⟨Nat.le_refl _, rfl⟩
  | cons f fs ih =>
    intro x x' i j h
    simp only [fieldsR] at h
    cases h1 : fieldR ts en f x i with
    | bad p => rw [h1] at h; simp at h
    | ok x1 j1 =>
      rw [h1] at h
      simp only at h
      have q1 := fieldR_bulk hw h1
      have q2 := ih h
      exact ⟨by omega, q2.2.trans q1.2⟩

theorem kd_bulk (k : Int) : (AX.kd k).bulkR = 0 := by
  simp [AX.kd, AX.bulkR, AX.zero, CN.zero, CN.bulk_eq, CN.name, CN.role, CN.kids, bulks]

theorem axR_bulk {ts : List Tok} {en : Int} (hw : ∀ i, (wordI ts i).length ≤ 6) {i : Nat} {x : AX} {j : Nat} (h : axR ts en i = .ok x j) : x.bulkR + 7 * i ≤ 7 * j ∧ (0 ≤ x.kind ∧ x.kind ≤ 5) := by
  unfold axR at h
  split at h
  · simp at h
  · split at h
    · simp at h
    · rename_i hk
      split at h
      · simp at h
      · cases h5 : fieldsR ts en (fieldsN (kindXI ts i)) (AX.kd (kindXI ts i)) (i + 2) with
        | bad p => rw [h5] at h; simp [closeX] at h
        | ok x1 j1 =>
          rw [h5] at h
          simp only [closeX] at h
          split at h
          · have q := fieldsR_bulk hw h5
            rw [kd_bulk] at q
            simp only [ResX.ok.injEq] at h
            obtain ⟨h1, h2⟩ := h
            subst h1 h2
            refine ⟨by omega, ?_⟩
            rw [q.2]
            have := kindXI_range ts i
            show 0 ≤ kindXI ts i ∧ kindXI ts i ≤ 5
            omega
          · simp at h
end

section
open Go.RowKit

/-- What a reader gives up with. -/
def gaveUp (p : Int) : Ending := .panicked [{ v := .iface 111 (.int .i64 p), recovered := false }]

theorem hereI_lt {ts : List Tok} {en : Int} {i : Nat} (h : i < ts.length) : hereI ts en i = (ts.getD i Tok.zero).place := if_pos h
theorem hereI_end {ts : List Tok} {en : Int} {i : Nat} (h : ts.length ≤ i) : hereI ts en i = en := if_neg (by omega)

set_option maxHeartbeats 400000 in
theorem here_any (base pb g i : Nat) (ts : List Tok) (gs : List (Nat × Nat)) (en : Int) (w : World) (hR : RdrAt w pb g i ts en) (hT : TkM base pb w g ts gs) (hi : i ≤ ts.length) :
    Calls Tryz.prog 81 #[.pointer (some ⟨pb, 0, none⟩)] w fun e w' => e = .returned (.int .i64 (hereI ts en i)) ∧ w' = w := by
  obtain ⟨a, c, hB, ha, hc1, hc2⟩ := hR
  obtain ⟨b0, b1⟩ := hB.cells
  by_cases hlt : i < ts.length
  · obtain ⟨c0, c1, c2⟩ := hT.cell i hlt
    have HE := hereI_lt (en := en) hlt
    rcases ha with ha | rfl
    · omega
    · obtain ⟨m, hm⟩ : ∃ m, ts.length - i = m + 1 := ⟨ts.length - i - 1, by omega⟩
      rw [hm] at b0 hc1
      rw [HE]
      obtain ⟨pl, hpl⟩ : ∃ pl, pl = (ts.getD i Tok.zero).place := ⟨_, rfl⟩
      rw [← hpl] at c1 ⊢
      obtain ⟨o, ho⟩ : ∃ o, o = i * 3 := ⟨_, rfl⟩
      rw [← ho] at c1 b0
      clear HE hpl ho hm hT hB hi hlt c0 c2
      go_enter Tryz.func81, Tryz.ntmps81
      go_wp2
      go_ret
      exact ⟨rfl, rfl⟩
  · have HE := hereI_end (en := en) (ts := ts) (i := i) (by omega)
    rw [show ts.length - i = 0 by omega] at b0
    rw [HE]
    clear HE hT hB hi hlt ha hc1
    go_enter Tryz.func81, Tryz.ntmps81
    go_wp2
    go_ret
    exact ⟨rfl, rfl⟩

set_option maxHeartbeats 400000 in
theorem take_bad (base pb g i : Nat) (ts : List Tok) (gs : List (Nat × Nat)) (en k : Int) (w : World) (hR : RdrAt w pb g i ts en) (hT : TkM base pb w g ts gs) (hi : i ≤ ts.length) (hk : isI ts k i = false) :
    Calls Tryz.prog 127 #[.pointer (some ⟨pb, 0, none⟩), .int .i64 k] w fun e w' => e = gaveUp (hereI ts en i) ∧ Below w.heap.size w w' := by
  have HR : Hid (RdrAt w pb g i ts en) := hR
  have HT : Hid (TkM base pb w g ts gs) := hT
  obtain ⟨a, c, hB, ha, hc1, hc2⟩ := hR
  have hl := hB.lt
  obtain ⟨b0, b1⟩ := hB.cells
  have hb0 : Below w.heap.size w (w.alloc (.cells #[.int .i64 0, .int .i64 0, .slice none 0 0] 134)) := (Below.refl _ _).alloc (Nat.le_refl _) _
  have HB0 : Hid (Below w.heap.size w (w.alloc (.cells #[.int .i64 0, .int .i64 0, .slice none 0 0] 134))) := hb0
  by_cases hlt : i < ts.length
  · obtain ⟨c0, c1, c2⟩ := hT.cell i hlt
    rcases ha with ha | rfl
    · omega
    · obtain ⟨m, hm⟩ : ∃ m, ts.length - i = m + 1 := ⟨ts.length - i - 1, by omega⟩
      rw [hm] at b0 hc1
      have hne : ((ts.getD i Tok.zero).kind != k) = true := by
        simp only [isI, hlt, decide_true, Bool.true_and, decide_eq_false_iff_not] at hk
        simpa using hk
      have hgl : g < w.heap.size := by rcases hT.glt with h | h <;> omega
      obtain ⟨kd, hkd⟩ : ∃ kd, kd = (ts.getD i Tok.zero).kind := ⟨_, rfl⟩
      rw [← hkd] at c0 hne
      obtain ⟨o, ho⟩ : ∃ o, o = i * 3 := ⟨_, rfl⟩
      rw [← ho] at c0 b0
      clear hkd ho hm hT hB hlt c1 c2 hk hb0
      go_enter Tryz.func127, Tryz.ntmps127
      go_wp2_with fail
      refine (here_any base pb g i ts gs en _ (HR.out.below HB0.out) (HT.out.below (HB0.out.mono (Nat.le_of_lt hl))) hi).mono ?_
      rintro e w' ⟨rfl, hw⟩
      rw [hw]; clear hw
      go_wp2
      exact ⟨rfl, rfl, HB0.out⟩
  · rw [show ts.length - i = 0 by omega] at b0
    clear hT hB hlt ha hc1 hk hb0
    go_enter Tryz.func127, Tryz.ntmps127
    go_wp2_with fail
    refine (here_any base pb g i ts gs en _ (HR.out.below HB0.out) (HT.out.below (HB0.out.mono (Nat.le_of_lt hl))) hi).mono ?_
    rintro e w' ⟨rfl, hw⟩
    rw [hw]; clear hw
    go_wp2
    exact ⟨rfl, rfl, HB0.out⟩

/-- A token's box. -/
def BoxK3 (W : World) (b : Nat) (v0 v1 v2 : Value) : Prop := W.heap[b]? = some (.cells #[v0, v1, v2] 134 (0, 0))

theorem BoxK3.cells {W : World} {b : Nat} {v0 v1 v2 : Value} (h : BoxK3 W b v0 v1 v2) : W.cell? ⟨b, 0, none⟩ = some v0 ∧ W.cell? ⟨b, 1, none⟩ = some v1 ∧ W.cell? ⟨b, 2, none⟩ = some v2 := by
  unfold BoxK3 at h
  refine ⟨?_, ?_, ?_⟩ <;> simp [World.cell?, h]
theorem BoxK3.frz {W : World} {b : Nat} {v0 v1 v2 : Value} (h : BoxK3 W b v0 v1 v2) (o : Nat) : W.frozen? ⟨b, o, none⟩ = false := by
  unfold BoxK3 at h
  simp [World.frozen?, h]
theorem BoxK3.new (W : World) (v0 v1 v2 : Value) : BoxK3 (W.alloc (.cells #[v0, v1, v2] 134)) W.heap.size v0 v1 v2 := by
  show (W.heap.push _)[W.heap.size]? = _
  simp
theorem BoxK3.of {W W' : World} {b : Nat} {v0 v1 v2 : Value} (h : BoxK3 W b v0 v1 v2) (e : W'.heap[b]? = W.heap[b]?) : BoxK3 W' b v0 v1 v2 := e.trans h
theorem BoxK3.set3 {W : World} {b : Nat} {v0 v1 v2 : Value} (h : BoxK3 W b v0 v1 v2) (x0 x1 x2 : Value) : BoxK3 (((W.setCell ⟨b, 0, none⟩ x0).setCell ⟨b, 1, none⟩ x1).setCell ⟨b, 2, none⟩ x2) b x0 x1 x2 := by
  unfold BoxK3 at h ⊢
  have e0 := heap_setCell_same W b 0 _ _ x0 h
  have e1 := heap_setCell_same _ b 1 _ _ x1 e0
  have e2 := heap_setCell_same _ b 2 _ _ x2 e1
  rw [e2]
  rfl

theorem box_step {w : World} {pb : Nat} {lv : Value} {en : Int} (h : BoxR w pb lv en) (v : Value) (o1 o2 : Obj) : BoxR (((w.setCell ⟨pb, 0, none⟩ v).alloc o1).alloc o2) pb v en := by
  have h1 := h.set0 v
  have h2 : BoxR ((w.setCell ⟨pb, 0, none⟩ v).alloc o1) pb v en := h1.of (Below.heap_alloc _ _ _ h1.lt)
  exact h2.of (Below.heap_alloc _ _ _ h2.lt)

theorem RdrAt.step {w : World} {pb g i' : Nat} {lv : Value} {en : Int} {ts : List Tok} (h : BoxR w pb lv en) (a' : Option Addr) (m' c' : Nat) (o1 o2 : Obj) (hm : m' = ts.length - i') (ha : ts.length = i' ∨ a' = some ⟨g, i' * 3, none⟩) (hc : m' ≤ c') (hc2 : c' ≤ 9223372036854775807) :
    RdrAt (((w.setCell ⟨pb, 0, none⟩ (.slice a' m' c')).alloc o1).alloc o2) pb g i' ts en := ⟨a', c', by rw [← hm]; exact box_step h _ _ _, ha, by omega, hc2⟩

theorem bt_step (w : World) (pb : Nat) (v : Value) (o1 o2 : Obj) : Bt pb w.heap.size w (((w.setCell ⟨pb, 0, none⟩ v).alloc o1).alloc o2) :=
  (((Bt.refl pb w.heap.size w).set (p := ⟨pb, 0, none⟩) (.inr rfl) v).alloc (by simp) o1).alloc (by simp) o2

set_option maxHeartbeats 800000 in
theorem take_ok (base pb g i : Nat) (ts : List Tok) (gs : List (Nat × Nat)) (en k : Int) (w : World) (hR : RdrAt w pb g i ts en) (hT : TkM base pb w g ts gs) (hk : isI ts k i = true) :
    Calls Tryz.prog 127 #[.pointer (some ⟨pb, 0, none⟩), .int .i64 k] w fun e w' => e = .returned (.agg #[.int .i64 k, .int .i64 (hereI ts en i), txv (ts.getD i Tok.zero) (gs.getD i (0, 0))]) ∧ RdrAt w' pb g (i + 1) ts en ∧ Bt pb w.heap.size w w' := by
  obtain ⟨a, c, hB, ha, hc1, hc2⟩ := hR
  have hl := hB.lt
  have hlt := isI_lt hk
  obtain ⟨c0, c1, c2⟩ := hT.cell i hlt
  rw [isI_kind hk] at c0
  rw [← hereI_lt (en := en) hlt] at c1
  obtain ⟨p, hp⟩ : ∃ p, p = hereI ts en i := ⟨_, rfl⟩
  obtain ⟨ta, tn, tc, htx⟩ : ∃ ta tn tc, txv (ts.getD i Tok.zero) (gs.getD i (0, 0)) = .slice ta tn tc := by
    obtain ⟨a, c, h⟩ := txv_form (ts.getD i Tok.zero) (gs.getD i (0, 0)); exact ⟨_, _, _, h⟩
  rw [htx] at c2 ⊢
  rw [← hp] at c1 ⊢
  have hgl : g < w.heap.size := by rcases hT.glt with h | h <;> omega
  have hgp : g ≠ pb := by rcases hT.glt with h | h <;> omega
  rcases ha with ha | rfl
  · omega
  · obtain ⟨m, hm⟩ : ∃ m, ts.length - i = m + 1 := ⟨ts.length - i - 1, by omega⟩
    rw [hm] at hB hc1
    obtain ⟨o, ho⟩ : ∃ o, o = i * 3 := ⟨_, rfl⟩
    rw [← ho] at c0 c1 c2 hB
    obtain ⟨b0, b1⟩ := hB.cells
    have bf := hB.frz 0
    have HB : Hid (BoxR w pb (.slice (some ⟨g, o, none⟩) (m + 1) c) en) := hB
    have HO : Hid (o = i * 3) := ho
    have HM : Hid (ts.length - i = m + 1) := hm
    have HLt : Hid (i < ts.length) := hlt
    clear ho hm hT hB hlt hk hp htx
    by_cases hc : c = 1
    · subst hc
      have HM0 : Hid (m = 0) := by unfold Hid; omega
      go_enter Tryz.func127, Tryz.ntmps127
      go_wp2
      refine bodyPost_ret (v := .agg #[.int .i64 k, .int .i64 p, .slice ta tn tc]) (by simp [results, Tryz.results127, go_sem]) rfl ?_
      exact ⟨rfl, RdrAt.step HB.out _ _ _ _ _ (by have := HM0.out; have := HM.out; omega) (.inl (by have := HM0.out; have := HM.out; omega)) (by have := HM0.out; omega) (by omega), bt_step _ _ _ _ _⟩
    · have HO3 : Hid (o + 3 = (i + 1) * 3) := by have := HO.out; unfold Hid; omega
      have HM1 : Hid (m = ts.length - (i + 1)) := by have := HM.out; unfold Hid; omega
      go_enter Tryz.func127, Tryz.ntmps127
      go_wp2
      refine bodyPost_ret (v := .agg #[.int .i64 k, .int .i64 p, .slice ta tn tc]) (by simp [results, Tryz.results127, go_sem]) rfl ?_
      exact ⟨rfl, RdrAt.step HB.out _ _ _ _ _ HM1.out (.inr (by rw [HO3.out])) (by omega) (by omega), bt_step _ _ _ _ _⟩

/-- The words of the kinds, one behind the other, as the program looks them up. -/
theorem kindW_no (l : List UInt8) (h : ∀ k : Nat, k ≤ 7 → ((wordB k).toList == l) = false) : kindW l = 2 := by
  have h0 := h 0 (by omega)
  have h1 := h 1 (by omega)
  have h3 := h 3 (by omega)
  have h4 := h 4 (by omega)
  have h5 := h 5 (by omega)
  have h6 := h 6 (by omega)
  have h7 := h 7 (by omega)
  simp [wordB, ByteArray.toList_eq] at h0 h1 h3 h4 h5 h6 h7
  unfold kindW
  rw [if_neg (fun e => h0 e.symm), if_neg (fun e => h1 e.symm), if_neg (fun e => h3 e.symm), if_neg (fun e => h4 e.symm), if_neg (fun e => h5 e.symm), if_neg (fun e => h6 e.symm), if_neg (fun e => h7 e.symm)]

theorem kindW_at (l : List UInt8) (k : Nat) (hk : k ≤ 7) (h : ((wordB k).toList == l) = true) : kindW l = k := by
  have hl : l = (wordB k).toList := (eq_of_beq h).symm
  subst hl
  rw [ByteArray.toList_eq]
  match k, hk with
  | 0, _ | 1, _ | 2, _ | 3, _ | 4, _ | 5, _ | 6, _ | 7, _ => rfl

set_option maxRecDepth 100000 in
set_option maxHeartbeats 1000000 in
theorem conKind_any (a : Option Addr) (n cap : Nat) (zs : List Int) (w : World) {lo hi : Nat} (h : Rd lo hi w a n cap zs) :
    Calls Tryz.prog 131 #[.slice a n cap] w fun e w' => e = .returned (.int .i64 (kindW (strOfNums zs).toList)) ∧ ∃ nd, w' = w.drewN nd := by
  have H : Hid (Rd lo hi w a n cap zs) := h
  clear h
  obtain ⟨s, HS⟩ : ∃ s, Hid (s = strOfNums zs) := ⟨_, rfl⟩
  rw [← HS.out]
  go_enter Tryz.func131, Tryz.ntmps131
  go_wp2_with fail
  go_loopw [3] (fun i wr => ∃ k nd : Nat, k ≤ 8 ∧ i = .int .i64 k ∧ wr = w.drewN nd ∧ ∀ j : Nat, j < k → ((wordB j).toList == s.toList) = false) (fun i _ => 8 - (intOf i).toNat)
  case atStart => exact ⟨0, 0, Nat.zero_le _, rfl, rfl, fun j hj => by omega⟩
  case round =>
    obtain ⟨k, nd, hk, rfl, hwr, hno⟩ := hrel
    have HNo : Hid (∀ j : Nat, j < k → ((wordB j).toList == s.toList) = false) := hno
    have HWr : Hid (wr = w.drewN nd) := hwr
    clear hno hwr
    by_cases hlt : k ≤ 7
    · have hki : (k : Int) ≤ 7 := by omega
      have hcv : ∀ m, (convert 22 9 (.slice a n cap)).run Tryz.prog (wr.drewN m) = .ok (.string s) (wr.drewN m) := by
        intro m; rw [HS.out, HWr.out]; exact conv_any (H.out.same (fun _ _ _ => rfl))
      have hcv1 : (convert 22 9 (.slice a n cap)).run Tryz.prog wr.drew = .ok (.string s) wr.drew := hcv 1
      clear hcv
      obtain ⟨t, HT⟩ : ∃ t, Hid (t = wordB k) := ⟨_, rfl⟩
      cases hb : (t.toList == s.toList)
      · have HF : Hid (∀ j : Nat, j < k + 1 → ((wordB j).toList == s.toList) = false) := by
          intro j hj
          by_cases e : j = k
          · subst e; rw [← HT.out]; exact hb
          · exact HNo.out j (by omega)
        go_wp2_with fail
        go_region_with (go_at_call 136; refine (conWord_any _ _).mono ?_; rintro e w' ⟨rfl, hw⟩; rw [hw, ← HT.out]; clear hw)
        all_goals
          go_wp2
          go_roundw
          case rel => exact ⟨k + 1, nd + 1, by omega, by go_num, by rw [HWr.out]; rfl, HF.out⟩
          case measure => simp [intOf]; omega
      · have HF : Hid (kindW s.toList = k) := kindW_at _ k hlt (by rw [← HT.out]; exact hb)
        go_wp2_with fail
        go_region_with (go_at_call 136; refine (conWord_any _ _).mono ?_; rintro e w' ⟨rfl, hw⟩; rw [hw, ← HT.out]; clear hw)
        all_goals
          go_wp2
          go_ret
          exact ⟨ri HF.out.symm, nd + 1, by rw [HWr.out]; rfl⟩
    · have HF : Hid (kindW s.toList = 2) := kindW_no _ (fun j hj => HNo.out j (by omega))
      go_wp2
      go_ret
      exact ⟨ri HF.out.symm, nd, HWr.out⟩
end

end Go.Proofs.YtckhjoancfbkfaaGreat
