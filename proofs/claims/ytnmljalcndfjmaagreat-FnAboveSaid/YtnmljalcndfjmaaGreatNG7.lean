/- Several texts in one: ConShape2, ReadM. -/
import Derived.Test.YtnmljalcndfjmaaGreatNG6
import Derived.Test.YtnmljalcndfjmaaGreatNG5
import Derived.Test.YtnmljalcndfjmaaGreatNG4
namespace Go.Proofs.YtnmljalcndfjmaaGreat

section
open Go.RowKit

set_option maxRecDepth 100000 in
set_option maxHeartbeats 2000000 in
theorem shapeOk_any {d : Nat} {v : Value} {c : CN} {w : World} {lo hi : Nat} (h : RdC lo hi w d v c) (hhi : hi ≤ w.heap.size) :
    Calls Tryz.prog 79 #[v] w fun e w' => e = .returned (.bool (shapeB c)) ∧ Below w.heap.size w w' := by
  cases d with
  | zero => exact h.elim
  | succ d =>
    have HRd : Hid (RdC lo hi w (d + 1) v c) := h
    obtain ⟨na, nn, nc, ra, rn, rc, ka, kn, kc, rfl, _, _, hk⟩ := h
    have HKL : Hid (c.kids.length = kn) := hk.len
    have HS : Hid (shapeB c = (nameFit c && (roleFit c && decide ((kn : Int) = kidN c.kind)))) := by unfold Hid shapeB; rw [hk.len]
    obtain ⟨k, hkd⟩ : ∃ k, k = c.kind := ⟨_, rfl⟩
    rw [← hkd] at HRd HS ⊢
    have hb0 : Below w.heap.size w (w.alloc (.cells #[.int .i64 k, .slice na nn nc, .slice ra rn rc, .slice ka kn kc] 30)).drew := ((Below.refl _ _).alloc (Nat.le_refl _) _).drew
    have HB0 : Hid (Below w.heap.size w (w.alloc (.cells #[.int .i64 k, .slice na nn nc, .slice ra rn rc, .slice ka kn kc] 30)).drew) := hb0
    have HR0 : Hid (RdC lo hi (w.alloc (.cells #[.int .i64 k, .slice na nn nc, .slice ra rn rc, .slice ka kn kc] 30)).drew (d + 1) (.agg #[.int .i64 k, .slice na nn nc, .slice ra rn rc, .slice ka kn kc]) c) := HRd.out.below hb0 hhi
    have HBx0 : Hid (BoxC (w.alloc (.cells #[.int .i64 k, .slice na nn nc, .slice ra rn rc, .slice ka kn kc] 30)).drew w.heap.size (.int .i64 k) (.slice na nn nc) (.slice ra rn rc) (.slice ka kn kc)) := BoxC.new w _ _ _ _
    clear hk hkd hb0
    cases hN : nameFit c
    · have HE : Hid (shapeB c = false) := by unfold Hid; rw [HS.out, hN]; rfl
      go_enter Tryz.func79, Tryz.ntmps79
      go_wp2_with fail
      first | go_region_with (go_at_call 129; refine (nameFits_any HR0.out (Nat.le_trans hhi HB0.out.size)).mono ?_; rintro e w1 ⟨rfl, hb1⟩; rw [hN]; have HB1 : Hid (Below w.heap.size w w1) := HB0.out.trans (hb1.mono HB0.out.size); clear hb1) | fail
      all_goals
        go_wp2_with fail
        go_ret
        exact ⟨rb HE.out.symm, HB1.out⟩
    · cases hR : roleFit c
      · have HE : Hid (shapeB c = false) := by unfold Hid; rw [HS.out, hN, hR]; rfl
        go_enter Tryz.func79, Tryz.ntmps79
        go_wp2_with fail
        first | go_region_with (first | (go_at_call 129; refine (nameFits_any HR0.out (Nat.le_trans hhi HB0.out.size)).mono ?_; rintro e w1 ⟨rfl, hb1⟩; rw [hN]; have HB1 : Hid (Below w.heap.size w w1) := HB0.out.trans (hb1.mono HB0.out.size); have HR1 : Hid (RdC lo hi w1 (d + 1) (.agg #[.int .i64 k, .slice na nn nc, .slice ra rn rc, .slice ka kn kc]) c) := HRd.out.below HB1.out hhi; have HBx1 : Hid (BoxC w1 w.heap.size (.int .i64 k) (.slice na nn nc) (.slice ra rn rc) (.slice ka kn kc)) := HBx0.out.below hb1 HBx0.out.lt; obtain ⟨c0, c1, c2, c3⟩ := HBx1.out.cells; clear hb1) | (go_at_call 130; refine (roleFits_any HR1.out (Nat.le_trans hhi HB1.out.size)).mono ?_; rintro e w2 ⟨rfl, hb2⟩; rw [hR]; have HB2 : Hid (Below w.heap.size w w2) := HB1.out.trans (hb2.mono HB1.out.size); clear hb2)) | fail
        all_goals
          go_wp2_with fail
          go_ret
          exact ⟨rb HE.out.symm, HB2.out⟩
      · have HE : Hid (shapeB c = ((kn : Int) == kidN k)) := by unfold Hid; rw [HS.out, hN, hR]; rfl
        go_enter Tryz.func79, Tryz.ntmps79
        go_wp2_with fail
        first | go_region_with (first | (go_at_call 129; refine (nameFits_any HR0.out (Nat.le_trans hhi HB0.out.size)).mono ?_; rintro e w1 ⟨rfl, hb1⟩; rw [hN]; have HB1 : Hid (Below w.heap.size w w1) := HB0.out.trans (hb1.mono HB0.out.size); have HR1 : Hid (RdC lo hi w1 (d + 1) (.agg #[.int .i64 k, .slice na nn nc, .slice ra rn rc, .slice ka kn kc]) c) := HRd.out.below HB1.out hhi; have HBx1 : Hid (BoxC w1 w.heap.size (.int .i64 k) (.slice na nn nc) (.slice ra rn rc) (.slice ka kn kc)) := HBx0.out.below hb1 HBx0.out.lt; obtain ⟨c0, c1, c2, c3⟩ := HBx1.out.cells; clear hb1) | (go_at_call 130; refine (roleFits_any HR1.out (Nat.le_trans hhi HB1.out.size)).mono ?_; rintro e w2 ⟨rfl, hb2⟩; rw [hR]; have HB2 : Hid (Below w.heap.size w w2) := HB1.out.trans (hb2.mono HB1.out.size); have HBx2 : Hid (BoxC w2 w.heap.size (.int .i64 k) (.slice na nn nc) (.slice ra rn rc) (.slice ka kn kc)) := HBx1.out.below hb2 HBx1.out.lt; obtain ⟨e0, e1, e2, e3⟩ := HBx2.out.cells; clear hb2) | (go_at_call 131; refine (kidCount_any _ _).mono ?_; rintro e w3 ⟨rfl, hw⟩; rw [hw]; clear hw)) | fail
        all_goals
          go_wp2_with fail
          go_ret
          exact ⟨rb HE.out.symm, HB2.out⟩
end

section
/-- What is read and the place behind it; or what is wrong. -/
inductive Res where
  | ok (c : CN) (j : Nat)
  | bad (at' : Int)

inductive ResL where
  | ok (cs : List CN) (j : Nat)
  | bad (at' : Int)

/-- The kind that a word names; 2: none. -/
def kindW (l : List UInt8) : Int :=
  if l = [84, 111, 112] then 0 else if l = [66, 111, 116] then 1 else if l = [78, 111, 116] then 3 else if l = [65, 110, 100] then 4 else if l = [79, 114] then 5 else if l = [83, 111, 109, 101] then 6 else if l = [65, 108, 108] then 7 else 2

theorem kindW_range (l : List UInt8) : kindW l = 0 ∨ kindW l = 1 ∨ kindW l = 2 ∨ kindW l = 3 ∨ kindW l = 4 ∨ kindW l = 5 ∨ kindW l = 6 ∨ kindW l = 7 := by
  unfold kindW
  split
  · simp
  · split
    · simp
    · split
      · simp
      · split
        · simp
        · split
          · simp
          · split
            · simp
            · split <;> simp

def isI (ts : List Tok) (k : Int) (i : Nat) : Bool := decide (i < ts.length) && decide ((ts.getD i Tok.zero).kind = k)
def hereI (ts : List Tok) (en : Int) (i : Nat) : Int := if i < ts.length then (ts.getD i Tok.zero).place else en
def wordI (ts : List Tok) (i : Nat) : List Int := (ts.getD i Tok.zero).text
def kindI (ts : List Tok) (i : Nat) : Int := kindW (strOfNums (wordI ts i)).toList

/-- So many kids, one behind the other. -/
def kidsR (g : Nat → Res) (j : Nat) : Nat → ResL
  | 0 => .ok [] j
  | m + 1 => match kidsR g j m with
    | .bad a => .bad a
    | .ok cs j' => match g j' with
      | .bad a => .bad a
      | .ok c j'' => .ok (cs ++ [c]) j''

/-- The bracket that ends it. -/
def closeR (ts : List Tok) (en : Int) (k : Int) (rl : List Int) : ResL → Res
  | .bad a => .bad a
  | .ok cs j => if isI ts 4 j = true then .ok (.mk k [] rl cs) (j + 1) else .bad (hereI ts en j)

def roleI (ts : List Tok) (k : Int) (i : Nat) : List Int := if roleB k = true then wordI ts (i + 2) else []
def startI (k : Int) (i : Nat) : Nat := if roleB k = true then i + 3 else i + 2

/-- A concept, at most so deep, from the token i on. -/
def conR (ts : List Tok) (en : Int) : Nat → Nat → Res
  | 0, i => .bad (hereI ts en i)
  | f + 1, i =>
    if isI ts 1 i = false then .bad (hereI ts en i)
    else if kindI ts i = 2 then (if keptB (strOfNums (wordI ts i)).toList = true then .bad (hereI ts en i) else .ok (.mk 2 (wordI ts i) [] []) (i + 1))
    else if kidN (kindI ts i) = 0 then .ok (.mk (kindI ts i) [] [] []) (i + 1)
    else if isI ts 3 (i + 1) = false then .bad (hereI ts en (i + 1))
    else if roleB (kindI ts i) = true ∧ isI ts 2 (i + 2) = false then .bad (hereI ts en (i + 2))
    else closeR ts en (kindI ts i) (roleI ts (kindI ts i) i) (kidsR (conR ts en f) (startI (kindI ts i) i) (kidN (kindI ts i)).toNat)

/-- What a text reads as, whatever it is of parts: a concept and -1; or the place of what is wrong. -/
def wholeR (zs : List Int) : CN × Int :=
  if (toks zs).2 ≠ -1 then (CN.zero, (toks zs).2)
  else match conR (toks zs).1 (zs.length : Nat) 6 0 with
    | .bad a => (CN.zero, a)
    | .ok c j => if j < (toks zs).1.length then (CN.zero, hereI (toks zs).1 (zs.length : Nat) j) else (c, -1)

/-- What a text reads as: a concept that may be, and -1; or the place of what is wrong. -/
def conRead (zs : List Int) : CN × Int := if (wholeR zs).2 = -1 ∧ conOk (wholeR zs).1 = false then (CN.zero, (zs.length : Nat)) else wholeR zs

theorem wholeR_tok {zs : List Int} {ts : List Tok} {p : Int} (ht : toks zs = (ts, p)) (hp : p ≠ -1) : wholeR zs = (CN.zero, p) := by
  unfold wholeR; rw [ht]; rw [if_pos hp]
theorem wholeR_bad {zs : List Int} {ts : List Tok} {n : Nat} {a : Int} (ht : toks zs = (ts, -1)) (hl : zs.length = n) (h : conR ts (n : Nat) 6 0 = .bad a) : wholeR zs = (CN.zero, a) := by
  unfold wholeR; rw [ht, hl]; rw [if_neg (by simp)]; simp only; rw [h]
theorem wholeR_more {zs : List Int} {ts : List Tok} {n : Nat} {c : CN} {j : Nat} (ht : toks zs = (ts, -1)) (hl : zs.length = n) (h : conR ts (n : Nat) 6 0 = .ok c j) (hj : j < ts.length) : wholeR zs = (CN.zero, hereI ts (n : Nat) j) := by
  unfold wholeR; rw [ht, hl]; rw [if_neg (by simp)]; simp only; rw [h]; simp only; rw [if_pos hj]
theorem wholeR_ok {zs : List Int} {ts : List Tok} {n : Nat} {c : CN} {j : Nat} (ht : toks zs = (ts, -1)) (hl : zs.length = n) (h : conR ts (n : Nat) 6 0 = .ok c j) (hj : ¬ j < ts.length) : wholeR zs = (c, -1) := by
  unfold wholeR; rw [ht, hl]; rw [if_neg (by simp)]; simp only; rw [h]; simp only; rw [if_neg hj]

/-- A word of a token is short. -/
theorem toksFrom_short (zs : List Int) : ∀ (f i : Nat) (acc : List Tok), (∀ t ∈ acc, t.text.length ≤ 6) → ∀ t ∈ (toksFrom zs f i acc).1, t.text.length ≤ 6
  | 0, _, acc, h => by simpa [toksFrom] using h
  | f + 1, i, acc, h => by
    rw [toksFrom]
    split
    · split
      · exact toksFrom_short zs f (i + 1) acc h
      · split
        · intro t ht; simp at ht
        · refine toksFrom_short zs f (pend zs i) (acc ++ [tokAt zs i]) (fun t ht => ?_)
          rcases List.mem_append.1 ht with ht | ht
          · exact h t ht
          · simp only [List.mem_singleton] at ht
            subst ht
            have hb : ∀ p : List Int, longB p.length = true → p.length ≤ 6 := fun p hp => by
              simp only [longB, Bool.and_eq_true, decide_eq_true_eq] at hp; exact hp.2
            simp only [tokAt]
            split
            · rename_i hk
              unfold kindOf at hk
              split at hk
              · rename_i hu
                simp only [upOk, Bool.and_eq_true] at hu
                exact hb _ hu.1
              · split at hk
                · rename_i hu
                  simp only [lowOk, Bool.and_eq_true] at hu
                  exact hb _ hu.1
                · split at hk
                  · simp at hk
                  · split at hk <;> simp at hk
            · simp
    · exact h

theorem toks_short (zs : List Int) (i : Nat) : (wordI (toks zs).1 i).length ≤ 6 := by
  have h : ∀ t ∈ (toks zs).1, t.text.length ≤ 6 := by
    unfold toks
    split
    · intro t ht; simp at ht
    · exact toksFrom_short zs _ _ _ (fun t ht => by simp at ht)
  unfold wordI
  by_cases hi : i < (toks zs).1.length
  · have e : (toks zs).1.getD i Tok.zero = (toks zs).1[i] := by simp [List.getD, hi]
    rw [e]
    exact h _ (List.getElem_mem hi)
  · have e : (toks zs).1.getD i Tok.zero = Tok.zero := by simp [List.getD, List.getElem?_eq_none (Nat.le_of_not_lt hi)]
    rw [e]; simp [Tok.zero]

theorem isI_lt {ts : List Tok} {k : Int} {i : Nat} (h : isI ts k i = true) : i < ts.length := by
  simp only [isI, Bool.and_eq_true, decide_eq_true_eq] at h; exact h.1
theorem isI_kind {ts : List Tok} {k : Int} {i : Nat} (h : isI ts k i = true) : (ts.getD i Tok.zero).kind = k := by
  simp only [isI, Bool.and_eq_true, decide_eq_true_eq] at h; exact h.2

/-- Where it ends: behind its begin, and not behind the last token. -/
theorem conR_end (ts : List Tok) (en : Int) : ∀ (f i : Nat) (c : CN) (j : Nat), conR ts en f i = .ok c j → i < j ∧ j ≤ ts.length := by
  intro f
  induction f with
  | zero => intro i c j h; simp [conR] at h
  | succ f ih =>
    intro i c j h
    have hk : ∀ (s m : Nat) (cs : List CN) (j' : Nat), kidsR (conR ts en f) s m = .ok cs j' → s ≤ ts.length → s ≤ j' ∧ j' ≤ ts.length := by
      intro s m
      induction m with
      | zero => intro cs j' h hs; simp only [kidsR, ResL.ok.injEq] at h; omega
      | succ m ihm =>
        intro cs j' h hs
        simp only [kidsR] at h
        cases h1 : kidsR (conR ts en f) s m with
        | bad a => rw [h1] at h; simp at h
        | ok cs1 j1 =>
          rw [h1] at h
          simp only at h
          cases h2 : conR ts en f j1 with
          | bad a => rw [h2] at h; simp at h
          | ok c2 j2 =>
            rw [h2] at h
            simp only [ResL.ok.injEq] at h
            have := ihm cs1 j1 h1 hs
            have := ih j1 c2 j2 h2
            omega
    simp only [conR] at h
    split at h
    · simp at h
    · rename_i h1
      have l1 : i < ts.length := isI_lt (k := 1) (by simpa using h1)
      split at h
      · split at h
        · simp at h
        · simp only [Res.ok.injEq] at h; omega
      · split at h
        · simp only [Res.ok.injEq] at h; omega
        · split at h
          · simp at h
          · rename_i h3
            have l3 : i + 1 < ts.length := isI_lt (k := 3) (by simpa using h3)
            split at h
            · simp at h
            · rename_i h4
              have hs : i + 2 ≤ startI (kindI ts i) i ∧ startI (kindI ts i) i ≤ ts.length := by
                unfold startI
                split
                · rename_i hr
                  have : isI ts 2 (i + 2) = true := by
                    cases hh : isI ts 2 (i + 2)
                    · exact absurd ⟨hr, hh⟩ h4
                    · rfl
                  have := isI_lt this
                  omega
                · omega
              cases h5 : kidsR (conR ts en f) (startI (kindI ts i) i) (kidN (kindI ts i)).toNat with
              | bad a => rw [h5] at h; simp [closeR] at h
              | ok cs1 j1 =>
                rw [h5] at h
                simp only [closeR] at h
                split at h
                · rename_i h6
                  have := isI_lt h6
                  have := hk _ _ _ _ h5 hs.2
                  simp only [Res.ok.injEq] at h
                  omega
                · simp at h

/-- It is no larger than the tokens that it was read off. -/
theorem conR_bulk (ts : List Tok) (en : Int) (hw : ∀ i, (wordI ts i).length ≤ 6) : ∀ (f i : Nat) (c : CN) (j : Nat), conR ts en f i = .ok c j → c.bulk + 1 + 7 * i ≤ 7 * j := by
  intro f
  induction f with
  | zero => intro i c j h; simp [conR] at h
  | succ f ih =>
    intro i c j h
    have hk : ∀ (s m : Nat) (cs : List CN) (j' : Nat), kidsR (conR ts en f) s m = .ok cs j' → bulks cs + 7 * s ≤ 7 * j' := by
      intro s m
      induction m with
      | zero => intro cs j' h; simp only [kidsR, ResL.ok.injEq] at h; rw [← h.1, ← h.2]; simp [bulks]
      | succ m ihm =>
        intro cs j' h
        simp only [kidsR] at h
        cases h1 : kidsR (conR ts en f) s m with
        | bad a => rw [h1] at h; simp at h
        | ok cs1 j1 =>
          rw [h1] at h
          simp only at h
          cases h2 : conR ts en f j1 with
          | bad a => rw [h2] at h; simp at h
          | ok c2 j2 =>
            rw [h2] at h
            simp only [ResL.ok.injEq] at h
            have := ihm cs1 j1 h1
            have := ih j1 c2 j2 h2
            rw [← h.1, ← h.2, bulks_append]
            simp only [bulks]
            omega
    simp only [conR] at h
    split at h
    · simp at h
    · split at h
      · split at h
        · simp at h
        · simp only [Res.ok.injEq] at h
          have := hw i
          rw [← h.1, ← h.2, CN.bulk_eq]
          simp only [CN.name, CN.role, CN.kids, List.length_nil, bulks]
          omega
      · split at h
        · simp only [Res.ok.injEq] at h
          rw [← h.1, ← h.2, CN.bulk_eq]
          simp only [CN.name, CN.role, CN.kids, List.length_nil, bulks]
          omega
        · split at h
          · simp at h
          · split at h
            · simp at h
            · cases h5 : kidsR (conR ts en f) (startI (kindI ts i) i) (kidN (kindI ts i)).toNat with
              | bad a => rw [h5] at h; simp [closeR] at h
              | ok cs1 j1 =>
                rw [h5] at h
                simp only [closeR] at h
                split at h
                · simp only [Res.ok.injEq] at h
                  have h7 := hk _ _ _ _ h5
                  have h8 : (roleI ts (kindI ts i) i).length + 7 * i + 8 ≤ 7 * startI (kindI ts i) i := by
                    unfold roleI startI
                    split
                    · have := hw (i + 2); omega
                    · simp; omega
                  rw [← h.1, ← h.2, CN.bulk_eq]
                  simp only [CN.name, CN.role, CN.kids, List.length_nil]
                  omega
                · simp at h

theorem wholeR_bulk (zs : List Int) (hn : (toks zs).1.length ≤ 1500) : (wholeR zs).1.bulk ≤ 10500 := by
  have hz : CN.zero.bulk ≤ 10500 := by rw [CN.bulk_eq]; simp [CN.zero, CN.name, CN.role, CN.kids, bulks]
  unfold wholeR
  split
  · exact hz
  · cases h : conR (toks zs).1 (zs.length : Nat) 6 0 with
    | bad a => exact hz
    | ok c j =>
      simp only
      split
      · exact hz
      · have h1 := conR_bulk _ _ (toks_short zs) 6 0 c j h
        have h2 := (conR_end _ _ 6 0 c j h).2
        show c.bulk ≤ 10500
        omega
end

end Go.Proofs.YtnmljalcndfjmaaGreat
