/- Several texts in one: ReadM, ConSay, ConSame, OwnT. -/
import Derived.Test.YtckhjoancfbkfaaGreatNG5
import Derived.Test.YtckhjoancfbkfaaGreatNG6
import Derived.Deep.RegionLaw
import Derived.Deep.DeepCutAuto
import Derived.Test.YtckhjoancfbkfaaGreatNG2
import Derived.Deep.RegionWith
namespace Go.Proofs.YtckhjoancfbkfaaGreat

section
/-- What is read and the place behind it; or what is wrong. -/
inductive Res where
  | ok (c : CN) (j : Nat)
  | bad (at' : Int)

inductive ResL where
  | ok (cs : List CN) (j : Nat)
  | bad (at' : Int)

/-- The kind that a word names; 2: none. -/
def kindW (l : List UInt8) : Int :=
  if l = [84, 111, 112] then 0 else if l = [66, 111, 116] then 1 else if l = [78, 111, 116] then 3 else if l = [65, 110, 100] then 4 else if l = [79, 114] then 5 else if l = [83, 111, 109, 101] then 6 else if l = [65, 108, 108] then 7 else 2

theorem kindW_range (l : List UInt8) : kindW l = 0 ∨ kindW l = 1 ∨ kindW l = 2 ∨ kindW l = 3 ∨ kindW l = 4 ∨ kindW l = 5 ∨ kindW l = 6 ∨ kindW l = 7 := by
  unfold kindW
  split
  · simp
  · split
    · simp
    · split
      · simp
      · split
        · simp
        · split
          · simp
          · split
            · simp
            · split <;> simp

def isI (ts : List Tok) (k : Int) (i : Nat) : Bool := decide (i < ts.length) && decide ((ts.getD i Tok.zero).kind = k)
def hereI (ts : List Tok) (en : Int) (i : Nat) : Int := if i < ts.length then (ts.getD i Tok.zero).place else en
def wordI (ts : List Tok) (i : Nat) : List Int := (ts.getD i Tok.zero).text
def kindI (ts : List Tok) (i : Nat) : Int := kindW (strOfNums (wordI ts i)).toList

/-- So many kids, one behind the other. -/
def kidsR (g : Nat → Res) (j : Nat) : Nat → ResL
  | 0 => .ok [] j
  | m + 1 => match kidsR g j m with
    | .bad a => .bad a
    | .ok cs j' => match g j' with
      | .bad a => .bad a
      | .ok c j'' => .ok (cs ++ [c]) j''

/-- The bracket that ends it. -/
def closeR (ts : List Tok) (en : Int) (k : Int) (rl : List Int) : ResL → Res
  | .bad a => .bad a
  | .ok cs j => if isI ts 4 j = true then .ok (.mk k [] rl cs) (j + 1) else .bad (hereI ts en j)

def roleI (ts : List Tok) (k : Int) (i : Nat) : List Int := if roleB k = true then wordI ts (i + 2) else []
def startI (k : Int) (i : Nat) : Nat := if roleB k = true then i + 3 else i + 2

/-- A concept, at most so deep, from the token i on. -/
def conR (ts : List Tok) (en : Int) : Nat → Nat → Res
  | 0, i => .bad (hereI ts en i)
  | f + 1, i =>
    if isI ts 1 i = false then .bad (hereI ts en i)
    else if kindI ts i = 2 then (if keptB (strOfNums (wordI ts i)).toList = true then .bad (hereI ts en i) else .ok (.mk 2 (wordI ts i) [] []) (i + 1))
    else if kidN (kindI ts i) = 0 then .ok (.mk (kindI ts i) [] [] []) (i + 1)
    else if isI ts 3 (i + 1) = false then .bad (hereI ts en (i + 1))
    else if roleB (kindI ts i) = true ∧ isI ts 2 (i + 2) = false then .bad (hereI ts en (i + 2))
    else closeR ts en (kindI ts i) (roleI ts (kindI ts i) i) (kidsR (conR ts en f) (startI (kindI ts i) i) (kidN (kindI ts i)).toNat)

/-- A word of a token is short. -/
theorem toksFrom_short (zs : List Int) : ∀ (f i : Nat) (acc : List Tok), (∀ t ∈ acc, t.text.length ≤ 6) → ∀ t ∈ (toksFrom zs f i acc).1, t.text.length ≤ 6
  | 0, _, acc, h => by simpa [toksFrom] using h
  | f + 1, i, acc, h => by
    rw [toksFrom]
    split
    · split
      · exact toksFrom_short zs f (i + 1) acc h
      · split
        · intro t ht; simp at ht
        · refine toksFrom_short zs f (pend zs i) (acc ++ [tokAt zs i]) (fun t ht => ?_)
          rcases List.mem_append.1 ht with ht | ht
          · exact h t ht
          · simp only [List.mem_singleton] at ht
            subst ht
            have hb : ∀ p : List Int, longB p.length = true → p.length ≤ 6 := fun p hp => by
              simp only [longB, Bool.and_eq_true, decide_eq_true_eq] at hp; exact hp.2
            simp only [tokAt]
            split
            · rename_i hk
              unfold kindOf at hk
              split at hk
              · rename_i hu
                simp only [upOk, Bool.and_eq_true] at hu
                exact hb _ hu.1
              · split at hk
                · rename_i hu
                  simp only [lowOk, Bool.and_eq_true] at hu
                  exact hb _ hu.1
                · split at hk
                  · simp at hk
                  · split at hk <;> simp at hk
            · simp
    · exact h

theorem toks_short (zs : List Int) (i : Nat) : (wordI (toks zs).1 i).length ≤ 6 := by
  have h : ∀ t ∈ (toks zs).1, t.text.length ≤ 6 := by
    unfold toks
    split
    · intro t ht; simp at ht
    · exact toksFrom_short zs _ _ _ (fun t ht => by simp at ht)
  unfold wordI
  by_cases hi : i < (toks zs).1.length
  · have e : (toks zs).1.getD i Tok.zero = (toks zs).1[i] := by simp [List.getD, hi]
    rw [e]
    exact h _ (List.getElem_mem hi)
  · have e : (toks zs).1.getD i Tok.zero = Tok.zero := by simp [List.getD, List.getElem?_eq_none (Nat.le_of_not_lt hi)]
    rw [e]; simp [Tok.zero]

theorem isI_lt {ts : List Tok} {k : Int} {i : Nat} (h : isI ts k i = true) : i < ts.length := by
  simp only [isI, Bool.and_eq_true, decide_eq_true_eq] at h; exact h.1
theorem isI_kind {ts : List Tok} {k : Int} {i : Nat} (h : isI ts k i = true) : (ts.getD i Tok.zero).kind = k := by
  simp only [isI, Bool.and_eq_true, decide_eq_true_eq] at h; exact h.2

/-- Where it ends: behind its begin, and not behind the last token. -/
theorem conR_end (ts : List Tok) (en : Int) : ∀ (f i : Nat) (c : CN) (j : Nat), conR ts en f i = .ok c j → i < j ∧ j ≤ ts.length := by
  intro f
  induction f with
  | zero => intro i c j h; simp [conR] at h
  | succ f ih =>
    intro i c j h
    have hk : ∀ (s m : Nat) (cs : List CN) (j' : Nat), kidsR (conR ts en f) s m = .ok cs j' → s ≤ ts.length → s ≤ j' ∧ j' ≤ ts.length := by
      intro s m
      induction m with
      | zero => intro cs j' h hs; simp only [kidsR, ResL.ok.injEq] at h; omega
      | succ m ihm =>
        intro cs j' h hs
        simp only [kidsR] at h
        cases h1 : kidsR (conR ts en f) s m with
        | bad a => rw [h1] at h; simp at h
        | ok cs1 j1 =>
          rw [h1] at h
          simp only at h
          cases h2 : conR ts en f j1 with
          | bad a => rw [h2] at h; simp at h
          | ok c2 j2 =>
            rw [h2] at h
            simp only [ResL.ok.injEq] at h
            have := ihm cs1 j1 h1 hs
            have := ih j1 c2 j2 h2
            omega
    simp only [conR] at h
    split at h
    · simp at h
    · rename_i h1
      have l1 : i < ts.length := isI_lt (k := 1) (by simpa using h1)
      split at h
      · split at h
        · simp at h
        · simp only [Res.ok.injEq] at h; omega
      · split at h
        · simp only [Res.ok.injEq] at h; omega
        · split at h
          · simp at h
          · rename_i h3
            have l3 : i + 1 < ts.length := isI_lt (k := 3) (by simpa using h3)
            split at h
            · simp at h
            · rename_i h4
              have hs : i + 2 ≤ startI (kindI ts i) i ∧ startI (kindI ts i) i ≤ ts.length := by
                unfold startI
                split
                · rename_i hr
                  have : isI ts 2 (i + 2) = true := by
                    cases hh : isI ts 2 (i + 2)
                    · exact absurd ⟨hr, hh⟩ h4
                    · rfl
                  have := isI_lt this
                  omega
                · omega
              cases h5 : kidsR (conR ts en f) (startI (kindI ts i) i) (kidN (kindI ts i)).toNat with
              | bad a => rw [h5] at h; simp [closeR] at h
              | ok cs1 j1 =>
                rw [h5] at h
                simp only [closeR] at h
                split at h
                · rename_i h6
                  have := isI_lt h6
                  have := hk _ _ _ _ h5 hs.2
                  simp only [Res.ok.injEq] at h
                  omega
                · simp at h

/-- It is no larger than the tokens that it was read off. -/
theorem conR_bulk (ts : List Tok) (en : Int) (hw : ∀ i, (wordI ts i).length ≤ 6) : ∀ (f i : Nat) (c : CN) (j : Nat), conR ts en f i = .ok c j → c.bulk + 1 + 7 * i ≤ 7 * j := by
  intro f
  induction f with
  | zero => intro i c j h; simp [conR] at h
  | succ f ih =>
    intro i c j h
    have hk : ∀ (s m : Nat) (cs : List CN) (j' : Nat), kidsR (conR ts en f) s m = .ok cs j' → bulks cs + 7 * s ≤ 7 * j' := by
      intro s m
      induction m with
      | zero => intro cs j' h; simp only [kidsR, ResL.ok.injEq] at h; rw [← h.1, ← h.2]; simp [bulks]
      | succ m ihm =>
        intro cs j' h
        simp only [kidsR] at h
        cases h1 : kidsR (conR ts en f) s m with
        | bad a => rw [h1] at h; simp at h
        | ok cs1 j1 =>
          rw [h1] at h
          simp only at h
          cases h2 : conR ts en f j1 with
          | bad a => rw [h2] at h; simp at h
          | ok c2 j2 =>
            rw [h2] at h
            simp only [ResL.ok.injEq] at h
            have := ihm cs1 j1 h1
            have := ih j1 c2 j2 h2
            rw [← h.1, ← h.2, bulks_append]
            simp only [bulks]
            omega
    simp only [conR] at h
    split at h
    · simp at h
    · split at h
      · split at h
        · simp at h
        · simp only [Res.ok.injEq] at h
          have := hw i
          rw [← h.1, ← h.2, CN.bulk_eq]
          simp only [CN.name, CN.role, CN.kids, List.length_nil, bulks]
          omega
      · split at h
        · simp only [Res.ok.injEq] at h
          rw [← h.1, ← h.2, CN.bulk_eq]
          simp only [CN.name, CN.role, CN.kids, List.length_nil, bulks]
          omega
        · split at h
          · simp at h
          · split at h
            · simp at h
            · cases h5 : kidsR (conR ts en f) (startI (kindI ts i) i) (kidN (kindI ts i)).toNat with
              | bad a => rw [h5] at h; simp [closeR] at h
              | ok cs1 j1 =>
                rw [h5] at h
                simp only [closeR] at h
                split at h
                · simp only [Res.ok.injEq] at h
                  have h7 := hk _ _ _ _ h5
                  have h8 : (roleI ts (kindI ts i) i).length + 7 * i + 8 ≤ 7 * startI (kindI ts i) i := by
                    unfold roleI startI
                    split
                    · have := hw (i + 2); omega
                    · simp; omega
                  rw [← h.1, ← h.2, CN.bulk_eq]
                  simp only [CN.name, CN.role, CN.kids, List.length_nil]
                  omega
                · simp at h
end

section
open Go.RowKit
end

section
open Go.RowKit

theorem str_inj {xs ys : List Int} (hx : ∀ i, 0 ≤ xs.getD i 0 ∧ xs.getD i 0 ≤ 255) (hy : ∀ i, 0 ≤ ys.getD i 0 ∧ ys.getD i 0 ≤ 255) : ((strOfNums xs).toList == (strOfNums ys).toList) = decide (xs = ys) := by
  have e : ∀ zs : List Int, (strOfNums zs).toList = zs.map (fun n => UInt8.ofNat n.toNat) := fun zs => by rw [ByteArray.toList_eq]; rfl
  rw [e, e]
  by_cases h : xs = ys
  · subst h; simp
  · rw [decide_eq_false h]
    cases hb : (xs.map (fun n : Int => UInt8.ofNat n.toNat) == ys.map (fun n : Int => UInt8.ofNat n.toNat))
    · rfl
    · refine absurd ?_ h
      have hb' := eq_of_beq hb
      have hl : xs.length = ys.length := by have := congrArg List.length hb'; simpa using this
      refine List.ext_getElem hl (fun i h1 h2 => ?_)
      have hi := congrArg (fun l => l[i]?) hb'
      simp only [List.getElem?_map, List.getElem?_eq_getElem h1, List.getElem?_eq_getElem h2, Option.map_some, Option.some.injEq] at hi
      have a1 := hx i
      have a2 := hy i
      simp only [List.getD, List.getElem?_eq_getElem h1, List.getElem?_eq_getElem h2, Option.getD_some] at a1 a2
      have hi' := congrArg UInt8.toNat hi
      simp only [UInt8.toNat_ofNat'] at hi'
      omega
end

section
open Go.RowKit

/-- The value of a token's text, its row's block and capacity being g. -/
def txv (t : Tok) (g : Nat × Nat) : Value := if t.text = [] then .slice none 0 0 else .slice (some ⟨g.1, 0, none⟩) t.text.length g.2

def flatT : List Tok → List (Nat × Nat) → List Value
  | t :: ts, g :: gs => .int .i64 t.kind :: .int .i64 t.place :: txv t g :: flatT ts gs
  | _, _ => []

theorem flatT_snoc : ∀ (ts : List Tok) (gs : List (Nat × Nat)) (t : Tok) (g : Nat × Nat), gs.length = ts.length → flatT (ts ++ [t]) (gs ++ [g]) = flatT ts gs ++ [.int .i64 t.kind, .int .i64 t.place, txv t g]
  | [], [], t, g, _ => rfl
  | [], _ :: _, _, _, h => by simp at h
  | _ :: _, [], _, _, h => by simp at h
  | t0 :: ts, g0 :: gs, t, g, h => by
    simp only [List.cons_append, flatT]
    rw [flatT_snoc ts gs t g (by simpa using h)]

theorem flatT_get : ∀ (ts : List Tok) (gs : List (Nat × Nat)) (i : Nat), gs.length = ts.length → i < ts.length →
    (flatT ts gs)[i * 3]? = some (.int .i64 (ts.getD i Tok.zero).kind) ∧ (flatT ts gs)[i * 3 + 1]? = some (.int .i64 (ts.getD i Tok.zero).place) ∧ (flatT ts gs)[i * 3 + 2]? = some (txv (ts.getD i Tok.zero) (gs.getD i (0, 0)))
  | [], _, _, _, hi => by simp at hi
  | _ :: _, [], _, h, _ => by simp at h
  | t0 :: ts, g0 :: gs, 0, _, _ => by simp [flatT]
  | t0 :: ts, g0 :: gs, i + 1, h, hi => by
    obtain ⟨h0, h1, h2⟩ := flatT_get ts gs i (by simpa using h) (by simpa using hi)
    have e : (i + 1) * 3 = i * 3 + 1 + 1 + 1 := by omega
    have e1 : (i + 1) * 3 + 1 = i * 3 + 1 + 1 + 1 + 1 := by omega
    have e2 : (i + 1) * 3 + 2 = i * 3 + 2 + 1 + 1 + 1 := by omega
    refine ⟨?_, ?_, ?_⟩
    · rw [e]; simpa [flatT] using h0
    · rw [e1]; simpa [flatT] using h1
    · rw [e2]; simpa [flatT] using h2

structure OwnT (base : Nat) (w : World) (v : Value) (ts : List Tok) (gs : List (Nat × Nat)) : Prop where
  len : gs.length = ts.length
  row : w.ownsRow base 134 3 v ts.length (flatT ts gs)
  txt : ∀ i, i < ts.length → (ts.getD i Tok.zero).text ≠ [] → base ≤ (gs.getD i (0, 0)).1 ∧ Row w (gs.getD i (0, 0)).1 (gs.getD i (0, 0)).2 (ts.getD i Tok.zero).text ∧ (gs.getD i (0, 0)).2 ≤ 9223372036854775807
  byte : ∀ i, i < ts.length → ∀ j, 0 ≤ (ts.getD i Tok.zero).text.getD j 0 ∧ (ts.getD i Tok.zero).text.getD j 0 ≤ 255
  dist : ∀ i j, i < j → j < ts.length → (ts.getD i Tok.zero).text ≠ [] → (ts.getD j Tok.zero).text ≠ [] → (gs.getD i (0, 0)).1 ≠ (gs.getD j (0, 0)).1

theorem OwnT.nil (base : Nat) (w : World) : OwnT base w (.slice none 0 0) [] [] :=
  ⟨rfl, World.ownsRow_nil _ _ _ _, fun i hi => by simp at hi, fun i hi => by simp at hi, fun i j _ hj => by simp at hj⟩

theorem owns_of_blocks {w w' : World} {base e size n : Nat} {v : Value} {xs : List Value} (h : w.ownsRow base e size v n xs) (hs : ∀ g, g < w.heap.size → w'.heap[g]? = w.heap[g]?) : w'.ownsRow base e size v n xs := by
  obtain ⟨h1, h2⟩ := h
  refine ⟨h1, ?_⟩
  rcases h2 with h2 | ⟨g, cap, cur, hv, hg, hh, r⟩
  · exact .inl h2
  · exact .inr ⟨g, cap, cur, hv, hg, by rw [hs g (Array.getElem?_eq_some_iff.1 hh).1]; exact hh, r⟩

theorem OwnT.below {base : Nat} {w w' : World} {v : Value} {ts : List Tok} {gs : List (Nat × Nat)} (h : OwnT base w v ts gs) (hb : Below w.heap.size w w') : OwnT base w' v ts gs := by
  obtain ⟨h1, h2, h3, h4, h5⟩ := h
  exact ⟨h1, owns_of_blocks h2 (fun g hg => hb.block g hg), fun i hi ht => ⟨(h3 i hi ht).1, (h3 i hi ht).2.1.below hb (h3 i hi ht).2.1.lt, (h3 i hi ht).2.2⟩, h4, h5⟩

theorem getD_snoc_lt {α : Type} (l : List α) (x d : α) (i : Nat) (h : i < l.length) : (l ++ [x]).getD i d = l.getD i d := by rw [List.getD, List.getElem?_append_left h, List.getD]
theorem getD_snoc_eq {α : Type} (l : List α) (x d : α) : (l ++ [x]).getD l.length d = x := by simp [List.getD]

/-- One token more. -/
theorem OwnT.snoc {base : Nat} {w w1 : World} {v v' : Value} {ts : List Tok} {gs : List (Nat × Nat)} (h : OwnT base w v ts gs) (t : Tok) (g : Nat × Nat)
    (ht : t.text ≠ [] → base ≤ g.1 ∧ Row w g.1 g.2 t.text ∧ g.2 ≤ 9223372036854775807) (hby : ∀ j, 0 ≤ t.text.getD j 0 ∧ t.text.getD j 0 ≤ 255)
    (hd : t.text ≠ [] → ∀ i, i < ts.length → (ts.getD i Tok.zero).text ≠ [] → (gs.getD i (0, 0)).1 ≠ g.1)
    (hown : w1.ownsRow base 134 3 v' (ts.length + 1) (flatT ts gs ++ [.int .i64 t.kind, .int .i64 t.place, txv t g])) (hgrow : w.grownBy w1 v.ownBlock) : OwnT base w1 v' (ts ++ [t]) (gs ++ [g]) := by
  obtain ⟨h1, h2, h3, h4, h5⟩ := h
  have keep : ∀ x c zs, Row w x c zs → Row w1 x c zs := by
    intro x c zs hr
    refine hr.of_block (hgrow.block x hr.lt (fun e => ?_))
    obtain ⟨c', hc', _⟩ := hr
    rcases h2.2 with ⟨rfl, _⟩ | ⟨g', cap, cur, rfl, _, hh, _⟩
    · simp [Value.ownBlock] at e
    · simp [Value.ownBlock] at e
      rw [e, hh] at hc'
      simp at hc'
  refine ⟨by simp [h1], ?_, ?_, ?_, ?_⟩
  · rw [flatT_snoc ts gs t g h1]; simpa using hown
  · intro i hi hne
    simp only [List.length_append, List.length_cons, List.length_nil] at hi
    by_cases e : i < ts.length
    · rw [getD_snoc_lt _ _ _ _ e] at hne ⊢
      rw [getD_snoc_lt _ _ _ _ (by omega)]
      exact ⟨(h3 i e hne).1, keep _ _ _ (h3 i e hne).2.1, (h3 i e hne).2.2⟩
    · have e' : i = ts.length := by omega
      subst e'
      rw [getD_snoc_eq] at hne ⊢
      rw [← h1, getD_snoc_eq]
      exact ⟨(ht hne).1, keep _ _ _ (ht hne).2.1, (ht hne).2.2⟩
  · intro i hi
    simp only [List.length_append, List.length_cons, List.length_nil] at hi
    by_cases e : i < ts.length
    · rw [getD_snoc_lt _ _ _ _ e]; exact h4 i e
    · have e' : i = ts.length := by omega
      subst e'
      rw [getD_snoc_eq]; exact hby
  · intro i j hij hj hni hnj
    simp only [List.length_append, List.length_cons, List.length_nil] at hj
    rw [getD_snoc_lt _ _ _ _ (by omega)] at hni
    rw [getD_snoc_lt _ _ _ i (by omega)]
    by_cases e : j < ts.length
    · rw [getD_snoc_lt _ _ _ _ e] at hnj
      rw [getD_snoc_lt _ _ _ _ (by omega)]
      exact h5 i j hij e hni hnj
    · have e' : j = ts.length := by omega
      subst e'
      rw [getD_snoc_eq] at hnj
      rw [← h1, getD_snoc_eq]
      exact hd hnj i (by omega) hni

/-- Where the texts lie. -/
def txOf (ts : List Tok) (gs : List (Nat × Nat)) (i : Nat) : Nat × Nat × Nat := ((gs.getD i (0, 0)).1, 0, (ts.getD i Tok.zero).text.length)

theorem txv_nil {t : Tok} (g : Nat × Nat) (h : t.text = []) : txv t g = .slice none 0 0 := by unfold txv; rw [if_pos h]
theorem txv_cons {t : Tok} (g : Nat × Nat) (h : t.text ≠ []) : txv t g = .slice (some ⟨g.1, 0, none⟩) t.text.length g.2 := by unfold txv; rw [if_neg h]

theorem txv_form (t : Tok) (g : Nat × Nat) : ∃ a c, txv t g = .slice a t.text.length c := by
  unfold txv
  split
  · rename_i h; exact ⟨none, 0, by rw [h]; rfl⟩
  · exact ⟨_, _, rfl⟩

theorem OwnT.rd {base : Nat} {w : World} {v : Value} {ts : List Tok} {gs : List (Nat × Nat)} (h : OwnT base w v ts gs) :
    ∃ a cap, v = .slice a ts.length cap ∧ RdT base w.heap.size w a ts.length cap ts := by
  obtain ⟨h1, h2, h3, h4, h5⟩ := h
  rcases h2.2 with ⟨hv, h0⟩ | ⟨g, cap, cur, hv, hg, hh, hc1, hc2, hc3, hc4⟩
  · exact ⟨none, 0, by rw [hv, h0], ⟨rfl, ⟨by omega, by omega⟩, .inl h0⟩⟩
  · subst hv
    unfold maxLen at hc2
    refine ⟨_, _, rfl, ⟨rfl, ⟨hc1, hc2⟩, .inr ⟨g, 0, rfl, hg, (Array.getElem?_eq_some_iff.1 hh).1, fun i hi => ?_⟩⟩⟩
    obtain ⟨f0, f1, f2⟩ := flatT_get ts gs i h1 hi
    simp only [Nat.zero_add]
    rw [h2.cellAt (i * 3) (by omega), h2.cellAt (i * 3 + 1) (by omega), h2.cellAt (i * 3 + 2) (by omega), f0, f1, f2]
    by_cases ht : (ts.getD i Tok.zero).text = []
    · refine ⟨none, 0, 0, rfl, rfl, by rw [txv_nil _ ht], ?_⟩
      rw [ht]; exact Rd.none_of (by omega)
    · obtain ⟨t1, t2, t3⟩ := h3 i hi ht
      exact ⟨_, _, _, rfl, rfl, by rw [txv_cons _ ht], t2.rd rfl (h4 i hi) t3 t1 t2.lt⟩

theorem mem_leafT {b off : Nat} {tx : Nat → Nat × Nat × Nat} {n : Nat} {x : Addr × IntKind} (h : x ∈ leafT b off tx n) :
    ∃ i, i < n ∧ (x = (⟨b, off + i * 3, none⟩, .i64) ∨ x = (⟨b, off + i * 3 + 1, none⟩, .i64) ∨ ∃ j, j < (tx i).2.2 ∧ x = (⟨(tx i).1, (tx i).2.1 + j, none⟩, .u8)) := by
  simp only [leafT, List.mem_flatMap, List.mem_range, List.mem_cons, leafB, List.mem_map] at h
  obtain ⟨i, hi, h⟩ := h
  refine ⟨i, hi, ?_⟩
  rcases h with h | h | ⟨j, hj, h⟩
  · exact .inl h
  · exact .inr (.inl h)
  · exact .inr (.inr ⟨j, hj, h.symm⟩)

/-- Its cells can be marked, one by one: they are there, may be written, and are each another. -/
theorem OwnT.leaf {base : Nat} {w : World} {v : Value} {ts : List Tok} {gs : List (Nat × Nat)} (h : OwnT base w v ts gs) (hlen : ∀ i, (ts.getD i Tok.zero).text.length ≤ 1048576) :
    ∃ a cap b, v = .slice a ts.length cap ∧ (ts.length = 0 ∨ a = some ⟨b, 0, none⟩) ∧ HeadT w b 0 (txOf ts gs) ts.length ∧ LeafOk w (leafT b 0 (txOf ts gs) ts.length) ∧
      ((leafT b 0 (txOf ts gs) ts.length).map (·.1)).Nodup ∧ ∀ x ∈ leafT b 0 (txOf ts gs) ts.length, base ≤ x.1.block ∧ x.1.block < w.heap.size := by
  obtain ⟨h1, h2, h3, h4, h5⟩ := h
  rcases h2.2 with ⟨hv, h0⟩ | ⟨g, cap, cur, hv, hg, hh, hc1, hc2, hc3, hc4⟩
  · refine ⟨none, 0, 0, by rw [hv, h0], .inl h0, ?_, ?_, ?_, ?_⟩
    · intro i hi; omega
    · rw [h0]; intro x hx; simp [leafT] at hx
    · rw [h0]; simp [leafT]
    · rw [h0]; intro x hx; simp [leafT] at hx
  · subst hv
    have hgs := (Array.getElem?_eq_some_iff.1 hh).1
    have hcell : ∀ i, i < ts.length → w.cell? ⟨g, i * 3, none⟩ = some (.int .i64 (ts.getD i Tok.zero).kind) ∧ w.cell? ⟨g, i * 3 + 1, none⟩ = some (.int .i64 (ts.getD i Tok.zero).place) ∧ w.cell? ⟨g, i * 3 + 2, none⟩ = some (txv (ts.getD i Tok.zero) (gs.getD i (0, 0))) := by
      intro i hi
      obtain ⟨f0, f1, f2⟩ := flatT_get ts gs i h1 hi
      rw [h2.cellAt (i * 3) (by omega), h2.cellAt (i * 3 + 1) (by omega), h2.cellAt (i * 3 + 2) (by omega)]
      exact ⟨f0, f1, f2⟩
    have hne : ∀ i, i < ts.length → (ts.getD i Tok.zero).text ≠ [] → (gs.getD i (0, 0)).1 ≠ g := by
      intro i hi ht e
      obtain ⟨_, ⟨c, hc, _⟩, _⟩ := h3 i hi ht
      rw [e, hh] at hc
      simp at hc
    have hpos : ∀ i j, j < (txOf ts gs i).2.2 → (ts.getD i Tok.zero).text ≠ [] := by
      intro i j hj e
      simp only [txOf] at hj
      rw [e] at hj
      simp at hj
    refine ⟨_, _, g, rfl, .inr rfl, ?_, ?_, ?_, ?_⟩
    · intro i hi
      simp only [Nat.zero_add]
      by_cases ht : (ts.getD i Tok.zero).text = []
      · refine ⟨none, 0, ?_, .inl (by simp only [txOf]; rw [ht]; rfl), hlen i⟩
        rw [(hcell i hi).2.2, txv_nil _ ht]; simp only [txOf]; rw [ht]; rfl
      · exact ⟨_, _, by rw [(hcell i hi).2.2, txv_cons _ ht]; rfl, .inr rfl, hlen i⟩
    · intro x hx
      obtain ⟨i, hi, e | e | ⟨j, hj, e⟩⟩ := mem_leafT hx
      · subst e; simp only [Nat.zero_add]
        exact ⟨⟨_, (hcell i hi).1⟩, h2.frozenAt _⟩
      · subst e; simp only [Nat.zero_add]
        exact ⟨⟨_, (hcell i hi).2.1⟩, h2.frozenAt _⟩
      · subst e
        obtain ⟨_, hr, _⟩ := h3 i hi (hpos i j hj)
        simp only [txOf, Nat.zero_add] at hj ⊢
        exact ⟨⟨_, hr.cell hj⟩, hr.frozen _⟩
    · have key : ∀ n, n ≤ ts.length → ((leafT g 0 (txOf ts gs) n).map (·.1)).Nodup := by
        intro n
        induction n with
        | zero => intro _; simp [leafT]
        | succ n ih =>
          intro hn
          rw [leafT_succ, List.map_append, List.nodup_append]
          refine ⟨ih (by omega), ?_, ?_⟩
          · simp only [List.map_cons, List.nodup_cons, leafB, List.map_map, List.mem_cons, List.mem_map, List.mem_range, Function.comp]
            refine ⟨?_, ?_, ?_⟩
            · rintro (h | ⟨j, hj, h⟩)
              · simp at h
              · simp only [Addr.mk.injEq] at h
                exact hne n (by omega) (hpos n j hj) h.1
            · rintro ⟨j, hj, h⟩
              simp only [Addr.mk.injEq] at h
              exact hne n (by omega) (hpos n j hj) h.1
            · rw [List.nodup_iff_pairwise_ne, List.pairwise_iff_getElem]
              intro i j hi hj hij
              simp <;> omega
          · intro p hp q hq e
            subst e
            simp only [List.mem_map] at hp hq
            obtain ⟨x, hx, rfl⟩ := hp
            obtain ⟨y, hy, hxy⟩ := hq
            obtain ⟨i, hi, hx⟩ := mem_leafT hx
            simp only [List.mem_cons, leafB, List.mem_map, List.mem_range] at hy
            rcases hx with rfl | rfl | ⟨j, hj, rfl⟩ <;> rcases hy with rfl | rfl | ⟨j', hj', rfl⟩ <;> simp only [Addr.mk.injEq] at hxy
            · omega
            · omega
            · exact hne n (by omega) (hpos n j' hj') hxy.1
            · omega
            · omega
            · exact hne n (by omega) (hpos n j' hj') hxy.1
            · exact hne i (by omega) (hpos i j hj) hxy.1.symm
            · exact hne i (by omega) (hpos i j hj) hxy.1.symm
            · exact h5 i n hi (by omega) (hpos i j hj) (hpos n j' hj') hxy.1.symm
      exact key _ (Nat.le_refl _)
    · intro x hx
      obtain ⟨i, hi, e | e | ⟨j, hj, e⟩⟩ := mem_leafT hx
      · subst e; exact ⟨hg, hgs⟩
      · subst e; exact ⟨hg, hgs⟩
      · subst e
        obtain ⟨hb, hr, _⟩ := h3 i hi (hpos i j hj)
        exact ⟨hb, hr.lt⟩
end

end Go.Proofs.YtckhjoancfbkfaaGreat
