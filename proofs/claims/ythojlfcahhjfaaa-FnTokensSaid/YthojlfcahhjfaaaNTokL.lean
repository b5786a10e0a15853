/- Several texts in one: TokBack, TokNil. -/
import Derived.Test.YthojlfcahhjfaaaTTMath
import Derived.Test.YthojlfcahhjfaaaTokFin
import Derived.Test.YthojlfcahhjfaaaConMem
namespace Go.Proofs.Ythojlfcahhjfaaa

section
open Go.RowKit

/-- A token that a text may give: a word of its kind, or a bracket. -/
def TkGood (t : Tok) : Prop := (t.kind = 1 ∧ upOk t.text = true) ∨ (t.kind = 2 ∧ lowOk t.text = true) ∨ (t.kind = 3 ∧ t.text = []) ∨ (t.kind = 4 ∧ t.text = [])

theorem low_not_up {p : List Int} (h : lowOk p = true) : upOk p = false := by
  cases hu : upOk p
  · rfl
  · exfalso
    have hb : upB (p.getD 0 0) = true := by simp only [upOk, Bool.and_eq_true] at hu; exact hu.2.1
    simp only [lowOk, longB, Bool.and_eq_true, decide_eq_true_eq] at h
    obtain ⟨⟨h1, _⟩, h2⟩ := h
    have hm := List.all_eq_true.1 h2 (p.getD 0 0) (by
      simp only [List.getD]
      rw [List.getElem?_eq_getElem (by omega)]
      simp)
    generalize p.getD 0 0 = c at hm hb
    simp only [lowB, upB, Bool.and_eq_true, decide_eq_true_eq] at hm hb
    omega

theorem kindOf_good (p : List Int) (h : kindOf p ≠ 0) : TkGood ⟨kindOf p, 0, if kindOf p = 1 ∨ kindOf p = 2 then p else []⟩ := by
  unfold kindOf at h ⊢
  split
  · rename_i hu; exact .inl ⟨rfl, by simpa using hu⟩
  · split
    · rename_i hu; exact .inr (.inl ⟨rfl, by simpa using hu⟩)
    · split
      · exact .inr (.inr (.inl ⟨rfl, by simp⟩))
      · split
        · exact .inr (.inr (.inr ⟨rfl, by simp⟩))
        · rename_i h1 h2 h3 h4
          rw [if_neg h1, if_neg h2, if_neg h3, if_neg h4] at h
          exact absurd rfl h

/-- Its word stands at its place. -/
def TkAt (zs : List Int) (t : Tok) : Prop := t.text ≠ [] → ∃ i : Nat, t.place = (i : Int) ∧ i + t.text.length ≤ zs.length ∧ t.text = (zs.drop i).take t.text.length

theorem tokAt_at (zs : List Int) (i : Nat) (hi : i < zs.length) : TkAt zs (tokAt zs i) := by
  intro hne
  simp only [tokAt] at hne ⊢
  split at hne
  · rename_i hk
    rw [if_pos hk]
    have h1 := piece_length zs i hi
    have h2 := pend_le zs i hi
    have h3 := pend_gt zs i
    refine ⟨i, rfl, by omega, ?_⟩
    rw [h1]
    rfl
  · exact absurd rfl hne

theorem toksFrom_good (zs : List Int) : ∀ (f i : Nat) (acc : List Tok), (∀ t ∈ acc, TkGood t ∧ TkAt zs t) → ∀ t ∈ (toksFrom zs f i acc).1, TkGood t ∧ TkAt zs t
  | 0, _, acc, h => by simpa [toksFrom] using h
  | f + 1, i, acc, h => by
    rw [toksFrom]
    split
    · rename_i hi
      split
      · exact toksFrom_good zs f (i + 1) acc h
      · split
        · intro t ht; simp at ht
        · rename_i hk
          refine toksFrom_good zs f (pend zs i) (acc ++ [tokAt zs i]) (fun t ht => ?_)
          rcases List.mem_append.1 ht with ht | ht
          · exact h t ht
          · simp only [List.mem_singleton] at ht
            subst ht
            exact ⟨kindOf_good _ hk, tokAt_at zs i hi⟩
    · exact h

theorem toks_good (zs : List Int) : ∀ t ∈ (toks zs).1, TkGood t ∧ TkAt zs t := by
  unfold toks
  split
  · intro t ht; simp at ht
  · exact toksFrom_good zs _ _ _ (fun t ht => by simp at ht)

theorem good_piece {t : Tok} (h : TkGood t) : tokPiece t ≠ [] ∧ kindOf (tokPiece t) = t.kind ∧ (if kindOf (tokPiece t) = 1 ∨ kindOf (tokPiece t) = 2 then tokPiece t else []) = t.text := by
  have e40 : upOk [40] = false ∧ lowOk [40] = false := by decide
  have e41 : upOk [41] = false ∧ lowOk [41] = false := by decide
  rcases h with ⟨h1, h2⟩ | ⟨h1, h2⟩ | ⟨h1, h2⟩ | ⟨h1, h2⟩
  · have hp : tokPiece t = t.text := by unfold tokPiece; rw [if_neg (by omega), if_neg (by omega), if_pos h1, if_pos h2]
    have hk : kindOf t.text = 1 := by unfold kindOf; rw [if_pos h2]
    rw [hp, hk, h1]
    refine ⟨fun e => ?_, rfl, by simp⟩
    rw [e] at h2
    exact absurd h2 (by decide)
  · have hp : tokPiece t = t.text := by unfold tokPiece; rw [if_neg (by omega), if_neg (by omega), if_neg (by omega), if_pos h1, if_pos h2]
    have hk : kindOf t.text = 2 := by unfold kindOf; rw [if_neg (by rw [low_not_up h2]; simp), if_pos h2]
    rw [hp, hk, h1]
    refine ⟨fun e => ?_, rfl, by simp⟩
    rw [e] at h2
    exact absurd h2 (by decide)
  · have hp : tokPiece t = [40] := by unfold tokPiece; rw [if_pos h1, if_pos h2]
    have hk : kindOf [40] = 3 := kind_open
    rw [hp, hk, h1, h2]
    exact ⟨by simp, rfl, by simp⟩
  · have hp : tokPiece t = [41] := by unfold tokPiece; rw [if_neg (by omega), if_pos h1, if_pos h2]
    have hk : kindOf [41] = 4 := kind_close
    rw [hp, hk, h1, h2]
    exact ⟨by simp, rfl, by simp⟩

/-- What is written from the token k on. -/
def restT : Nat → List Tok → List Int
  | _, [] => []
  | k, t :: r => gapT k ++ (tokPiece t ++ restT (k + 1) r)

theorem restT_snoc (r : List Tok) (t : Tok) : ∀ k, restT k (r ++ [t]) = restT k r ++ (gapT (k + r.length) ++ tokPiece t) := by
  induction r with
  | nil => intro k; simp [restT]
  | cons x r ih =>
    intro k
    simp only [List.cons_append, restT, ih (k + 1), List.length_cons]
    rw [show k + 1 + r.length = k + (r.length + 1) by omega]
    simp

theorem txtTo_rest (ts : List Tok) : ∀ k, k ≤ ts.length → txtTo ts k = restT 0 (ts.take k)
  | 0, _ => by simp [txtTo, restT]
  | k + 1, h => by
    rw [take_succ_getD ts Tok.zero k h, restT_snoc, txtTo, txtTo_rest ts k (by omega), List.length_take]
    rw [show 0 + min k ts.length = k by omega]
    simp

theorem takeWhile_app {p : Int → Bool} : ∀ (a b : List Int), a.all p = true → (b = [] ∨ ∃ x r, b = x :: r ∧ p x = false) → (a ++ b).takeWhile p = a
  | [], b, _, h => by
    rcases h with rfl | ⟨x, r, rfl, hx⟩
    · rfl
    · simp [hx]
  | y :: a, b, ha, h => by
    simp only [List.all_cons, Bool.and_eq_true] at ha
    simp only [List.cons_append, List.takeWhile_cons, ha.1, if_true]
    rw [takeWhile_app a b ha.2 h]

/-- A piece that stands behind anything and ahead of a blank or nothing. -/
theorem piece_in {t : Tok} (h : TkGood t) (pre R : List Int) (hR : R = [] ∨ ∃ r, R = 32 :: r) :
    pre.length < (pre ++ (tokPiece t ++ R)).length ∧ blankB ((pre ++ (tokPiece t ++ R)).getD pre.length 0) = false ∧ pend (pre ++ (tokPiece t ++ R)) pre.length = pre.length + (tokPiece t).length ∧ piece (pre ++ (tokPiece t ++ R)) pre.length = tokPiece t := by
  obtain ⟨hne, _, _⟩ := good_piece h
  obtain ⟨c, q, hcq⟩ : ∃ c q, tokPiece t = c :: q := by
    cases hp : tokPiece t with
    | nil => exact absurd hp hne
    | cons c q => exact ⟨c, q, rfl⟩
  have hget : (pre ++ (tokPiece t ++ R)).getD pre.length 0 = c := by rw [hcq]; simp [List.getD]
  have hdrop : (pre ++ (tokPiece t ++ R)).drop (pre.length + 1) = q ++ R := by
    rw [hcq, ← List.drop_drop]; simp
  have hR' : R = [] ∨ ∃ x r, R = x :: r ∧ lowB x = false := by
    rcases hR with h | ⟨r, h⟩
    · exact .inl h
    · exact .inr ⟨32, r, h, by decide⟩
  have hlen : (tokPiece t).length = q.length + 1 := by rw [hcq]; rfl
  have hpd : blankB c = false ∧ pend (pre ++ (tokPiece t ++ R)) pre.length = pre.length + (tokPiece t).length := by
    unfold pend
    rw [hget]
    have word : ∀ (hc : ¬ (c = 40 ∨ c = 41)) (hq : q.all lowB = true), (if c = 40 ∨ c = 41 then pre.length + 1 else pre.length + 1 + runLow (pre ++ (tokPiece t ++ R)) (pre.length + 1)) = pre.length + (tokPiece t).length := by
      intro hc hq
      rw [if_neg hc]
      unfold runLow
      rw [hdrop, takeWhile_app q R hq hR', hlen]
      omega
    rcases h with ⟨h1, h2⟩ | ⟨h1, h2⟩ | ⟨h1, h2⟩ | ⟨h1, h2⟩
    · have hp : tokPiece t = t.text := by unfold tokPiece; rw [if_neg (by omega), if_neg (by omega), if_pos h1, if_pos h2]
      rw [← hp, hcq] at h2
      simp only [upOk, Bool.and_eq_true, List.getD_cons_zero, List.drop_succ_cons, List.drop_zero] at h2
      obtain ⟨_, h3, h4⟩ := h2
      have hc : 65 ≤ c ∧ c ≤ 90 := by simpa [upB] using h3
      exact ⟨by simp [blankB]; omega, word (by omega) h4⟩
    · have hp : tokPiece t = t.text := by unfold tokPiece; rw [if_neg (by omega), if_neg (by omega), if_neg (by omega), if_pos h1, if_pos h2]
      rw [← hp, hcq] at h2
      simp only [lowOk, Bool.and_eq_true, List.all_cons] at h2
      obtain ⟨_, h3, h4⟩ := h2
      have hc : 97 ≤ c ∧ c ≤ 122 := by simpa [lowB] using h3
      exact ⟨by simp [blankB]; omega, word (by omega) h4⟩
    · have hp : tokPiece t = [40] := by unfold tokPiece; rw [if_pos h1, if_pos h2]
      rw [hp] at hcq
      simp only [List.cons.injEq] at hcq
      rw [← hcq.1, hp]
      exact ⟨by decide, by simp⟩
    · have hp : tokPiece t = [41] := by unfold tokPiece; rw [if_neg (by omega), if_pos h1, if_pos h2]
      rw [hp] at hcq
      simp only [List.cons.injEq] at hcq
      rw [← hcq.1, hp]
      exact ⟨by decide, by simp⟩
  refine ⟨by simp; omega, by rw [hget]; exact hpd.1, hpd.2, ?_⟩
  unfold piece
  rw [hpd.2, show pre.length + (tokPiece t).length - pre.length = (tokPiece t).length by omega]
  simp

theorem toksFrom_back : ∀ (ts : List Tok) (k : Nat) (pre : List Int) (f : Nat) (acc : List Tok), (∀ t ∈ ts, TkGood t) → (restT k ts).length + 1 ≤ f →
    ∃ ms : List Tok, toksFrom (pre ++ restT k ts) f pre.length acc = (acc ++ ms, -1) ∧ ms.length = ts.length ∧ ∀ i, i < ts.length → (ms.getD i Tok.zero).kind = (ts.getD i Tok.zero).kind ∧ (ms.getD i Tok.zero).text = (ts.getD i Tok.zero).text := by
  intro ts
  induction ts with
  | nil =>
    intro k pre f acc _ _
    refine ⟨[], ?_, rfl, fun i hi => by simp at hi⟩
    rw [toksFrom_stop _ _ _ _ (by simp [restT])]
    simp
  | cons t r ih =>
    intro k pre f acc hg hf
    have step : ∀ (pre' : List Int) (f' : Nat), (tokPiece t ++ restT (k + 1) r).length + 1 ≤ f' → ∃ ms : List Tok, toksFrom (pre' ++ (tokPiece t ++ restT (k + 1) r)) f' pre'.length acc = (acc ++ ms, -1) ∧ ms.length = (t :: r).length ∧ ∀ i, i < (t :: r).length → (ms.getD i Tok.zero).kind = ((t :: r).getD i Tok.zero).kind ∧ (ms.getD i Tok.zero).text = ((t :: r).getD i Tok.zero).text := by
      intro pre' f' hf'
      have hR : restT (k + 1) r = [] ∨ ∃ x, restT (k + 1) r = 32 :: x := by
        cases r with
        | nil => exact .inl rfl
        | cons y r' => exact .inr ⟨_, by simp [restT, gapT]; rfl⟩
      obtain ⟨h1, h2, h3, h4⟩ := piece_in (hg t (by simp)) pre' (restT (k + 1) r) hR
      obtain ⟨hne, hk, ht⟩ := good_piece (hg t (by simp))
      have hk0 : kindOf (piece (pre' ++ (tokPiece t ++ restT (k + 1) r)) pre'.length) ≠ 0 := by
        rw [h4, hk]
        rcases hg t (by simp) with h | h | h | h <;> rw [h.1] <;> omega
      cases f' with
      | zero => omega
      | succ f' =>
        rw [toksFrom_tok _ _ _ _ h1 h2 hk0, h3]
        have hpl : 1 ≤ (tokPiece t).length := by cases hp : tokPiece t with | nil => exact absurd hp hne | cons _ _ => simp
        obtain ⟨ms, e1, e2, e3⟩ := ih (k + 1) (pre' ++ tokPiece t) f' (acc ++ [tokAt (pre' ++ (tokPiece t ++ restT (k + 1) r)) pre'.length]) (fun x hx => hg x (by simp [hx])) (by simp only [List.length_append] at hf'; omega)
        rw [List.length_append, List.append_assoc] at e1
        refine ⟨tokAt (pre' ++ (tokPiece t ++ restT (k + 1) r)) pre'.length :: ms, by rw [e1]; simp, by simp [e2], fun i hi => ?_⟩
        cases i with
        | zero =>
          simp only [List.getD_cons_zero, tokAt]
          rw [h4]
          exact ⟨hk, ht⟩
        | succ i =>
          simp only [List.getD_cons_succ]
          exact e3 i (by simpa using hi)
    by_cases hk : k = 0
    · subst hk
      have e : restT 0 (t :: r) = tokPiece t ++ restT (0 + 1) r := by simp [restT, gapT]
      rw [e] at hf ⊢
      exact step pre f hf
    · have e : restT k (t :: r) = 32 :: (tokPiece t ++ restT (k + 1) r) := by
        have : gapT k = [32] := by unfold gapT; simp; omega
        simp [restT, this]
      rw [e] at hf ⊢
      cases f with
      | zero => omega
      | succ f =>
        have hb : blankB ((pre ++ 32 :: (tokPiece t ++ restT (k + 1) r)).getD pre.length 0) = true := by simp [List.getD, blankB]
        rw [toksFrom_blank _ _ _ _ (by simp) hb]
        have := step (pre ++ [32]) f (by simp only [List.length_cons] at hf; omega)
        rw [List.length_append, List.append_assoc] at this
        exact this

/-- The tokens of the text of tokens. -/
theorem toks_back (ts : List Tok) (hg : ∀ t ∈ ts, TkGood t) (hn : ts.length ≤ 1500) (hl : (tokText ts).length ≤ 1500) :
    (toks (tokText ts)).2 = -1 ∧ (toks (tokText ts)).1.length = ts.length ∧ ∀ i, i < ts.length → ((toks (tokText ts)).1.getD i Tok.zero).kind = (ts.getD i Tok.zero).kind ∧ ((toks (tokText ts)).1.getD i Tok.zero).text = (ts.getD i Tok.zero).text := by
  have hok : okTo ts ts.length = true := by
    simp only [okTo, List.all_eq_true, List.mem_range]
    intro i hi
    have e : ts.getD i Tok.zero = ts[i] := by simp [List.getD, hi]
    have := (good_piece (hg _ (List.getElem_mem hi))).1
    rw [e]
    cases hp : tokPiece ts[i] with
    | nil => exact absurd hp this
    | cons _ _ => rfl
  have e : tokText ts = restT 0 ts := by rw [tokText_good hn hok, txtTo_rest ts _ (Nat.le_refl _), List.take_length]
  obtain ⟨ms, e1, e2, e3⟩ := toksFrom_back ts 0 [] ((tokText ts).length + 1) [] hg (by rw [e]; omega)
  have e4 : toks (tokText ts) = (ms, -1) := by
    unfold toks
    rw [if_neg (by omega)]
    rw [e] at e1 ⊢
    simpa using e1
  rw [e4]
  exact ⟨rfl, e2, e3⟩
end

section
open Go.RowKit Go.Shelf

attribute [local go_sem] Oper.semAt_some

set_option maxRecDepth 100000 in
set_option maxHeartbeats 600000 in
theorem implTokens_nil (b off : Nat) (a : Option Addr) (cap : Nat) (zs : List Int) (w : World) (hz : zs.length = 0) :
    Calls Try.prog 11 #[.slice a 0 cap] w fun e w' => ∃ v gs, e = .returned (.tuple #[v, .int .i64 (toks zs).2]) ∧ OwnT w.heap.size w' v (toks zs).1 gs ∧ Below w.heap.size w w' := by
  have HL : Hid (zs.length = 0) := hz
  have HT : Hid (toks zs = goToks zs (posFrom zs (0 + 1) 0) []) := by unfold Hid toks; rw [if_neg (by rw [hz]; omega), hz, goToks_pos]
  clear hz
  obtain ⟨i0, hi0, hz0, hz1, hz2⟩ := info_parts Try.infoTok3
  refine (callsIn_wide (n := 6)).1 ?_
  refine callsIn_of_wp_marks Try.func11 rfl trivial ?_ rfl
  simp only [Try.ntmps11, List.size_toArray, List.length_cons, List.length_nil, Nat.reduceAdd, Nat.reduceSub, Array.replicate_succ, Array.replicate_zero, List.push_toArray, List.append_toArray, List.nil_append, List.cons_append]
  gi_wp2
  refine wpIn_scope_wide ?_
  gi_wp2
  refine wpIn_label ?_
  gi_wp2_with (refine ⟨trivial, ?_⟩; gi_at_call 47; refine (pieces_in _ _ _ _ _).mono ?_; rintro e w' ⟨rfl, rfl⟩)
  have bL := Boxed.new w 24 (.slice none 0 0)
  have bB := Boxed.new (w.alloc (.cells #[.slice none 0 0] 24)) 3 (.int .i64 (-1))
  have bS := Boxed.new ((w.alloc (.cells #[.slice none 0 0] 24)).alloc (.cells #[.int .i64 (-1)] 3)) 22 (.slice a 0 cap)
  rw [World.size_alloc] at bB
  rw [World.size_alloc, World.size_alloc] at bS
  have hB0 : Below w.heap.size w (((w.alloc (.cells #[.slice none 0 0] 24)).alloc (.cells #[.int .i64 (-1)] 3)).alloc (.cells #[.slice a 0 cap] 22)) := (((Below.refl _ w).alloc (Nat.le_refl _) _).alloc (by simp) _).alloc (by simp; omega) _
  refine wpIn_rangeFunc_ownG rfl (by omega) (gf := 87) (lb := #[.pointer (some ⟨w.heap.size + 1 + 1, 0, none⟩)]) rfl trivial (enters_of Try.func87 (by kernel_rfl) rfl)
    (pieces_stops_nil 5 (w.heap.size + 1 + 1) w.heap.size b off cap a zs HL.out _ (by simp) (Boxed.cell bS)) KpT.trans
    (fun W l o o' hl hW hc hw => ⟨belowK_b (w := w) (Nat.le_refl _) W l o o' (by simp at hl; omega) hW hc hw, World.putObj_heap_other (by simp at hl; omega)⟩) (Below.refl _ _) (fun _ => rfl)
    (InvI w.heap.size w zs (.slice a 0 cap)) (InvX w.heap.size w zs) (InvI.own (by simp; omega)) (InvX.own (by simp; omega))
    ⟨.slice none 0 0, [], ⟨(bL.alloc _).alloc _, bB.alloc _, bS, OwnT.nil _ _, fun _ h => by simp at h, hB0⟩⟩
    (fun x => { tmps := #[.slice a 0 cap, undef, .slice none 0 0, .int .i64 0, .pointer (some ⟨w.heap.size, 0, none⟩), .pointer (some ⟨w.heap.size + 1, 0, none⟩), .int .i64 (x.1 : Nat), .slice (some ⟨b, off + x.1, none⟩) (pend zs x.1 - x.1) (cap - x.1), undef, .slice a 0 cap, .int .i64 0, .bool false, .slice a 0 cap, .func (.func 87) #[] #[.pointer (some ⟨w.heap.size + 1 + 1, 0, none⟩)], .int .i64 (x.1 : Nat), .slice (some ⟨b, off + x.1, none⟩) (pend zs x.1 - x.1) (cap - x.1), undef, undef, undef, undef, undef, undef, undef, undef, undef, undef, undef, undef, undef, undef, undef, undef, undef, undef, undef, undef, undef, undef, undef, undef, undef, undef], defers := [] }) ?assign ?body ?done ?stop
  case assign =>
    intro l x W K hK
    unfold encP
    gi_wp2
    exact hK
  case body =>
    rintro l pre x W _ hlen
    have h1 := x.2.1
    have h2 := HL.out
    omega
  case done =>
    rintro D ys W hD rfl ⟨v, gs, hI⟩ hK
    have cL := Boxed.cell hI.list
    have cB := Boxed.cell hI.bad
    gi_wp2
    refine wpIn_wide.2 ?_
    go_quiet (fail)
    gi_wp2
    rw [Exit.noGoto_ret]
    have hK' : (W.drewN nq).heap[D]? = some (.deferred (some [])) := hK
    refine ⟨by simp, .inl ⟨_, _, rfl, run_takeDeferred hK', ?_⟩⟩
    have hE : toks zs = ((posFrom zs (0 + 1) 0).map (fun x => tokAt zs x.1), -1) := by rw [HT.out, goToks_good zs _ _ hI.good]; simp
    have hO : OwnT w.heap.size (W.drewN nq) v ((posFrom zs (0 + 1) 0).map (fun x => tokAt zs x.1)) gs := hI.own.of_cells fun _ _ _ _ h => h
    have hnc : ∀ r, some D = some r → ∃ o : Obj, (W.drewN nq).heap[r]? = some o ∧ o.isCells = false := fun r e => by cases e; exact ⟨_, hK', rfl⟩
    have hDs : w.heap.size ≤ D := by simp at hD; omega
    exact ⟨_, results_tmp2 rfl _ _ _, v, gs, by rw [hE]; rfl, by rw [hE]; exact hO.noncells (grownBy_putObj' _ D _) hnc, (below_drewN hI.bel nq).grown (grownBy_putObj' _ D _) (by have := Boxed.lt hI.list; simp; omega) (fun k e => by cases e; exact hDs)⟩
  case stop =>
    rintro D c pre W hD hpre ⟨rfl, hbel, pre', x, rfl, hgd, hk0, bL', bB'⟩ hK
    have cL := Boxed.cell bL'
    have cB := Boxed.cell bB'
    gi_wp2
    refine wpIn_wide.2 ?_
    go_quiet (fail)
    gi_wp2
    rw [Exit.noGoto_ret]
    have hK' : (W.drewN nq).heap[D]? = some (.deferred (some [])) := hK
    refine ⟨by simp, .inl ⟨_, _, rfl, run_takeDeferred hK', ?_⟩⟩
    obtain ⟨rest, hrest⟩ := hpre
    have hE : toks zs = ([], ((x.1 : Nat) : Int)) := by rw [HT.out, ← hrest, List.append_assoc, List.cons_append, List.nil_append]; exact goToks_bad zs pre' x rest [] hgd hk0
    have hDs : w.heap.size ≤ D := by simp at hD; omega
    exact ⟨_, results_tmp2 rfl _ _ _, .slice none 0 0, [], by rw [hE]; rfl, by rw [hE]; exact OwnT.nil _ _, (below_drewN hbel nq).grown (grownBy_putObj' _ D _) (by have := Boxed.lt bL'; simp; omega) (fun k e => by cases e; exact hDs)⟩

theorem implTok_all (a : Option Addr) (n cap : Nat) (zs : List Int) (w : World) {lo hi : Nat} (h : Rd lo hi w a n cap zs) (hhi : hi ≤ w.heap.size) :
    Calls Try.prog 11 #[.slice a n cap] w fun e w' => ∃ v gs, e = .returned (.tuple #[v, .int .i64 (toks zs).2]) ∧ OwnT w.heap.size w' v (toks zs).1 gs ∧ Below w.heap.size w w' := by
  by_cases hn : n = 0
  · subst hn
    exact implTokens_nil 0 0 a cap zs w h.len
  · rcases h.cells with h0 | ⟨b, off, rfl, h1, h2, _⟩
    · exact absurd h0 hn
    · have h' := h.mono (Nat.zero_le _) hhi
      by_cases hbig : 1500 < n
      · exact implTokens_big _ n cap zs w h' hbig
      · exact implTokens_small b off n cap zs w h' (by omega) (by omega)
end

end Go.Proofs.Ythojlfcahhjfaaa
