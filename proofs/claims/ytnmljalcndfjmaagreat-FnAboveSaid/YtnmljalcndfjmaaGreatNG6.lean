/- Several texts in one: ConShape, OwnT, SpecToks. -/
import Derived.Test.YtnmljalcndfjmaaGreatNG4
import Derived.Deep.RegionWith
import Derived.Test.YtnmljalcndfjmaaGreatNG5
namespace Go.Proofs.YtnmljalcndfjmaaGreat

section
open Go.RowKit

set_option maxHeartbeats 400000 in
theorem kidCount_any (k : Int) (w : World) : Calls Tryz.prog 131 #[.int .i64 k] w fun e w' => e = .returned (.int .i64 (kidN k)) ∧ w' = w := by
  go_enter Tryz.func131, Tryz.ntmps131
  go_wp2
  all_goals
    go_ret
    refine ⟨ri ?_, rfl⟩
    first | (simp_all [kidN]; done) | (unfold kidN; simp_all; omega)

set_option maxHeartbeats 400000 in
theorem hasRole_any (k : Int) (w : World) : Calls Tryz.prog 143 #[.int .i64 k] w fun e w' => e = .returned (.bool (roleB k)) ∧ w' = w := by
  by_cases h : k = 6
  · subst h
    go_enter Tryz.func143, Tryz.ntmps143
    go_wp2
    go_ret
    exact ⟨rfl, rfl⟩
  · have h6 : (k == 6) = false := by simpa using h
    have HE : Hid (roleB k = (k == 7)) := by unfold Hid roleB; simp [h]; rfl
    go_enter Tryz.func143, Tryz.ntmps143
    go_wp2
    go_ret
    exact ⟨rb HE.out.symm, rfl⟩

set_option maxRecDepth 100000 in
set_option maxHeartbeats 1000000 in
theorem nameFits_any {d : Nat} {v : Value} {c : CN} {w : World} {lo hi : Nat} (h : RdC lo hi w d v c) (hhi : hi ≤ w.heap.size) :
    Calls Tryz.prog 129 #[v] w fun e w' => e = .returned (.bool (nameFit c)) ∧ Below w.heap.size w w' := by
  cases d with
  | zero => exact h.elim
  | succ d =>
    obtain ⟨na, nn, nc, ra, rn, rc, ka, kn, kc, rfl, hn, _, _⟩ := h
    have hnl := hn.len
    have hb0 : Below w.heap.size w (w.alloc (.cells #[.int .i64 c.kind, .slice na nn nc, .slice ra rn rc, .slice ka kn kc] 30)) := (Below.refl _ _).alloc (Nat.le_refl _) _
    have HB0 : Hid (Below w.heap.size w (w.alloc (.cells #[.int .i64 c.kind, .slice na nn nc, .slice ra rn rc, .slice ka kn kc] 30))) := hb0
    have HN : Hid (Rd lo hi (w.alloc (.cells #[.int .i64 c.kind, .slice na nn nc, .slice ra rn rc, .slice ka kn kc] 30)) na nn nc c.name) := hn.below hb0 hhi
    have HNF : Hid (nameFit c = if c.kind = 2 then (upOk c.name && !keptB (strOfNums c.name).toList) else decide (nn = 0)) := by unfold Hid nameFit; rw [hnl]
    obtain ⟨k, hkd⟩ : ∃ k, k = c.kind := ⟨_, rfl⟩
    rw [← hkd] at HB0 HN HNF ⊢
    clear hb0 hn hkd hnl
    by_cases k2 : k = 2
    · subst k2
      rw [if_pos rfl] at HNF
      cases hU : upOk c.name
      · have HX : Hid (nameFit c = false) := by unfold Hid; rw [HNF.out, hU]; rfl
        go_enter Tryz.func129, Tryz.ntmps129
        go_wp2_with (first | (go_at_call 68; refine (implUpperOk_any na nn nc c.name _ HN.out).mono ?_; rintro e w' ⟨rfl, hw⟩; rw [hw, hU]; clear hw))
        go_ret
        exact ⟨rb HX.out.symm, HB0.out⟩
      · obtain ⟨kp, hkp⟩ : ∃ kp, kp = keptB (strOfNums c.name).toList := ⟨_, rfl⟩
        have HX : Hid (nameFit c = !kp) := by unfold Hid; rw [HNF.out, hU, hkp]; rfl
        have HKp : Hid (kp = keptB (strOfNums c.name).toList) := hkp
        clear hkp
        go_enter Tryz.func129, Tryz.ntmps129
        go_wp2_with (first | (go_at_call 68; refine (implUpperOk_any na nn nc c.name _ HN.out).mono ?_; rintro e w' ⟨rfl, hw⟩; rw [hw, hU]; clear hw) | (go_at_call 142; refine (implKept_any na nn nc c.name _ HN.out).mono ?_; rintro e w' ⟨rfl, hw⟩; rw [hw, ← HKp.out]; clear hw))
        go_ret
        exact ⟨rb HX.out.symm, HB0.out⟩
    · rw [if_neg k2] at HNF
      have hk2 : (k == 2) = false := by simpa using k2
      have HX : Hid (nameFit c = ((nn : Int) == 0)) := by unfold Hid; rw [HNF.out]; by_cases h : nn = 0 <;> simp [h]
      go_enter Tryz.func129, Tryz.ntmps129
      go_wp2_with fail
      go_ret
      exact ⟨rb (by rw [HX.out]), HB0.out⟩

set_option maxRecDepth 100000 in
set_option maxHeartbeats 1000000 in
theorem roleFits_any {d : Nat} {v : Value} {c : CN} {w : World} {lo hi : Nat} (h : RdC lo hi w d v c) (hhi : hi ≤ w.heap.size) :
    Calls Tryz.prog 130 #[v] w fun e w' => e = .returned (.bool (roleFit c)) ∧ Below w.heap.size w w' := by
  cases d with
  | zero => exact h.elim
  | succ d =>
    obtain ⟨na, nn, nc, ra, rn, rc, ka, kn, kc, rfl, _, hr, _⟩ := h
    have hrl := hr.len
    have hb0 : Below w.heap.size w (w.alloc (.cells #[.int .i64 c.kind, .slice na nn nc, .slice ra rn rc, .slice ka kn kc] 30)) := (Below.refl _ _).alloc (Nat.le_refl _) _
    have HB0 : Hid (Below w.heap.size w (w.alloc (.cells #[.int .i64 c.kind, .slice na nn nc, .slice ra rn rc, .slice ka kn kc] 30))) := hb0
    have HR : Hid (Rd lo hi (w.alloc (.cells #[.int .i64 c.kind, .slice na nn nc, .slice ra rn rc, .slice ka kn kc] 30)) ra rn rc c.role) := hr.below hb0 hhi
    have HRF : Hid (roleFit c = if roleB c.kind = true then lowOk c.role else decide (rn = 0)) := by unfold Hid roleFit; rw [hrl]
    obtain ⟨k, hkd⟩ : ∃ k, k = c.kind := ⟨_, rfl⟩
    rw [← hkd] at HB0 HR HRF ⊢
    clear hb0 hr hkd hrl
    cases hm : roleB k
    · have HX : Hid (roleFit c = ((rn : Int) == 0)) := by unfold Hid; rw [HRF.out, hm, if_neg (by simp)]; by_cases h : rn = 0 <;> simp [h]
      go_enter Tryz.func130, Tryz.ntmps130
      go_wp2_with (first | (go_at_call 143; refine (hasRole_any _ _).mono ?_; rintro e w' ⟨rfl, hw⟩; rw [hw, hm]; clear hw))
      go_ret
      exact ⟨rb (by rw [HX.out]), HB0.out⟩
    · have HX : Hid (roleFit c = lowOk c.role) := by unfold Hid; rw [HRF.out, hm, if_pos rfl]
      go_enter Tryz.func130, Tryz.ntmps130
      go_wp2_with (first | (go_at_call 143; refine (hasRole_any _ _).mono ?_; rintro e w' ⟨rfl, hw⟩; rw [hw, hm]; clear hw) | (go_at_call 48; refine (implLowerOk_any ra rn rc c.role _ HR.out).mono ?_; rintro e w' ⟨rfl, hw⟩; rw [hw]; clear hw))
      go_ret
      exact ⟨rb HX.out.symm, HB0.out⟩
end

section
open Go.RowKit

/-- The value of a token's text, its row's block and capacity being g. -/
def txv (t : Tok) (g : Nat × Nat) : Value := if t.text = [] then .slice none 0 0 else .slice (some ⟨g.1, 0, none⟩) t.text.length g.2

def flatT : List Tok → List (Nat × Nat) → List Value
  | t :: ts, g :: gs => .int .i64 t.kind :: .int .i64 t.place :: txv t g :: flatT ts gs
  | _, _ => []

theorem flatT_snoc : ∀ (ts : List Tok) (gs : List (Nat × Nat)) (t : Tok) (g : Nat × Nat), gs.length = ts.length → flatT (ts ++ [t]) (gs ++ [g]) = flatT ts gs ++ [.int .i64 t.kind, .int .i64 t.place, txv t g]
  | [], [], t, g, _ => rfl
  | [], _ :: _, _, _, h => by simp at h
  | _ :: _, [], _, _, h => by simp at h
  | t0 :: ts, g0 :: gs, t, g, h => by
    simp only [List.cons_append, flatT]
    rw [flatT_snoc ts gs t g (by simpa using h)]

theorem flatT_get : ∀ (ts : List Tok) (gs : List (Nat × Nat)) (i : Nat), gs.length = ts.length → i < ts.length →
    (flatT ts gs)[i * 3]? = some (.int .i64 (ts.getD i Tok.zero).kind) ∧ (flatT ts gs)[i * 3 + 1]? = some (.int .i64 (ts.getD i Tok.zero).place) ∧ (flatT ts gs)[i * 3 + 2]? = some (txv (ts.getD i Tok.zero) (gs.getD i (0, 0)))
  | [], _, _, _, hi => by simp at hi
  | _ :: _, [], _, h, _ => by simp at h
  | t0 :: ts, g0 :: gs, 0, _, _ => by simp [flatT]
  | t0 :: ts, g0 :: gs, i + 1, h, hi => by
    obtain ⟨h0, h1, h2⟩ := flatT_get ts gs i (by simpa using h) (by simpa using hi)
    have e : (i + 1) * 3 = i * 3 + 1 + 1 + 1 := by omega
    have e1 : (i + 1) * 3 + 1 = i * 3 + 1 + 1 + 1 + 1 := by omega
    have e2 : (i + 1) * 3 + 2 = i * 3 + 2 + 1 + 1 + 1 := by omega
    refine ⟨?_, ?_, ?_⟩
    · rw [e]; simpa [flatT] using h0
    · rw [e1]; simpa [flatT] using h1
    · rw [e2]; simpa [flatT] using h2

structure OwnT (base : Nat) (w : World) (v : Value) (ts : List Tok) (gs : List (Nat × Nat)) : Prop where
  len : gs.length = ts.length
  row : w.ownsRow base 176 3 v ts.length (flatT ts gs)
  txt : ∀ i, i < ts.length → (ts.getD i Tok.zero).text ≠ [] → base ≤ (gs.getD i (0, 0)).1 ∧ Row w (gs.getD i (0, 0)).1 (gs.getD i (0, 0)).2 (ts.getD i Tok.zero).text ∧ (gs.getD i (0, 0)).2 ≤ 9223372036854775807
  byte : ∀ i, i < ts.length → ∀ j, 0 ≤ (ts.getD i Tok.zero).text.getD j 0 ∧ (ts.getD i Tok.zero).text.getD j 0 ≤ 255
  dist : ∀ i j, i < j → j < ts.length → (ts.getD i Tok.zero).text ≠ [] → (ts.getD j Tok.zero).text ≠ [] → (gs.getD i (0, 0)).1 ≠ (gs.getD j (0, 0)).1

theorem OwnT.nil (base : Nat) (w : World) : OwnT base w (.slice none 0 0) [] [] :=
  ⟨rfl, World.ownsRow_nil _ _ _ _, fun i hi => by simp at hi, fun i hi => by simp at hi, fun i j _ hj => by simp at hj⟩

theorem owns_of_blocks {w w' : World} {base e size n : Nat} {v : Value} {xs : List Value} (h : w.ownsRow base e size v n xs) (hs : ∀ g, g < w.heap.size → w'.heap[g]? = w.heap[g]?) : w'.ownsRow base e size v n xs := by
  obtain ⟨h1, h2⟩ := h
  refine ⟨h1, ?_⟩
  rcases h2 with h2 | ⟨g, cap, cur, hv, hg, hh, r⟩
  · exact .inl h2
  · exact .inr ⟨g, cap, cur, hv, hg, by rw [hs g (Array.getElem?_eq_some_iff.1 hh).1]; exact hh, r⟩

theorem OwnT.below {base : Nat} {w w' : World} {v : Value} {ts : List Tok} {gs : List (Nat × Nat)} (h : OwnT base w v ts gs) (hb : Below w.heap.size w w') : OwnT base w' v ts gs := by
  obtain ⟨h1, h2, h3, h4, h5⟩ := h
  exact ⟨h1, owns_of_blocks h2 (fun g hg => hb.block g hg), fun i hi ht => ⟨(h3 i hi ht).1, (h3 i hi ht).2.1.below hb (h3 i hi ht).2.1.lt, (h3 i hi ht).2.2⟩, h4, h5⟩

theorem getD_snoc_lt {α : Type} (l : List α) (x d : α) (i : Nat) (h : i < l.length) : (l ++ [x]).getD i d = l.getD i d := by rw [List.getD, List.getElem?_append_left h, List.getD]
theorem getD_snoc_eq {α : Type} (l : List α) (x d : α) : (l ++ [x]).getD l.length d = x := by simp [List.getD]

/-- One token more. -/
theorem OwnT.snoc {base : Nat} {w w1 : World} {v v' : Value} {ts : List Tok} {gs : List (Nat × Nat)} (h : OwnT base w v ts gs) (t : Tok) (g : Nat × Nat)
    (ht : t.text ≠ [] → base ≤ g.1 ∧ Row w g.1 g.2 t.text ∧ g.2 ≤ 9223372036854775807) (hby : ∀ j, 0 ≤ t.text.getD j 0 ∧ t.text.getD j 0 ≤ 255)
    (hd : t.text ≠ [] → ∀ i, i < ts.length → (ts.getD i Tok.zero).text ≠ [] → (gs.getD i (0, 0)).1 ≠ g.1)
    (hown : w1.ownsRow base 176 3 v' (ts.length + 1) (flatT ts gs ++ [.int .i64 t.kind, .int .i64 t.place, txv t g])) (hgrow : w.grownBy w1 v.ownBlock) : OwnT base w1 v' (ts ++ [t]) (gs ++ [g]) := by
  obtain ⟨h1, h2, h3, h4, h5⟩ := h
  have keep : ∀ x c zs, Row w x c zs → Row w1 x c zs := by
    intro x c zs hr
    refine hr.of_block (hgrow.block x hr.lt (fun e => ?_))
    obtain ⟨c', hc', _⟩ := hr
    rcases h2.2 with ⟨rfl, _⟩ | ⟨g', cap, cur, rfl, _, hh, _⟩
    · simp [Value.ownBlock] at e
    · simp [Value.ownBlock] at e
      rw [e, hh] at hc'
      simp at hc'
  refine ⟨by simp [h1], ?_, ?_, ?_, ?_⟩
  · rw [flatT_snoc ts gs t g h1]; simpa using hown
  · intro i hi hne
    simp only [List.length_append, List.length_cons, List.length_nil] at hi
    by_cases e : i < ts.length
    · rw [getD_snoc_lt _ _ _ _ e] at hne ⊢
      rw [getD_snoc_lt _ _ _ _ (by omega)]
      exact ⟨(h3 i e hne).1, keep _ _ _ (h3 i e hne).2.1, (h3 i e hne).2.2⟩
    · have e' : i = ts.length := by omega
      subst e'
      rw [getD_snoc_eq] at hne ⊢
      rw [← h1, getD_snoc_eq]
      exact ⟨(ht hne).1, keep _ _ _ (ht hne).2.1, (ht hne).2.2⟩
  · intro i hi
    simp only [List.length_append, List.length_cons, List.length_nil] at hi
    by_cases e : i < ts.length
    · rw [getD_snoc_lt _ _ _ _ e]; exact h4 i e
    · have e' : i = ts.length := by omega
      subst e'
      rw [getD_snoc_eq]; exact hby
  · intro i j hij hj hni hnj
    simp only [List.length_append, List.length_cons, List.length_nil] at hj
    rw [getD_snoc_lt _ _ _ _ (by omega)] at hni
    rw [getD_snoc_lt _ _ _ i (by omega)]
    by_cases e : j < ts.length
    · rw [getD_snoc_lt _ _ _ _ e] at hnj
      rw [getD_snoc_lt _ _ _ _ (by omega)]
      exact h5 i j hij e hni hnj
    · have e' : j = ts.length := by omega
      subst e'
      rw [getD_snoc_eq] at hnj
      rw [← h1, getD_snoc_eq]
      exact hd hnj i (by omega) hni

/-- Where the texts lie. -/
def txOf (ts : List Tok) (gs : List (Nat × Nat)) (i : Nat) : Nat × Nat × Nat := ((gs.getD i (0, 0)).1, 0, (ts.getD i Tok.zero).text.length)

theorem txv_nil {t : Tok} (g : Nat × Nat) (h : t.text = []) : txv t g = .slice none 0 0 := by unfold txv; rw [if_pos h]
theorem txv_cons {t : Tok} (g : Nat × Nat) (h : t.text ≠ []) : txv t g = .slice (some ⟨g.1, 0, none⟩) t.text.length g.2 := by unfold txv; rw [if_neg h]

theorem txv_form (t : Tok) (g : Nat × Nat) : ∃ a c, txv t g = .slice a t.text.length c := by
  unfold txv
  split
  · rename_i h; exact ⟨none, 0, by rw [h]; rfl⟩
  · exact ⟨_, _, rfl⟩

theorem OwnT.rd {base : Nat} {w : World} {v : Value} {ts : List Tok} {gs : List (Nat × Nat)} (h : OwnT base w v ts gs) :
    ∃ a cap, v = .slice a ts.length cap ∧ RdT base w.heap.size w a ts.length cap ts := by
  obtain ⟨h1, h2, h3, h4, h5⟩ := h
  rcases h2.2 with ⟨hv, h0⟩ | ⟨g, cap, cur, hv, hg, hh, hc1, hc2, hc3, hc4⟩
  · exact ⟨none, 0, by rw [hv, h0], ⟨rfl, ⟨by omega, by omega⟩, .inl h0⟩⟩
  · subst hv
    unfold maxLen at hc2
    refine ⟨_, _, rfl, ⟨rfl, ⟨hc1, hc2⟩, .inr ⟨g, 0, rfl, hg, (Array.getElem?_eq_some_iff.1 hh).1, fun i hi => ?_⟩⟩⟩
    obtain ⟨f0, f1, f2⟩ := flatT_get ts gs i h1 hi
    simp only [Nat.zero_add]
    rw [h2.cellAt (i * 3) (by omega), h2.cellAt (i * 3 + 1) (by omega), h2.cellAt (i * 3 + 2) (by omega), f0, f1, f2]
    by_cases ht : (ts.getD i Tok.zero).text = []
    · refine ⟨none, 0, 0, rfl, rfl, by rw [txv_nil _ ht], ?_⟩
      rw [ht]; exact Rd.none_of (by omega)
    · obtain ⟨t1, t2, t3⟩ := h3 i hi ht
      exact ⟨_, _, _, rfl, rfl, by rw [txv_cons _ ht], t2.rd rfl (h4 i hi) t3 t1 t2.lt⟩

theorem mem_leafT {b off : Nat} {tx : Nat → Nat × Nat × Nat} {n : Nat} {x : Addr × IntKind} (h : x ∈ leafT b off tx n) :
    ∃ i, i < n ∧ (x = (⟨b, off + i * 3, none⟩, .i64) ∨ x = (⟨b, off + i * 3 + 1, none⟩, .i64) ∨ ∃ j, j < (tx i).2.2 ∧ x = (⟨(tx i).1, (tx i).2.1 + j, none⟩, .u8)) := by
  simp only [leafT, List.mem_flatMap, List.mem_range, List.mem_cons, leafB, List.mem_map] at h
  obtain ⟨i, hi, h⟩ := h
  refine ⟨i, hi, ?_⟩
  rcases h with h | h | ⟨j, hj, h⟩
  · exact .inl h
  · exact .inr (.inl h)
  · exact .inr (.inr ⟨j, hj, h.symm⟩)

/-- Its cells can be marked, one by one: they are there, may be written, and are each another. -/
theorem OwnT.leaf {base : Nat} {w : World} {v : Value} {ts : List Tok} {gs : List (Nat × Nat)} (h : OwnT base w v ts gs) (hlen : ∀ i, (ts.getD i Tok.zero).text.length ≤ 1048576) :
    ∃ a cap b, v = .slice a ts.length cap ∧ (ts.length = 0 ∨ a = some ⟨b, 0, none⟩) ∧ HeadT w b 0 (txOf ts gs) ts.length ∧ LeafOk w (leafT b 0 (txOf ts gs) ts.length) ∧
      ((leafT b 0 (txOf ts gs) ts.length).map (·.1)).Nodup ∧ ∀ x ∈ leafT b 0 (txOf ts gs) ts.length, base ≤ x.1.block ∧ x.1.block < w.heap.size := by
  obtain ⟨h1, h2, h3, h4, h5⟩ := h
  rcases h2.2 with ⟨hv, h0⟩ | ⟨g, cap, cur, hv, hg, hh, hc1, hc2, hc3, hc4⟩
  · refine ⟨none, 0, 0, by rw [hv, h0], .inl h0, ?_, ?_, ?_, ?_⟩
    · intro i hi; omega
    · rw [h0]; intro x hx; simp [leafT] at hx
    · rw [h0]; simp [leafT]
    · rw [h0]; intro x hx; simp [leafT] at hx
  · subst hv
    have hgs := (Array.getElem?_eq_some_iff.1 hh).1
    have hcell : ∀ i, i < ts.length → w.cell? ⟨g, i * 3, none⟩ = some (.int .i64 (ts.getD i Tok.zero).kind) ∧ w.cell? ⟨g, i * 3 + 1, none⟩ = some (.int .i64 (ts.getD i Tok.zero).place) ∧ w.cell? ⟨g, i * 3 + 2, none⟩ = some (txv (ts.getD i Tok.zero) (gs.getD i (0, 0))) := by
      intro i hi
      obtain ⟨f0, f1, f2⟩ := flatT_get ts gs i h1 hi
      rw [h2.cellAt (i * 3) (by omega), h2.cellAt (i * 3 + 1) (by omega), h2.cellAt (i * 3 + 2) (by omega)]
      exact ⟨f0, f1, f2⟩
    have hne : ∀ i, i < ts.length → (ts.getD i Tok.zero).text ≠ [] → (gs.getD i (0, 0)).1 ≠ g := by
      intro i hi ht e
      obtain ⟨_, ⟨c, hc, _⟩, _⟩ := h3 i hi ht
      rw [e, hh] at hc
      simp at hc
    have hpos : ∀ i j, j < (txOf ts gs i).2.2 → (ts.getD i Tok.zero).text ≠ [] := by
      intro i j hj e
      simp only [txOf] at hj
      rw [e] at hj
      simp at hj
    refine ⟨_, _, g, rfl, .inr rfl, ?_, ?_, ?_, ?_⟩
    · intro i hi
      simp only [Nat.zero_add]
      by_cases ht : (ts.getD i Tok.zero).text = []
      · refine ⟨none, 0, ?_, .inl (by simp only [txOf]; rw [ht]; rfl), hlen i⟩
        rw [(hcell i hi).2.2, txv_nil _ ht]; simp only [txOf]; rw [ht]; rfl
      · exact ⟨_, _, by rw [(hcell i hi).2.2, txv_cons _ ht]; rfl, .inr rfl, hlen i⟩
    · intro x hx
      obtain ⟨i, hi, e | e | ⟨j, hj, e⟩⟩ := mem_leafT hx
      · subst e; simp only [Nat.zero_add]
        exact ⟨⟨_, (hcell i hi).1⟩, h2.frozenAt _⟩
      · subst e; simp only [Nat.zero_add]
        exact ⟨⟨_, (hcell i hi).2.1⟩, h2.frozenAt _⟩
      · subst e
        obtain ⟨_, hr, _⟩ := h3 i hi (hpos i j hj)
        simp only [txOf, Nat.zero_add] at hj ⊢
        exact ⟨⟨_, hr.cell hj⟩, hr.frozen _⟩
    · have key : ∀ n, n ≤ ts.length → ((leafT g 0 (txOf ts gs) n).map (·.1)).Nodup := by
        intro n
        induction n with
        | zero => intro _; simp [leafT]
        | succ n ih =>
          intro hn
          rw [leafT_succ, List.map_append, List.nodup_append]
          refine ⟨ih (by omega), ?_, ?_⟩
          · simp only [List.map_cons, List.nodup_cons, leafB, List.map_map, List.mem_cons, List.mem_map, List.mem_range, Function.comp]
            refine ⟨?_, ?_, ?_⟩
            · rintro (h | ⟨j, hj, h⟩)
              · simp at h
              · simp only [Addr.mk.injEq] at h
                exact hne n (by omega) (hpos n j hj) h.1
            · rintro ⟨j, hj, h⟩
              simp only [Addr.mk.injEq] at h
              exact hne n (by omega) (hpos n j hj) h.1
            · rw [List.nodup_iff_pairwise_ne, List.pairwise_iff_getElem]
              intro i j hi hj hij
              simp <;> omega
          · intro p hp q hq e
            subst e
            simp only [List.mem_map] at hp hq
            obtain ⟨x, hx, rfl⟩ := hp
            obtain ⟨y, hy, hxy⟩ := hq
            obtain ⟨i, hi, hx⟩ := mem_leafT hx
            simp only [List.mem_cons, leafB, List.mem_map, List.mem_range] at hy
            rcases hx with rfl | rfl | ⟨j, hj, rfl⟩ <;> rcases hy with rfl | rfl | ⟨j', hj', rfl⟩ <;> simp only [Addr.mk.injEq] at hxy
            · omega
            · omega
            · exact hne n (by omega) (hpos n j' hj') hxy.1
            · omega
            · omega
            · exact hne n (by omega) (hpos n j' hj') hxy.1
            · exact hne i (by omega) (hpos i j hj) hxy.1.symm
            · exact hne i (by omega) (hpos i j hj) hxy.1.symm
            · exact h5 i n hi (by omega) (hpos i j hj) (hpos n j' hj') hxy.1.symm
      exact key _ (Nat.le_refl _)
    · intro x hx
      obtain ⟨i, hi, e | e | ⟨j, hj, e⟩⟩ := mem_leafT hx
      · subst e; exact ⟨hg, hgs⟩
      · subst e; exact ⟨hg, hgs⟩
      · subst e
        obtain ⟨hb, hr, _⟩ := h3 i hi (hpos i j hj)
        exact ⟨hb, hr.lt⟩
end

section
open Go.RowKit

theorem toksFrom_stop (zs : List Int) (f i : Nat) (acc : List Tok) (h : zs.length ≤ i) : toksFrom zs f i acc = (acc, -1) := by
  cases f with
  | zero => rfl
  | succ f => rw [toksFrom, if_neg (by omega)]

theorem toksFrom_blank (zs : List Int) (f i : Nat) (acc : List Tok) (h : i < zs.length) (hb : blankB (zs.getD i 0) = true) : toksFrom zs (f + 1) i acc = toksFrom zs f (i + 1) acc := by
  rw [toksFrom, if_pos h, if_pos hb]

theorem toksFrom_bad (zs : List Int) (f i : Nat) (acc : List Tok) (h : i < zs.length) (hb : blankB (zs.getD i 0) = false) (hk : kindOf (piece zs i) = 0) : toksFrom zs (f + 1) i acc = ([], (i : Int)) := by
  rw [toksFrom, if_pos h, if_neg (by rw [hb]; exact Bool.false_ne_true), if_pos hk]

theorem toksFrom_tok (zs : List Int) (f i : Nat) (acc : List Tok) (h : i < zs.length) (hb : blankB (zs.getD i 0) = false) (hk : kindOf (piece zs i) ≠ 0) : toksFrom zs (f + 1) i acc = toksFrom zs f (pend zs i) (acc ++ [tokAt zs i]) := by
  rw [toksFrom, if_pos h, if_neg (by rw [hb]; exact Bool.false_ne_true), if_neg hk]

theorem Tryz.infoTok3 : (Tryz.prog.info? 176).map (fun i => (i.zero, i.size, i.bytes)) = some (some (.agg #[.int .i64 0, .int .i64 0, .slice none 0 0]), 3, 40) := by kernel_rfl

theorem new3 (w : World) (g : Nat) (x y z : Value) (t : Nat) (hg : g = w.heap.size) : ∀ j u, [x, y, z][j]? = some u → (w.alloc (.cells #[x, y, z] t)).cell? ((⟨g, 0, none⟩ : Addr).add j) = some u := by
  intro j u hu
  subst hg
  rw [Addr.add_lit]
  match j, hu with
  | 0, hu => simp at hu; subst hu; simp
  | 1, hu => simp at hu; subst hu; simp
  | 2, hu => simp at hu; subst hu; simp

theorem one3 (kd k : Int) (ta : Option Addr) (tn tc : Nat) : ∀ u ∈ [Value.int .i64 kd, .int .i64 k, .slice ta tn tc], u.oneCell' = true := by
  intro u hu
  simp at hu
  rcases hu with rfl | rfl | rfl <;> rfl

theorem piece_byte {zs : List Int} (h : ∀ i, 0 ≤ zs.getD i 0 ∧ zs.getD i 0 ≤ 255) (k : Nat) : ∀ j, 0 ≤ (piece zs k).getD j 0 ∧ (piece zs k).getD j 0 ≤ 255 := by
  intro j
  have := h (k + j)
  simp only [piece, List.getD, List.getElem?_take, List.getElem?_drop] at this ⊢
  split
  · exact this
  · simp

theorem step_tok {w0 wr W w2 : World} {u v' : Value} {ts : List Tok} {gs : List (Nat × Nat)} {zs : List Int} {k : Nat} {kd : Int} {tv : Value} {g : Nat × Nat}
    (hO : OwnT w0.heap.size W u ts gs) (hB : Below w0.heap.size w0 W) (hG : kd = (tokAt zs k).kind ∧ tv = txv (tokAt zs k) g)
    (hM : (tokAt zs k).text ≠ [] → w0.heap.size ≤ g.1 ∧ wr.heap.size ≤ g.1 ∧ Row W g.1 g.2 (tokAt zs k).text ∧ g.2 ≤ 9223372036854775807)
    (hS : ∀ i, i < ts.length → (ts.getD i Tok.zero).text ≠ [] → (gs.getD i (0, 0)).1 < wr.heap.size) (hby : ∀ i, 0 ≤ zs.getD i 0 ∧ zs.getD i 0 ≤ 255)
    (hown : w2.ownsRow w0.heap.size 176 3 v' (ts.length + 1) (flatT ts gs ++ [.int .i64 kd, .int .i64 k, tv])) (hgrow : W.grownBy w2 u.ownBlock) :
    ∃ g' cap', v' = .slice (some ⟨g', 0, none⟩) (ts.length + 1) cap' ∧ OwnT w0.heap.size w2 v' (ts ++ [tokAt zs k]) (gs ++ [g]) ∧ Below w0.heap.size w0 w2 := by
  obtain ⟨rfl, rfl⟩ := hG
  have hO2 := hO.snoc (tokAt zs k) g (fun ht => ⟨(hM ht).1, (hM ht).2.2.1, (hM ht).2.2.2⟩) (by
      simp only [tokAt]; split
      · exact piece_byte hby k
      · simp) (fun ht i hi hti => by have := hS i hi hti; have := (hM ht).2.1; omega) hown hgrow
  have hb2 : Below w0.heap.size w0 w2 := hB.grown hgrow hB.size (fun x hx => by
      rcases hO.row.2 with ⟨rfl, _⟩ | ⟨g1, cap1, cur, rfl, hg1, _⟩
      · simp [Value.ownBlock] at hx
      · simp [Value.ownBlock] at hx; omega)
  rcases hown.2 with ⟨_, h0⟩ | ⟨g', cap', _, rfl, _⟩
  · omega
  · exact ⟨g', cap', rfl, hO2, hb2⟩
end

end Go.Proofs.YtnmljalcndfjmaaGreat
