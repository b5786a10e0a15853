/- Several texts in one: KrS1, ReadS8. -/
import Derived.Test.YtckhjoancfbkfaaGreatKrZ
import Derived.Test.YtckhjoancfbkfaaGreatReadS7
import Derived.Test.YtckhjoancfbkfaaGreatNG20
namespace Go.Proofs.YtckhjoancfbkfaaGreat

section
open Go.RowKit
set_option linter.unusedVariables false

/-- Where the parser stands; or what is wrong. -/
inductive PSt where
  | at' (j : Nat)
  | bad (p : Int)
def takeT (ts : List Tok) (en : Int) (k : Int) : PSt → PSt
  | .bad p => .bad p
  | .at' j => if isI ts k j = true then .at' (j + 1) else .bad (hereI ts en j)
def conT (ts : List Tok) (en : Int) : PSt → PSt
  | .bad p => .bad p
  | .at' j => match conR ts en 6 j with | .bad p => .bad p | .ok _ j' => .at' j'
def PsY (W : World) (pb g : Nat) (ts : List Tok) (en : Int) : PSt → Prop
  | .at' j => PsAt W pb g j ts en (-1) ∧ j ≤ ts.length
  | .bad p => PsBad W pb p ∧ 0 ≤ p
theorem PsY.of {W W' : World} {pb g : Nat} {ts : List Tok} {en : Int} {st : PSt} (h : PsY W pb g ts en st) (e : W'.heap[pb]? = W.heap[pb]?) : PsY W' pb g ts en st := by
  cases st with
  | at' j => exact ⟨h.1.of e, h.2⟩
  | bad p => exact ⟨h.1.of e, h.2⟩
theorem PsY.lt {W : World} {pb g : Nat} {ts : List Tok} {en : Int} {st : PSt} (h : PsY W pb g ts en st) : pb < W.heap.size := by
  cases st with
  | at' j => exact h.1.lt
  | bad p => exact h.1.lt

/-- What a taken token leaves. -/
def TakeY (pb g : Nat) (ts : List Tok) (en k : Int) (st : PSt) (w : World) (e : Ending) (w' : World) : Prop := ∃ a n c, e = .returned (.slice a n c) ∧ Bt pb w.heap.size w w' ∧ PsY w' pb g ts en (takeT ts en k st)

theorem takeY_any {base pb g : Nat} {ts : List Tok} {gs : List (Nat × Nat)} {en : Int} {st : PSt} (k : Int) (w : World) (hK : Tks ts en) (hT : TkM base pb w g ts gs) (hP : PsY w pb g ts en st) :
    Calls Tryz.prog 109 #[.pointer (some ⟨pb, 0, none⟩), .int .i64 k] w (TakeY pb g ts en k st w) := by
  cases st with
  | bad p =>
    refine (takeS_stuck pb p k w hP.2 hP.1).mono ?_
    rintro e w' ⟨rfl, nd, rfl⟩
    exact ⟨_, _, _, rfl, bt_drewN (Bt.refl _ _ _) nd, hP.1.of rfl, hP.2⟩
  | at' j =>
    cases hk : isI ts k j
    · refine (takeS_bad base pb g j ts gs en k w hP.1 hT hP.2 hk).mono ?_
      rintro e w' ⟨rfl, h1, h2⟩
      refine ⟨_, _, _, rfl, h2, ?_⟩
      simp only [takeT, hk]
      exact ⟨h1, hK.pos j⟩
    · refine (takeS_ok base pb g j ts gs en k w hP.1 hT hK.len hk).mono ?_
      rintro e w' ⟨rfl, h1, h2⟩
      obtain ⟨a, c, hx⟩ := txv_form (ts.getD j Tok.zero) (gs.getD j (0, 0))
      refine ⟨_, _, _, by rw [hx], h2, ?_⟩
      simp only [takeT, hk, if_true]
      exact ⟨h1, isI_lt hk⟩

/-- What a word of the call's own leaves. -/
def LowY (pb g : Nat) (ts : List Tok) (gs : List (Nat × Nat)) (en : Int) (st : PSt) (w : World) (e : Ending) (w' : World) : Prop :=
  ∃ a n c, e = .returned (.slice a n c) ∧ Bt pb w.heap.size w w' ∧ PsY w' pb g ts en (takeT ts en 2 st) ∧ ∀ j, st = .at' j → isI ts 2 j = true → ∃ L, OwS w' (.slice a n c) (wordI ts j) L ∧ (L.map (·.1)).Nodup ∧ (∀ x ∈ L, w'.frozen? x.1 = false) ∧ Use ts gs j (j + 1) w.heap.size w'.heap.size L

set_option maxRecDepth 100000 in
set_option maxHeartbeats 2000000 in
theorem lowY_any {base pb g : Nat} {ts : List Tok} {gs : List (Nat × Nat)} {en : Int} {st : PSt} (w : World) (hK : Tks ts en) (hT : TkM base pb w g ts gs) (hP : PsY w pb g ts en st) :
    Calls Tryz.prog 111 #[.pointer (some ⟨pb, 0, none⟩)] w (LowY pb g ts gs en st w) := by
  have hpl := hP.lt
  have hb0 : Below w.heap.size w (w.alloc (.cells #[] 5)) := (Below.refl _ _).alloc (Nat.le_refl _) _
  have HB0 : Hid (Below w.heap.size w (w.alloc (.cells #[] 5))) := hb0
  have HT0 : Hid (TkM base pb (w.alloc (.cells #[] 5)) g ts gs) := hT.below (hb0.mono (Nat.le_of_lt hpl))
  have HP0 : Hid (PsY (w.alloc (.cells #[] 5)) pb g ts en st) := hP.of (hb0.block _ hpl)
  have HK : Hid (Tks ts en) := hK
  have HN0 : Hid ((w.alloc (.cells #[] 5)).heap[w.heap.size]? = some (.cells #[] 5 (0, 0))) := World.alloc_heap_new w _
  obtain ⟨j0, hj0, hy0, hy1, hy2⟩ := info_parts Tryz.info5
  clear hb0 hT hP hK
  go_enter Tryz.func111, Tryz.ntmps111
  cases st with
  | bad p =>
    go_wp2_with fail
    refine (takeS_stuck pb p 2 _ HP0.out.2 HP0.out.1).mono ?_
    rintro e w1 ⟨rfl, nd, hw1⟩
    have HF : Hid (LowY pb g ts gs en (.bad p) w (.returned (.slice (some ⟨w.heap.size, 0, none⟩) 0 0)) w1) := by
      refine ⟨_, _, _, rfl, ?_, ?_, fun j h => by cases h⟩
      · rw [hw1]; exact bt_drewN (Bt.of_below HB0.out) nd
      · rw [hw1]; exact HP0.out.of rfl
    clear hw1
    go_wp2_with (at_builtin; refine wpList_append_nil rfl (.tmp 3) (.tmp 5) 22 5 j0 rfl Tryz.underlying22 hj0 (some ⟨w.heap.size, 0, none⟩) 0 0 0 (Nat.le_refl _) rfl rfl ?_)
    go_ret
    exact HF.out
  | at' j =>
    cases hk : isI ts 2 j
    · go_wp2_with fail
      refine (takeS_bad base pb g j ts gs en 2 _ HP0.out.1 HT0.out HP0.out.2 hk).mono ?_
      rintro e w1 ⟨rfl, h1, h2⟩
      have HF : Hid (LowY pb g ts gs en (.at' j) w (.returned (.slice (some ⟨w.heap.size, 0, none⟩) 0 0)) w1) := by
        refine ⟨_, _, _, rfl, (Bt.of_below HB0.out).trans (h2.mono HB0.out.size), ?_, fun j' h h' => by cases h; rw [hk] at h'; cases h'⟩
        simp only [takeT, hk]
        exact ⟨h1, HK.out.pos j⟩
      clear h1 h2
      go_wp2_with (at_builtin; refine wpList_append_nil rfl (.tmp 3) (.tmp 5) 22 5 j0 rfl Tryz.underlying22 hj0 (some ⟨w.heap.size, 0, none⟩) 0 0 0 (Nat.le_refl _) rfl rfl ?_)
      go_ret
      exact HF.out
    · have hlt := isI_lt hk
      have hw1 : 1 ≤ (wordI ts j).length := HK.out.wd j (.inr hk)
      have hw6 : (wordI ts j).length ≤ 6 := HK.out.sh j
      go_wp2_with fail
      refine (takeS_ok base pb g j ts gs en 2 _ HP0.out.1 HT0.out HK.out.len hk).mono ?_
      rintro e w1 ⟨rfl, h1, h2⟩
      have hb1 : Bt pb w.heap.size w w1 := (Bt.of_below HB0.out).trans (h2.mono HB0.out.size)
      have hT1 : TkM base pb w1 g ts gs := HT0.out.bt h2 (by have := HB0.out.size; omega)
      obtain ⟨ya, yc, hx, hOy, hRd, hfy⟩ := hT1.word hlt
      obtain ⟨yn, hyn⟩ : ∃ n, n = (wordI ts j).length := ⟨_, rfl⟩
      have HYN : Hid (yn = (wordI ts j).length) := hyn
      rw [hx, ← hyn]
      rw [← hyn] at hRd
      obtain ⟨yg, yo, rfl, _⟩ : ∃ yg yo, ya = some ⟨yg, yo, none⟩ ∧ True := by
        rcases hRd.cells with h | ⟨b, o, h, _⟩
        · omega
        · exact ⟨b, o, h, trivial⟩
      have HRd : Hid (Rd 0 pb w1 (some ⟨yg, yo, none⟩) yn yc (wordI ts j)) := hRd
      have HN1 : w1.heap[w.heap.size]? = some (.cells #[] 5 (0, 0)) := (h2.block _ (by show w.heap.size < (w.alloc _).heap.size; simp) (by omega)).trans HN0.out
      have HON : Hid (OwnB w.heap.size w1 (.slice (some ⟨w.heap.size, 0, none⟩) 0 0) []) := by
        refine ⟨rfl, .inr ⟨w.heap.size, 0, #[], rfl, Nat.le_refl _, HN1, Nat.le_refl _, by unfold maxLen; omega, by simp, by simp⟩⟩
      have HBt : Hid (Bt pb w.heap.size w w1) := hb1
      have HP1 : Hid (PsAt w1 pb g (j + 1) ts en (-1)) := h1
      have HNews : Hid (∀ q u, ((wordI ts j).map (Value.int .u8))[q]? = some u → w1.cell? ((⟨yg, yo, none⟩ : Addr).add q) = some u) := rd_news HRd.out
      have HLw : Hid ((wordI ts j).length = yn) := hyn.symm
      have hs1 : w.heap.size ≤ w1.heap.size := hb1.size
      rw [← hyn] at hw1 hw6
      clear h1 h2 hb1 hT1 hx hOy hRd hfy hyn HN1
      go_wp2_with (at_builtin; refine wpList_append_own _ rfl (.tmp 3) (.tmp 5) 22 rfl w.heap.size 5 j0 (.int .u8 0) 1 1 Tryz.underlying22 hj0 hy0 hy1 hy2 rfl (by decide) (.slice (some ⟨w.heap.size, 0, none⟩) 0 0) 0 [] rfl HON.out ⟨yg, yo, none⟩ yn yc ((wordI ts j).map (Value.int .u8)) rfl (by rw [List.length_map, HLw.out, Nat.mul_one]) HNews.out (oneCB _) (by unfold maxLen; omega) (by omega) hs1 ?_; intro v6 w6 hown hgrow hnil; have HF6 : Hid (OwnB w.heap.size w6 v6 ([] ++ wordI ts j) ∧ Keep5 w.heap.size _ w6) := ownB_app HON.out hs1 (by rw [HLw.out]; exact hown) hgrow; clear hown hgrow hnil)
      go_ret
      have hO6 : OwnB w.heap.size w6 v6 (wordI ts j) := HF6.out.1
      have hb6 : Below w.heap.size w1 w6 := HF6.out.2.1
      obtain ⟨a6, c6, b6, hv6, hw6b, hf6⟩ := hO6.own HRd.out.byte
      subst hv6
      refine ⟨_, _, _, rfl, HBt.out.trans (Bt.of_below hb6), ?_, fun j' h h' => ?_⟩
      · simp only [takeT, hk, if_true]
        exact ⟨HP1.out.of (hb6.block pb (by omega)), hlt⟩
      · cases h
        have hfz : ∀ x ∈ leafB b6 0 (wordI ts j).length, w.heap.size ≤ b6 ∧ b6 < w6.heap.size ∧ ∀ o, w6.frozen? ⟨b6, o, none⟩ = false := fun x hx => by
          obtain ⟨q, hq, _⟩ := mem_leafB.1 hx
          rcases hf6 with e | ⟨_, e1, e2, e3⟩
          · omega
          · exact ⟨e1, e2, e3⟩
        refine ⟨_, ⟨a6, c6, b6, rfl, hw6b, rfl⟩, leafB_nodup _ _ _, fun x hx => ?_, fun x hx => ?_⟩
        · have := hfz x hx
          obtain ⟨q, hq, rfl⟩ := mem_leafB.1 hx
          exact this.2.2 _
        · have := hfz x hx
          obtain ⟨q, hq, rfl⟩ := mem_leafB.1 hx
          exact .inl ⟨this.1, this.2.1⟩

/-- What a concept leaves. -/
def ConY (pb g : Nat) (ts : List Tok) (gs : List (Nat × Nat)) (en : Int) (st : PSt) (w : World) (e : Ending) (w' : World) : Prop :=
  ∃ zk a1 n1 c1 a2 n2 c2 a3 n3 c3, e = .returned (.agg #[.int .i64 zk, .slice a1 n1 c1, .slice a2 n2 c2, .slice a3 n3 c3]) ∧ Bt pb w.heap.size w w' ∧ PsY w' pb g ts en (conT ts en st) ∧ ∀ j c j', st = .at' j → conR ts en 6 j = .ok c j' → ∃ L, OwnR ts gs j j' w.heap.size w' 6 (.agg #[.int .i64 zk, .slice a1 n1 c1, .slice a2 n2 c2, .slice a3 n3 c3]) c L

theorem conY_any {base pb g : Nat} {ts : List Tok} {gs : List (Nat × Nat)} {en : Int} {st : PSt} (w : World) (hK : Tks ts en) (hT : TkM base pb w g ts gs) (hP : PsY w pb g ts en st) :
    Calls Tryz.prog 98 #[.pointer (some ⟨pb, 0, none⟩), .int .i64 1] w (ConY pb g ts gs en st w) := by
  cases st with
  | bad p =>
    refine (con_stuck pb p w 1 (by omega) hP.2 hP.1).mono ?_
    rintro e w' ⟨rfl, h1, h2⟩
    exact ⟨_, _, _, _, _, _, _, _, _, _, rfl, Bt.of_below h2, ⟨h1, hP.2⟩, fun j c j' h => by cases h⟩
  | at' j =>
    refine (conC_any 6 1 (by omega) (by omega) base pb g j ts gs en w hK hP.1 hT hP.2).mono ?_
    rintro e w' hS
    cases hres : conR ts en 6 j with
    | bad p =>
      rw [hres] at hS
      obtain ⟨hb, hp, zk, a1, n1, c1, a2, n2, c2, a3, n3, c3, rfl⟩ := hS
      refine ⟨zk, a1, n1, c1, a2, n2, c2, a3, n3, c3, rfl, hb, ?_, fun j1 c j' h h' => by cases h; rw [hres] at h'; cases h'⟩
      simp only [conT, hres]
      exact ⟨hp, conR_pos hK.pos hres⟩
    | ok c j' =>
      rw [hres] at hS
      obtain ⟨hb, v, L, rfl, hO, hp⟩ := hS
      obtain ⟨na, nn, nc, ra, rn, rc, ka, kn, kc, rfl⟩ := hO.ow.agg
      refine ⟨_, _, _, _, _, _, _, _, _, _, rfl, hb, ?_, fun j1 c1 j1' h h' => ?_⟩
      · simp only [conT, hres]
        exact ⟨hp, (conR_end ts en 6 j c j' hres).2⟩
      · cases h
        rw [hres] at h'
        cases h'
        exact ⟨L, hO⟩
end

section
open Go.RowKit

theorem toksFrom_place (zs : List Int) : ∀ (f i : Nat) (acc : List Tok), (∀ t ∈ acc, 0 ≤ t.place) → (∀ t ∈ (toksFrom zs f i acc).1, 0 ≤ t.place) ∧ ((toksFrom zs f i acc).2 = -1 ∨ 0 ≤ (toksFrom zs f i acc).2)
  | 0, _, acc, h => ⟨by simpa [toksFrom] using h, .inl rfl⟩
  | f + 1, i, acc, h => by
    rw [toksFrom]
    split
    · split
      · exact toksFrom_place zs f (i + 1) acc h
      · split
        · exact ⟨fun t ht => by simp at ht, .inr (Int.natCast_nonneg i)⟩
        · refine toksFrom_place zs f (pend zs i) (acc ++ [tokAt zs i]) (fun t ht => ?_)
          rcases List.mem_append.1 ht with ht | ht
          · exact h t ht
          · simp only [List.mem_singleton] at ht
            subst ht
            exact Int.natCast_nonneg i
    · exact ⟨h, .inl rfl⟩

theorem toks_place (zs : List Int) : (∀ i, 0 ≤ ((toks zs).1.getD i Tok.zero).place) ∧ ((toks zs).2 = -1 ∨ 0 ≤ (toks zs).2) := by
  have h : (∀ t ∈ (toks zs).1, 0 ≤ t.place) ∧ ((toks zs).2 = -1 ∨ 0 ≤ (toks zs).2) := by
    unfold toks
    split
    · exact ⟨fun t ht => by simp at ht, .inr (by simp)⟩
    · exact toksFrom_place zs _ _ _ (fun t ht => by simp at ht)
  refine ⟨fun i => ?_, h.2⟩
  by_cases hi : i < (toks zs).1.length
  · have e : (toks zs).1.getD i Tok.zero = (toks zs).1[i] := by simp [List.getD, hi]
    rw [e]
    exact h.1 _ (List.getElem_mem hi)
  · have e : (toks zs).1.getD i Tok.zero = Tok.zero := by simp [List.getD, List.getElem?_eq_none (Nat.le_of_not_lt hi)]
    rw [e]; simp [Tok.zero]

/-- A token that is a word has letters. -/
theorem toksFrom_word (zs : List Int) : ∀ (f i : Nat) (acc : List Tok), (∀ t ∈ acc, t.kind = 1 ∨ t.kind = 2 → 1 ≤ t.text.length) → ∀ t ∈ (toksFrom zs f i acc).1, t.kind = 1 ∨ t.kind = 2 → 1 ≤ t.text.length
  | 0, _, acc, h => by simpa [toksFrom] using h
  | f + 1, i, acc, h => by
    rw [toksFrom]
    split
    · split
      · exact toksFrom_word zs f (i + 1) acc h
      · split
        · intro t ht; simp at ht
        · refine toksFrom_word zs f (pend zs i) (acc ++ [tokAt zs i]) (fun t ht => ?_)
          rcases List.mem_append.1 ht with ht | ht
          · exact h t ht
          · simp only [List.mem_singleton] at ht
            subst ht
            intro hk
            have hb : ∀ p : List Int, longB p.length = true → 1 ≤ p.length := fun p hp => by
              simp only [longB, Bool.and_eq_true, decide_eq_true_eq] at hp; exact hp.1
            simp only [tokAt] at hk ⊢
            rw [if_pos hk]
            unfold kindOf at hk
            split at hk
            · rename_i hu
              simp only [upOk, Bool.and_eq_true] at hu
              exact hb _ hu.1
            · split at hk
              · rename_i hu
                simp only [lowOk, Bool.and_eq_true] at hu
                exact hb _ hu.1
              · split at hk
                · simp at hk
                · split at hk <;> simp at hk
    · exact h

theorem toks_word (zs : List Int) (q : Nat) (h : isI (toks zs).1 1 q = true ∨ isI (toks zs).1 2 q = true) : 1 ≤ (wordI (toks zs).1 q).length := by
  have key : ∀ t ∈ (toks zs).1, t.kind = 1 ∨ t.kind = 2 → 1 ≤ t.text.length := by
    unfold toks
    split
    · intro t ht; simp at ht
    · exact toksFrom_word zs _ _ _ (fun t ht => by simp at ht)
  have hi : q < (toks zs).1.length := by rcases h with h | h <;> exact isI_lt h
  have hk : ((toks zs).1.getD q Tok.zero).kind = 1 ∨ ((toks zs).1.getD q Tok.zero).kind = 2 := by
    rcases h with h | h
    · exact .inl (isI_kind h)
    · exact .inr (isI_kind h)
  have e : (toks zs).1.getD q Tok.zero = (toks zs).1[q] := by simp [List.getD, hi]
  unfold wordI
  rw [e] at hk ⊢
  exact key _ (List.getElem_mem hi) hk

theorem toks_tks (zs : List Int) (n : Nat) : Tks (toks zs).1 (n : Nat) :=
  ⟨(toks_bound zs).1, fun q => by unfold hereI; split; exact (toks_place zs).1 q; exact Int.natCast_nonneg n, toks_word zs, toks_short zs⟩
end

end Go.Proofs.YtckhjoancfbkfaaGreat
