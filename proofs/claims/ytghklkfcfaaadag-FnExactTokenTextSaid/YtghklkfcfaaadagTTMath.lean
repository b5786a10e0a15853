/- The text of tokens as a function on lists; a slice of bytes that the call itself has made. -/
import Derived.Test.YtghklkfcfaaadagTTTo
import Derived.Test.YtghklkfcfaaadagWords
namespace Go.Proofs.Ytghklkfcfaaadag
open Go.RowKit

/-- What a token is written as; nothing, if it can't be. -/
def tokPiece (t : Tok) : List Int :=
  if t.kind = 3 then (if t.text = [] then [40] else [])
  else if t.kind = 4 then (if t.text = [] then [41] else [])
  else if t.kind = 1 then (if upOk t.text then t.text else [])
  else if t.kind = 2 then (if lowOk t.text then t.text else [])
  else []

theorem longB_of_up {zs : List Int} (h : upOk zs = true) : 1 ≤ zs.length ∧ zs.length ≤ 6 := by
  unfold upOk longB at h
  simp only [Bool.and_eq_true, decide_eq_true_eq] at h
  exact h.1

theorem longB_of_low {zs : List Int} (h : lowOk zs = true) : 1 ≤ zs.length ∧ zs.length ≤ 6 := by
  unfold lowOk longB at h
  simp only [Bool.and_eq_true, decide_eq_true_eq] at h
  exact h.1

theorem tokPiece_len (t : Tok) : (tokPiece t).length ≤ 6 := by
  unfold tokPiece
  split
  · split <;> simp
  · split
    · split <;> simp
    · split
      · split
        · rename_i h; exact (longB_of_up h).2
        · simp
      · split
        · split
          · rename_i h; exact (longB_of_low h).2
          · simp
        · simp

/-- The blank ahead of all but the first. -/
def gapT (k : Nat) : List Int := if 0 < k then [32] else []

def txtTo (ts : List Tok) : Nat → List Int
  | 0 => []
  | k + 1 => (txtTo ts k ++ gapT k) ++ tokPiece (ts.getD k Tok.zero)

theorem txtTo_len (ts : List Tok) : ∀ k, (txtTo ts k).length ≤ k * 7
  | 0 => by simp [txtTo]
  | k + 1 => by
    have h1 := txtTo_len ts k
    have h2 := tokPiece_len (ts.getD k Tok.zero)
    have h3 : (gapT k).length ≤ 1 := by unfold gapT; split <;> simp
    simp only [txtTo, List.length_append]
    omega

def okTo (ts : List Tok) (k : Nat) : Bool := (List.range k).all (fun i => !(tokPiece (ts.getD i Tok.zero)).isEmpty)

theorem okTo_succ (ts : List Tok) (k : Nat) : okTo ts (k + 1) = (okTo ts k && !(tokPiece (ts.getD k Tok.zero)).isEmpty) := by
  simp [okTo, List.range_succ]

def tokText (ts : List Tok) : List Int := if 1500 < ts.length then [] else if okTo ts ts.length then txtTo ts ts.length else []

theorem tokText_bad {ts : List Tok} {k : Nat} (h : k < ts.length) (hp : tokPiece (ts.getD k Tok.zero) = []) : tokText ts = [] := by
  unfold tokText
  split
  · rfl
  · rw [if_neg]
    intro hok
    simp only [okTo, List.all_eq_true, List.mem_range] at hok
    have := hok k h
    rw [hp] at this
    simp at this

theorem tokText_good {ts : List Tok} (h : ts.length ≤ 1500) (hok : okTo ts ts.length = true) : tokText ts = txtTo ts ts.length := by
  unfold tokText
  rw [if_neg (by omega), if_pos hok]

theorem tokText_len (ts : List Tok) : (tokText ts).length ≤ 10500 := by
  unfold tokText
  split
  · simp
  · split
    · have := txtTo_len ts ts.length; omega
    · simp

theorem piece_byteT {ts : List Tok} (h : ∀ i j, 0 ≤ (ts.getD i Tok.zero).text.getD j 0 ∧ (ts.getD i Tok.zero).text.getD j 0 ≤ 255) (k : Nat) : ∀ x ∈ tokPiece (ts.getD k Tok.zero), 0 ≤ x ∧ x ≤ 255 := by
  have key : ∀ x ∈ (ts.getD k Tok.zero).text, 0 ≤ x ∧ x ≤ 255 := by
    intro x hx
    obtain ⟨j, hj, rfl⟩ := List.mem_iff_getElem.1 hx
    have := h k j
    rw [List.getD, List.getElem?_eq_getElem hj] at this
    exact this
  intro x hx
  unfold tokPiece at hx
  split at hx
  · split at hx <;> simp at hx; omega
  · split at hx
    · split at hx <;> simp at hx; omega
    · split at hx
      · split at hx
        · exact key x hx
        · simp at hx
      · split at hx
        · split at hx
          · exact key x hx
          · simp at hx
        · simp at hx

theorem txtTo_byte {ts : List Tok} (h : ∀ i j, 0 ≤ (ts.getD i Tok.zero).text.getD j 0 ∧ (ts.getD i Tok.zero).text.getD j 0 ≤ 255) : ∀ k, ∀ x ∈ txtTo ts k, 0 ≤ x ∧ x ≤ 255
  | 0 => by simp [txtTo]
  | k + 1 => by
    intro x hx
    simp only [txtTo, List.mem_append] at hx
    rcases hx with (hx | hx) | hx
    · exact txtTo_byte h k x hx
    · unfold gapT at hx; split at hx <;> simp at hx; omega
    · exact piece_byteT h k x hx

theorem tokText_byte {ts : List Tok} (h : ∀ i j, 0 ≤ (ts.getD i Tok.zero).text.getD j 0 ∧ (ts.getD i Tok.zero).text.getD j 0 ≤ 255) : ∀ i, 0 ≤ (tokText ts).getD i 0 ∧ (tokText ts).getD i 0 ≤ 255 := by
  have key : ∀ x ∈ tokText ts, 0 ≤ x ∧ x ≤ 255 := by
    intro x hx
    unfold tokText at hx
    split at hx
    · simp at hx
    · split at hx
      · exact txtTo_byte h _ x hx
      · simp at hx
  intro i
  by_cases hi : i < (tokText ts).length
  · have := key _ (List.getElem_mem hi)
    simpa [List.getD, hi] using this
  · rw [List.getD, List.getElem?_eq_none (by omega)]; simp

/-! ### A slice of bytes of the call's own -/

def OwnB (base : Nat) (w : World) (v : Value) (zs : List Int) : Prop := w.ownsRow base 5 1 v zs.length (zs.map (Value.int .u8))

theorem OwnB.nil (base : Nat) (w : World) : OwnB base w (.slice none 0 0) [] := World.ownsRow_nil _ _ _ _

theorem ownB_step {w0 W w2 : World} {v v' : Value} {xs ys : List Int} (hO : OwnB w0.heap.size W v xs) (hB : Below w0.heap.size w0 W)
    (hown : w2.ownsRow w0.heap.size 5 1 v' (xs.length + ys.length) (xs.map (Value.int .u8) ++ ys.map (Value.int .u8))) (hgrow : W.grownBy w2 v.ownBlock) :
    OwnB w0.heap.size w2 v' (xs ++ ys) ∧ Below w0.heap.size w0 w2 := by
  refine ⟨by unfold OwnB; simpa using hown, hB.grown hgrow hB.size (fun x hx => ?_)⟩
  rcases hO.2 with ⟨rfl, _⟩ | ⟨g1, cap1, cur, rfl, hg1, _⟩
  · simp [Value.ownBlock] at hx
  · simp [Value.ownBlock] at hx; omega

theorem OwnB.below {base B : Nat} {w w' : World} {v : Value} {zs : List Int} (h : OwnB base w v zs) (hb : Below B w w') (hB : w.heap.size ≤ B) : OwnB base w' v zs := by
  obtain ⟨h1, h2⟩ := h
  refine ⟨h1, ?_⟩
  rcases h2 with h2 | ⟨g, cap, cur, hv, hg, hh, r⟩
  · exact .inl h2
  · exact .inr ⟨g, cap, cur, hv, hg, by rw [hb.block g (Nat.lt_of_lt_of_le (Array.getElem?_eq_some_iff.1 hh).1 hB)]; exact hh, r⟩

/-- What it is: nil, with nothing in it; or a row of its own. -/
theorem OwnB.form {base : Nat} {w : World} {v : Value} {zs : List Int} (h : OwnB base w v zs) (hby : ∀ i, 0 ≤ zs.getD i 0 ∧ zs.getD i 0 ≤ 255) :
    ∃ a c b, v = .slice a zs.length c ∧ Rd base w.heap.size w a zs.length c zs ∧ (zs.length = 0 ∨ a = some ⟨b, 0, none⟩) ∧ LeafOk w (leafB b 0 zs.length) ∧ (zs.length = 0 ∨ (base ≤ b ∧ b < w.heap.size)) := by
  by_cases hz : zs.length = 0
  · rcases h.2 with ⟨hv, _⟩ | ⟨g, cap, cur, hv, _, _, _, hc2, _⟩
    · refine ⟨none, 0, 0, by rw [hv, hz], ?_, .inl hz, ?_, .inl hz⟩
      · rw [List.eq_nil_of_length_eq_zero hz]; exact Rd.none_of (by omega)
      · rw [hz]; intro x hx; simp [leafB] at hx
    · unfold maxLen at hc2
      refine ⟨_, cap, 0, hv, ?_, .inl hz, ?_, .inl hz⟩
      · rw [List.eq_nil_of_length_eq_zero hz]; exact Rd.none_of hc2
      · rw [hz]; intro x hx; simp [leafB] at hx
  · obtain ⟨h1, h2⟩ := h
    rcases h2 with ⟨_, h0⟩ | ⟨g, cap, cur, hv, hg, hh, hc1, hc2, hc3, hc4⟩
    · exact absurd h0 hz
    · simp only [Nat.mul_one] at hc3 hc4
      unfold maxLen at hc2
      have hrow : Row w g cap zs := by
        refine ⟨cur, hh, hc3, hc1, fun i hi => ?_⟩
        have e : (cur.toList.take zs.length)[i]? = (zs.map (Value.int .u8))[i]? := by rw [hc4]
        rw [List.getElem?_take, if_pos hi] at e
        simp only [Array.getElem?_toList] at e
        rw [e]
        simp [List.getD, hi]
      refine ⟨_, cap, g, hv, hrow.rd rfl hby hc2 hg hrow.lt, .inr rfl, ?_, .inr ⟨hg, hrow.lt⟩⟩
      intro x hx
      simp only [leafB, List.mem_map, List.mem_range] at hx
      obtain ⟨j, hj, rfl⟩ := hx
      simp only [Nat.zero_add]
      exact ⟨⟨_, hrow.cell hj⟩, hrow.frozen _⟩

theorem leafB_nodup (b off n : Nat) : ((leafB b off n).map (·.1)).Nodup := by
  rw [List.nodup_iff_pairwise_ne, List.pairwise_iff_getElem]
  intro i j hi hj hij
  simp [leafB] <;> omega

theorem new1 (w : World) (g : Nat) (c : Int) (hg : g = w.heap.size) : ∀ j u, ([c].map (Value.int .u8))[j]? = some u → (w.alloc (.cells #[.int .u8 c] 5)).cell? ((⟨g, 0, none⟩ : Addr).add j) = some u := by
  intro j u hu
  subst hg
  rw [Addr.add_lit]
  match j, hu with
  | 0, hu => simp at hu; subst hu; simp

theorem oneCB (zs : List Int) : ∀ u ∈ zs.map (Value.int .u8), u.oneCell' = true := by
  intro u hu; simp only [List.mem_map] at hu; obtain ⟨x, _, rfl⟩ := hu; rfl

theorem rd_news {lo hi : Nat} {w : World} {b off n cap : Nat} {zs : List Int} (h : Rd lo hi w (some ⟨b, off, none⟩) n cap zs) : ∀ j u, (zs.map (Value.int .u8))[j]? = some u → w.cell? ((⟨b, off, none⟩ : Addr).add j) = some u := by
  intro j u hu
  have hj : j < zs.length := by simpa using (List.getElem?_eq_some_iff.1 hu).1
  rcases h.cells with h0 | ⟨b', off', e, _, _, hc⟩
  · have := h.len; omega
  · simp only [Option.some.injEq, Addr.mk.injEq, and_true] at e
    obtain ⟨rfl, rfl⟩ := e
    rw [Addr.add_lit, hc j (by have := h.len; omega), ← hu]
    simp [List.getD, hj]

end Go.Proofs.Ytghklkfcfaaadag
