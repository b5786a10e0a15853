/- Several texts in one: OwnB, ConTxt, TokMath, ReadM, ConSay, OwnI. -/
import Derived.Test.YtnmljalcndfjmaaGreatNG2
import Derived.Laws.AppendOwn
import Derived.Test.YtnmljalcndfjmaaGreatNG3
import Derived.Lib.AppendStr
import Derived.Deep.RegionLaw
import Derived.Deep.DeepCutAuto
namespace Go.Proofs.YtnmljalcndfjmaaGreat

section
open Go.RowKit

theorem longB_of_up {zs : List Int} (h : upOk zs = true) : 1 ≤ zs.length ∧ zs.length ≤ 6 := by
  unfold upOk longB at h
  simp only [Bool.and_eq_true, decide_eq_true_eq] at h
  exact h.1

theorem longB_of_low {zs : List Int} (h : lowOk zs = true) : 1 ≤ zs.length ∧ zs.length ≤ 6 := by
  unfold lowOk longB at h
  simp only [Bool.and_eq_true, decide_eq_true_eq] at h
  exact h.1

/-- The blank ahead of all but the first. -/
def gapT (k : Nat) : List Int := if 0 < k then [32] else []

theorem gapT_pos {k : Nat} (h : 0 < k) : gapT k = [32] := if_pos h
theorem gapT_zero : gapT 0 = [] := rfl

/-! ### A slice of bytes of the call's own -/

def OwnB (base : Nat) (w : World) (v : Value) (zs : List Int) : Prop := w.ownsRow base 5 1 v zs.length (zs.map (Value.int .u8))

theorem OwnB.nil (base : Nat) (w : World) : OwnB base w (.slice none 0 0) [] := World.ownsRow_nil _ _ _ _

theorem OwnB.below {base B : Nat} {w w' : World} {v : Value} {zs : List Int} (h : OwnB base w v zs) (hb : Below B w w') (hB : w.heap.size ≤ B) : OwnB base w' v zs := by
  obtain ⟨h1, h2⟩ := h
  refine ⟨h1, ?_⟩
  rcases h2 with h2 | ⟨g, cap, cur, hv, hg, hh, r⟩
  · exact .inl h2
  · exact .inr ⟨g, cap, cur, hv, hg, by rw [hb.block g (Nat.lt_of_lt_of_le (Array.getElem?_eq_some_iff.1 hh).1 hB)]; exact hh, r⟩

/-- What it is: nil, with nothing in it; or a row of its own. -/
theorem OwnB.form {base : Nat} {w : World} {v : Value} {zs : List Int} (h : OwnB base w v zs) (hby : ∀ i, 0 ≤ zs.getD i 0 ∧ zs.getD i 0 ≤ 255) :
    ∃ a c b, v = .slice a zs.length c ∧ Rd base w.heap.size w a zs.length c zs ∧ (zs.length = 0 ∨ a = some ⟨b, 0, none⟩) ∧ LeafOk w (leafB b 0 zs.length) ∧ (zs.length = 0 ∨ (base ≤ b ∧ b < w.heap.size)) := by
  by_cases hz : zs.length = 0
  · rcases h.2 with ⟨hv, _⟩ | ⟨g, cap, cur, hv, _, _, _, hc2, _⟩
    · refine ⟨none, 0, 0, by rw [hv, hz], ?_, .inl hz, ?_, .inl hz⟩
      · rw [List.eq_nil_of_length_eq_zero hz]; exact Rd.none_of (by omega)
      · rw [hz]; intro x hx; simp [leafB] at hx
    · unfold maxLen at hc2
      refine ⟨_, cap, 0, hv, ?_, .inl hz, ?_, .inl hz⟩
      · rw [List.eq_nil_of_length_eq_zero hz]; exact Rd.none_of hc2
      · rw [hz]; intro x hx; simp [leafB] at hx
  · obtain ⟨h1, h2⟩ := h
    rcases h2 with ⟨_, h0⟩ | ⟨g, cap, cur, hv, hg, hh, hc1, hc2, hc3, hc4⟩
    · exact absurd h0 hz
    · simp only [Nat.mul_one] at hc3 hc4
      unfold maxLen at hc2
      have hrow : Row w g cap zs := by
        refine ⟨cur, hh, hc3, hc1, fun i hi => ?_⟩
        have e : (cur.toList.take zs.length)[i]? = (zs.map (Value.int .u8))[i]? := by rw [hc4]
        rw [List.getElem?_take, if_pos hi] at e
        simp only [Array.getElem?_toList] at e
        rw [e]
        simp [List.getD, hi]
      refine ⟨_, cap, g, hv, hrow.rd rfl hby hc2 hg hrow.lt, .inr rfl, ?_, .inr ⟨hg, hrow.lt⟩⟩
      intro x hx
      simp only [leafB, List.mem_map, List.mem_range] at hx
      obtain ⟨j, hj, rfl⟩ := hx
      simp only [Nat.zero_add]
      exact ⟨⟨_, hrow.cell hj⟩, hrow.frozen _⟩

theorem leafB_nodup (b off n : Nat) : ((leafB b off n).map (·.1)).Nodup := by
  rw [List.nodup_iff_pairwise_ne, List.pairwise_iff_getElem]
  intro i j hi hj hij
  simp [leafB] <;> omega

theorem new1 (w : World) (g : Nat) (c : Int) (hg : g = w.heap.size) : ∀ j u, ([c].map (Value.int .u8))[j]? = some u → (w.alloc (.cells #[.int .u8 c] 5)).cell? ((⟨g, 0, none⟩ : Addr).add j) = some u := by
  intro j u hu
  subst hg
  rw [Addr.add_lit]
  match j, hu with
  | 0, hu => simp at hu; subst hu; simp

theorem oneCB (zs : List Int) : ∀ u ∈ zs.map (Value.int .u8), u.oneCell' = true := by
  intro u hu; simp only [List.mem_map] at hu; obtain ⟨x, _, rfl⟩ := hu; rfl

theorem rd_news {lo hi : Nat} {w : World} {b off n cap : Nat} {zs : List Int} (h : Rd lo hi w (some ⟨b, off, none⟩) n cap zs) : ∀ j u, (zs.map (Value.int .u8))[j]? = some u → w.cell? ((⟨b, off, none⟩ : Addr).add j) = some u := by
  intro j u hu
  have hj : j < zs.length := by simpa using (List.getElem?_eq_some_iff.1 hu).1
  rcases h.cells with h0 | ⟨b', off', e, _, _, hc⟩
  · have := h.len; omega
  · simp only [Option.some.injEq, Addr.mk.injEq, and_true] at e
    obtain ⟨rfl, rfl⟩ := e
    rw [Addr.add_lit, hc j (by have := h.len; omega), ← hu]
    simp [List.getD, hj]

/-- All that lay below base is as it was, and all blocks that are no bytes. -/
def Keep5 (base : Nat) (w w' : World) : Prop := Below base w w' ∧ ∀ (b : Nat) (c : Array Value) (t : TypeId) (f : Nat × Nat), t ≠ 5 → w.heap[b]? = some (.cells c t f) → w'.heap[b]? = some (.cells c t f)

theorem Keep5.refl (base : Nat) (w : World) : Keep5 base w w := ⟨Below.refl _ _, fun _ _ _ _ _ h => h⟩
theorem Keep5.trans {base : Nat} {a b c : World} (h : Keep5 base a b) (k : Keep5 base b c) : Keep5 base a c := ⟨h.1.trans k.1, fun x c t f h1 h2 => k.2 x c t f h1 (h.2 x c t f h1 h2)⟩
theorem Keep5.of_below {base : Nat} {w w' : World} (h : Below w.heap.size w w') (hb : base ≤ w.heap.size) : Keep5 base w w' := ⟨h.mono hb, fun b _ _ _ _ h2 => (h.block b (Array.getElem?_eq_some_iff.1 h2).1).trans h2⟩
theorem Keep5.drew {base : Nat} {w w' : World} (h : Keep5 base w w') : Keep5 base w w'.drew := ⟨h.1.drew, h.2⟩

theorem ownB_app {base : Nat} {W w2 : World} {v v' : Value} {xs ys : List Int} (hO : OwnB base W v xs) (hb : base ≤ W.heap.size)
    (hown : w2.ownsRow base 5 1 v' (xs.length + ys.length) (xs.map (Value.int .u8) ++ ys.map (Value.int .u8))) (hgrow : W.grownBy w2 v.ownBlock) :
    OwnB base w2 v' (xs ++ ys) ∧ Keep5 base W w2 := by
  refine ⟨by unfold OwnB; simpa using hown, (Below.refl base W).grown hgrow hb (fun x hx => ?_), fun b c t f ht hh => ?_⟩
  · rcases hO.2 with ⟨rfl, _⟩ | ⟨g1, cap1, cur, rfl, hg1, _⟩
    · simp [Value.ownBlock] at hx
    · simp [Value.ownBlock] at hx; omega
  · refine (hgrow.block b (Array.getElem?_eq_some_iff.1 hh).1 (fun e => ?_)).trans hh
    rcases hO.2 with ⟨rfl, _⟩ | ⟨g1, cap1, cur, rfl, hg1, hgb, _⟩
    · simp [Value.ownBlock] at e
    · simp [Value.ownBlock] at e
      subst e
      rw [hh] at hgb
      simp at hgb
      exact ht hgb.2.1
end

section
open Go.RowKit

/-- The word of a kind, by its bytes. -/
def wordOf (k : Int) : List Int := if k = 0 then [84, 111, 112] else if k = 1 then [66, 111, 116] else if k = 3 then [78, 111, 116] else if k = 4 then [65, 110, 100] else if k = 5 then [79, 114] else if k = 6 then [83, 111, 109, 101] else if k = 7 then [65, 108, 108] else []

theorem wordOf_len (k : Int) : (wordOf k).length ≤ 4 := by
  unfold wordOf
  repeat' split
  all_goals simp

def roleT (r : List Int) : List Int := if r = [] then [] else r ++ [32]

mutual
def textC : CN → List Int
  | .mk k n r ks => if k = 2 then n else if ks.length = 0 then wordOf k else wordOf k ++ [40] ++ roleT r ++ textJ 0 ks ++ [41]
/-- The kids' texts; a blank ahead of all but the first. -/
def textJ : Nat → List CN → List Int
  | _, [] => []
  | i, c :: cs => gapT i ++ textC c ++ textJ (i + 1) cs
end

theorem textC_eq (c : CN) : textC c = if c.kind = 2 then c.name else if c.kids.length = 0 then wordOf c.kind else wordOf c.kind ++ [40] ++ roleT c.role ++ textJ 0 c.kids ++ [41] := by
  cases c; rw [textC]; rfl

theorem textJ_append (xs ys : List CN) : ∀ i, textJ i (xs ++ ys) = textJ i xs ++ textJ (i + xs.length) ys := by
  induction xs with
  | nil => intro i; simp [textJ]
  | cons x xs ih => intro i; simp only [List.cons_append, textJ, ih, List.append_assoc, List.length_cons]; rw [show i + 1 + xs.length = i + (xs.length + 1) by omega]

theorem textJ_take_succ (cs : List CN) (j : Nat) (h : j < cs.length) : textJ 0 (cs.take (j + 1)) = textJ 0 (cs.take j) ++ gapT j ++ textC (cs.getD j CN.zero) := by
  rw [take_succ_getD cs CN.zero j h, textJ_append]
  simp only [textJ, List.append_nil, List.length_take, Nat.zero_add]
  rw [show min j cs.length = j by omega, List.append_assoc]

theorem textJ_take_le (cs : List CN) (j : Nat) : (textJ 0 (cs.take j)).length ≤ (textJ 0 cs).length := by
  have := textJ_append (cs.take j) (cs.drop j) 0
  rw [List.take_append_drop] at this
  rw [this, List.length_append]; omega

theorem gapT_len (i : Nat) : (gapT i).length ≤ 1 := by unfold gapT; split <;> simp

mutual
theorem textC_len : ∀ c : CN, (textC c).length ≤ 30 * c.bulk + 10
  | .mk k n r ks => by
    rw [textC, CN.bulk]
    have h1 := wordOf_len k
    have h2 := textJ_len ks 0
    have h3 : (roleT r).length ≤ r.length + 1 := by unfold roleT; split <;> simp
    split
    · omega
    · split
      · omega
      · simp only [List.length_append, List.length_cons, List.length_nil]; omega
theorem textJ_len : ∀ (cs : List CN) (i : Nat), (textJ i cs).length ≤ 30 * bulks cs
  | [], _ => by simp [textJ]
  | c :: cs, i => by
    rw [textJ, bulks]
    have h1 := textC_len c
    have h2 := textJ_len cs (i + 1)
    have h3 := gapT_len i
    simp only [List.length_append]; omega
end

mutual
/-- Each part is as its kind asks. -/
def wfC : CN → Bool
  | .mk k n r ks => shapeB (.mk k n r ks) && wfL ks
def wfL : List CN → Bool
  | [] => true
  | c :: cs => wfC c && wfL cs
end

theorem wfC_eq (c : CN) : wfC c = (shapeB c && wfL c.kids) := by cases c; rw [wfC]; rfl

theorem wfL_getD : ∀ (cs : List CN) (j : Nat), j < cs.length → wfL cs = true → wfC (cs.getD j CN.zero) = true
  | [], _, h, _ => by simp at h
  | c :: cs, 0, _, hw => by rw [wfL, Bool.and_eq_true] at hw; exact hw.1
  | c :: cs, j + 1, h, hw => by
    rw [wfL, Bool.and_eq_true] at hw
    have := wfL_getD cs j (by simpa using h) hw.2
    simpa [List.getD] using this

mutual
theorem wfC_of_parts : ∀ (c : CN) (deep : Nat), (parts c deep).all okOne = true → wfC c = true
  | .mk k n r ks, deep, h => by
    rw [parts, List.all_cons, Bool.and_eq_true] at h
    rw [wfC, wfL_of_parts ks (deep + 1) h.2, Bool.and_true]
    have := h.1
    unfold okOne at this
    rw [Bool.and_eq_true] at this
    exact this.2
theorem wfL_of_parts : ∀ (cs : List CN) (deep : Nat), (partsL cs deep).all okOne = true → wfL cs = true
  | [], _, _ => by rw [wfL]
  | c :: cs, deep, h => by
    rw [partsL, List.all_append, Bool.and_eq_true] at h
    rw [wfL, wfC_of_parts c deep h.1, wfL_of_parts cs deep h.2]; rfl
end

theorem wfC_of_ok {c : CN} (h : conOk c = true) : wfC c = true := by
  unfold conOk at h
  rw [Bool.and_eq_true] at h
  exact wfC_of_parts c 1 h.2

theorem kidN_in {k : Int} (h : 0 ≤ kidN k) : 0 ≤ k ∧ k ≤ 7 := by
  by_cases ho : k < 0 ∨ 7 < k
  · rw [kidN_out ho] at h; omega
  · omega

/-- What is known of a part that is as its kind asks. -/
theorem shape_facts {c : CN} (h : shapeB c = true) : (0 ≤ c.kind ∧ c.kind ≤ 7) ∧ (c.kind = 2 → 1 ≤ c.name.length ∧ c.kids.length = 0) ∧ (roleB c.kind = true → 1 ≤ c.role.length) ∧ (roleB c.kind = false → c.role = []) := by
  unfold shapeB at h
  simp only [Bool.and_eq_true, decide_eq_true_eq] at h
  obtain ⟨h1, h2, h3⟩ := h
  refine ⟨kidN_in (by omega), fun hk => ?_, fun hr => ?_, fun hr => ?_⟩
  · unfold nameFit at h1
    rw [if_pos hk, Bool.and_eq_true] at h1
    refine ⟨(longB_of_up h1.1).1, ?_⟩
    rw [hk] at h3
    simp [kidN] at h3
    rw [h3]; rfl
  · unfold roleFit at h2
    rw [if_pos hr] at h2
    exact (longB_of_low h2).1
  · unfold roleFit at h2
    rw [if_neg (by rw [hr]; simp)] at h2
    exact List.eq_nil_of_length_eq_zero (by simpa using h2)

theorem BoxC.keep5 {W W' : World} {base b : Nat} {v0 v1 v2 v3 : Value} (h : BoxC W b v0 v1 v2 v3) (hk : Keep5 base W W') : BoxC W' b v0 v1 v2 v3 := hk.2 b _ _ _ (by decide) h

/-- The word of a kind, as a string. -/
def wordB (k : Int) : ByteArray := if k = 0 then ⟨#[84, 111, 112]⟩ else if k = 1 then ⟨#[66, 111, 116]⟩ else if k = 3 then ⟨#[78, 111, 116]⟩ else if k = 4 then ⟨#[65, 110, 100]⟩ else if k = 5 then ⟨#[79, 114]⟩ else if k = 6 then ⟨#[83, 111, 109, 101]⟩ else if k = 7 then ⟨#[65, 108, 108]⟩ else ⟨#[]⟩

theorem wordB_cells (k : Int) : Lib.strCells (wordB k) = (wordOf k).map (Value.int .u8) := by
  unfold wordB wordOf
  repeat' split
  all_goals rfl

theorem wordB_size (k : Int) : (wordB k).size = (wordOf k).length := by
  rw [← Lib.strCells_length, wordB_cells, List.length_map]

set_option maxHeartbeats 400000 in
theorem l2words_any (w : World) : Calls Tryz.prog 167 #[] w fun e w' => e = .returned (.slice (some ⟨w.heap.size, 0, none⟩) 8 8) ∧ (∀ i : Nat, i < 8 → w'.cell? ⟨w.heap.size, i, none⟩ = some (.string (wordB i))) ∧ Below w.heap.size w w' := by
  go_enter Tryz.func167, Tryz.ntmps167
  go_wp2
  go_ret
  refine ⟨rfl, fun i hi => ?_, (Below.refl _ _).alloc (Nat.le_refl _) _⟩
  match i, hi with
  | 0, _ | 1, _ | 2, _ | 3, _ | 4, _ | 5, _ | 6, _ | 7, _ => simp; rfl

theorem ownB_str {base : Nat} {W w2 : World} {v v' : Value} {xs : List Int} {k : Int} (hO : OwnB base W v xs) (hb : base ≤ W.heap.size)
    (hown : w2.ownsRow base 5 1 v' (xs.length + (wordB k).size) (xs.map (Value.int .u8) ++ Lib.strCells (wordB k))) (hgrow : W.grownBy w2 v.ownBlock) :
    OwnB base w2 v' (xs ++ wordOf k) ∧ Keep5 base W w2 := by
  rw [wordB_size, wordB_cells] at hown
  exact ownB_app hO hb hown hgrow
end

section
def runLow (zs : List Int) (i : Nat) : Nat := ((zs.drop i).takeWhile lowB).length

theorem runLow_le (zs : List Int) (i : Nat) : runLow zs i ≤ zs.length - i := by
  unfold runLow
  have := (List.takeWhile_sublist lowB (l := zs.drop i)).length_le
  simpa using this

theorem runLow_stop (zs : List Int) (i : Nat) (h : zs.length ≤ i ∨ lowB (zs.getD i 0) = false) : runLow zs i = 0 := by
  unfold runLow
  by_cases hi : i < zs.length
  · have h' : lowB (zs.getD i 0) = false := by rcases h with h | h; omega; exact h
    rw [List.drop_eq_getElem_cons hi, List.takeWhile_cons]
    simp [List.getD, hi] at h'
    simp [h']
  · rw [List.drop_eq_nil_of_le (by omega)]; rfl

theorem runLow_go (zs : List Int) (i : Nat) (hi : i < zs.length) (h : lowB (zs.getD i 0) = true) : runLow zs i = runLow zs (i + 1) + 1 := by
  unfold runLow
  rw [List.drop_eq_getElem_cons hi, List.takeWhile_cons]
  simp [List.getD, hi] at h
  simp [h]

/-- Where the piece that begins at i ends. -/
def pend (zs : List Int) (i : Nat) : Nat := if zs.getD i 0 = 40 ∨ zs.getD i 0 = 41 then i + 1 else i + 1 + runLow zs (i + 1)
def piece (zs : List Int) (i : Nat) : List Int := (zs.drop i).take (pend zs i - i)

theorem pend_gt (zs : List Int) (i : Nat) : i < pend zs i := by unfold pend; split <;> omega
theorem pend_le (zs : List Int) (i : Nat) (hi : i < zs.length) : pend zs i ≤ zs.length := by
  unfold pend
  have := runLow_le zs (i + 1)
  split <;> omega
theorem piece_length (zs : List Int) (i : Nat) (hi : i < zs.length) : (piece zs i).length = pend zs i - i := by
  have := pend_le zs i hi
  simp [piece]; omega
theorem piece_getD (zs : List Int) (i j : Nat) (hi : i < zs.length) (hj : j < pend zs i - i) : (piece zs i).getD j 0 = zs.getD (i + j) 0 := by
  have := pend_le zs i hi
  simp [piece, List.getD, hj]

/-- What a piece is: 1, 2 a word, 3, 4 a bracket, 0 none of these. -/
def kindOf (p : List Int) : Int := if upOk p then 1 else if lowOk p then 2 else if p = [40] then 3 else if p = [41] then 4 else 0
def blankB (c : Int) : Bool := c == 32 || c == 10

def tokAt (zs : List Int) (i : Nat) : Tok := ⟨kindOf (piece zs i), i, if kindOf (piece zs i) = 1 ∨ kindOf (piece zs i) = 2 then piece zs i else []⟩

def toksFrom (zs : List Int) : Nat → Nat → List Tok → List Tok × Int
  | 0, _, acc => (acc, -1)
  | f + 1, i, acc => if i < zs.length then (if blankB (zs.getD i 0) then toksFrom zs f (i + 1) acc else if kindOf (piece zs i) = 0 then ([], (i : Int)) else toksFrom zs f (pend zs i) (acc ++ [tokAt zs i])) else (acc, -1)

/-- The tokens of a text and -1; or none, and a place. -/
def toks (zs : List Int) : List Tok × Int := if 1500 < zs.length then ([], 0) else toksFrom zs (zs.length + 1) 0 []

theorem piece_open (zs : List Int) (i : Nat) (hi : i < zs.length) (h : zs.getD i 0 = 40) : piece zs i = [40] ∧ pend zs i = i + 1 := by
  have hp : pend zs i = i + 1 := by unfold pend; rw [if_pos (.inl h)]
  refine ⟨?_, hp⟩
  unfold piece; rw [hp, show i + 1 - i = 1 from by omega, List.drop_eq_getElem_cons hi]
  simp [List.getD, hi] at h
  simp [h]

theorem piece_close (zs : List Int) (i : Nat) (hi : i < zs.length) (h : zs.getD i 0 = 41) : piece zs i = [41] ∧ pend zs i = i + 1 := by
  have hp : pend zs i = i + 1 := by unfold pend; rw [if_pos (.inr h)]
  refine ⟨?_, hp⟩
  unfold piece; rw [hp, show i + 1 - i = 1 from by omega, List.drop_eq_getElem_cons hi]
  simp [List.getD, hi] at h
  simp [h]

theorem kind_open : kindOf [40] = 3 := by decide
theorem kind_close : kindOf [41] = 4 := by decide

def wordKind (c : Int) : Int := if upB c then 1 else 2
def wordOk (p : List Int) : Bool := upOk p || lowOk p

/-- Of a piece that is no bracket: a word, by its first letter, or nothing. -/
theorem kind_word (p : List Int) (h0 : p.getD 0 0 ≠ 40) (h1 : p.getD 0 0 ≠ 41) : kindOf p = if wordOk p then wordKind (p.getD 0 0) else 0 := by
  unfold wordOk wordKind
  have e0 : p ≠ [40] := fun e => by rw [e] at h0; simp at h0
  have e1 : p ≠ [41] := fun e => by rw [e] at h1; simp at h1
  unfold kindOf
  by_cases hu : upOk p = true
  · have hb : upB (p.getD 0 0) = true := by simp only [upOk, Bool.and_eq_true] at hu; exact hu.2.1
    rw [if_pos hu, hu, hb]
    rfl
  · have hu' : upOk p = false := by simpa using hu
    rw [if_neg hu]
    by_cases hl : lowOk p = true
    · have hb : upB (p.getD 0 0) = false := by
        simp only [lowOk, longB, Bool.and_eq_true, decide_eq_true_eq] at hl
        obtain ⟨⟨h1, _⟩, h2⟩ := hl
        have hm := List.all_eq_true.1 h2 (p.getD 0 0) (by
          simp only [List.getD]
          rw [List.getElem?_eq_getElem (by omega)]
          simp)
        generalize p.getD 0 0 = c at hm
        simp only [lowB, upB, Bool.and_eq_true, decide_eq_true_eq] at hm ⊢
        simp; omega
      rw [if_pos hl, hl, hb, hu']
      rfl
    · have hl' : lowOk p = false := by simpa using hl
      rw [if_neg hl, if_neg e0, if_neg e1]
      simp [hu', hl']
end

section
/-- What is read and the place behind it; or what is wrong. -/
inductive Res where
  | ok (c : CN) (j : Nat)
  | bad (at' : Int)

inductive ResL where
  | ok (cs : List CN) (j : Nat)
  | bad (at' : Int)

/-- The kind that a word names; 2: none. -/
def kindW (l : List UInt8) : Int :=
  if l = [84, 111, 112] then 0 else if l = [66, 111, 116] then 1 else if l = [78, 111, 116] then 3 else if l = [65, 110, 100] then 4 else if l = [79, 114] then 5 else if l = [83, 111, 109, 101] then 6 else if l = [65, 108, 108] then 7 else 2

theorem kindW_range (l : List UInt8) : kindW l = 0 ∨ kindW l = 1 ∨ kindW l = 2 ∨ kindW l = 3 ∨ kindW l = 4 ∨ kindW l = 5 ∨ kindW l = 6 ∨ kindW l = 7 := by
  unfold kindW
  split
  · simp
  · split
    · simp
    · split
      · simp
      · split
        · simp
        · split
          · simp
          · split
            · simp
            · split <;> simp

def isI (ts : List Tok) (k : Int) (i : Nat) : Bool := decide (i < ts.length) && decide ((ts.getD i Tok.zero).kind = k)
def hereI (ts : List Tok) (en : Int) (i : Nat) : Int := if i < ts.length then (ts.getD i Tok.zero).place else en
def wordI (ts : List Tok) (i : Nat) : List Int := (ts.getD i Tok.zero).text
def kindI (ts : List Tok) (i : Nat) : Int := kindW (strOfNums (wordI ts i)).toList

/-- So many kids, one behind the other. -/
def kidsR (g : Nat → Res) (j : Nat) : Nat → ResL
  | 0 => .ok [] j
  | m + 1 => match kidsR g j m with
    | .bad a => .bad a
    | .ok cs j' => match g j' with
      | .bad a => .bad a
      | .ok c j'' => .ok (cs ++ [c]) j''

/-- The bracket that ends it. -/
def closeR (ts : List Tok) (en : Int) (k : Int) (rl : List Int) : ResL → Res
  | .bad a => .bad a
  | .ok cs j => if isI ts 4 j = true then .ok (.mk k [] rl cs) (j + 1) else .bad (hereI ts en j)

def roleI (ts : List Tok) (k : Int) (i : Nat) : List Int := if roleB k = true then wordI ts (i + 2) else []
def startI (k : Int) (i : Nat) : Nat := if roleB k = true then i + 3 else i + 2

/-- A concept, at most so deep, from the token i on. -/
def conR (ts : List Tok) (en : Int) : Nat → Nat → Res
  | 0, i => .bad (hereI ts en i)
  | f + 1, i =>
    if isI ts 1 i = false then .bad (hereI ts en i)
    else if kindI ts i = 2 then (if keptB (strOfNums (wordI ts i)).toList = true then .bad (hereI ts en i) else .ok (.mk 2 (wordI ts i) [] []) (i + 1))
    else if kidN (kindI ts i) = 0 then .ok (.mk (kindI ts i) [] [] []) (i + 1)
    else if isI ts 3 (i + 1) = false then .bad (hereI ts en (i + 1))
    else if roleB (kindI ts i) = true ∧ isI ts 2 (i + 2) = false then .bad (hereI ts en (i + 2))
    else closeR ts en (kindI ts i) (roleI ts (kindI ts i) i) (kidsR (conR ts en f) (startI (kindI ts i) i) (kidN (kindI ts i)).toNat)

/-- What a text reads as, whatever it is of parts: a concept and -1; or the place of what is wrong. -/
def wholeR (zs : List Int) : CN × Int :=
  if (toks zs).2 ≠ -1 then (CN.zero, (toks zs).2)
  else match conR (toks zs).1 (zs.length : Nat) 6 0 with
    | .bad a => (CN.zero, a)
    | .ok c j => if j < (toks zs).1.length then (CN.zero, hereI (toks zs).1 (zs.length : Nat) j) else (c, -1)

/-- What a text reads as: a concept that may be, and -1; or the place of what is wrong. -/
def conRead (zs : List Int) : CN × Int := if (wholeR zs).2 = -1 ∧ conOk (wholeR zs).1 = false then (CN.zero, (zs.length : Nat)) else wholeR zs

theorem wholeR_tok {zs : List Int} {ts : List Tok} {p : Int} (ht : toks zs = (ts, p)) (hp : p ≠ -1) : wholeR zs = (CN.zero, p) := by
  unfold wholeR; rw [ht]; rw [if_pos hp]
theorem wholeR_bad {zs : List Int} {ts : List Tok} {n : Nat} {a : Int} (ht : toks zs = (ts, -1)) (hl : zs.length = n) (h : conR ts (n : Nat) 6 0 = .bad a) : wholeR zs = (CN.zero, a) := by
  unfold wholeR; rw [ht, hl]; rw [if_neg (by simp)]; simp only; rw [h]
theorem wholeR_more {zs : List Int} {ts : List Tok} {n : Nat} {c : CN} {j : Nat} (ht : toks zs = (ts, -1)) (hl : zs.length = n) (h : conR ts (n : Nat) 6 0 = .ok c j) (hj : j < ts.length) : wholeR zs = (CN.zero, hereI ts (n : Nat) j) := by
  unfold wholeR; rw [ht, hl]; rw [if_neg (by simp)]; simp only; rw [h]; simp only; rw [if_pos hj]
theorem wholeR_ok {zs : List Int} {ts : List Tok} {n : Nat} {c : CN} {j : Nat} (ht : toks zs = (ts, -1)) (hl : zs.length = n) (h : conR ts (n : Nat) 6 0 = .ok c j) (hj : ¬ j < ts.length) : wholeR zs = (c, -1) := by
  unfold wholeR; rw [ht, hl]; rw [if_neg (by simp)]; simp only; rw [h]; simp only; rw [if_neg hj]

/-- A word of a token is short. -/
theorem toksFrom_short (zs : List Int) : ∀ (f i : Nat) (acc : List Tok), (∀ t ∈ acc, t.text.length ≤ 6) → ∀ t ∈ (toksFrom zs f i acc).1, t.text.length ≤ 6
  | 0, _, acc, h => by simpa [toksFrom] using h
  | f + 1, i, acc, h => by
    rw [toksFrom]
    split
    · split
      · exact toksFrom_short zs f (i + 1) acc h
      · split
        · intro t ht; simp at ht
        · refine toksFrom_short zs f (pend zs i) (acc ++ [tokAt zs i]) (fun t ht => ?_)
          rcases List.mem_append.1 ht with ht | ht
          · exact h t ht
          · simp only [List.mem_singleton] at ht
            subst ht
            have hb : ∀ p : List Int, longB p.length = true → p.length ≤ 6 := fun p hp => by
              simp only [longB, Bool.and_eq_true, decide_eq_true_eq] at hp; exact hp.2
            simp only [tokAt]
            split
            · rename_i hk
              unfold kindOf at hk
              split at hk
              · rename_i hu
                simp only [upOk, Bool.and_eq_true] at hu
                exact hb _ hu.1
              · split at hk
                · rename_i hu
                  simp only [lowOk, Bool.and_eq_true] at hu
                  exact hb _ hu.1
                · split at hk
                  · simp at hk
                  · split at hk <;> simp at hk
            · simp
    · exact h

theorem toks_short (zs : List Int) (i : Nat) : (wordI (toks zs).1 i).length ≤ 6 := by
  have h : ∀ t ∈ (toks zs).1, t.text.length ≤ 6 := by
    unfold toks
    split
    · intro t ht; simp at ht
    · exact toksFrom_short zs _ _ _ (fun t ht => by simp at ht)
  unfold wordI
  by_cases hi : i < (toks zs).1.length
  · have e : (toks zs).1.getD i Tok.zero = (toks zs).1[i] := by simp [List.getD, hi]
    rw [e]
    exact h _ (List.getElem_mem hi)
  · have e : (toks zs).1.getD i Tok.zero = Tok.zero := by simp [List.getD, List.getElem?_eq_none (Nat.le_of_not_lt hi)]
    rw [e]; simp [Tok.zero]

theorem isI_lt {ts : List Tok} {k : Int} {i : Nat} (h : isI ts k i = true) : i < ts.length := by
  simp only [isI, Bool.and_eq_true, decide_eq_true_eq] at h; exact h.1
theorem isI_kind {ts : List Tok} {k : Int} {i : Nat} (h : isI ts k i = true) : (ts.getD i Tok.zero).kind = k := by
  simp only [isI, Bool.and_eq_true, decide_eq_true_eq] at h; exact h.2

/-- Where it ends: behind its begin, and not behind the last token. -/
theorem conR_end (ts : List Tok) (en : Int) : ∀ (f i : Nat) (c : CN) (j : Nat), conR ts en f i = .ok c j → i < j ∧ j ≤ ts.length := by
  intro f
  induction f with
  | zero => intro i c j h; simp [conR] at h
  | succ f ih =>
    intro i c j h
    have hk : ∀ (s m : Nat) (cs : List CN) (j' : Nat), kidsR (conR ts en f) s m = .ok cs j' → s ≤ ts.length → s ≤ j' ∧ j' ≤ ts.length := by
      intro s m
      induction m with
      | zero => intro cs j' h hs; simp only [kidsR, ResL.ok.injEq] at h; omega
      | succ m ihm =>
        intro cs j' h hs
        simp only [kidsR] at h
        cases h1 : kidsR (conR ts en f) s m with
        | bad a => rw [h1] at h; simp at h
        | ok cs1 j1 =>
          rw [h1] at h
          simp only at h
          cases h2 : conR ts en f j1 with
          | bad a => rw [h2] at h; simp at h
          | ok c2 j2 =>
            rw [h2] at h
            simp only [ResL.ok.injEq] at h
            have := ihm cs1 j1 h1 hs
            have := ih j1 c2 j2 h2
            omega
    simp only [conR] at h
    split at h
    · simp at h
    · rename_i h1
      have l1 : i < ts.length := isI_lt (k := 1) (by simpa using h1)
      split at h
      · split at h
        · simp at h
        · simp only [Res.ok.injEq] at h; omega
      · split at h
        · simp only [Res.ok.injEq] at h; omega
        · split at h
          · simp at h
          · rename_i h3
            have l3 : i + 1 < ts.length := isI_lt (k := 3) (by simpa using h3)
            split at h
            · simp at h
            · rename_i h4
              have hs : i + 2 ≤ startI (kindI ts i) i ∧ startI (kindI ts i) i ≤ ts.length := by
                unfold startI
                split
                · rename_i hr
                  have : isI ts 2 (i + 2) = true := by
                    cases hh : isI ts 2 (i + 2)
                    · exact absurd ⟨hr, hh⟩ h4
                    · rfl
                  have := isI_lt this
                  omega
                · omega
              cases h5 : kidsR (conR ts en f) (startI (kindI ts i) i) (kidN (kindI ts i)).toNat with
              | bad a => rw [h5] at h; simp [closeR] at h
              | ok cs1 j1 =>
                rw [h5] at h
                simp only [closeR] at h
                split at h
                · rename_i h6
                  have := isI_lt h6
                  have := hk _ _ _ _ h5 hs.2
                  simp only [Res.ok.injEq] at h
                  omega
                · simp at h

/-- It is no larger than the tokens that it was read off. -/
theorem conR_bulk (ts : List Tok) (en : Int) (hw : ∀ i, (wordI ts i).length ≤ 6) : ∀ (f i : Nat) (c : CN) (j : Nat), conR ts en f i = .ok c j → c.bulk + 1 + 7 * i ≤ 7 * j := by
  intro f
  induction f with
  | zero => intro i c j h; simp [conR] at h
  | succ f ih =>
    intro i c j h
    have hk : ∀ (s m : Nat) (cs : List CN) (j' : Nat), kidsR (conR ts en f) s m = .ok cs j' → bulks cs + 7 * s ≤ 7 * j' := by
      intro s m
      induction m with
      | zero => intro cs j' h; simp only [kidsR, ResL.ok.injEq] at h; rw [← h.1, ← h.2]; simp [bulks]
      | succ m ihm =>
        intro cs j' h
        simp only [kidsR] at h
        cases h1 : kidsR (conR ts en f) s m with
        | bad a => rw [h1] at h; simp at h
        | ok cs1 j1 =>
          rw [h1] at h
          simp only at h
          cases h2 : conR ts en f j1 with
          | bad a => rw [h2] at h; simp at h
          | ok c2 j2 =>
            rw [h2] at h
            simp only [ResL.ok.injEq] at h
            have := ihm cs1 j1 h1
            have := ih j1 c2 j2 h2
            rw [← h.1, ← h.2, bulks_append]
            simp only [bulks]
            omega
    simp only [conR] at h
    split at h
    · simp at h
    · split at h
      · split at h
        · simp at h
        · simp only [Res.ok.injEq] at h
          have := hw i
          rw [← h.1, ← h.2, CN.bulk_eq]
          simp only [CN.name, CN.role, CN.kids, List.length_nil, bulks]
          omega
      · split at h
        · simp only [Res.ok.injEq] at h
          rw [← h.1, ← h.2, CN.bulk_eq]
          simp only [CN.name, CN.role, CN.kids, List.length_nil, bulks]
          omega
        · split at h
          · simp at h
          · split at h
            · simp at h
            · cases h5 : kidsR (conR ts en f) (startI (kindI ts i) i) (kidN (kindI ts i)).toNat with
              | bad a => rw [h5] at h; simp [closeR] at h
              | ok cs1 j1 =>
                rw [h5] at h
                simp only [closeR] at h
                split at h
                · simp only [Res.ok.injEq] at h
                  have h7 := hk _ _ _ _ h5
                  have h8 : (roleI ts (kindI ts i) i).length + 7 * i + 8 ≤ 7 * startI (kindI ts i) i := by
                    unfold roleI startI
                    split
                    · have := hw (i + 2); omega
                    · simp; omega
                  rw [← h.1, ← h.2, CN.bulk_eq]
                  simp only [CN.name, CN.role, CN.kids, List.length_nil]
                  omega
                · simp at h

theorem wholeR_bulk (zs : List Int) (hn : (toks zs).1.length ≤ 1500) : (wholeR zs).1.bulk ≤ 10500 := by
  have hz : CN.zero.bulk ≤ 10500 := by rw [CN.bulk_eq]; simp [CN.zero, CN.name, CN.role, CN.kids, bulks]
  unfold wholeR
  split
  · exact hz
  · cases h : conR (toks zs).1 (zs.length : Nat) 6 0 with
    | bad a => exact hz
    | ok c j =>
      simp only
      split
      · exact hz
      · have h1 := conR_bulk _ _ (toks_short zs) 6 0 c j h
        have h2 := (conR_end _ _ 6 0 c j h).2
        show c.bulk ≤ 10500
        omega
end

section
open Go.RowKit

def SayC (f : Nat) (d : Nat) : Prop := ∀ (v : Value) (c : CN) (bv : Value) (xs : List Int) (w : World) (base lo hi : Nat), RdC lo hi w d v c → hi ≤ base → base ≤ w.heap.size → wfC c = true → OwnB base w bv xs → xs.length + (textC c).length ≤ 1073741824 →
  Calls Tryz.prog f #[bv, v] w fun e w' => ∃ bv', e = .returned bv' ∧ OwnB base w' bv' (xs ++ textC c) ∧ Keep5 base w w'
end

section
open Go.RowKit

def OwnI (base : Nat) (w : World) (v : Value) (zs : List Int) : Prop := w.ownsRow base 3 1 v zs.length (zs.map (Value.int .i64))

theorem OwnI.nil (base : Nat) (w : World) : OwnI base w (.slice none 0 0) [] := World.ownsRow_nil _ _ _ _

theorem OwnI.below {base B : Nat} {w w' : World} {v : Value} {zs : List Int} (h : OwnI base w v zs) (hb : Below B w w') (hB : w.heap.size ≤ B) : OwnI base w' v zs := by
  obtain ⟨h1, h2⟩ := h
  refine ⟨h1, ?_⟩
  rcases h2 with h2 | ⟨g, cap, cur, hv, hg, hh, r⟩
  · exact .inl h2
  · exact .inr ⟨g, cap, cur, hv, hg, by rw [hb.block g (Nat.lt_of_lt_of_le (Array.getElem?_eq_some_iff.1 hh).1 hB)]; exact hh, r⟩

/-- The leaves of a row of numbers. -/
def leafI (b off n : Nat) : List (Addr × IntKind) := (List.range n).map fun j => (⟨b, off + j, none⟩, .i64)

/-- What it is: nil, with nothing in it; or a row of its own. -/
theorem OwnI.form {base : Nat} {w : World} {v : Value} {zs : List Int} (h : OwnI base w v zs) :
    ∃ a c b, v = .slice a zs.length c ∧ RI base w.heap.size w a zs.length c zs ∧ (zs.length = 0 ∨ a = some ⟨b, 0, none⟩) ∧ LeafOk w (leafI b 0 zs.length) ∧ (zs.length = 0 ∨ (base ≤ b ∧ b < w.heap.size)) := by
  by_cases hz : zs.length = 0
  · rcases h.2 with ⟨hv, _⟩ | ⟨g, cap, cur, hv, _, _, _, hc2, _⟩
    · refine ⟨none, 0, 0, by rw [hv, hz], ⟨rfl, by omega, .inl hz⟩, .inl hz, ?_, .inl hz⟩
      rw [hz]; intro x hx; simp [leafI] at hx
    · unfold maxLen at hc2
      refine ⟨_, cap, 0, hv, ⟨rfl, by omega, .inl hz⟩, .inl hz, ?_, .inl hz⟩
      rw [hz]; intro x hx; simp [leafI] at hx
  · obtain ⟨h1, h2⟩ := h
    rcases h2 with ⟨_, h0⟩ | ⟨g, cap, cur, hv, hg, hh, hc1, hc2, hc3, hc4⟩
    · exact absurd h0 hz
    · simp only [Nat.mul_one] at hc3 hc4
      unfold maxLen at hc2
      have hlt : g < w.heap.size := (Array.getElem?_eq_some_iff.1 hh).1
      have hcell : ∀ i, i < zs.length → w.cell? ⟨g, i, none⟩ = some (.int .i64 (zs.getD i 0)) := by
        intro i hi
        have e : (cur.toList.take zs.length)[i]? = (zs.map (Value.int .i64))[i]? := by rw [hc4]
        rw [List.getElem?_take, if_pos hi] at e
        simp only [Array.getElem?_toList] at e
        rw [show (zs.map (Value.int .i64))[i]? = some (.int .i64 (zs.getD i 0)) by simp [List.getD, hi]] at e
        simp [World.cell?, hh, e]
      refine ⟨_, cap, g, hv, ⟨rfl, ⟨hc1, hc2⟩, .inr ⟨g, 0, rfl, hg, hlt, fun i hi => ⟨_, by rw [Nat.zero_add]; exact hcell i hi, rfl⟩⟩⟩, .inr rfl, ?_, .inr ⟨hg, hlt⟩⟩
      intro x hx
      simp only [leafI, List.mem_map, List.mem_range] at hx
      obtain ⟨j, hj, rfl⟩ := hx
      simp only [Nat.zero_add]
      exact ⟨⟨_, hcell j hj⟩, by simp [World.frozen?, hh]⟩
end

end Go.Proofs.YtnmljalcndfjmaaGreat
