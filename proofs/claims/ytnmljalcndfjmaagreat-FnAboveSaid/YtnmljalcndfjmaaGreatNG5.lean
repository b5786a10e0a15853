/- Several texts in one: OwnB, ConTxt, AxMem, TokMath, SpecTok, ConSay. -/
import Derived.Test.YtnmljalcndfjmaaGreatNG3
import Derived.Laws.AppendOwn
import Derived.Test.YtnmljalcndfjmaaGreatNG4
import Derived.Lib.AppendStr
import Derived.Test.YtnmljalcndfjmaaGreatNG1
import Derived.Deep.DeepCutAuto
import Derived.Deep.RegionLaw
namespace Go.Proofs.YtnmljalcndfjmaaGreat

section
open Go.RowKit

theorem longB_of_up {zs : List Int} (h : upOk zs = true) : 1 ≤ zs.length ∧ zs.length ≤ 6 := by
  unfold upOk longB at h
  simp only [Bool.and_eq_true, decide_eq_true_eq] at h
  exact h.1

theorem longB_of_low {zs : List Int} (h : lowOk zs = true) : 1 ≤ zs.length ∧ zs.length ≤ 6 := by
  unfold lowOk longB at h
  simp only [Bool.and_eq_true, decide_eq_true_eq] at h
  exact h.1

/-- The blank ahead of all but the first. -/
def gapT (k : Nat) : List Int := if 0 < k then [32] else []

theorem gapT_pos {k : Nat} (h : 0 < k) : gapT k = [32] := if_pos h
theorem gapT_zero : gapT 0 = [] := rfl

/-! ### A slice of bytes of the call's own -/

def OwnB (base : Nat) (w : World) (v : Value) (zs : List Int) : Prop := w.ownsRow base 5 1 v zs.length (zs.map (Value.int .u8))

theorem OwnB.nil (base : Nat) (w : World) : OwnB base w (.slice none 0 0) [] := World.ownsRow_nil _ _ _ _

theorem OwnB.below {base B : Nat} {w w' : World} {v : Value} {zs : List Int} (h : OwnB base w v zs) (hb : Below B w w') (hB : w.heap.size ≤ B) : OwnB base w' v zs := by
  obtain ⟨h1, h2⟩ := h
  refine ⟨h1, ?_⟩
  rcases h2 with h2 | ⟨g, cap, cur, hv, hg, hh, r⟩
  · exact .inl h2
  · exact .inr ⟨g, cap, cur, hv, hg, by rw [hb.block g (Nat.lt_of_lt_of_le (Array.getElem?_eq_some_iff.1 hh).1 hB)]; exact hh, r⟩

/-- What it is: nil, with nothing in it; or a row of its own. -/
theorem OwnB.form {base : Nat} {w : World} {v : Value} {zs : List Int} (h : OwnB base w v zs) (hby : ∀ i, 0 ≤ zs.getD i 0 ∧ zs.getD i 0 ≤ 255) :
    ∃ a c b, v = .slice a zs.length c ∧ Rd base w.heap.size w a zs.length c zs ∧ (zs.length = 0 ∨ a = some ⟨b, 0, none⟩) ∧ LeafOk w (leafB b 0 zs.length) ∧ (zs.length = 0 ∨ (base ≤ b ∧ b < w.heap.size)) := by
  by_cases hz : zs.length = 0
  · rcases h.2 with ⟨hv, _⟩ | ⟨g, cap, cur, hv, _, _, _, hc2, _⟩
    · refine ⟨none, 0, 0, by rw [hv, hz], ?_, .inl hz, ?_, .inl hz⟩
      · rw [List.eq_nil_of_length_eq_zero hz]; exact Rd.none_of (by omega)
      · rw [hz]; intro x hx; simp [leafB] at hx
    · unfold maxLen at hc2
      refine ⟨_, cap, 0, hv, ?_, .inl hz, ?_, .inl hz⟩
      · rw [List.eq_nil_of_length_eq_zero hz]; exact Rd.none_of hc2
      · rw [hz]; intro x hx; simp [leafB] at hx
  · obtain ⟨h1, h2⟩ := h
    rcases h2 with ⟨_, h0⟩ | ⟨g, cap, cur, hv, hg, hh, hc1, hc2, hc3, hc4⟩
    · exact absurd h0 hz
    · simp only [Nat.mul_one] at hc3 hc4
      unfold maxLen at hc2
      have hrow : Row w g cap zs := by
        refine ⟨cur, hh, hc3, hc1, fun i hi => ?_⟩
        have e : (cur.toList.take zs.length)[i]? = (zs.map (Value.int .u8))[i]? := by rw [hc4]
        rw [List.getElem?_take, if_pos hi] at e
        simp only [Array.getElem?_toList] at e
        rw [e]
        simp [List.getD, hi]
      refine ⟨_, cap, g, hv, hrow.rd rfl hby hc2 hg hrow.lt, .inr rfl, ?_, .inr ⟨hg, hrow.lt⟩⟩
      intro x hx
      simp only [leafB, List.mem_map, List.mem_range] at hx
      obtain ⟨j, hj, rfl⟩ := hx
      simp only [Nat.zero_add]
      exact ⟨⟨_, hrow.cell hj⟩, hrow.frozen _⟩

theorem leafB_nodup (b off n : Nat) : ((leafB b off n).map (·.1)).Nodup := by
  rw [List.nodup_iff_pairwise_ne, List.pairwise_iff_getElem]
  intro i j hi hj hij
  simp [leafB] <;> omega

theorem new1 (w : World) (g : Nat) (c : Int) (hg : g = w.heap.size) : ∀ j u, ([c].map (Value.int .u8))[j]? = some u → (w.alloc (.cells #[.int .u8 c] 5)).cell? ((⟨g, 0, none⟩ : Addr).add j) = some u := by
  intro j u hu
  subst hg
  rw [Addr.add_lit]
  match j, hu with
  | 0, hu => simp at hu; subst hu; simp

theorem oneCB (zs : List Int) : ∀ u ∈ zs.map (Value.int .u8), u.oneCell' = true := by
  intro u hu; simp only [List.mem_map] at hu; obtain ⟨x, _, rfl⟩ := hu; rfl

theorem rd_news {lo hi : Nat} {w : World} {b off n cap : Nat} {zs : List Int} (h : Rd lo hi w (some ⟨b, off, none⟩) n cap zs) : ∀ j u, (zs.map (Value.int .u8))[j]? = some u → w.cell? ((⟨b, off, none⟩ : Addr).add j) = some u := by
  intro j u hu
  have hj : j < zs.length := by simpa using (List.getElem?_eq_some_iff.1 hu).1
  rcases h.cells with h0 | ⟨b', off', e, _, _, hc⟩
  · have := h.len; omega
  · simp only [Option.some.injEq, Addr.mk.injEq, and_true] at e
    obtain ⟨rfl, rfl⟩ := e
    rw [Addr.add_lit, hc j (by have := h.len; omega), ← hu]
    simp [List.getD, hj]

/-- All that lay below base is as it was, and all blocks that are no bytes. -/
def Keep5 (base : Nat) (w w' : World) : Prop := Below base w w' ∧ ∀ (b : Nat) (c : Array Value) (t : TypeId) (f : Nat × Nat), t ≠ 5 → w.heap[b]? = some (.cells c t f) → w'.heap[b]? = some (.cells c t f)

theorem Keep5.refl (base : Nat) (w : World) : Keep5 base w w := ⟨Below.refl _ _, fun _ _ _ _ _ h => h⟩
theorem Keep5.trans {base : Nat} {a b c : World} (h : Keep5 base a b) (k : Keep5 base b c) : Keep5 base a c := ⟨h.1.trans k.1, fun x c t f h1 h2 => k.2 x c t f h1 (h.2 x c t f h1 h2)⟩
theorem Keep5.of_below {base : Nat} {w w' : World} (h : Below w.heap.size w w') (hb : base ≤ w.heap.size) : Keep5 base w w' := ⟨h.mono hb, fun b _ _ _ _ h2 => (h.block b (Array.getElem?_eq_some_iff.1 h2).1).trans h2⟩
theorem Keep5.drew {base : Nat} {w w' : World} (h : Keep5 base w w') : Keep5 base w w'.drew := ⟨h.1.drew, h.2⟩

theorem ownB_app {base : Nat} {W w2 : World} {v v' : Value} {xs ys : List Int} (hO : OwnB base W v xs) (hb : base ≤ W.heap.size)
    (hown : w2.ownsRow base 5 1 v' (xs.length + ys.length) (xs.map (Value.int .u8) ++ ys.map (Value.int .u8))) (hgrow : W.grownBy w2 v.ownBlock) :
    OwnB base w2 v' (xs ++ ys) ∧ Keep5 base W w2 := by
  refine ⟨by unfold OwnB; simpa using hown, (Below.refl base W).grown hgrow hb (fun x hx => ?_), fun b c t f ht hh => ?_⟩
  · rcases hO.2 with ⟨rfl, _⟩ | ⟨g1, cap1, cur, rfl, hg1, _⟩
    · simp [Value.ownBlock] at hx
    · simp [Value.ownBlock] at hx; omega
  · refine (hgrow.block b (Array.getElem?_eq_some_iff.1 hh).1 (fun e => ?_)).trans hh
    rcases hO.2 with ⟨rfl, _⟩ | ⟨g1, cap1, cur, rfl, hg1, hgb, _⟩
    · simp [Value.ownBlock] at e
    · simp [Value.ownBlock] at e
      subst e
      rw [hh] at hgb
      simp at hgb
      exact ht hgb.2.1
end

section
open Go.RowKit

/-- The word of a kind, by its bytes. -/
def wordOf (k : Int) : List Int := if k = 0 then [84, 111, 112] else if k = 1 then [66, 111, 116] else if k = 3 then [78, 111, 116] else if k = 4 then [65, 110, 100] else if k = 5 then [79, 114] else if k = 6 then [83, 111, 109, 101] else if k = 7 then [65, 108, 108] else []

theorem wordOf_len (k : Int) : (wordOf k).length ≤ 4 := by
  unfold wordOf
  repeat' split
  all_goals simp

def roleT (r : List Int) : List Int := if r = [] then [] else r ++ [32]

mutual
def textC : CN → List Int
  | .mk k n r ks => if k = 2 then n else if ks.length = 0 then wordOf k else wordOf k ++ [40] ++ roleT r ++ textJ 0 ks ++ [41]
/-- The kids' texts; a blank ahead of all but the first. -/
def textJ : Nat → List CN → List Int
  | _, [] => []
  | i, c :: cs => gapT i ++ textC c ++ textJ (i + 1) cs
end

theorem textC_eq (c : CN) : textC c = if c.kind = 2 then c.name else if c.kids.length = 0 then wordOf c.kind else wordOf c.kind ++ [40] ++ roleT c.role ++ textJ 0 c.kids ++ [41] := by
  cases c; rw [textC]; rfl

theorem textJ_append (xs ys : List CN) : ∀ i, textJ i (xs ++ ys) = textJ i xs ++ textJ (i + xs.length) ys := by
  induction xs with
  | nil => intro i; simp [textJ]
  | cons x xs ih => intro i; simp only [List.cons_append, textJ, ih, List.append_assoc, List.length_cons]; rw [show i + 1 + xs.length = i + (xs.length + 1) by omega]

theorem textJ_take_succ (cs : List CN) (j : Nat) (h : j < cs.length) : textJ 0 (cs.take (j + 1)) = textJ 0 (cs.take j) ++ gapT j ++ textC (cs.getD j CN.zero) := by
  rw [take_succ_getD cs CN.zero j h, textJ_append]
  simp only [textJ, List.append_nil, List.length_take, Nat.zero_add]
  rw [show min j cs.length = j by omega, List.append_assoc]

theorem textJ_take_le (cs : List CN) (j : Nat) : (textJ 0 (cs.take j)).length ≤ (textJ 0 cs).length := by
  have := textJ_append (cs.take j) (cs.drop j) 0
  rw [List.take_append_drop] at this
  rw [this, List.length_append]; omega

theorem gapT_len (i : Nat) : (gapT i).length ≤ 1 := by unfold gapT; split <;> simp

mutual
theorem textC_len : ∀ c : CN, (textC c).length ≤ 30 * c.bulk + 10
  | .mk k n r ks => by
    rw [textC, CN.bulk]
    have h1 := wordOf_len k
    have h2 := textJ_len ks 0
    have h3 : (roleT r).length ≤ r.length + 1 := by unfold roleT; split <;> simp
    split
    · omega
    · split
      · omega
      · simp only [List.length_append, List.length_cons, List.length_nil]; omega
theorem textJ_len : ∀ (cs : List CN) (i : Nat), (textJ i cs).length ≤ 30 * bulks cs
  | [], _ => by simp [textJ]
  | c :: cs, i => by
    rw [textJ, bulks]
    have h1 := textC_len c
    have h2 := textJ_len cs (i + 1)
    have h3 := gapT_len i
    simp only [List.length_append]; omega
end

mutual
/-- Each part is as its kind asks. -/
def wfC : CN → Bool
  | .mk k n r ks => shapeB (.mk k n r ks) && wfL ks
def wfL : List CN → Bool
  | [] => true
  | c :: cs => wfC c && wfL cs
end

theorem wfC_eq (c : CN) : wfC c = (shapeB c && wfL c.kids) := by cases c; rw [wfC]; rfl

theorem wfL_getD : ∀ (cs : List CN) (j : Nat), j < cs.length → wfL cs = true → wfC (cs.getD j CN.zero) = true
  | [], _, h, _ => by simp at h
  | c :: cs, 0, _, hw => by rw [wfL, Bool.and_eq_true] at hw; exact hw.1
  | c :: cs, j + 1, h, hw => by
    rw [wfL, Bool.and_eq_true] at hw
    have := wfL_getD cs j (by simpa using h) hw.2
    simpa [List.getD] using this

mutual
theorem wfC_of_parts : ∀ (c : CN) (deep : Nat), (parts c deep).all okOne = true → wfC c = true
  | .mk k n r ks, deep, h => by
    rw [parts, List.all_cons, Bool.and_eq_true] at h
    rw [wfC, wfL_of_parts ks (deep + 1) h.2, Bool.and_true]
    have := h.1
    unfold okOne at this
    rw [Bool.and_eq_true] at this
    exact this.2
theorem wfL_of_parts : ∀ (cs : List CN) (deep : Nat), (partsL cs deep).all okOne = true → wfL cs = true
  | [], _, _ => by rw [wfL]
  | c :: cs, deep, h => by
    rw [partsL, List.all_append, Bool.and_eq_true] at h
    rw [wfL, wfC_of_parts c deep h.1, wfL_of_parts cs deep h.2]; rfl
end

theorem wfC_of_ok {c : CN} (h : conOk c = true) : wfC c = true := by
  unfold conOk at h
  rw [Bool.and_eq_true] at h
  exact wfC_of_parts c 1 h.2

theorem kidN_in {k : Int} (h : 0 ≤ kidN k) : 0 ≤ k ∧ k ≤ 7 := by
  by_cases ho : k < 0 ∨ 7 < k
  · rw [kidN_out ho] at h; omega
  · omega

/-- What is known of a part that is as its kind asks. -/
theorem shape_facts {c : CN} (h : shapeB c = true) : (0 ≤ c.kind ∧ c.kind ≤ 7) ∧ (c.kind = 2 → 1 ≤ c.name.length ∧ c.kids.length = 0) ∧ (roleB c.kind = true → 1 ≤ c.role.length) ∧ (roleB c.kind = false → c.role = []) := by
  unfold shapeB at h
  simp only [Bool.and_eq_true, decide_eq_true_eq] at h
  obtain ⟨h1, h2, h3⟩ := h
  refine ⟨kidN_in (by omega), fun hk => ?_, fun hr => ?_, fun hr => ?_⟩
  · unfold nameFit at h1
    rw [if_pos hk, Bool.and_eq_true] at h1
    refine ⟨(longB_of_up h1.1).1, ?_⟩
    rw [hk] at h3
    simp [kidN] at h3
    rw [h3]; rfl
  · unfold roleFit at h2
    rw [if_pos hr] at h2
    exact (longB_of_low h2).1
  · unfold roleFit at h2
    rw [if_neg (by rw [hr]; simp)] at h2
    exact List.eq_nil_of_length_eq_zero (by simpa using h2)

theorem BoxC.keep5 {W W' : World} {base b : Nat} {v0 v1 v2 v3 : Value} (h : BoxC W b v0 v1 v2 v3) (hk : Keep5 base W W') : BoxC W' b v0 v1 v2 v3 := hk.2 b _ _ _ (by decide) h

/-- The word of a kind, as a string. -/
def wordB (k : Int) : ByteArray := if k = 0 then ⟨#[84, 111, 112]⟩ else if k = 1 then ⟨#[66, 111, 116]⟩ else if k = 3 then ⟨#[78, 111, 116]⟩ else if k = 4 then ⟨#[65, 110, 100]⟩ else if k = 5 then ⟨#[79, 114]⟩ else if k = 6 then ⟨#[83, 111, 109, 101]⟩ else if k = 7 then ⟨#[65, 108, 108]⟩ else ⟨#[]⟩

theorem wordB_cells (k : Int) : Lib.strCells (wordB k) = (wordOf k).map (Value.int .u8) := by
  unfold wordB wordOf
  repeat' split
  all_goals rfl

theorem wordB_size (k : Int) : (wordB k).size = (wordOf k).length := by
  rw [← Lib.strCells_length, wordB_cells, List.length_map]

theorem ownB_str {base : Nat} {W w2 : World} {v v' : Value} {xs : List Int} {k : Int} (hO : OwnB base W v xs) (hb : base ≤ W.heap.size)
    (hown : w2.ownsRow base 5 1 v' (xs.length + (wordB k).size) (xs.map (Value.int .u8) ++ Lib.strCells (wordB k))) (hgrow : W.grownBy w2 v.ownBlock) :
    OwnB base w2 v' (xs ++ wordOf k) ∧ Keep5 base W w2 := by
  rw [wordB_size, wordB_cells] at hown
  exact ownB_app hO hb hown hgrow
end

section
open Go.RowKit

structure AX where
  kind : Int
  c : CN
  d : CN
  r : List Int
  s : List Int
  a : List Int
  b : List Int

/-- Thirteen cells that read as this axiom. -/
structure RdA (lo hi : Nat) (w : World) (dp : Nat) (c0 c1 c2 c3 d0 d1 d2 d3 : Value) (ra : Option Addr) (rn rc : Nat) (sa : Option Addr) (sn sc : Nat) (aa : Option Addr) (an ac : Nat) (ba : Option Addr) (bn bc : Nat) (x : AX) : Prop where
  c : RdC lo hi w dp (.agg #[c0, c1, c2, c3]) x.c
  d : RdC lo hi w dp (.agg #[d0, d1, d2, d3]) x.d
  r : Rd lo hi w ra rn rc x.r
  s : Rd lo hi w sa sn sc x.s
  a : Rd lo hi w aa an ac x.a
  b : Rd lo hi w ba bn bc x.b

theorem RdA.below {lo hi B : Nat} {w w' : World} {dp : Nat} {c0 c1 c2 c3 d0 d1 d2 d3 : Value} {ra : Option Addr} {rn rc : Nat} {sa : Option Addr} {sn sc : Nat} {aa : Option Addr} {an ac : Nat} {ba : Option Addr} {bn bc : Nat} {x : AX}
    (h : RdA lo hi w dp c0 c1 c2 c3 d0 d1 d2 d3 ra rn rc sa sn sc aa an ac ba bn bc x) (hb : Below B w w') (hB : hi ≤ B) : RdA lo hi w' dp c0 c1 c2 c3 d0 d1 d2 d3 ra rn rc sa sn sc aa an ac ba bn bc x :=
  ⟨h.c.below hb hB, h.d.below hb hB, h.r.below hb hB, h.s.below hb hB, h.a.below hb hB, h.b.below hb hB⟩

/-- The box of an axiom. -/
def BoxA (t : Nat) (W : World) (p : Nat) (k : Int) (c0 c1 c2 c3 d0 d1 d2 d3 : Value) (r s a b : Value) : Prop := W.heap[p]? = some (.cells #[.int .i64 k, c0, c1, c2, c3, d0, d1, d2, d3, r, s, a, b] t (0, 0))

theorem BoxA.new (t : Nat) (W : World) (k : Int) (c0 c1 c2 c3 d0 d1 d2 d3 r s a b : Value) : BoxA t (W.alloc (.cells #[.int .i64 k, c0, c1, c2, c3, d0, d1, d2, d3, r, s, a, b] t)) W.heap.size k c0 c1 c2 c3 d0 d1 d2 d3 r s a b := World.alloc_heap_new W _
theorem BoxA.below {t : Nat} {W W' : World} {p B : Nat} {k : Int} {c0 c1 c2 c3 d0 d1 d2 d3 r s a b : Value} (h : BoxA t W p k c0 c1 c2 c3 d0 d1 d2 d3 r s a b) (hb : Below B W W') (hB : p < B) : BoxA t W' p k c0 c1 c2 c3 d0 d1 d2 d3 r s a b := (hb.block p hB).trans h
theorem BoxA.lt {t : Nat} {W : World} {p : Nat} {k : Int} {c0 c1 c2 c3 d0 d1 d2 d3 r s a b : Value} (h : BoxA t W p k c0 c1 c2 c3 d0 d1 d2 d3 r s a b) : p < W.heap.size := (Array.getElem?_eq_some_iff.1 h).1
theorem BoxA.cells {t : Nat} {W : World} {p : Nat} {k : Int} {c0 c1 c2 c3 d0 d1 d2 d3 r s a b : Value} (h : BoxA t W p k c0 c1 c2 c3 d0 d1 d2 d3 r s a b) :
    W.cell? ⟨p, 0, none⟩ = some (.int .i64 k) ∧ W.cell? ⟨p, 1, none⟩ = some c0 ∧ W.cell? ⟨p, 2, none⟩ = some c1 ∧ W.cell? ⟨p, 3, none⟩ = some c2 ∧ W.cell? ⟨p, 4, none⟩ = some c3 ∧ W.cell? ⟨p, 5, none⟩ = some d0 ∧ W.cell? ⟨p, 6, none⟩ = some d1 ∧ W.cell? ⟨p, 7, none⟩ = some d2 ∧ W.cell? ⟨p, 8, none⟩ = some d3 ∧
      W.cell? ⟨p, 9, none⟩ = some r ∧ W.cell? ⟨p, 10, none⟩ = some s ∧ W.cell? ⟨p, 11, none⟩ = some a ∧ W.cell? ⟨p, 12, none⟩ = some b := by
  unfold BoxA at h
  refine ⟨?_, ?_, ?_, ?_, ?_, ?_, ?_, ?_, ?_, ?_, ?_, ?_, ?_⟩ <;> simp [World.cell?, h]

/-! ### Which may be -/

def wantC (k : Int) : Bool := decide (k = 0) || decide (k = 1) || decide (k = 2) || decide (k = 4)
def wantD (k : Int) : Bool := decide (k = 0) || decide (k = 1) || decide (k = 2)
def wantR (k : Int) : Bool := decide (k = 3) || decide (k = 5)
def wantS (k : Int) : Bool := decide (k = 3)
def wantA (k : Int) : Bool := decide (k = 4) || decide (k = 5)
def wantB (k : Int) : Bool := decide (k = 5)

/-- The concept that is nothing but its zero value. -/
def zeroB (c : CN) : Bool := decide (c.kind = 0) && (decide (c.name.length = 0) && (decide (c.role.length = 0) && decide (c.kids.length = 0)))
def fitC (c : CN) (wanted : Bool) : Bool := if wanted = true then conOk c else zeroB c
def fitL (zs : List Int) (wanted : Bool) : Bool := if wanted = true then lowOk zs else decide (zs.length = 0)

def axOk (x : AX) : Bool := decide (0 ≤ x.kind ∧ x.kind ≤ 5) && (fitC x.c (wantC x.kind) && (fitC x.d (wantD x.kind) && (fitL x.r (wantR x.kind) && (fitL x.s (wantS x.kind) && (fitL x.a (wantA x.kind) && fitL x.b (wantB x.kind))))))

theorem ok_of_zero {c : CN} (h : zeroB c = true) : conOk c = true := by
  cases c with
  | mk k n r ks =>
    unfold zeroB at h
    simp only [CN.kind, CN.name, CN.role, CN.kids, Bool.and_eq_true] at h
    obtain ⟨h1, h2, h3, h4⟩ := h
    have h1 := of_decide_eq_true h1
    have h2 := of_decide_eq_true h2
    have h3 := of_decide_eq_true h3
    have h4 := of_decide_eq_true h4
    have e2 := List.eq_nil_of_length_eq_zero h2
    have e3 := List.eq_nil_of_length_eq_zero h3
    have e4 := List.eq_nil_of_length_eq_zero h4
    subst h1 e2 e3 e4
    decide +kernel
end

section
def runLow (zs : List Int) (i : Nat) : Nat := ((zs.drop i).takeWhile lowB).length

theorem runLow_le (zs : List Int) (i : Nat) : runLow zs i ≤ zs.length - i := by
  unfold runLow
  have := (List.takeWhile_sublist lowB (l := zs.drop i)).length_le
  simpa using this

theorem runLow_stop (zs : List Int) (i : Nat) (h : zs.length ≤ i ∨ lowB (zs.getD i 0) = false) : runLow zs i = 0 := by
  unfold runLow
  by_cases hi : i < zs.length
  · have h' : lowB (zs.getD i 0) = false := by rcases h with h | h; omega; exact h
    rw [List.drop_eq_getElem_cons hi, List.takeWhile_cons]
    simp [List.getD, hi] at h'
    simp [h']
  · rw [List.drop_eq_nil_of_le (by omega)]; rfl

theorem runLow_go (zs : List Int) (i : Nat) (hi : i < zs.length) (h : lowB (zs.getD i 0) = true) : runLow zs i = runLow zs (i + 1) + 1 := by
  unfold runLow
  rw [List.drop_eq_getElem_cons hi, List.takeWhile_cons]
  simp [List.getD, hi] at h
  simp [h]

/-- Where the piece that begins at i ends. -/
def pend (zs : List Int) (i : Nat) : Nat := if zs.getD i 0 = 40 ∨ zs.getD i 0 = 41 then i + 1 else i + 1 + runLow zs (i + 1)
def piece (zs : List Int) (i : Nat) : List Int := (zs.drop i).take (pend zs i - i)

theorem pend_gt (zs : List Int) (i : Nat) : i < pend zs i := by unfold pend; split <;> omega
theorem pend_le (zs : List Int) (i : Nat) (hi : i < zs.length) : pend zs i ≤ zs.length := by
  unfold pend
  have := runLow_le zs (i + 1)
  split <;> omega
theorem piece_length (zs : List Int) (i : Nat) (hi : i < zs.length) : (piece zs i).length = pend zs i - i := by
  have := pend_le zs i hi
  simp [piece]; omega
theorem piece_getD (zs : List Int) (i j : Nat) (hi : i < zs.length) (hj : j < pend zs i - i) : (piece zs i).getD j 0 = zs.getD (i + j) 0 := by
  have := pend_le zs i hi
  simp [piece, List.getD, hj]

/-- What a piece is: 1, 2 a word, 3, 4 a bracket, 0 none of these. -/
def kindOf (p : List Int) : Int := if upOk p then 1 else if lowOk p then 2 else if p = [40] then 3 else if p = [41] then 4 else 0
def blankB (c : Int) : Bool := c == 32 || c == 10

def tokAt (zs : List Int) (i : Nat) : Tok := ⟨kindOf (piece zs i), i, if kindOf (piece zs i) = 1 ∨ kindOf (piece zs i) = 2 then piece zs i else []⟩

def toksFrom (zs : List Int) : Nat → Nat → List Tok → List Tok × Int
  | 0, _, acc => (acc, -1)
  | f + 1, i, acc => if i < zs.length then (if blankB (zs.getD i 0) then toksFrom zs f (i + 1) acc else if kindOf (piece zs i) = 0 then ([], (i : Int)) else toksFrom zs f (pend zs i) (acc ++ [tokAt zs i])) else (acc, -1)

/-- The tokens of a text and -1; or none, and a place. -/
def toks (zs : List Int) : List Tok × Int := if 1500 < zs.length then ([], 0) else toksFrom zs (zs.length + 1) 0 []
end

section
open Go.RowKit

theorem ownsRow_empty (w : World) (g base : Nat) (hg : g = w.heap.size) (hb : base ≤ g) : (w.alloc (.cells #[] 5)).ownsRow base 5 1 (.slice (some ⟨g, 0, none⟩) 0 0) 0 [] := by
  subst hg; exact World.ownsRow_lit w #[] 0 hb (by decide) rfl

theorem oneC (zs : List Int) : ∀ u ∈ zs.map (Value.int .u8), u.oneCell' = true := by
  intro u hu; simp only [List.mem_map] at hu; obtain ⟨x, _, rfl⟩ := hu; rfl

theorem row_of_owns {w : World} {base n : Nat} {v : Value} {zs : List Int} (h : w.ownsRow base 5 1 v n (zs.map (Value.int .u8))) (hn : 0 < n) :
    ∃ g c, v = .slice (some ⟨g, 0, none⟩) n c ∧ base ≤ g ∧ Row w g c zs ∧ c ≤ 9223372036854775807 := by
  obtain ⟨h1, h2⟩ := h
  rcases h2 with ⟨_, h0⟩ | ⟨g, cap, cur, hv, hg, hh, hc1, hc2, hc3, hc4⟩
  · omega
  · simp only [List.length_map, Nat.mul_one] at h1 hc3 hc4
    refine ⟨g, cap, hv, hg, ⟨cur, hh, hc3, by omega, fun i hi => ?_⟩, hc2⟩
    have e : (cur.toList.take n)[i]? = (zs.map (Value.int .u8))[i]? := by rw [hc4]
    rw [List.getElem?_take, if_pos (by omega)] at e
    simp only [Array.getElem?_toList] at e
    rw [e]
    simp [List.getD, hi]
end

section
open Go.RowKit

def SayC (f : Nat) (d : Nat) : Prop := ∀ (v : Value) (c : CN) (bv : Value) (xs : List Int) (w : World) (base lo hi : Nat), RdC lo hi w d v c → hi ≤ base → base ≤ w.heap.size → wfC c = true → OwnB base w bv xs → xs.length + (textC c).length ≤ 1073741824 →
  Calls Tryz.prog f #[bv, v] w fun e w' => ∃ bv', e = .returned bv' ∧ OwnB base w' bv' (xs ++ textC c) ∧ Keep5 base w w'
end

end Go.Proofs.YtnmljalcndfjmaaGreat
