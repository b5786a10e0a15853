/- Several texts in one: ConTxt, ReadS1. -/
import Derived.Test.YthojlfcahhjfaaaNW
import Derived.Test.YthojlfcahhjfaaaNSp
import Derived.Lib.AppendStr
import Derived.Test.YthojlfcahhjfaaaNRM
import Derived.Deep.QuietTactic
import Derived.BigQuiet
namespace Go.Proofs.Ythojlfcahhjfaaa

section
open Go.RowKit

/-- The word of a kind, by its bytes. -/
def wordOf (k : Int) : List Int := if k = 0 then [84, 111, 112] else if k = 1 then [66, 111, 116] else if k = 3 then [78, 111, 116] else if k = 4 then [65, 110, 100] else if k = 5 then [79, 114] else if k = 6 then [83, 111, 109, 101] else if k = 7 then [65, 108, 108] else []

theorem wordOf_len (k : Int) : (wordOf k).length ≤ 4 := by
  unfold wordOf
  repeat' split
  all_goals simp

theorem wordOf_byte (k : Int) : ∀ x ∈ wordOf k, 0 ≤ x ∧ x ≤ 255 := by
  unfold wordOf
  repeat' split
  all_goals (intro x hx; simp at hx; try omega)

def roleT (r : List Int) : List Int := if r = [] then [] else r ++ [32]

mutual
def textC : CN → List Int
  | .mk k n r ks => if k = 2 then n else if ks.length = 0 then wordOf k else wordOf k ++ [40] ++ roleT r ++ textJ 0 ks ++ [41]
/-- The kids' texts; a blank ahead of all but the first. -/
def textJ : Nat → List CN → List Int
  | _, [] => []
  | i, c :: cs => gapT i ++ textC c ++ textJ (i + 1) cs
end

theorem textC_eq (c : CN) : textC c = if c.kind = 2 then c.name else if c.kids.length = 0 then wordOf c.kind else wordOf c.kind ++ [40] ++ roleT c.role ++ textJ 0 c.kids ++ [41] := by
  cases c; rw [textC]; rfl

theorem textJ_append (xs ys : List CN) : ∀ i, textJ i (xs ++ ys) = textJ i xs ++ textJ (i + xs.length) ys := by
  induction xs with
  | nil => intro i; simp [textJ]
  | cons x xs ih => intro i; simp only [List.cons_append, textJ, ih, List.append_assoc, List.length_cons]; rw [show i + 1 + xs.length = i + (xs.length + 1) by omega]

theorem textJ_take_succ (cs : List CN) (j : Nat) (h : j < cs.length) : textJ 0 (cs.take (j + 1)) = textJ 0 (cs.take j) ++ gapT j ++ textC (cs.getD j CN.zero) := by
  rw [take_succ_getD cs CN.zero j h, textJ_append]
  simp only [textJ, List.append_nil, List.length_take, Nat.zero_add]
  rw [show min j cs.length = j by omega, List.append_assoc]

theorem textJ_take_le (cs : List CN) (j : Nat) : (textJ 0 (cs.take j)).length ≤ (textJ 0 cs).length := by
  have := textJ_append (cs.take j) (cs.drop j) 0
  rw [List.take_append_drop] at this
  rw [this, List.length_append]; omega

theorem gapT_len (i : Nat) : (gapT i).length ≤ 1 := by unfold gapT; split <;> simp

mutual
theorem textC_len : ∀ c : CN, (textC c).length ≤ 30 * c.bulk + 10
  | .mk k n r ks => by
    rw [textC, CN.bulk]
    have h1 := wordOf_len k
    have h2 := textJ_len ks 0
    have h3 : (roleT r).length ≤ r.length + 1 := by unfold roleT; split <;> simp
    split
    · omega
    · split
      · omega
      · simp only [List.length_append, List.length_cons, List.length_nil]; omega
theorem textJ_len : ∀ (cs : List CN) (i : Nat), (textJ i cs).length ≤ 30 * bulks cs
  | [], _ => by simp [textJ]
  | c :: cs, i => by
    rw [textJ, bulks]
    have h1 := textC_len c
    have h2 := textJ_len cs (i + 1)
    have h3 := gapT_len i
    simp only [List.length_append]; omega
end

mutual
/-- Each part is as its kind asks. -/
def wfC : CN → Bool
  | .mk k n r ks => shapeB (.mk k n r ks) && wfL ks
def wfL : List CN → Bool
  | [] => true
  | c :: cs => wfC c && wfL cs
end

theorem wfC_eq (c : CN) : wfC c = (shapeB c && wfL c.kids) := by cases c; rw [wfC]; rfl

theorem wfL_getD : ∀ (cs : List CN) (j : Nat), j < cs.length → wfL cs = true → wfC (cs.getD j CN.zero) = true
  | [], _, h, _ => by simp at h
  | c :: cs, 0, _, hw => by rw [wfL, Bool.and_eq_true] at hw; exact hw.1
  | c :: cs, j + 1, h, hw => by
    rw [wfL, Bool.and_eq_true] at hw
    have := wfL_getD cs j (by simpa using h) hw.2
    simpa [List.getD] using this

mutual
theorem wfC_of_parts : ∀ (c : CN) (deep : Nat), (parts c deep).all okOne = true → wfC c = true
  | .mk k n r ks, deep, h => by
    rw [parts, List.all_cons, Bool.and_eq_true] at h
    rw [wfC, wfL_of_parts ks (deep + 1) h.2, Bool.and_true]
    have := h.1
    unfold okOne at this
    rw [Bool.and_eq_true] at this
    exact this.2
theorem wfL_of_parts : ∀ (cs : List CN) (deep : Nat), (partsL cs deep).all okOne = true → wfL cs = true
  | [], _, _ => by rw [wfL]
  | c :: cs, deep, h => by
    rw [partsL, List.all_append, Bool.and_eq_true] at h
    rw [wfL, wfC_of_parts c deep h.1, wfL_of_parts cs deep h.2]; rfl
end

theorem wfC_of_ok {c : CN} (h : conOk c = true) : wfC c = true := by
  unfold conOk at h
  rw [Bool.and_eq_true] at h
  exact wfC_of_parts c 1 h.2

theorem kidN_in {k : Int} (h : 0 ≤ kidN k) : 0 ≤ k ∧ k ≤ 7 := by
  by_cases ho : k < 0 ∨ 7 < k
  · rw [kidN_out ho] at h; omega
  · omega

/-- What is known of a part that is as its kind asks. -/
theorem shape_facts {c : CN} (h : shapeB c = true) : (0 ≤ c.kind ∧ c.kind ≤ 7) ∧ (c.kind = 2 → 1 ≤ c.name.length ∧ c.kids.length = 0) ∧ (roleB c.kind = true → 1 ≤ c.role.length) ∧ (roleB c.kind = false → c.role = []) := by
  unfold shapeB at h
  simp only [Bool.and_eq_true, decide_eq_true_eq] at h
  obtain ⟨h1, h2, h3⟩ := h
  refine ⟨kidN_in (by omega), fun hk => ?_, fun hr => ?_, fun hr => ?_⟩
  · unfold nameFit at h1
    rw [if_pos hk, Bool.and_eq_true] at h1
    refine ⟨(longB_of_up h1.1).1, ?_⟩
    rw [hk] at h3
    simp [kidN] at h3
    rw [h3]; rfl
  · unfold roleFit at h2
    rw [if_pos hr] at h2
    exact (longB_of_low h2).1
  · unfold roleFit at h2
    rw [if_neg (by rw [hr]; simp)] at h2
    exact List.eq_nil_of_length_eq_zero (by simpa using h2)

theorem BoxC.keep5 {W W' : World} {base b : Nat} {v0 v1 v2 v3 : Value} (h : BoxC W b v0 v1 v2 v3) (hk : Keep5 base W W') : BoxC W' b v0 v1 v2 v3 := hk.2 b _ _ _ (by decide) h

/-- The word of a kind, as a string. -/
def wordB (k : Int) : ByteArray := if k = 0 then ⟨#[84, 111, 112]⟩ else if k = 1 then ⟨#[66, 111, 116]⟩ else if k = 3 then ⟨#[78, 111, 116]⟩ else if k = 4 then ⟨#[65, 110, 100]⟩ else if k = 5 then ⟨#[79, 114]⟩ else if k = 6 then ⟨#[83, 111, 109, 101]⟩ else if k = 7 then ⟨#[65, 108, 108]⟩ else ⟨#[]⟩

theorem wordB_cells (k : Int) : Lib.strCells (wordB k) = (wordOf k).map (Value.int .u8) := by
  unfold wordB wordOf
  repeat' split
  all_goals rfl

theorem wordB_size (k : Int) : (wordB k).size = (wordOf k).length := by
  rw [← Lib.strCells_length, wordB_cells, List.length_map]

set_option maxHeartbeats 400000 in
theorem l2words_any (w : World) : Calls Try.prog 107 #[] w fun e w' => e = .returned (.slice (some ⟨w.heap.size, 0, none⟩) 8 8) ∧ (∀ i : Nat, i < 8 → w'.cell? ⟨w.heap.size, i, none⟩ = some (.string (wordB i))) ∧ Below w.heap.size w w' := by
  go_enter Try.func107, Try.ntmps107
  go_wp2
  go_ret
  refine ⟨rfl, fun i hi => ?_, (Below.refl _ _).alloc (Nat.le_refl _) _⟩
  match i, hi with
  | 0, _ | 1, _ | 2, _ | 3, _ | 4, _ | 5, _ | 6, _ | 7, _ => simp; rfl

/-- An append of a string to bytes of the call's own, as a step of a region that draws its order. -/
theorem step_append_str {P : Program} {ops : Array Oper} {o : Oper} {a : Act} {w : World} {K : Act → World → Prop} {Q : Exit → Act → World → Prop} {E : Prop}
    (hgd : o.guard = none) (sl x : Operand) (t u : TypeId) (ho : o.op = .call { callee := .builtin .append, args := #[sl, x], argTypes := #[t, u] })
    (base : Nat) (e : TypeId) (i : TypeInfo) (ht : P.underlying t = some (.slice e)) (hu : P.underlying u = some .string) (hi : P.info? e = some i) (hz : i.zero = some (.int .u8 0))
    (hsize : i.size = 1) (hby : i.bytes = 1) (v : Value) (n : Nat) (xs : List Value) (hs : a.eval sl = v) (hown : w.ownsRow base e 1 v n xs) (s : ByteArray) (hx : a.eval x = .string s)
    (h63 : n + s.size ≤ maxLen) (hbytes : n + s.size ≤ 140737488355328) (hbase : base ≤ w.heap.size)
    (h : ∀ v' w', w'.ownsRow base e 1 v' (n + s.size) (xs ++ Lib.strCells s) → w.grownBy w' v.ownBlock → K (a.put o.dst v') w') :
    if Region.wanted o (yielded ops a.tmps) = true then Oper.wp P o a w K Q else E := by
  have hw : Region.wanted o (yielded ops a.tmps) = true := by simp [Region.wanted, hgd]
  rw [if_pos hw]
  obtain ⟨v', w', hr, h2, h3, _⟩ := Lib.run_append_own_string (P := P) w base t u o.type e i ht hu hi hz hsize hby v n xs hown s h63 hbytes hbase
  unfold Oper.wp execOp
  simp only [ho, resolve, invoke, builtin, Sem.run_bind, Sem.run_pure, Result.andThen_ok, List.map_toArray, List.map_cons, List.map_nil, hs, hx, hr]
  exact h v' w' h2 h3

theorem ownB_str {base : Nat} {W w2 : World} {v v' : Value} {xs : List Int} {k : Int} (hO : OwnB base W v xs) (hb : base ≤ W.heap.size)
    (hown : w2.ownsRow base 5 1 v' (xs.length + (wordB k).size) (xs.map (Value.int .u8) ++ Lib.strCells (wordB k))) (hgrow : W.grownBy w2 v.ownBlock) :
    OwnB base w2 v' (xs ++ wordOf k) ∧ Keep5 base W w2 := by
  rw [wordB_size, wordB_cells] at hown
  exact ownB_app hO hb hown hgrow
end

section
open Go.RowKit

/-- The parser's box. -/
def BoxQ (W : World) (b : Nat) (lv : Value) (i en bad : Int) : Prop := W.heap[b]? = some (.cells #[lv, .int .i64 i, .int .i64 en, .int .i64 bad] 94 (0, 0))

theorem BoxQ.cells {W : World} {b : Nat} {lv : Value} {i en bad : Int} (h : BoxQ W b lv i en bad) : W.cell? ⟨b, 0, none⟩ = some lv ∧ W.cell? ⟨b, 1, none⟩ = some (.int .i64 i) ∧ W.cell? ⟨b, 2, none⟩ = some (.int .i64 en) ∧ W.cell? ⟨b, 3, none⟩ = some (.int .i64 bad) := by
  unfold BoxQ at h
  refine ⟨?_, ?_, ?_, ?_⟩ <;> simp [World.cell?, h]
theorem BoxQ.frz {W : World} {b : Nat} {lv : Value} {i en bad : Int} (h : BoxQ W b lv i en bad) (o : Nat) : W.frozen? ⟨b, o, none⟩ = false := by
  unfold BoxQ at h
  simp [World.frozen?, h]
theorem BoxQ.lt {W : World} {b : Nat} {lv : Value} {i en bad : Int} (h : BoxQ W b lv i en bad) : b < W.heap.size := (Array.getElem?_eq_some_iff.1 h).1
theorem BoxQ.of {W W' : World} {b : Nat} {lv : Value} {i en bad : Int} (h : BoxQ W b lv i en bad) (e : W'.heap[b]? = W.heap[b]?) : BoxQ W' b lv i en bad := e.trans h
theorem BoxQ.set3 {W : World} {b : Nat} {lv : Value} {i en bad : Int} (h : BoxQ W b lv i en bad) (j : Int) : BoxQ (W.setCell ⟨b, 3, none⟩ (.int .i64 j)) b lv i en j := by
  unfold BoxQ
  rw [heap_setCell_same W b 3 _ _ _ h]
  rfl
theorem BoxQ.new (W : World) (lv : Value) (i en bad : Int) : BoxQ (W.alloc (.cells #[lv, .int .i64 i, .int .i64 en, .int .i64 bad] 94)) W.heap.size lv i en bad := by
  show (W.heap.push _)[W.heap.size]? = _
  simp

/-- The parser stands at the token i; nothing is wrong yet where bad is -1. -/
def PsAt (W : World) (pb g i : Nat) (ts : List Tok) (en bad : Int) : Prop := ∃ a c, BoxQ W pb (.slice a ts.length c) i en bad ∧ (ts.length = 0 ∨ a = some ⟨g, 0, none⟩) ∧ ts.length ≤ c ∧ c ≤ 9223372036854775807

/-- What is wrong is laid down. -/
def PsBad (W : World) (pb : Nat) (p : Int) : Prop := ∃ lv i en, BoxQ W pb lv i en p

theorem PsAt.of {W W' : World} {pb g i : Nat} {ts : List Tok} {en bad : Int} (h : PsAt W pb g i ts en bad) (e : W'.heap[pb]? = W.heap[pb]?) : PsAt W' pb g i ts en bad := by
  obtain ⟨a, c, h1, h2⟩ := h
  exact ⟨a, c, h1.of e, h2⟩
theorem PsAt.lt {W : World} {pb g i : Nat} {ts : List Tok} {en bad : Int} (h : PsAt W pb g i ts en bad) : pb < W.heap.size := by
  obtain ⟨a, c, h1, h2⟩ := h
  exact h1.lt
theorem PsAt.below {W W' : World} {pb g i : Nat} {ts : List Tok} {en bad : Int} (h : PsAt W pb g i ts en bad) (hb : Below W.heap.size W W') : PsAt W' pb g i ts en bad := h.of (hb.block _ h.lt)
theorem PsAt.fell {W : World} {pb g i : Nat} {ts : List Tok} {en bad : Int} (h : PsAt W pb g i ts en bad) : PsBad W pb bad := by
  obtain ⟨a, c, h1, h2⟩ := h
  exact ⟨_, _, _, h1⟩
theorem PsBad.of {W W' : World} {pb : Nat} {p : Int} (h : PsBad W pb p) (e : W'.heap[pb]? = W.heap[pb]?) : PsBad W' pb p := by
  obtain ⟨lv, i, en, h⟩ := h
  exact ⟨lv, i, en, h.of e⟩
theorem PsBad.lt {W : World} {pb : Nat} {p : Int} (h : PsBad W pb p) : pb < W.heap.size := by
  obtain ⟨lv, i, en, h⟩ := h
  exact h.lt
theorem PsBad.below {W W' : World} {pb : Nat} {p : Int} (h : PsBad W pb p) (hb : Below W.heap.size W W') : PsBad W' pb p := h.of (hb.block _ h.lt)
end

end Go.Proofs.Ythojlfcahhjfaaa
