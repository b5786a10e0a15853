/- Several texts in one: ConTxt, ConShape2, AxMem, ConInj. -/
import Derived.Test.YtedihcjhfkdkjaaNG4
import Derived.Test.YtedihcjhfkdkjaaNG3
import Derived.Lib.AppendStr
import Derived.Test.YtedihcjhfkdkjaaNG6
namespace Go.Proofs.Ytedihcjhfkdkjaa

section
open Go.RowKit

/-- The word of a kind, by its bytes. -/
def wordOf (k : Int) : List Int := if k = 0 then [84, 111, 112] else if k = 1 then [66, 111, 116] else if k = 3 then [78, 111, 116] else if k = 4 then [65, 110, 100] else if k = 5 then [79, 114] else if k = 6 then [83, 111, 109, 101] else if k = 7 then [65, 108, 108] else []

theorem wordOf_len (k : Int) : (wordOf k).length ≤ 4 := by
  unfold wordOf
  repeat' split
  all_goals simp

theorem wordOf_byte (k : Int) : ∀ x ∈ wordOf k, 0 ≤ x ∧ x ≤ 255 := by
  unfold wordOf
  repeat' split
  all_goals (intro x hx; simp at hx; try omega)

def roleT (r : List Int) : List Int := if r = [] then [] else r ++ [32]

mutual
def textC : CN → List Int
  | .mk k n r ks => if k = 2 then n else if ks.length = 0 then wordOf k else wordOf k ++ [40] ++ roleT r ++ textJ 0 ks ++ [41]
/-- The kids' texts; a blank ahead of all but the first. -/
def textJ : Nat → List CN → List Int
  | _, [] => []
  | i, c :: cs => gapT i ++ textC c ++ textJ (i + 1) cs
end

theorem textC_eq (c : CN) : textC c = if c.kind = 2 then c.name else if c.kids.length = 0 then wordOf c.kind else wordOf c.kind ++ [40] ++ roleT c.role ++ textJ 0 c.kids ++ [41] := by
  cases c; rw [textC]; rfl

theorem textJ_append (xs ys : List CN) : ∀ i, textJ i (xs ++ ys) = textJ i xs ++ textJ (i + xs.length) ys := by
  induction xs with
  | nil => intro i; simp [textJ]
  | cons x xs ih => intro i; simp only [List.cons_append, textJ, ih, List.append_assoc, List.length_cons]; rw [show i + 1 + xs.length = i + (xs.length + 1) by omega]

theorem textJ_take_succ (cs : List CN) (j : Nat) (h : j < cs.length) : textJ 0 (cs.take (j + 1)) = textJ 0 (cs.take j) ++ gapT j ++ textC (cs.getD j CN.zero) := by
  rw [take_succ_getD cs CN.zero j h, textJ_append]
  simp only [textJ, List.append_nil, List.length_take, Nat.zero_add]
  rw [show min j cs.length = j by omega, List.append_assoc]

theorem textJ_take_le (cs : List CN) (j : Nat) : (textJ 0 (cs.take j)).length ≤ (textJ 0 cs).length := by
  have := textJ_append (cs.take j) (cs.drop j) 0
  rw [List.take_append_drop] at this
  rw [this, List.length_append]; omega

theorem gapT_len (i : Nat) : (gapT i).length ≤ 1 := by unfold gapT; split <;> simp

mutual
theorem textC_len : ∀ c : CN, (textC c).length ≤ 30 * c.bulk + 10
  | .mk k n r ks => by
    rw [textC, CN.bulk]
    have h1 := wordOf_len k
    have h2 := textJ_len ks 0
    have h3 : (roleT r).length ≤ r.length + 1 := by unfold roleT; split <;> simp
    split
    · omega
    · split
      · omega
      · simp only [List.length_append, List.length_cons, List.length_nil]; omega
theorem textJ_len : ∀ (cs : List CN) (i : Nat), (textJ i cs).length ≤ 30 * bulks cs
  | [], _ => by simp [textJ]
  | c :: cs, i => by
    rw [textJ, bulks]
    have h1 := textC_len c
    have h2 := textJ_len cs (i + 1)
    have h3 := gapT_len i
    simp only [List.length_append]; omega
end

mutual
/-- Each part is as its kind asks. -/
def wfC : CN → Bool
  | .mk k n r ks => shapeB (.mk k n r ks) && wfL ks
def wfL : List CN → Bool
  | [] => true
  | c :: cs => wfC c && wfL cs
end

theorem wfC_eq (c : CN) : wfC c = (shapeB c && wfL c.kids) := by cases c; rw [wfC]; rfl

theorem wfL_getD : ∀ (cs : List CN) (j : Nat), j < cs.length → wfL cs = true → wfC (cs.getD j CN.zero) = true
  | [], _, h, _ => by simp at h
  | c :: cs, 0, _, hw => by rw [wfL, Bool.and_eq_true] at hw; exact hw.1
  | c :: cs, j + 1, h, hw => by
    rw [wfL, Bool.and_eq_true] at hw
    have := wfL_getD cs j (by simpa using h) hw.2
    simpa [List.getD] using this

mutual
theorem wfC_of_parts : ∀ (c : CN) (deep : Nat), (parts c deep).all okOne = true → wfC c = true
  | .mk k n r ks, deep, h => by
    rw [parts, List.all_cons, Bool.and_eq_true] at h
    rw [wfC, wfL_of_parts ks (deep + 1) h.2, Bool.and_true]
    have := h.1
    unfold okOne at this
    rw [Bool.and_eq_true] at this
    exact this.2
theorem wfL_of_parts : ∀ (cs : List CN) (deep : Nat), (partsL cs deep).all okOne = true → wfL cs = true
  | [], _, _ => by rw [wfL]
  | c :: cs, deep, h => by
    rw [partsL, List.all_append, Bool.and_eq_true] at h
    rw [wfL, wfC_of_parts c deep h.1, wfL_of_parts cs deep h.2]; rfl
end

theorem wfC_of_ok {c : CN} (h : conOk c = true) : wfC c = true := by
  unfold conOk at h
  rw [Bool.and_eq_true] at h
  exact wfC_of_parts c 1 h.2

theorem kidN_in {k : Int} (h : 0 ≤ kidN k) : 0 ≤ k ∧ k ≤ 7 := by
  by_cases ho : k < 0 ∨ 7 < k
  · rw [kidN_out ho] at h; omega
  · omega

/-- What is known of a part that is as its kind asks. -/
theorem shape_facts {c : CN} (h : shapeB c = true) : (0 ≤ c.kind ∧ c.kind ≤ 7) ∧ (c.kind = 2 → 1 ≤ c.name.length ∧ c.kids.length = 0) ∧ (roleB c.kind = true → 1 ≤ c.role.length) ∧ (roleB c.kind = false → c.role = []) := by
  unfold shapeB at h
  simp only [Bool.and_eq_true, decide_eq_true_eq] at h
  obtain ⟨h1, h2, h3⟩ := h
  refine ⟨kidN_in (by omega), fun hk => ?_, fun hr => ?_, fun hr => ?_⟩
  · unfold nameFit at h1
    rw [if_pos hk, Bool.and_eq_true] at h1
    refine ⟨(longB_of_up h1.1).1, ?_⟩
    rw [hk] at h3
    simp [kidN] at h3
    rw [h3]; rfl
  · unfold roleFit at h2
    rw [if_pos hr] at h2
    exact (longB_of_low h2).1
  · unfold roleFit at h2
    rw [if_neg (by rw [hr]; simp)] at h2
    exact List.eq_nil_of_length_eq_zero (by simpa using h2)

theorem BoxC.keep5 {W W' : World} {base b : Nat} {v0 v1 v2 v3 : Value} (h : BoxC W b v0 v1 v2 v3) (hk : Keep5 base W W') : BoxC W' b v0 v1 v2 v3 := hk.2 b _ _ _ (by decide) h

/-- The word of a kind, as a string. -/
def wordB (k : Int) : ByteArray := if k = 0 then ⟨#[84, 111, 112]⟩ else if k = 1 then ⟨#[66, 111, 116]⟩ else if k = 3 then ⟨#[78, 111, 116]⟩ else if k = 4 then ⟨#[65, 110, 100]⟩ else if k = 5 then ⟨#[79, 114]⟩ else if k = 6 then ⟨#[83, 111, 109, 101]⟩ else if k = 7 then ⟨#[65, 108, 108]⟩ else ⟨#[]⟩

theorem wordB_cells (k : Int) : Lib.strCells (wordB k) = (wordOf k).map (Value.int .u8) := by
  unfold wordB wordOf
  repeat' split
  all_goals rfl

theorem wordB_size (k : Int) : (wordB k).size = (wordOf k).length := by
  rw [← Lib.strCells_length, wordB_cells, List.length_map]

set_option maxHeartbeats 400000 in
theorem l2words_any (w : World) : Calls Try.prog 75 #[] w fun e w' => e = .returned (.slice (some ⟨w.heap.size, 0, none⟩) 8 8) ∧ (∀ i : Nat, i < 8 → w'.cell? ⟨w.heap.size, i, none⟩ = some (.string (wordB i))) ∧ Below w.heap.size w w' := by
  go_enter Try.func75, Try.ntmps75
  go_wp2
  go_ret
  refine ⟨rfl, fun i hi => ?_, (Below.refl _ _).alloc (Nat.le_refl _) _⟩
  match i, hi with
  | 0, _ | 1, _ | 2, _ | 3, _ | 4, _ | 5, _ | 6, _ | 7, _ => simp; rfl

/-- An append of a string to bytes of the call's own, as a step of a region that draws its order. -/
theorem step_append_str {P : Program} {ops : Array Oper} {o : Oper} {a : Act} {w : World} {K : Act → World → Prop} {Q : Exit → Act → World → Prop} {E : Prop}
    (hgd : o.guard = none) (sl x : Operand) (t u : TypeId) (ho : o.op = .call { callee := .builtin .append, args := #[sl, x], argTypes := #[t, u] })
    (base : Nat) (e : TypeId) (i : TypeInfo) (ht : P.underlying t = some (.slice e)) (hu : P.underlying u = some .string) (hi : P.info? e = some i) (hz : i.zero = some (.int .u8 0))
    (hsize : i.size = 1) (hby : i.bytes = 1) (v : Value) (n : Nat) (xs : List Value) (hs : a.eval sl = v) (hown : w.ownsRow base e 1 v n xs) (s : ByteArray) (hx : a.eval x = .string s)
    (h63 : n + s.size ≤ maxLen) (hbytes : n + s.size ≤ 140737488355328) (hbase : base ≤ w.heap.size)
    (h : ∀ v' w', w'.ownsRow base e 1 v' (n + s.size) (xs ++ Lib.strCells s) → w.grownBy w' v.ownBlock → K (a.put o.dst v') w') :
    if Region.wanted o (yielded ops a.tmps) = true then Oper.wp P o a w K Q else E := by
  have hw : Region.wanted o (yielded ops a.tmps) = true := by simp [Region.wanted, hgd]
  rw [if_pos hw]
  obtain ⟨v', w', hr, h2, h3, _⟩ := Lib.run_append_own_string (P := P) w base t u o.type e i ht hu hi hz hsize hby v n xs hown s h63 hbytes hbase
  unfold Oper.wp execOp
  simp only [ho, resolve, invoke, builtin, Sem.run_bind, Sem.run_pure, Result.andThen_ok, List.map_toArray, List.map_cons, List.map_nil, hs, hx, hr]
  exact h v' w' h2 h3

theorem ownB_str {base : Nat} {W w2 : World} {v v' : Value} {xs : List Int} {k : Int} (hO : OwnB base W v xs) (hb : base ≤ W.heap.size)
    (hown : w2.ownsRow base 5 1 v' (xs.length + (wordB k).size) (xs.map (Value.int .u8) ++ Lib.strCells (wordB k))) (hgrow : W.grownBy w2 v.ownBlock) :
    OwnB base w2 v' (xs ++ wordOf k) ∧ Keep5 base W w2 := by
  rw [wordB_size, wordB_cells] at hown
  exact ownB_app hO hb hown hgrow
end

section
open Go.RowKit

set_option maxRecDepth 100000 in
set_option maxHeartbeats 2000000 in
theorem shapeOk_any {d : Nat} {v : Value} {c : CN} {w : World} {lo hi : Nat} (h : RdC lo hi w d v c) (hhi : hi ≤ w.heap.size) :
    Calls Try.prog 35 #[v] w fun e w' => e = .returned (.bool (shapeB c)) ∧ Below w.heap.size w w' := by
  cases d with
  | zero => exact h.elim
  | succ d =>
    have HRd : Hid (RdC lo hi w (d + 1) v c) := h
    obtain ⟨na, nn, nc, ra, rn, rc, ka, kn, kc, rfl, _, _, hk⟩ := h
    have HKL : Hid (c.kids.length = kn) := hk.len
    have HS : Hid (shapeB c = (nameFit c && (roleFit c && decide ((kn : Int) = kidN c.kind)))) := by unfold Hid shapeB; rw [hk.len]
    obtain ⟨k, hkd⟩ : ∃ k, k = c.kind := ⟨_, rfl⟩
    rw [← hkd] at HRd HS ⊢
    have hb0 : Below w.heap.size w (w.alloc (.cells #[.int .i64 k, .slice na nn nc, .slice ra rn rc, .slice ka kn kc] 25)).drew := ((Below.refl _ _).alloc (Nat.le_refl _) _).drew
    have HB0 : Hid (Below w.heap.size w (w.alloc (.cells #[.int .i64 k, .slice na nn nc, .slice ra rn rc, .slice ka kn kc] 25)).drew) := hb0
    have HR0 : Hid (RdC lo hi (w.alloc (.cells #[.int .i64 k, .slice na nn nc, .slice ra rn rc, .slice ka kn kc] 25)).drew (d + 1) (.agg #[.int .i64 k, .slice na nn nc, .slice ra rn rc, .slice ka kn kc]) c) := HRd.out.below hb0 hhi
    have HBx0 : Hid (BoxC (w.alloc (.cells #[.int .i64 k, .slice na nn nc, .slice ra rn rc, .slice ka kn kc] 25)).drew w.heap.size (.int .i64 k) (.slice na nn nc) (.slice ra rn rc) (.slice ka kn kc)) := BoxC.new w _ _ _ _
    clear hk hkd hb0
    cases hN : nameFit c
    · have HE : Hid (shapeB c = false) := by unfold Hid; rw [HS.out, hN]; rfl
      go_enter Try.func35, Try.ntmps35
      go_wp2_with fail
      first | go_region_with (go_at_call 58; refine (nameFits_any HR0.out (Nat.le_trans hhi HB0.out.size)).mono ?_; rintro e w1 ⟨rfl, hb1⟩; rw [hN]; have HB1 : Hid (Below w.heap.size w w1) := HB0.out.trans (hb1.mono HB0.out.size); clear hb1) | fail
      all_goals
        go_wp2_with fail
        go_ret
        exact ⟨rb HE.out.symm, HB1.out⟩
    · cases hR : roleFit c
      · have HE : Hid (shapeB c = false) := by unfold Hid; rw [HS.out, hN, hR]; rfl
        go_enter Try.func35, Try.ntmps35
        go_wp2_with fail
        first | go_region_with (first | (go_at_call 58; refine (nameFits_any HR0.out (Nat.le_trans hhi HB0.out.size)).mono ?_; rintro e w1 ⟨rfl, hb1⟩; rw [hN]; have HB1 : Hid (Below w.heap.size w w1) := HB0.out.trans (hb1.mono HB0.out.size); have HR1 : Hid (RdC lo hi w1 (d + 1) (.agg #[.int .i64 k, .slice na nn nc, .slice ra rn rc, .slice ka kn kc]) c) := HRd.out.below HB1.out hhi; have HBx1 : Hid (BoxC w1 w.heap.size (.int .i64 k) (.slice na nn nc) (.slice ra rn rc) (.slice ka kn kc)) := HBx0.out.below hb1 HBx0.out.lt; obtain ⟨c0, c1, c2, c3⟩ := HBx1.out.cells; clear hb1) | (go_at_call 59; refine (roleFits_any HR1.out (Nat.le_trans hhi HB1.out.size)).mono ?_; rintro e w2 ⟨rfl, hb2⟩; rw [hR]; have HB2 : Hid (Below w.heap.size w w2) := HB1.out.trans (hb2.mono HB1.out.size); clear hb2)) | fail
        all_goals
          go_wp2_with fail
          go_ret
          exact ⟨rb HE.out.symm, HB2.out⟩
      · have HE : Hid (shapeB c = ((kn : Int) == kidN k)) := by unfold Hid; rw [HS.out, hN, hR]; rfl
        go_enter Try.func35, Try.ntmps35
        go_wp2_with fail
        first | go_region_with (first | (go_at_call 58; refine (nameFits_any HR0.out (Nat.le_trans hhi HB0.out.size)).mono ?_; rintro e w1 ⟨rfl, hb1⟩; rw [hN]; have HB1 : Hid (Below w.heap.size w w1) := HB0.out.trans (hb1.mono HB0.out.size); have HR1 : Hid (RdC lo hi w1 (d + 1) (.agg #[.int .i64 k, .slice na nn nc, .slice ra rn rc, .slice ka kn kc]) c) := HRd.out.below HB1.out hhi; have HBx1 : Hid (BoxC w1 w.heap.size (.int .i64 k) (.slice na nn nc) (.slice ra rn rc) (.slice ka kn kc)) := HBx0.out.below hb1 HBx0.out.lt; obtain ⟨c0, c1, c2, c3⟩ := HBx1.out.cells; clear hb1) | (go_at_call 59; refine (roleFits_any HR1.out (Nat.le_trans hhi HB1.out.size)).mono ?_; rintro e w2 ⟨rfl, hb2⟩; rw [hR]; have HB2 : Hid (Below w.heap.size w w2) := HB1.out.trans (hb2.mono HB1.out.size); have HBx2 : Hid (BoxC w2 w.heap.size (.int .i64 k) (.slice na nn nc) (.slice ra rn rc) (.slice ka kn kc)) := HBx1.out.below hb2 HBx1.out.lt; obtain ⟨e0, e1, e2, e3⟩ := HBx2.out.cells; clear hb2) | (go_at_call 60; refine (kidCount_any _ _).mono ?_; rintro e w3 ⟨rfl, hw⟩; rw [hw]; clear hw)) | fail
        all_goals
          go_wp2_with fail
          go_ret
          exact ⟨rb HE.out.symm, HB2.out⟩
end

section
open Go.RowKit

structure AX where
  kind : Int
  c : CN
  d : CN
  r : List Int
  s : List Int
  a : List Int
  b : List Int

/-- Thirteen cells that read as this axiom. -/
structure RdA (lo hi : Nat) (w : World) (dp : Nat) (c0 c1 c2 c3 d0 d1 d2 d3 : Value) (ra : Option Addr) (rn rc : Nat) (sa : Option Addr) (sn sc : Nat) (aa : Option Addr) (an ac : Nat) (ba : Option Addr) (bn bc : Nat) (x : AX) : Prop where
  c : RdC lo hi w dp (.agg #[c0, c1, c2, c3]) x.c
  d : RdC lo hi w dp (.agg #[d0, d1, d2, d3]) x.d
  r : Rd lo hi w ra rn rc x.r
  s : Rd lo hi w sa sn sc x.s
  a : Rd lo hi w aa an ac x.a
  b : Rd lo hi w ba bn bc x.b

theorem RdA.below {lo hi B : Nat} {w w' : World} {dp : Nat} {c0 c1 c2 c3 d0 d1 d2 d3 : Value} {ra : Option Addr} {rn rc : Nat} {sa : Option Addr} {sn sc : Nat} {aa : Option Addr} {an ac : Nat} {ba : Option Addr} {bn bc : Nat} {x : AX}
    (h : RdA lo hi w dp c0 c1 c2 c3 d0 d1 d2 d3 ra rn rc sa sn sc aa an ac ba bn bc x) (hb : Below B w w') (hB : hi ≤ B) : RdA lo hi w' dp c0 c1 c2 c3 d0 d1 d2 d3 ra rn rc sa sn sc aa an ac ba bn bc x :=
  ⟨h.c.below hb hB, h.d.below hb hB, h.r.below hb hB, h.s.below hb hB, h.a.below hb hB, h.b.below hb hB⟩

/-- The box of an axiom. -/
def BoxA (t : Nat) (W : World) (p : Nat) (k : Int) (c0 c1 c2 c3 d0 d1 d2 d3 : Value) (r s a b : Value) : Prop := W.heap[p]? = some (.cells #[.int .i64 k, c0, c1, c2, c3, d0, d1, d2, d3, r, s, a, b] t (0, 0))

theorem BoxA.new (t : Nat) (W : World) (k : Int) (c0 c1 c2 c3 d0 d1 d2 d3 r s a b : Value) : BoxA t (W.alloc (.cells #[.int .i64 k, c0, c1, c2, c3, d0, d1, d2, d3, r, s, a, b] t)) W.heap.size k c0 c1 c2 c3 d0 d1 d2 d3 r s a b := World.alloc_heap_new W _
theorem BoxA.below {t : Nat} {W W' : World} {p B : Nat} {k : Int} {c0 c1 c2 c3 d0 d1 d2 d3 r s a b : Value} (h : BoxA t W p k c0 c1 c2 c3 d0 d1 d2 d3 r s a b) (hb : Below B W W') (hB : p < B) : BoxA t W' p k c0 c1 c2 c3 d0 d1 d2 d3 r s a b := (hb.block p hB).trans h
theorem BoxA.lt {t : Nat} {W : World} {p : Nat} {k : Int} {c0 c1 c2 c3 d0 d1 d2 d3 r s a b : Value} (h : BoxA t W p k c0 c1 c2 c3 d0 d1 d2 d3 r s a b) : p < W.heap.size := (Array.getElem?_eq_some_iff.1 h).1
theorem BoxA.cells {t : Nat} {W : World} {p : Nat} {k : Int} {c0 c1 c2 c3 d0 d1 d2 d3 r s a b : Value} (h : BoxA t W p k c0 c1 c2 c3 d0 d1 d2 d3 r s a b) :
    W.cell? ⟨p, 0, none⟩ = some (.int .i64 k) ∧ W.cell? ⟨p, 1, none⟩ = some c0 ∧ W.cell? ⟨p, 2, none⟩ = some c1 ∧ W.cell? ⟨p, 3, none⟩ = some c2 ∧ W.cell? ⟨p, 4, none⟩ = some c3 ∧ W.cell? ⟨p, 5, none⟩ = some d0 ∧ W.cell? ⟨p, 6, none⟩ = some d1 ∧ W.cell? ⟨p, 7, none⟩ = some d2 ∧ W.cell? ⟨p, 8, none⟩ = some d3 ∧
      W.cell? ⟨p, 9, none⟩ = some r ∧ W.cell? ⟨p, 10, none⟩ = some s ∧ W.cell? ⟨p, 11, none⟩ = some a ∧ W.cell? ⟨p, 12, none⟩ = some b := by
  unfold BoxA at h
  refine ⟨?_, ?_, ?_, ?_, ?_, ?_, ?_, ?_, ?_, ?_, ?_, ?_, ?_⟩ <;> simp [World.cell?, h]

/-! ### Which may be -/
end

section
open Go.RowKit

/-- No blank, no bracket. -/
def wordChar (z : Int) : Bool := decide (z ≠ 32 ∧ z ≠ 40 ∧ z ≠ 41)

/-- Nothing, or a sign that ends a word. -/
def EndsI (u : List Int) : Prop := ∀ z zs, u = z :: zs → wordChar z = false

theorem ends_nil : EndsI [] := fun z zs h => by cases h
theorem ends_40 (u : List Int) : EndsI (40 :: u) := fun z zs h => by cases h; rfl
theorem ends_41 (u : List Int) : EndsI (41 :: u) := fun z zs h => by cases h; rfl
theorem ends_32 (u : List Int) : EndsI (32 :: u) := fun z zs h => by cases h; rfl

theorem split_word {x y u v : List Int} (hx : x.all wordChar = true) (hy : y.all wordChar = true) (hu : EndsI u) (hv : EndsI v) (h : x ++ u = y ++ v) : x = y ∧ u = v := by
  induction x generalizing y with
  | nil =>
    cases y with
    | nil => exact ⟨rfl, by simpa using h⟩
    | cons b y =>
      have h1 := hu b (y ++ v) (by simpa using h)
      rw [List.all_cons, h1] at hy
      simp at hy
  | cons a x ih =>
    cases y with
    | nil =>
      have h1 := hv a (x ++ u) (by simpa using h.symm)
      rw [List.all_cons, h1] at hx
      simp at hx
    | cons b y =>
      rw [List.all_cons, Bool.and_eq_true] at hx hy
      rw [List.cons_append, List.cons_append, List.cons.injEq] at h
      obtain ⟨e, h⟩ := h
      obtain ⟨h1, h2⟩ := ih hx.2 hy.2 h
      exact ⟨by rw [e, h1], h2⟩

theorem char_low {z : Int} (h : lowB z = true) : wordChar z = true := by
  unfold lowB at h
  simp only [Bool.and_eq_true, decide_eq_true_eq] at h
  unfold wordChar
  simp only [decide_eq_true_eq]
  omega

theorem char_up {z : Int} (h : upB z = true) : wordChar z = true := by
  unfold upB at h
  simp only [Bool.and_eq_true, decide_eq_true_eq] at h
  unfold wordChar
  simp only [decide_eq_true_eq]
  omega

theorem chars_low {zs : List Int} (h : lowOk zs = true) : zs.all wordChar = true := by
  unfold lowOk at h
  rw [Bool.and_eq_true] at h
  have h2 := h.2
  rw [List.all_eq_true] at h2 ⊢
  exact fun z hz => char_low (h2 z hz)

theorem chars_up {zs : List Int} (h : upOk zs = true) : zs.all wordChar = true := by
  unfold upOk at h
  simp only [Bool.and_eq_true] at h
  obtain ⟨_, h1, h2⟩ := h
  cases zs with
  | nil => rfl
  | cons z zs =>
    rw [List.all_cons, Bool.and_eq_true]
    refine ⟨char_up (by simpa using h1), ?_⟩
    rw [List.all_eq_true] at h2 ⊢
    exact fun y hy => char_low (h2 y (by simpa using hy))

theorem chars_word (k : Int) : (wordOf k).all wordChar = true := by
  unfold wordOf
  repeat' split
  all_goals decide

/-- The word ahead of a text, and what is behind it. -/
def headW (c : CN) : List Int := if c.kind = 2 then c.name else wordOf c.kind
def restW (c : CN) : List Int := if c.kind = 2 then [] else if c.kids.length = 0 then [] else 40 :: (roleT c.role ++ (textJ 0 c.kids ++ [41]))

theorem text_split (c : CN) : textC c = headW c ++ restW c := by
  rw [textC_eq]
  unfold headW restW
  split
  · simp
  · split
    · simp
    · simp

theorem rest_ends (c : CN) (u : List Int) (hu : EndsI u) : EndsI (restW c ++ u) := by
  unfold restW
  split
  · exact hu
  · split
    · exact hu
    · exact ends_40 _

theorem kept_word {k : Int} (h : 0 ≤ k ∧ k ≤ 7) (h2 : k ≠ 2) : keptB (strOfNums (wordOf k)).toList = true := by
  have hkk : k = 0 ∨ k = 1 ∨ k = 3 ∨ k = 4 ∨ k = 5 ∨ k = 6 ∨ k = 7 := by omega
  rw [ByteArray.toList_eq]
  rcases hkk with rfl | rfl | rfl | rfl | rfl | rfl | rfl <;> decide +kernel

theorem word_inj {k l : Int} (hk : 0 ≤ k ∧ k ≤ 7) (hl : 0 ≤ l ∧ l ≤ 7) (h2 : k ≠ 2) (h2' : l ≠ 2) (h : wordOf k = wordOf l) : k = l := by
  have hkk : k = 0 ∨ k = 1 ∨ k = 3 ∨ k = 4 ∨ k = 5 ∨ k = 6 ∨ k = 7 := by omega
  have hll : l = 0 ∨ l = 1 ∨ l = 3 ∨ l = 4 ∨ l = 5 ∨ l = 6 ∨ l = 7 := by omega
  rcases hkk with rfl | rfl | rfl | rfl | rfl | rfl | rfl <;> rcases hll with rfl | rfl | rfl | rfl | rfl | rfl | rfl <;> first | rfl | (exact absurd h (by decide))

/-- What a part that is as its kind asks is. -/
theorem shape_moreI {c : CN} (h : shapeB c = true) : (0 ≤ c.kind ∧ c.kind ≤ 7) ∧ (c.kind = 2 → upOk c.name = true ∧ keptB (strOfNums c.name).toList = false) ∧ (c.kind ≠ 2 → c.name = []) ∧ (roleB c.kind = true → lowOk c.role = true) ∧ (roleB c.kind = false → c.role = []) ∧ (c.kids.length : Int) = kidN c.kind := by
  have hf := shape_facts h
  unfold shapeB at h
  simp only [Bool.and_eq_true, decide_eq_true_eq] at h
  obtain ⟨h1, h2, h3⟩ := h
  refine ⟨hf.1, fun hk => ?_, fun hk => ?_, fun hr => ?_, hf.2.2.2, h3⟩
  · unfold nameFit at h1
    rw [if_pos hk, Bool.and_eq_true] at h1
    exact ⟨h1.1, by simpa using h1.2⟩
  · unfold nameFit at h1
    rw [if_neg hk] at h1
    exact List.eq_nil_of_length_eq_zero (by simpa using h1)
  · unfold roleFit at h2
    rw [if_pos hr] at h2
    exact h2

theorem head_chars {c : CN} (h : shapeB c = true) : (headW c).all wordChar = true := by
  unfold headW
  split
  · rename_i hk; exact chars_up ((shape_moreI h).2.1 hk).1
  · exact chars_word _

theorem head_kind {a b : CN} (ha : shapeB a = true) (hb : shapeB b = true) (h : headW a = headW b) : a.kind = b.kind := by
  obtain ⟨a1, a2, _⟩ := shape_moreI ha
  obtain ⟨b1, b2, _⟩ := shape_moreI hb
  unfold headW at h
  by_cases ka : a.kind = 2
  · by_cases kb : b.kind = 2
    · rw [ka, kb]
    · rw [if_pos ka, if_neg kb] at h
      have := (a2 ka).2
      rw [h, kept_word b1 kb] at this
      cases this
  · by_cases kb : b.kind = 2
    · rw [if_neg ka, if_pos kb] at h
      have := (b2 kb).2
      rw [← h, kept_word a1 ka] at this
      cases this
    · rw [if_neg ka, if_neg kb] at h
      exact word_inj a1 b1 ka kb h

theorem CN.ext4 {a b : CN} (h1 : a.kind = b.kind) (h2 : a.name = b.name) (h3 : a.role = b.role) (h4 : a.kids = b.kids) : a = b := by
  cases a; cases b
  simp only [CN.kind, CN.name, CN.role, CN.kids] at h1 h2 h3 h4
  rw [h1, h2, h3, h4]

theorem text_inj : ∀ (n : Nat) (a b : CN) (u v : List Int), a.bulk < n → wfC a = true → wfC b = true → EndsI u → EndsI v → textC a ++ u = textC b ++ v → a = b ∧ u = v
  | 0, _, _, _, _, h, _, _, _, _, _ => by omega
  | n + 1, a, b, u, v, hn, ha, hb, hu, hv, h => by
    rw [wfC_eq, Bool.and_eq_true] at ha hb
    obtain ⟨sa, ka⟩ := ha
    obtain ⟨sb, kb⟩ := hb
    rw [text_split a, text_split b, List.append_assoc, List.append_assoc] at h
    obtain ⟨h1, h2⟩ := split_word (head_chars sa) (head_chars sb) (rest_ends a u hu) (rest_ends b v hv) h
    have hk := head_kind sa sb h1
    obtain ⟨a1, a2, a3, a4, a5, a6⟩ := shape_moreI sa
    obtain ⟨b1, b2, b3, b4, b5, b6⟩ := shape_moreI sb
    have hlen : a.kids.length = b.kids.length := by rw [← hk] at b6; omega
    by_cases h2k : a.kind = 2
    · have hb2 : b.kind = 2 := by rw [← hk]; exact h2k
      have z : a.kids.length = 0 := by rw [h2k] at a6; simp [kidN] at a6; rw [a6]; rfl
      have e1 : a.name = b.name := by unfold headW at h1; rw [if_pos h2k, if_pos hb2] at h1; exact h1
      have e2 : a.role = b.role := by rw [a5 (by rw [h2k]; rfl), b5 (by rw [hb2]; rfl)]
      have zb : b.kids.length = 0 := by omega
      have e3 : a.kids = b.kids := by rw [List.eq_nil_of_length_eq_zero z, List.eq_nil_of_length_eq_zero zb]
      unfold restW at h2
      rw [if_pos h2k, if_pos hb2] at h2
      exact ⟨CN.ext4 hk e1 e2 e3, by simpa using h2⟩
    · have hb2 : b.kind ≠ 2 := by rw [← hk]; exact h2k
      have e1 : a.name = b.name := by rw [a3 h2k, b3 hb2]
      unfold restW at h2
      rw [if_neg h2k, if_neg hb2] at h2
      by_cases z : a.kids.length = 0
      · have zb : b.kids.length = 0 := by omega
        rw [if_pos z, if_pos zb] at h2
        have e2 : a.role = b.role := by
          have hr : roleB a.kind = false := by
            cases hr : roleB a.kind
            · rfl
            · unfold roleB at hr
              simp only [Bool.or_eq_true, decide_eq_true_eq] at hr
              rcases hr with e | e <;> (rw [e] at a6; simp [kidN] at a6; omega)
          rw [a5 hr, b5 (by rw [← hk]; exact hr)]
        have e3 : a.kids = b.kids := by rw [List.eq_nil_of_length_eq_zero z, List.eq_nil_of_length_eq_zero zb]
        exact ⟨CN.ext4 hk e1 e2 e3, by simpa using h2⟩
      · have zb : ¬ b.kids.length = 0 := by omega
        rw [if_neg z, if_neg zb, List.cons_append, List.cons_append, List.cons.injEq] at h2
        have h3 := h2.2
        have key : a.role = b.role ∧ textJ 0 a.kids ++ (41 :: u) = textJ 0 b.kids ++ (41 :: v) := by
          cases hr : roleB a.kind
          · have ea := a5 hr
            have eb := b5 (by rw [← hk]; exact hr)
            rw [ea, eb] at h3
            refine ⟨by rw [ea, eb], ?_⟩
            simpa [roleT] using h3
          · have la := a4 hr
            have lb := b4 (by rw [← hk]; exact hr)
            have na : a.role ≠ [] := fun e => by have := (longB_of_low la).1; rw [e] at this; simp at this
            have nb : b.role ≠ [] := fun e => by have := (longB_of_low lb).1; rw [e] at this; simp at this
            have h4 : a.role ++ (32 :: (textJ 0 a.kids ++ (41 :: u))) = b.role ++ (32 :: (textJ 0 b.kids ++ (41 :: v))) := by
              unfold roleT at h3
              rw [if_neg na, if_neg nb] at h3
              simpa using h3
            obtain ⟨e1, e2⟩ := split_word (chars_low la) (chars_low lb) (ends_32 _) (ends_32 _) h4
            rw [List.cons.injEq] at e2
            exact ⟨e1, e2.2⟩
        obtain ⟨e2, h5⟩ := key
        have hbulk := a.bulk_eq
        have h12 : a.kids.length = 1 ∨ a.kids.length = 2 := by
          have hkk : a.kind = 0 ∨ a.kind = 1 ∨ a.kind = 3 ∨ a.kind = 4 ∨ a.kind = 5 ∨ a.kind = 6 ∨ a.kind = 7 := by omega
          rcases hkk with e | e | e | e | e | e | e
          · rw [e, show kidN 0 = 0 from rfl] at a6; omega
          · rw [e, show kidN 1 = 0 from rfl] at a6; omega
          · rw [e, show kidN 3 = 1 from rfl] at a6; omega
          · rw [e, show kidN 4 = 2 from rfl] at a6; omega
          · rw [e, show kidN 5 = 2 from rfl] at a6; omega
          · rw [e, show kidN 6 = 1 from rfl] at a6; omega
          · rw [e, show kidN 7 = 1 from rfl] at a6; omega
        rcases h12 with l1 | l2
        · obtain ⟨x, hx⟩ : ∃ x, a.kids = [x] := by
            match hq : a.kids, l1 with
            | [x], _ => exact ⟨x, rfl⟩
          obtain ⟨y, hy⟩ : ∃ y, b.kids = [y] := by
            have : b.kids.length = 1 := by omega
            match hq : b.kids, this with
            | [y], _ => exact ⟨y, rfl⟩
          rw [hx, hy] at h5
          rw [hx] at ka hbulk
          rw [hy] at kb
          simp only [wfL, Bool.and_true] at ka kb
          simp only [bulks] at hbulk
          simp only [textJ, gapT_zero, List.nil_append, List.append_nil] at h5
          obtain ⟨e3, e4⟩ := text_inj n x y (41 :: u) (41 :: v) (by omega) ka kb (ends_41 _) (ends_41 _) h5
          rw [List.cons.injEq] at e4
          exact ⟨CN.ext4 hk e1 e2 (by rw [hx, hy, e3]), e4.2⟩
        · obtain ⟨x, x', hx⟩ : ∃ x x', a.kids = [x, x'] := by
            match hq : a.kids, l2 with
            | [x, x'], _ => exact ⟨x, x', rfl⟩
          obtain ⟨y, y', hy⟩ : ∃ y y', b.kids = [y, y'] := by
            have : b.kids.length = 2 := by omega
            match hq : b.kids, this with
            | [y, y'], _ => exact ⟨y, y', rfl⟩
          rw [hx, hy] at h5
          rw [hx] at ka hbulk
          rw [hy] at kb
          simp only [wfL, Bool.and_true, Bool.and_eq_true] at ka kb
          simp only [bulks] at hbulk
          simp only [textJ, gapT_zero, gapT_pos (show 0 < 0 + 1 by omega), List.nil_append, List.append_nil, List.append_assoc, List.cons_append] at h5
          obtain ⟨e3, e4⟩ := text_inj n x y _ _ (by omega) ka.1 kb.1 (ends_32 _) (ends_32 _) h5
          rw [List.cons.injEq] at e4
          obtain ⟨e5, e6⟩ := text_inj n x' y' (41 :: u) (41 :: v) (by omega) ka.2 kb.2 (ends_41 _) (ends_41 _) e4.2
          rw [List.cons.injEq] at e6
          exact ⟨CN.ext4 hk e1 e2 (by rw [hx, hy, e3, e5]), e6.2⟩

theorem textC_inj {a b : CN} (ha : wfC a = true) (hb : wfC b = true) (h : textC a = textC b) : a = b :=
  (text_inj (a.bulk + 1) a b [] [] (by omega) ha hb ends_nil ends_nil (by rw [h])).1
end

end Go.Proofs.Ytedihcjhfkdkjaa
