/- Several texts in one: ListFin0, RulesM, RulesI1, RulesI2, RulesI3, RulesS1, RulesS2, RulesS3. -/
import Derived.Test.YtoeoddfhofcpcaaConFin
import Derived.Test.YtoeoddfhofcpcaaKbVocM
import Derived.Test.YtoeoddfhofcpcaaNnfMath
import Derived.Test.YtoeoddfhofcpcaaConPush
import Derived.Deep.RegionHeld3
import Derived.Test.YtoeoddfhofcpcaaKbOkFn
import Derived.Test.YtoeoddfhofcpcaaConOwnS
import Derived.Deep.AppendLies
namespace Go.Proofs.Ytoeoddfhofcpcaa

section
open Go.RowKit

/-- A list of concepts in memory of its own, from the block base on. -/
structure AnsL (base : Nat) (w : World) (d : Nat) (v : Value) (cs : List CN) (Ls : List (List (Addr × IntKind))) (xs : List Value) : Prop where
  row : RowK base w d v cs Ls xs
  sep : SepK base w Ls

theorem AnsL.below {base : Nat} {w w' : World} {d : Nat} {v : Value} {cs : List CN} {Ls : List (List (Addr × IntKind))} {xs : List Value} (h : AnsL base w d v cs Ls xs) (hb : Below w.heap.size w w') : AnsL base w' d v cs Ls xs :=
  ⟨h.row.below hb, h.sep.below hb h.row.lt⟩

theorem AnsL.same {base : Nat} {w w' : World} {d : Nat} {v : Value} {cs : List CN} {Ls : List (List (Addr × IntKind))} {xs : List Value} (h : AnsL base w d v cs Ls xs) (hk : ∀ b, base ≤ b → b < w.heap.size → w'.heap[b]? = w.heap[b]?) (hs : w.heap.size ≤ w'.heap.size) : AnsL base w' d v cs Ls xs := by
  obtain ⟨⟨h1, h2, h3, h4, h5⟩, h6⟩ := h
  have hlt := h2.lt
  refine ⟨⟨h1, ?_, fun i hi => ?_, fun x hx => Nat.lt_of_lt_of_le (h4 x hx) hs, h5⟩, ⟨h6.nd, fun x hx => (World.frozen?_of_block (w := w) (hk _ (h6.ge x hx) (h4 x hx))).trans (h6.fr x hx), h6.ge⟩⟩
  · obtain ⟨r1, r2⟩ := h2
    refine ⟨r1, ?_⟩
    rcases r2 with r2 | ⟨g, cap, cur, hv, hg, hh, r⟩
    · exact .inl r2
    · exact .inr ⟨g, cap, cur, hv, hg, by rw [hk g hg (Array.getElem?_eq_some_iff.1 hh).1]; exact hh, r⟩
  · obtain ⟨v0, v1, v2, v3, c0, c1, c2, c3, hr⟩ := h3 i hi
    exact ⟨v0, v1, v2, v3, c0, c1, c2, c3, hr.keep (fun x hx => hk _ (h6.ge x (getD_mem_flatten hx)) (h4 x (getD_mem_flatten hx)))⟩

theorem OwL.bulk {w : World} {d : Nat} {a : Option Addr} {cap b off : Nat} {cs : List CN} {Ls : Nat → List (Addr × IntKind)} (h : OwL (OwC w d) w a cs.length cap cs b off Ls) : (leafK b off Ls cs.length).length = bulks cs := by
  have key : ∀ j, j ≤ cs.length → (leafK b off Ls j).length = bulks (cs.take j) := by
    intro j
    induction j with
    | zero => intro _; simp [leafK, bulks]
    | succ j ihj =>
      intro hj
      rw [leafK_succ, List.length_append, ihj (by omega), bulks_take_succ _ _ (by omega)]
      rcases h.cells with g3 | ⟨_, g3⟩
      · omega
      · obtain ⟨v0, v1, v2, v3, c0, c1, c2, c3, hr⟩ := g3 j (by omega)
        rw [List.length_cons, hr.bulk]
        omega
  have := key cs.length (Nat.le_refl _)
  rwa [List.take_of_length_le (Nat.le_refl _)] at this

theorem OwL.lv {w : World} {d : Nat} {a : Option Addr} {n cap b off : Nat} {cs : List CN} {Ls : Nat → List (Addr × IntKind)} (h : OwL (OwC w d) w a n cap cs b off Ls) : LvL (LvC w d) w a n b off Ls := by
  rcases h.cells with g3 | ⟨e, g3⟩
  · exact .inl g3
  · refine .inr ⟨e, fun i hi => ?_⟩
    obtain ⟨v0, v1, v2, v3, c0, c1, c2, c3, hr⟩ := g3 i hi
    exact ⟨v1, v2, v3, c1, c2, c3, hr.lv⟩

/-- What is needed of it to be compared, marked and looked at. -/
structure FinL (base top : Nat) (w : World) (d : Nat) (a : Option Addr) (n cap : Nat) (cs : List CN) (b : Nat) (Lf : Nat → List (Addr × IntKind)) : Prop where
  rd : RdL (RdC base top w d) base top w a n cap cs
  lv : LvL (LvC w d) w a n b 0 Lf
  ok : LeafOk w (leafK b 0 Lf n)
  nd : ((leafK b 0 Lf n).map (·.1)).Nodup
  bl : ∀ x ∈ leafK b 0 Lf n, base ≤ x.1.block ∧ x.1.block < top
  ln : (leafK b 0 Lf n).length = bulks cs

theorem rowK_rd {base : Nat} {w : World} {d : Nat} {v : Value} {cs : List CN} {Ls : List (List (Addr × IntKind))} {xs : List Value} (h : RowK base w d v cs Ls xs) (hge : ∀ x ∈ Ls.flatten, base ≤ x.1.block) :
    ∃ a cap, v = .slice a cs.length cap ∧ RdL (RdC base w.heap.size w d) base w.heap.size w a cs.length cap cs := by
  obtain ⟨a, cap, b, hv, ho, hb⟩ := h.owL
  refine ⟨a, cap, hv, ho.len, ho.fits, ?_⟩
  rcases ho.cells with e | ⟨e, hc⟩
  · exact .inl e
  · rcases hb with hb | ⟨_, hb1, hb2, _⟩
    · exact .inl hb
    · refine .inr ⟨b, 0, e, hb1, hb2, fun i hi => ?_⟩
      obtain ⟨v0, v1, v2, v3, c0, c1, c2, c3, hr⟩ := hc i hi
      exact ⟨v0, v1, v2, v3, c0, c1, c2, c3, hr.rd (fun x hx => ⟨hge x (getD_mem_flatten hx), h.lt x (getD_mem_flatten hx)⟩)⟩

theorem FinL.of {base : Nat} {w : World} {d : Nat} {v : Value} {cs : List CN} {Ls : List (List (Addr × IntKind))} {xs : List Value} (h : AnsL base w d v cs Ls xs) :
    ∃ a cap b, v = .slice a cs.length cap ∧ FinL base w.heap.size w d a cs.length cap cs b (fun i => Ls.getD i []) := by
  obtain ⟨a, cap, b, hv, ho, hb⟩ := h.row.owL
  obtain ⟨a', cap', hv', hrd⟩ := rowK_rd h.row h.sep.ge
  rw [hv] at hv'
  simp only [Value.slice.injEq] at hv'
  obtain ⟨rfl, _, rfl⟩ := hv'
  have hlen := h.row.len
  have hbl : ∀ x ∈ leafK b 0 (fun i => Ls.getD i []) cs.length, base ≤ x.1.block ∧ x.1.block < w.heap.size := by
    intro x hx
    rcases leafK_flatten b Ls cs.length (by omega) x hx with e | e
    · rcases hb with hb | ⟨_, hb1, hb2, _⟩
      · rw [hb] at hx; simp [leafK] at hx
      · rw [e]; exact ⟨hb1, hb2⟩
    · exact ⟨h.sep.ge x e, h.row.lt x e⟩
  refine ⟨a, cap, b, hv, hrd, ho.lv, ?_, ?_, hbl, ho.bulk⟩
  · intro x hx
    obtain ⟨i, hi, hx'⟩ := mem_leafK.1 hx
    rcases ho.cells with e | ⟨_, hc⟩
    · omega
    · obtain ⟨v0, v1, v2, v3, c0, c1, c2, c3, hr⟩ := hc i hi
      rcases hx' with rfl | hx'
      · have := hr.form.1
        subst this
        refine ⟨⟨_, c0⟩, ?_⟩
        rcases hb with hb | ⟨_, _, _, hfz⟩
        · omega
        · exact hfz _
      · exact ⟨hr.leaf x hx', h.sep.fr x (getD_mem_flatten hx')⟩
  · by_cases h0 : cs.length = 0
    · rw [h0]; simp [leafK]
    · rcases hb with hb | ⟨hob, _, _, _⟩
      · omega
      · exact leafK_nodup h.sep (fun x hx e => h.row.off x hx (by rw [hob, e])) cs.length (by omega)

theorem bulks_le_of {l : List CN} {B : Nat} (h : ∀ x ∈ l, x.bulk ≤ B) : bulks l ≤ l.length * (B + 1) := by
  induction l with
  | nil => simp [bulks]
  | cons c cs ih =>
    have h1 := h c (by simp)
    have h2 := ih (fun x hx => h x (by simp [hx]))
    rw [bulks, List.length_cons, Nat.add_mul]
    omega
end

section
open Go.RowKit

def orC (a b : CN) : CN := .mk 5 [] [] [a, b]

/-- The rules of one that is told. -/
def rulesX (x : AX) : List CN :=
  if x.kind = 0 then [orC (nnfC true x.c) (nnfC false x.d)]
  else if x.kind = 1 then [orC (nnfC true x.c) (nnfC false x.d), orC (nnfC true x.d) (nnfC false x.c)]
  else if x.kind = 2 then [orC (nnfC true x.c) (nnfC true x.d)]
  else []

def rulesK (xs : List AX) : List CN := xs.flatMap rulesX
def rulesN (xs : List AX) : List CN := if kbB xs = true then rulesK xs else []

theorem rulesK_take (xs : List AX) (j : Nat) (h : j < xs.length) : rulesK (xs.take (j + 1)) = rulesK (xs.take j) ++ rulesX (xs.getD j AX.zero) := by
  unfold rulesK
  rw [List.take_succ_eq_append_getElem h, List.flatMap_append]
  simp [List.getD, h]

theorem rulesX_len (x : AX) : (rulesX x).length ≤ 2 := by
  unfold rulesX
  split
  · simp
  · split
    · simp
    · split <;> simp

theorem rulesK_len (xs : List AX) : (rulesK xs).length ≤ 2 * xs.length := by
  unfold rulesK
  induction xs with
  | nil => simp
  | cons x xs ih =>
    have := rulesX_len x
    simp only [List.flatMap_cons, List.length_append, List.length_cons]
    omega

theorem ok_cd {x : AX} (h : axOk x = true) (hk : x.kind = 0 ∨ x.kind = 1 ∨ x.kind = 2) : conOk x.c = true ∧ conOk x.d = true := by
  unfold axOk at h
  simp only [Bool.and_eq_true] at h
  obtain ⟨_, h1, h2, _⟩ := h
  have e1 : wantC x.kind = true := by unfold wantC; rcases hk with e | e | e <;> simp [e]
  have e2 : wantD x.kind = true := by unfold wantD; rcases hk with e | e | e <;> simp [e]
  rw [e1] at h1
  rw [e2] at h2
  exact ⟨by simpa [fitC] using h1, by simpa [fitC] using h2⟩

theorem orC_bulk (a b : CN) : (orC a b).bulk = a.bulk + b.bulk + 2 := by
  simp only [orC, CN.bulk, bulks, List.length_nil]
  omega

theorem rulesX_bulk {x : AX} (h : axOk x = true) : ∀ c ∈ rulesX x, c.bulk ≤ 1000 := by
  intro c hc
  unfold rulesX at hc
  by_cases hk : x.kind = 0 ∨ x.kind = 1 ∨ x.kind = 2
  · obtain ⟨h1, h2⟩ := ok_cd h hk
    have b1 := bulk_of_ok h1
    have b2 := bulk_of_ok h2
    have n1 := nnfC_bulk true x.c
    have n2 := nnfC_bulk false x.c
    have n3 := nnfC_bulk true x.d
    have n4 := nnfC_bulk false x.d
    rcases hk with e | e | e
    · simp only [e, if_true, List.mem_cons, List.not_mem_nil, or_false] at hc
      subst hc
      rw [orC_bulk]; omega
    · simp only [e, show ¬ ((1 : Int) = 0) from by decide, if_false, if_true, List.mem_cons, List.not_mem_nil, or_false] at hc
      rcases hc with rfl | rfl <;> rw [orC_bulk] <;> omega
    · simp only [e, show ¬ ((2 : Int) = 0) from by decide, show ¬ ((2 : Int) = 1) from by decide, if_false, if_true, List.mem_cons, List.not_mem_nil, or_false] at hc
      subst hc
      rw [orC_bulk]; omega
  · simp only [not_or] at hk
    rw [if_neg hk.1, if_neg hk.2.1, if_neg hk.2.2] at hc
    simp at hc

theorem kbB_ok' {xs : List AX} (h : kbB xs = true) : xs.length ≤ 8 ∧ ∀ x ∈ xs, axOk x = true := by
  unfold kbB at h
  simp only [Bool.and_eq_true] at h
  exact ⟨of_decide_eq_true h.1, List.all_eq_true.1 h.2.1⟩

theorem rulesN_len (xs : List AX) : (rulesN xs).length ≤ 16 := by
  unfold rulesN
  split
  · rename_i h
    have := (kbB_ok' h).1
    have := rulesK_len xs
    omega
  · simp

theorem rulesK_bulk {xs : List AX} (h : ∀ x ∈ xs, axOk x = true) : ∀ c ∈ rulesK xs, c.bulk ≤ 1000 := by
  intro c hc
  unfold rulesK at hc
  obtain ⟨x, hx, hc⟩ := List.mem_flatMap.1 hc
  exact rulesX_bulk (h x hx) c hc

theorem rulesN_bulk (xs : List AX) : bulks (rulesN xs) ≤ 20000 := by
  have h1 := rulesN_len xs
  have h2 : ∀ c ∈ rulesN xs, c.bulk ≤ 1000 := by
    unfold rulesN
    split
    · rename_i h
      exact rulesK_bulk (kbB_ok' h).2
    · intro c hc; simp at hc
  have h3 := bulks_le_of h2
  have h4 : (rulesN xs).length * (1000 + 1) ≤ 16 * 1001 := Nat.mul_le_mul_right _ h1
  omega

/-! ### Lists of concepts put behind one another -/

theorem getD_appL {α : Type} (l m : List α) (d : α) (i : Nat) (h : i < l.length) : (l ++ m).getD i d = l.getD i d := by rw [List.getD, List.getElem?_append_left h, List.getD]
theorem getD_appR {α : Type} (l m : List α) (d : α) (i : Nat) (h : l.length ≤ i) : (l ++ m).getD i d = m.getD (i - l.length) d := by rw [List.getD, List.getElem?_append_right h, List.getD]

/-- The cells of some concepts. -/
structure MemK (w : World) (d : Nat) (cs : List CN) (Ls : List (List (Addr × IntKind))) (ys : List Value) : Prop where
  len : Ls.length = cs.length
  cel : ys.length = cs.length * 4
  kid : ∀ i, i < cs.length → ∃ v0 v1 v2 v3, ys[i * 4]? = some v0 ∧ ys[i * 4 + 1]? = some v1 ∧ ys[i * 4 + 2]? = some v2 ∧ ys[i * 4 + 3]? = some v3 ∧ OwC w d (.agg #[v0, v1, v2, v3]) (cs.getD i CN.zero) (Ls.getD i [])
  lt : ∀ x ∈ Ls.flatten, x.1.block < w.heap.size

theorem MemK.below {w w' : World} {d : Nat} {cs : List CN} {Ls : List (List (Addr × IntKind))} {ys : List Value} (h : MemK w d cs Ls ys) (hb : Below w.heap.size w w') : MemK w' d cs Ls ys := by
  obtain ⟨h1, h2, h3, h4⟩ := h
  refine ⟨h1, h2, fun i hi => ?_, fun x hx => Nat.lt_of_lt_of_le (h4 x hx) hb.size⟩
  obtain ⟨v0, v1, v2, v3, c0, c1, c2, c3, hr⟩ := h3 i hi
  exact ⟨v0, v1, v2, v3, c0, c1, c2, c3, hr.below hb (fun x hx => h4 x (getD_mem_flatten hx))⟩

theorem RowK.mem {base : Nat} {w : World} {d : Nat} {v : Value} {cs : List CN} {Ls : List (List (Addr × IntKind))} {xs : List Value} (h : RowK base w d v cs Ls xs) : MemK w d cs Ls xs := ⟨h.len, h.row.1, h.kid, h.lt⟩

theorem MemK.one {w : World} {d : Nat} {c : CN} {L : List (Addr × IntKind)} {v0 v1 v2 v3 : Value} (h : OwC w d (.agg #[v0, v1, v2, v3]) c L) (hl : ∀ x ∈ L, x.1.block < w.heap.size) : MemK w d [c] [L] [v0, v1, v2, v3] := by
  refine ⟨rfl, rfl, fun i hi => ?_, fun x hx => hl x (by simpa using hx)⟩
  simp only [List.length_cons, List.length_nil] at hi
  obtain rfl : i = 0 := by omega
  exact ⟨v0, v1, v2, v3, rfl, rfl, rfl, rfl, h⟩

theorem MemK.two {w : World} {d : Nat} {c e : CN} {L M : List (Addr × IntKind)} {v0 v1 v2 v3 u0 u1 u2 u3 : Value} (h : OwC w d (.agg #[v0, v1, v2, v3]) c L) (g : OwC w d (.agg #[u0, u1, u2, u3]) e M) (hl : ∀ x ∈ L, x.1.block < w.heap.size) (hm : ∀ x ∈ M, x.1.block < w.heap.size) : MemK w d [c, e] [L, M] [v0, v1, v2, v3, u0, u1, u2, u3] := by
  refine ⟨rfl, rfl, fun i hi => ?_, fun x hx => ?_⟩
  · simp only [List.length_cons, List.length_nil] at hi
    rcases (show i = 0 ∨ i = 1 by omega) with rfl | rfl
    · exact ⟨v0, v1, v2, v3, rfl, rfl, rfl, rfl, h⟩
    · exact ⟨u0, u1, u2, u3, rfl, rfl, rfl, rfl, g⟩
  · simp only [List.flatten_cons, List.flatten_nil, List.append_nil, List.mem_append] at hx
    rcases hx with hx | hx
    · exact hl x hx
    · exact hm x hx

theorem RowK.app {base : Nat} {w w1 : World} {d : Nat} {v v' : Value} {cs cs' : List CN} {Ls Ls' : List (List (Addr × IntKind))} {xs ys : List Value} (h : RowK base w d v cs Ls xs) (hm : MemK w d cs' Ls' ys) (ho : ∀ x ∈ Ls'.flatten, v.ownBlock ≠ some x.1.block)
    (hown : w1.ownsRow base 53 4 v' (cs.length + cs'.length) (xs ++ ys)) (hgrow : w.grownBy w1 v.ownBlock) (hat : v'.ownBlock = v.ownBlock ∨ v'.ownBlock = some w.heap.size) :
    RowK base w1 d v' (cs ++ cs') (Ls ++ Ls') (xs ++ ys) := by
  obtain ⟨h1, h2, h3, h4, h5⟩ := h
  obtain ⟨g1, g2, g3, g4⟩ := hm
  have hk : ∀ x ∈ (Ls ++ Ls').flatten, x.1.block < w.heap.size ∧ v.ownBlock ≠ some x.1.block := by
    intro x hx
    simp only [List.flatten_append, List.mem_append] at hx
    rcases hx with hx | hx
    · exact ⟨h4 x hx, h5 x hx⟩
    · exact ⟨g4 x hx, ho x hx⟩
  have hkeep : ∀ x ∈ (Ls ++ Ls').flatten, w1.heap[x.1.block]? = w.heap[x.1.block]? := fun x hx => hgrow.block _ (hk x hx).1 (fun e => (hk x hx).2 e.symm)
  have hxl : xs.length = cs.length * 4 := h2.1
  refine ⟨by simp [h1, g1], by simpa using hown, fun i hi => ?_, fun x hx => Nat.lt_of_lt_of_le (hk x hx).1 hgrow.size, fun x hx => ?_⟩
  · simp only [List.length_append] at hi
    by_cases e : i < cs.length
    · obtain ⟨u0, u1, u2, u3, c0, c1, c2, c3, hr⟩ := h3 i e
      refine ⟨u0, u1, u2, u3, ?_, ?_, ?_, ?_, ?_⟩
      · rw [List.getElem?_append_left (by omega)]; exact c0
      · rw [List.getElem?_append_left (by omega)]; exact c1
      · rw [List.getElem?_append_left (by omega)]; exact c2
      · rw [List.getElem?_append_left (by omega)]; exact c3
      · rw [getD_appL _ _ _ _ e, getD_appL _ _ _ _ (by omega)]
        exact hr.keep (fun x hx => hkeep x (by simp only [List.flatten_append, List.mem_append]; exact .inl (getD_mem_flatten hx)))
    · obtain ⟨u0, u1, u2, u3, c0, c1, c2, c3, hr⟩ := g3 (i - cs.length) (by omega)
      refine ⟨u0, u1, u2, u3, ?_, ?_, ?_, ?_, ?_⟩
      · rw [List.getElem?_append_right (by omega), ← c0]; congr 1; omega
      · rw [List.getElem?_append_right (by omega), ← c1]; congr 1; omega
      · rw [List.getElem?_append_right (by omega), ← c2]; congr 1; omega
      · rw [List.getElem?_append_right (by omega), ← c3]; congr 1; omega
      · rw [getD_appR _ _ _ _ (by omega), getD_appR _ _ _ _ (by omega), h1]
        exact hr.keep (fun x hx => hkeep x (by simp only [List.flatten_append, List.mem_append]; exact .inr (getD_mem_flatten hx)))
  · have := hk x hx
    rcases hat with e | e
    · rw [e]; exact this.2
    · rw [e]; intro e'; simp only [Option.some.injEq] at e'; omega

theorem SepK.app {base B : Nat} {w w1 : World} {Ls Ls' : List (List (Addr × IntKind))} {ow : Option Nat} (h : SepK base w Ls) (h' : SepK B w Ls') (hbB : base ≤ B) (hlt : ∀ x ∈ Ls.flatten, x.1.block < B)
    (hls : ∀ x ∈ (Ls ++ Ls').flatten, x.1.block < w.heap.size) (hgrow : w.grownBy w1 ow) (hoff : ∀ x ∈ (Ls ++ Ls').flatten, ow ≠ some x.1.block) : SepK base w1 (Ls ++ Ls') := by
  have hB : ∀ x ∈ (Ls ++ Ls').flatten, w.frozen? x.1 = false ∧ base ≤ x.1.block := by
    intro x hx
    simp only [List.flatten_append, List.mem_append] at hx
    rcases hx with hx | hx
    · exact ⟨h.fr x hx, h.ge x hx⟩
    · exact ⟨h'.fr x hx, Nat.le_trans hbB (h'.ge x hx)⟩
  refine ⟨?_, fun x hx => (World.frozen?_of_block (w := w) (hgrow.block _ (hls x hx) (fun e => hoff x hx e.symm))).trans (hB x hx).1, fun x hx => (hB x hx).2⟩
  simp only [List.flatten_append, List.map_append]
  rw [List.nodup_append]
  refine ⟨h.nd, h'.nd, fun p hp q hq e => ?_⟩
  subst e
  simp only [List.mem_map] at hp hq
  obtain ⟨x, hx, rfl⟩ := hp
  obtain ⟨y, hy, e⟩ := hq
  have h1 := hlt x hx
  have h2 := h'.ge y hy
  rw [e] at h2
  omega

/-- Two, each in memory of its own, in other blocks. -/
theorem SepK.two {B : Nat} {w : World} {d d' : Nat} {v v' : Value} {c c' : CN} {L M : List (Addr × IntKind)} (h : OwnC B w d v c L) (g : OwnC B w d' v' c' M) (hd : ∀ x ∈ L, ∀ y ∈ M, x.1.block ≠ y.1.block) : SepK B w [L, M] := by
  refine ⟨?_, fun x hx => ?_, fun x hx => ?_⟩
  · simp only [List.flatten_cons, List.flatten_nil, List.append_nil, List.map_append]
    rw [List.nodup_append]
    refine ⟨h.nd, g.nd, fun p hp q hq e => ?_⟩
    subst e
    simp only [List.mem_map] at hp hq
    obtain ⟨x, hx, rfl⟩ := hp
    obtain ⟨y, hy, e⟩ := hq
    exact hd x hx y hy (by rw [e])
  · simp only [List.flatten_cons, List.flatten_nil, List.append_nil, List.mem_append] at hx
    rcases hx with hx | hx
    · exact h.fr x hx
    · exact g.fr x hx
  · simp only [List.flatten_cons, List.flatten_nil, List.append_nil, List.mem_append] at hx
    rcases hx with hx | hx
    · exact (h.bl x hx).1
    · exact (g.bl x hx).1

/-- A new row of two. -/
theorem RowK.two {W : World} {d : Nat} {c e : CN} {L M : List (Addr × IntKind)} {v0 v1 v2 v3 u0 u1 u2 u3 : Value} (hm : MemK W d [c, e] [L, M] [v0, v1, v2, v3, u0, u1, u2, u3]) (base : Nat) (hb : base ≤ W.heap.size) :
    RowK base (W.alloc (.cells #[v0, v1, v2, v3, u0, u1, u2, u3] 53)) d (.slice (some ⟨W.heap.size, 0, none⟩) 2 2) [c, e] [L, M] [v0, v1, v2, v3, u0, u1, u2, u3] := by
  have hb3 : Below W.heap.size W (W.alloc (.cells #[v0, v1, v2, v3, u0, u1, u2, u3] 53)) := (Below.refl _ _).alloc (Nat.le_refl _) _
  have hm' := hm.below hb3
  refine ⟨rfl, ⟨rfl, .inr ⟨W.heap.size, 2, #[v0, v1, v2, v3, u0, u1, u2, u3], rfl, hb, World.alloc_heap_new W _, by simp, by unfold maxLen; simp, rfl, rfl⟩⟩, hm'.kid, hm'.lt, fun x hx => ?_⟩
  have := hm.lt x hx
  simp only [Value.ownBlock, ne_eq, Option.some.injEq]
  omega

theorem OwnC.keepL {B : Nat} {w w' : World} {d : Nat} {v : Value} {c : CN} {L : List (Addr × IntKind)} (h : OwnC B w d v c L) (hk : ∀ x ∈ L, w'.heap[x.1.block]? = w.heap[x.1.block]?) (hs : w.heap.size ≤ w'.heap.size) : OwnC B w' d v c L :=
  ⟨h.ow.keep hk, h.nd, fun x hx => (World.frozen?_of_block (w := w) (hk x hx)).trans (h.fr x hx), fun x hx => ⟨(h.bl x hx).1, Nat.lt_of_lt_of_le (h.bl x hx).2 hs⟩⟩

/-- One or the other, memory shared. -/
theorem orOfS {W : World} {d : Nat} {c e : CN} {L M : List (Addr × IntKind)} {v0 v1 v2 v3 u0 u1 u2 u3 : Value} (P : Nat → Prop) (h : OwC W d (.agg #[v0, v1, v2, v3]) c L) (g : OwC W d (.agg #[u0, u1, u2, u3]) e M) (hl : ∀ x ∈ L, x.1.block < W.heap.size ∧ P x.1.block) (hm : ∀ x ∈ M, x.1.block < W.heap.size ∧ P x.1.block) (hn : P W.heap.size) :
    ∃ L', OwC (W.alloc (.cells #[v0, v1, v2, v3, u0, u1, u2, u3] 53)) (d + 1) (.agg #[.int .i64 5, .slice none 0 0, .slice none 0 0, .slice (some ⟨W.heap.size, 0, none⟩) 2 2]) (orC c e) L' ∧ ∀ x ∈ L', x.1.block < (W.alloc (.cells #[v0, v1, v2, v3, u0, u1, u2, u3] 53)).heap.size ∧ P x.1.block := by
  have hr := RowK.two (MemK.two h g (fun x hx => (hl x hx).1) (fun x hx => (hm x hx).1)) 0 (Nat.zero_le _)
  obtain ⟨a, cap, b, hv, ho, hb⟩ := hr.owL
  simp only [Value.slice.injEq] at hv
  obtain ⟨rfl, _, rfl⟩ := hv
  rcases hb with hb | ⟨hob, _, hb, _⟩
  · simp at hb
  · simp only [Value.ownBlock, Option.some.injEq] at hob
    subst hob
    refine ⟨_, ⟨none, 0, 0, none, 0, 0, _, _, _, 0, 0, 0, 0, W.heap.size, 0, _, rfl, ⟨rfl, by omega, fun i => by simp [orC, CN.name], .inl rfl⟩, ⟨rfl, by omega, fun i => by simp [orC, CN.role], .inl rfl⟩, ho, rfl⟩, fun x hx => ?_⟩
    simp only [leafB, List.range_zero, List.map_nil, List.nil_append] at hx
    rcases leafK_flatten W.heap.size [L, M] 2 (Nat.le_refl _) x hx with e' | e'
    · rw [e']; exact ⟨hb, hn⟩
    · refine ⟨hr.lt x e', ?_⟩
      simp only [List.flatten_cons, List.flatten_nil, List.append_nil, List.mem_append] at e'
      rcases e' with e' | e'
      · exact (hl x e').2
      · exact (hm x e').2

/-- One or the other, both in memory of their own. -/
theorem orOf {B : Nat} {W : World} {d : Nat} {c e : CN} {L M : List (Addr × IntKind)} {v0 v1 v2 v3 u0 u1 u2 u3 : Value} (P : Nat → Prop) (h : OwnC B W d (.agg #[v0, v1, v2, v3]) c L) (g : OwnC B W d (.agg #[u0, u1, u2, u3]) e M) (hd : ∀ x ∈ L, ∀ y ∈ M, x.1.block ≠ y.1.block) (hb : B ≤ W.heap.size) (hl : ∀ x ∈ L, P x.1.block) (hm : ∀ x ∈ M, P x.1.block) (hn : P W.heap.size) :
    ∃ L', OwnC B (W.alloc (.cells #[v0, v1, v2, v3, u0, u1, u2, u3] 53)) (d + 1) (.agg #[.int .i64 5, .slice none 0 0, .slice none 0 0, .slice (some ⟨W.heap.size, 0, none⟩) 2 2]) (orC c e) L' ∧ ∀ x ∈ L', P x.1.block := by
  have hb3 : Below W.heap.size W (W.alloc (.cells #[v0, v1, v2, v3, u0, u1, u2, u3] 53)) := (Below.refl _ _).alloc (Nat.le_refl _) _
  have hfl : ∀ x ∈ [L, M].flatten, x.1.block < W.heap.size := fun x hx => by
    simp only [List.flatten_cons, List.flatten_nil, List.append_nil, List.mem_append] at hx
    rcases hx with hx | hx
    · exact (h.bl x hx).2
    · exact (g.bl x hx).2
  have hsep := (SepK.two h g hd).below hb3 hfl
  have hr := RowK.two (MemK.two h.ow g.ow (fun x hx => (h.bl x hx).2) (fun x hx => (g.bl x hx).2)) B hb
  obtain ⟨a, cap, b, hv, ho, hbb⟩ := hr.owL
  simp only [Value.slice.injEq] at hv
  obtain ⟨rfl, _, rfl⟩ := hv
  rcases hbb with hbb | ⟨hob, hb1, hb2, hfz⟩
  · simp at hbb
  · simp only [Value.ownBlock, Option.some.injEq] at hob
    subst hob
    have hnd := leafK_nodup (b := W.heap.size) hsep (fun x hx e' => by have := hfl x hx; omega) 2 (Nat.le_refl _)
    have key : ∀ x ∈ leafK W.heap.size 0 (fun i => [L, M].getD i []) 2, x.1.block = W.heap.size ∨ x ∈ [L, M].flatten := leafK_flatten W.heap.size [L, M] 2 (Nat.le_refl _)
    refine ⟨leafK W.heap.size 0 (fun i => [L, M].getD i []) 2, ⟨⟨none, 0, 0, none, 0, 0, _, _, _, 0, 0, 0, 0, W.heap.size, 0, _, rfl, ⟨rfl, by omega, fun i => by simp [orC, CN.name], .inl rfl⟩, ⟨rfl, by omega, fun i => by simp [orC, CN.role], .inl rfl⟩, ho, by simp [leafB]⟩, hnd, fun x hx => ?_, fun x hx => ?_⟩, fun x hx => ?_⟩
    · rcases mem_leafK.1 hx with ⟨i, hi, hx'⟩
      rcases hx' with rfl | hx'
      · exact hfz _
      · exact hsep.fr x (getD_mem_flatten hx')
    · rcases key x hx with e' | e'
      · rw [e']; exact ⟨hb1, hb2⟩
      · exact ⟨hsep.ge x e', hr.lt x e'⟩
    · rcases key x hx with e' | e'
      · rw [e']; exact hn
      · simp only [List.flatten_cons, List.flatten_nil, List.append_nil, List.mem_append] at e'
        rcases e' with e' | e'
        · exact hl x e'
        · exact hm x e'

/-- Nothing appended. -/
theorem run_append_none {P : Program} (w : World) (t ty e : TypeId) (i : TypeInfo) (ht : P.underlying t = some (.slice e)) (hi : P.info? e = some i) (base : Option Addr) (n cap c : Nat) (h : n ≤ cap) :
    (Builtin.append_ #[t, t] ty #[.slice base n cap, .slice none 0 c]).run P w = .ok (.slice base n cap) w := by
  cases base <;> simp [Builtin.append_, run_underlying ht, sizeOf, typeInfo, hi, Builtin.lenOf, Builtin.firstCells, storeCells, h]

theorem wpList_append_none {P : Program} {w : World} {ops : Array Oper} {rest : List Oper} {o : Oper} {a : Act} {Q : Exit → Act → World → Prop} (hgd : o.guard = none) (s x : Operand) (t e : TypeId) (i : TypeInfo)
    (ho : o.op = .call { callee := .builtin .append, args := #[s, x], argTypes := #[t, t] }) (ht : P.underlying t = some (.slice e)) (hi : P.info? e = some i) (base : Option Addr) (n cap c : Nat) (hn : n ≤ cap) (hs : a.eval s = .slice base n cap) (hx : a.eval x = .slice none 0 c)
    (h : wpList P ops Q rest (a.put o.dst (.slice base n cap)) w) : wpList P ops Q (o :: rest) a w := by
  refine wpList_plain hgd fun K hK => ?_
  have hr := run_append_none (P := P) w t o.type e i ht hi base n cap c hn
  unfold Oper.wp execOp
  simp only [ho, resolve, invoke, builtin, Sem.run_bind, Sem.run_pure, Result.andThen_ok, List.map_toArray, List.map_cons, List.map_nil, hs, hx, hr]
  exact hK _ _ h
end

section
open Go.RowKit Go.Deep

theorem BoxC.zero3 (w : World) (a0 a1 a2 a3 b0 b1 b2 b3 : Value) :
    BoxC (((w.alloc (.cells #[a0, a1, a2, a3] 53)).alloc (.cells #[b0, b1, b2, b3] 53)).alloc (.cells #[.int .i64 0, .slice none 0 0, .slice none 0 0, .slice none 0 0] 53)) w.heap.size a0 a1 a2 a3 ∧
    BoxC (((w.alloc (.cells #[a0, a1, a2, a3] 53)).alloc (.cells #[b0, b1, b2, b3] 53)).alloc (.cells #[.int .i64 0, .slice none 0 0, .slice none 0 0, .slice none 0 0] 53)) (w.heap.size + 1) b0 b1 b2 b3 ∧
    BoxC (((w.alloc (.cells #[a0, a1, a2, a3] 53)).alloc (.cells #[b0, b1, b2, b3] 53)).alloc (.cells #[.int .i64 0, .slice none 0 0, .slice none 0 0, .slice none 0 0] 53)) (w.heap.size + 2) (.int .i64 0) (.slice none 0 0) (.slice none 0 0) (.slice none 0 0) := by
  refine ⟨((BoxC.new w _ _ _ _).below ((Below.refl _ _).alloc (Nat.le_refl _) _) (by simp)).below ((Below.refl _ _).alloc (Nat.le_refl _) _) (by simp; omega), ?_, ?_⟩
  · have := BoxC.new (w.alloc (.cells #[a0, a1, a2, a3] 53)) b0 b1 b2 b3
    rw [World.size_alloc] at this
    exact this.below ((Below.refl _ _).alloc (Nat.le_refl _) _) (by simp)
  · have := BoxC.new ((w.alloc (.cells #[a0, a1, a2, a3] 53)).alloc (.cells #[b0, b1, b2, b3] 53)) (.int .i64 0) (.slice none 0 0) (.slice none 0 0) (.slice none 0 0)
    rw [World.size_alloc, World.size_alloc] at this
    exact this

theorem alloc3_below (w : World) (a b c : Obj) : Below w.heap.size w (((w.alloc a).alloc b).alloc c) := (((Below.refl _ _).alloc (Nat.le_refl _) _).alloc (by simp) _).alloc (by simp; omega) _

theorem below_set4 {B : Nat} {w W : World} (h : Below B w W) {p : Nat} (hp : B ≤ p) (x0 x1 x2 x3 : Value) : Below B w ((((W.setCell ⟨p, 0, none⟩ x0).setCell ⟨p, 1, none⟩ x1).setCell ⟨p, 2, none⟩ x2).setCell ⟨p, 3, none⟩ x3) :=
  (((h.setCell hp _).setCell hp _).setCell hp _).setCell hp _

theorem set4_alloc {W : World} {p : Nat} (hp : p < W.heap.size) (o : Obj) (x0 x1 x2 x3 : Value) : (((((W.alloc o).setCell ⟨p, 0, none⟩ x0).setCell ⟨p, 1, none⟩ x1).setCell ⟨p, 2, none⟩ x2).setCell ⟨p, 3, none⟩ x3) = ((((W.setCell ⟨p, 0, none⟩ x0).setCell ⟨p, 1, none⟩ x1).setCell ⟨p, 2, none⟩ x2).setCell ⟨p, 3, none⟩ x3).alloc o := by
  rw [World.setCell_alloc_past _ _ _ _ hp, World.setCell_alloc_past _ _ _ _ (by simpa using hp), World.setCell_alloc_past _ _ _ _ (by simpa using hp), World.setCell_alloc_past _ _ _ _ (by simpa using hp)]

set_option maxRecDepth 100000 in
set_option maxHeartbeats 2000000 in
theorem either_any {B d : Nat} {va vb : Value} {ca cb : CN} {La Lb : List (Addr × IntKind)} {w : World} (h : OwnC B w d va ca La) (g : OwnC B w d vb cb Lb) (hd : ∀ x ∈ La, ∀ y ∈ Lb, x.1.block ≠ y.1.block) (hB : B ≤ w.heap.size) :
    Calls Try.prog 76 #[va, vb] w fun e w' => ∃ v L, e = .returned v ∧ OwnC B w' (d + 1) v (orC ca cb) L ∧ Below w.heap.size w w' := by
  obtain ⟨xna, xnn, xnc, xra, xrn, xrc, xka, xkn, xkc, rfl⟩ := h.ow.agg
  obtain ⟨yna, ynn, ync, yra, yrn, yrc, yka, ykn, ykc, rfl⟩ := g.ow.agg
  obtain ⟨k, hk⟩ : ∃ k, k = ca.kind := ⟨_, rfl⟩
  obtain ⟨l, hl⟩ : ∃ l, l = cb.kind := ⟨_, rfl⟩
  rw [← hk] at h ⊢
  rw [← hl] at g ⊢
  obtain ⟨W0, hW0⟩ : ∃ W, W = ((w.alloc (.cells #[.int .i64 k, .slice xna xnn xnc, .slice xra xrn xrc, .slice xka xkn xkc] 53)).alloc (.cells #[.int .i64 l, .slice yna ynn ync, .slice yra yrn yrc, .slice yka ykn ykc] 53)).alloc (.cells #[.int .i64 0, .slice none 0 0, .slice none 0 0, .slice none 0 0] 53) := ⟨_, rfl⟩
  have HW0 : Hid (W0 = ((w.alloc (.cells #[.int .i64 k, .slice xna xnn xnc, .slice xra xrn xrc, .slice xka xkn xkc] 53)).alloc (.cells #[.int .i64 l, .slice yna ynn ync, .slice yra yrn yrc, .slice yka ykn ykc] 53)).alloc (.cells #[.int .i64 0, .slice none 0 0, .slice none 0 0, .slice none 0 0] 53)) := hW0
  have hs0 : W0.heap.size = w.heap.size + 3 := by rw [hW0]; simp
  have hb0 : Below w.heap.size w W0 := by rw [hW0]; exact alloc3_below _ _ _ _
  obtain ⟨hbx, hby, hbr⟩ : BoxC W0 w.heap.size (.int .i64 k) (.slice xna xnn xnc) (.slice xra xrn xrc) (.slice xka xkn xkc) ∧ BoxC W0 (w.heap.size + 1) (.int .i64 l) (.slice yna ynn ync) (.slice yra yrn yrc) (.slice yka ykn ykc) ∧ BoxC W0 (w.heap.size + 2) (.int .i64 0) (.slice none 0 0) (.slice none 0 0) (.slice none 0 0) := by rw [hW0]; exact BoxC.zero3 _ _ _ _ _ _ _ _ _
  have HBx : Hid (BoxC W0 w.heap.size (.int .i64 k) (.slice xna xnn xnc) (.slice xra xrn xrc) (.slice xka xkn xkc)) := hbx
  have HBy : Hid (BoxC W0 (w.heap.size + 1) (.int .i64 l) (.slice yna ynn ync) (.slice yra yrn yrc) (.slice yka ykn ykc)) := hby
  have HBr : Hid (BoxC W0 (w.heap.size + 2) (.int .i64 0) (.slice none 0 0) (.slice none 0 0) (.slice none 0 0)) := hbr
  have HB0 : Hid (Below w.heap.size w W0) := hb0
  have HS0 : Hid (W0.heap.size = w.heap.size + 3) := hs0

  obtain ⟨L', hO', hP'⟩ := orOf (fun x => x ≠ w.heap.size + 2) (h.below hb0) (g.below hb0) hd (by omega) (fun x hx => by have := (h.bl x hx).2; omega) (fun x hx => by have := (g.bl x hx).2; omega) (by omega)
  have HO : Hid (OwnC B (W0.alloc (.cells #[.int .i64 k, .slice xna xnn xnc, .slice xra xrn xrc, .slice xka xkn xkc, .int .i64 l, .slice yna ynn ync, .slice yra yrn yrc, .slice yka ykn ykc] 53)) (d + 1) (.agg #[.int .i64 5, .slice none 0 0, .slice none 0 0, .slice (some ⟨W0.heap.size, 0, none⟩) 2 2]) (orC ca cb) L') := hO'
  have HP : Hid (∀ x ∈ L', x.1.block ≠ w.heap.size + 2) := hP'
  have hb1 : Below W0.heap.size W0 (W0.alloc (.cells #[.int .i64 k, .slice xna xnn xnc, .slice xra xrn xrc, .slice xka xkn xkc, .int .i64 l, .slice yna ynn ync, .slice yra yrn yrc, .slice yka ykn ykc] 53)) := (Below.refl _ _).alloc (Nat.le_refl _) _
  have HB1 : Hid (Below w.heap.size w (W0.alloc (.cells #[.int .i64 k, .slice xna xnn xnc, .slice xra xrn xrc, .slice xka xkn xkc, .int .i64 l, .slice yna ynn ync, .slice yra yrn yrc, .slice yka ykn ykc] 53))) := hb0.trans (hb1.mono hb0.size)
  have hbr1 := hbr.below hb1 (by omega)
  have hlr : w.heap.size + 1 + 1 < W0.heap.size := by omega
  obtain ⟨b0, b1, b2, b3⟩ := hbx.cells
  obtain ⟨c0, c1, c2, c3⟩ := hby.cells
  obtain ⟨t0, t1, t2, t3⟩ : BoxC W0 (w.heap.size + 1 + 1) (.int .i64 0) (.slice none 0 0) (.slice none 0 0) (.slice none 0 0) ∧ True ∧ True ∧ True := ⟨hbr, trivial, trivial, trivial⟩
  obtain ⟨t0, t1, t2, t3⟩ := t0.cells
  have g0 := hbr.frz 0
  have g1 := hbr.frz 1
  have g2 := hbr.frz 2
  have g3 := hbr.frz 3
  have hbr1' : BoxC (W0.alloc (.cells #[.int .i64 k, .slice xna xnn xnc, .slice xra xrn xrc, .slice xka xkn xkc, .int .i64 l, .slice yna ynn ync, .slice yra yrn yrc, .slice yka ykn ykc] 53)) (w.heap.size + 1 + 1) (.int .i64 0) (.slice none 0 0) (.slice none 0 0) (.slice none 0 0) := hbr1
  obtain ⟨r0, r1, r2, r3⟩ := hbr1'.cells
  have f0 := hbr1'.frz 0
  have f1 := hbr1'.frz 1
  have f2 := hbr1'.frz 2
  have f3 := hbr1'.frz 3
  obtain ⟨s0, s1, s2, s3⟩ := (hbr1'.set4 (.int .i64 5) (.slice none 0 0) (.slice none 0 0) (.slice (some ⟨W0.heap.size, 0, none⟩) 2 2)).cells
  rw [set4_alloc hlr] at s0 s1 s2 s3
  have HFi : ∃ v L, Ending.returned (.agg #[.int .i64 5, .slice none 0 0, .slice none 0 0, .slice (some ⟨W0.heap.size, 0, none⟩) 2 2]) = .returned v ∧ OwnC B (((((W0.alloc (.cells #[.int .i64 k, .slice xna xnn xnc, .slice xra xrn xrc, .slice xka xkn xkc, .int .i64 l, .slice yna ynn ync, .slice yra yrn yrc, .slice yka ykn ykc] 53)).setCell ⟨w.heap.size + 1 + 1, 0, none⟩ (.int .i64 5)).setCell ⟨w.heap.size + 1 + 1, 1, none⟩ (.slice none 0 0)).setCell ⟨w.heap.size + 1 + 1, 2, none⟩ (.slice none 0 0)).setCell ⟨w.heap.size + 1 + 1, 3, none⟩ (.slice (some ⟨W0.heap.size, 0, none⟩) 2 2)) (d + 1) v (orC ca cb) L ∧ Below w.heap.size w (((((W0.alloc (.cells #[.int .i64 k, .slice xna xnn xnc, .slice xra xrn xrc, .slice xka xkn xkc, .int .i64 l, .slice yna ynn ync, .slice yra yrn yrc, .slice yka ykn ykc] 53)).setCell ⟨w.heap.size + 1 + 1, 0, none⟩ (.int .i64 5)).setCell ⟨w.heap.size + 1 + 1, 1, none⟩ (.slice none 0 0)).setCell ⟨w.heap.size + 1 + 1, 2, none⟩ (.slice none 0 0)).setCell ⟨w.heap.size + 1 + 1, 3, none⟩ (.slice (some ⟨W0.heap.size, 0, none⟩) 2 2)) :=
    ⟨_, L', rfl, HO.out.keepL (fun x hx => heap_set4 _ _ _ _ _ (HP.out x hx)) (by simp), below_set4 HB1.out (by omega) _ _ _ _⟩
  rw [set4_alloc hlr] at HFi
  have HFi : Hid _ := HFi
  clear h g hd hk hl hO' hP' hb1 hb0 hbx hby hbr hbr1 hbr1' hW0 hs0 HBx HBy HBr
  go_enter Try.func76, Try.ntmps76
  go_upto_region 1 with fail
  rw [← HW0.out]
  go_wp2_with fail
  refine bodyPost_ret (v := .agg #[.int .i64 5, .slice none 0 0, .slice none 0 0, .slice (some ⟨W0.heap.size, 0, none⟩) 2 2]) (by simp [results, Try.results76, go_sem, s0, s1, s2, s3]) rfl ?_
  exact HFi.out

set_option maxRecDepth 100000 in
set_option maxHeartbeats 4000000 in
theorem underRule_any {d : Nat} {vx vy : Value} {cx cy : CN} {w : World} {lo hi : Nat} (hx : RdC lo hi w d vx cx) (hy : RdC lo hi w d vy cy) (hhi : hi ≤ w.heap.size) (bx : cx.bulk ≤ 1048576) (by' : cy.bulk ≤ 1048576) (wx : wfC cx = true) (wy : wfC cy = true) :
    Calls Try.prog 75 #[vx, vy] w fun e w' => ∃ v L, e = .returned v ∧ OwnC w.heap.size w' (d + 2) v (orC (nnfC true cx) (nnfC false cy)) L ∧ Below w.heap.size w w' := by
  obtain ⟨k, xna, xnn, xnc, xra, xrn, xrc, xka, xkn, xkc, rfl⟩ := hx.shape
  obtain ⟨l, yna, ynn, ync, yra, yrn, yrc, yka, ykn, ykc, rfl⟩ := hy.shape
  obtain ⟨W0, hW0⟩ : ∃ W, W = ((w.alloc (.cells #[.int .i64 k, .slice xna xnn xnc, .slice xra xrn xrc, .slice xka xkn xkc] 53)).alloc (.cells #[.int .i64 l, .slice yna ynn ync, .slice yra yrn yrc, .slice yka ykn ykc] 53)).alloc (.cells #[.int .i64 0, .slice none 0 0, .slice none 0 0, .slice none 0 0] 53) := ⟨_, rfl⟩
  have HW0 : Hid (W0 = ((w.alloc (.cells #[.int .i64 k, .slice xna xnn xnc, .slice xra xrn xrc, .slice xka xkn xkc] 53)).alloc (.cells #[.int .i64 l, .slice yna ynn ync, .slice yra yrn yrc, .slice yka ykn ykc] 53)).alloc (.cells #[.int .i64 0, .slice none 0 0, .slice none 0 0, .slice none 0 0] 53)) := hW0
  have hs0 : W0.heap.size = w.heap.size + 3 := by rw [hW0]; simp
  have hb0 : Below w.heap.size w W0 := by rw [hW0]; exact alloc3_below _ _ _ _
  obtain ⟨hbx, hby, hbr⟩ : BoxC W0 w.heap.size (.int .i64 k) (.slice xna xnn xnc) (.slice xra xrn xrc) (.slice xka xkn xkc) ∧ BoxC W0 (w.heap.size + 1) (.int .i64 l) (.slice yna ynn ync) (.slice yra yrn yrc) (.slice yka ykn ykc) ∧ BoxC W0 (w.heap.size + 2) (.int .i64 0) (.slice none 0 0) (.slice none 0 0) (.slice none 0 0) := by rw [hW0]; exact BoxC.zero3 _ _ _ _ _ _ _ _ _
  have HBx : Hid (BoxC W0 w.heap.size (.int .i64 k) (.slice xna xnn xnc) (.slice xra xrn xrc) (.slice xka xkn xkc)) := hbx
  have HBy : Hid (BoxC W0 (w.heap.size + 1) (.int .i64 l) (.slice yna ynn ync) (.slice yra yrn yrc) (.slice yka ykn ykc)) := hby
  have HBr : Hid (BoxC W0 (w.heap.size + 2) (.int .i64 0) (.slice none 0 0) (.slice none 0 0) (.slice none 0 0)) := hbr
  have HB0 : Hid (Below w.heap.size w W0) := hb0
  have HS0 : Hid (W0.heap.size = w.heap.size + 3) := hs0

  have HCx : Hid (∀ V, Below W0.heap.size W0 V → Calls Try.prog 77 #[.agg #[.int .i64 k, .slice xna xnn xnc, .slice xra xrn xrc, .slice xka xkn xkc], .bool true] V fun e w' => ∃ v L, e = .returned v ∧ OwnC V.heap.size w' (d + 1) v (nnfC true cx) L ∧ Below V.heap.size V w') := fun V hV => pnP_any d _ cx true V lo hi ((hx.below hb0 hhi).below hV (by omega)) (by have := hV.size; omega) bx wx
  have HCy : Hid (∀ V, Below W0.heap.size W0 V → Calls Try.prog 77 #[.agg #[.int .i64 l, .slice yna ynn ync, .slice yra yrn yrc, .slice yka ykn ykc], .bool false] V fun e w' => ∃ v L, e = .returned v ∧ OwnC V.heap.size w' (d + 1) v (nnfC false cy) L ∧ Below V.heap.size V w') := fun V hV => pnP_any d _ cy false V lo hi ((hy.below hb0 hhi).below hV (by omega)) (by have := hV.size; omega) by' wy
  have HSat : Hid (∀ V, Below W0.heap.size W0 V → (V.cell? ⟨w.heap.size, 0, none⟩ = some (.int .i64 k) ∧ V.cell? ⟨w.heap.size, 1, none⟩ = some (.slice xna xnn xnc) ∧ V.cell? ⟨w.heap.size, 2, none⟩ = some (.slice xra xrn xrc) ∧ V.cell? ⟨w.heap.size, 3, none⟩ = some (.slice xka xkn xkc)) ∧ V.cell? ⟨w.heap.size + 1, 0, none⟩ = some (.int .i64 l) ∧ V.cell? ⟨w.heap.size + 1, 1, none⟩ = some (.slice yna ynn ync) ∧ V.cell? ⟨w.heap.size + 1, 2, none⟩ = some (.slice yra yrn yrc) ∧ V.cell? ⟨w.heap.size + 1, 3, none⟩ = some (.slice yka ykn ykc)) := fun V hV => ⟨(hbx.below hV (by omega)).cells, (hby.below hV (by omega)).cells⟩
  have H0d : Hid (Below W0.heap.size W0 W0.drew) := (Below.refl _ _).drew
  have hl3 : w.heap.size + 2 < W0.heap.size := by omega
  clear hx hy hhi bx by' wx wy hb0 hbx hby hbr hW0 hs0
  go_enter Try.func75, Try.ntmps75
  go_upto_region 1 with fail
  rw [← HW0.out]
  first | go_region_held3 (fun V => (V.cell? ⟨w.heap.size, 0, none⟩ = some (.int .i64 k) ∧ V.cell? ⟨w.heap.size, 1, none⟩ = some (.slice xna xnn xnc) ∧ V.cell? ⟨w.heap.size, 2, none⟩ = some (.slice xra xrn xrc) ∧ V.cell? ⟨w.heap.size, 3, none⟩ = some (.slice xka xkn xkc)) ∧ V.cell? ⟨w.heap.size + 1, 0, none⟩ = some (.int .i64 l) ∧ V.cell? ⟨w.heap.size + 1, 1, none⟩ = some (.slice yna ynn ync) ∧ V.cell? ⟨w.heap.size + 1, 2, none⟩ = some (.slice yra yrn yrc) ∧ V.cell? ⟨w.heap.size + 1, 3, none⟩ = some (.slice yka ykn ykc)) (first | with_reducible exact HS4.out | with_reducible exact HSat.out _ H4.out | with_reducible exact HSat.out _ H2.out | with_reducible exact HSat.out _ H1.out | with_reducible exact HSat.out _ H3.out | with_reducible exact HSat.out _ H0d.out) (first
        | (go_at_call_of 77 k; first | (refine (HCx.out W0.drew H0d.out).mono ?_; rintro e w1 ⟨u1, L1, rfl, hO, hb⟩; have HX1 : Hid (OwnC W0.heap.size w1 (d + 1) u1 (nnfC true cx) L1) := hO; have H1 : Hid (Below W0.heap.size W0 w1) := H0d.out.trans hb; clear hO hb) | (refine (HCx.out w3 H3.out).mono ?_; rintro e w2 ⟨u1, L1, rfl, hO, hb⟩; have HX2 : Hid (OwnC W0.heap.size w2 (d + 1) u1 (nnfC true cx) L1) := hO.mono H3.out.size; have HY2 : Hid (OwnC W0.heap.size w2 (d + 1) u2 (nnfC false cy) L2) := HY3.out.below hb; have HD2 : Hid (∀ x ∈ L1, ∀ y ∈ L2, x.1.block ≠ y.1.block) := (fun x hx y hy => by have h1 := (hO.bl x hx).1; have h2 := (HY3.out.bl y hy).2; omega); have H2 : Hid (Below W0.heap.size W0 w2) := H3.out.trans (hb.mono H3.out.size); clear hO hb))
        | (go_at_call_of 77 l; first | (refine (HCy.out w1 H1.out).mono ?_; rintro e w2 ⟨u2, L2, rfl, hO, hb⟩; have HY2 : Hid (OwnC W0.heap.size w2 (d + 1) u2 (nnfC false cy) L2) := hO.mono H1.out.size; have HX2 : Hid (OwnC W0.heap.size w2 (d + 1) u1 (nnfC true cx) L1) := HX1.out.below hb; have HD2 : Hid (∀ x ∈ L1, ∀ y ∈ L2, x.1.block ≠ y.1.block) := (fun x hx y hy => by have h1 := (hO.bl y hy).1; have h2 := (HX1.out.bl x hx).2; omega); have H2 : Hid (Below W0.heap.size W0 w2) := H1.out.trans (hb.mono H1.out.size); clear hO hb) | (refine (HCy.out W0.drew H0d.out).mono ?_; rintro e w3 ⟨u2, L2, rfl, hO, hb⟩; have HY3 : Hid (OwnC W0.heap.size w3 (d + 1) u2 (nnfC false cy) L2) := hO; have H3 : Hid (Below W0.heap.size W0 w3) := H0d.out.trans hb; clear hO hb))
        | (go_at_call 76; refine (either_any HX2.out HY2.out HD2.out H2.out.size).mono ?_; rintro e w4 ⟨u4, L4, rfl, hO4, hb4⟩; obtain ⟨zna, znn, znc, zra, zrn, zrc, zka, zkn, zkc, rfl⟩ := hO4.ow.agg; obtain ⟨zk, hzk⟩ : ∃ zk, zk = (orC (nnfC true cx) (nnfC false cy)).kind := ⟨_, rfl⟩; rw [← hzk] at hO4 ⊢; have HO4 : Hid (OwnC W0.heap.size w4 (d + 1 + 1) (.agg #[.int .i64 zk, .slice zna znn znc, .slice zra zrn zrc, .slice zka zkn zkc]) (orC (nnfC true cx) (nnfC false cy)) L4) := hO4; have H4 : Hid (Below W0.heap.size W0 w4) := H2.out.trans (hb4.mono H2.out.size); have hbr4 := HBr.out.below H4.out hl3; obtain ⟨r0, r1, r2, r3⟩ := hbr4.cells; have f0 := hbr4.frz 0; have f1 := hbr4.frz 1; have f2 := hbr4.frz 2; have f3 := hbr4.frz 3; obtain ⟨s0, s1, s2, s3⟩ := (hbr4.set4 (.int .i64 zk) (.slice zna znn znc) (.slice zra zrn zrc) (.slice zka zkn zkc)).cells; have HS4 : Hid ((((((w4.setCell ⟨w.heap.size + 1 + 1, 0, none⟩ (.int .i64 zk)).setCell ⟨w.heap.size + 1 + 1, 1, none⟩ (.slice zna znn znc)).setCell ⟨w.heap.size + 1 + 1, 2, none⟩ (.slice zra zrn zrc)).setCell ⟨w.heap.size + 1 + 1, 3, none⟩ (.slice zka zkn zkc)).cell? ⟨w.heap.size, 0, none⟩ = some (.int .i64 k) ∧ ((((w4.setCell ⟨w.heap.size + 1 + 1, 0, none⟩ (.int .i64 zk)).setCell ⟨w.heap.size + 1 + 1, 1, none⟩ (.slice zna znn znc)).setCell ⟨w.heap.size + 1 + 1, 2, none⟩ (.slice zra zrn zrc)).setCell ⟨w.heap.size + 1 + 1, 3, none⟩ (.slice zka zkn zkc)).cell? ⟨w.heap.size, 1, none⟩ = some (.slice xna xnn xnc) ∧ ((((w4.setCell ⟨w.heap.size + 1 + 1, 0, none⟩ (.int .i64 zk)).setCell ⟨w.heap.size + 1 + 1, 1, none⟩ (.slice zna znn znc)).setCell ⟨w.heap.size + 1 + 1, 2, none⟩ (.slice zra zrn zrc)).setCell ⟨w.heap.size + 1 + 1, 3, none⟩ (.slice zka zkn zkc)).cell? ⟨w.heap.size, 2, none⟩ = some (.slice xra xrn xrc) ∧ ((((w4.setCell ⟨w.heap.size + 1 + 1, 0, none⟩ (.int .i64 zk)).setCell ⟨w.heap.size + 1 + 1, 1, none⟩ (.slice zna znn znc)).setCell ⟨w.heap.size + 1 + 1, 2, none⟩ (.slice zra zrn zrc)).setCell ⟨w.heap.size + 1 + 1, 3, none⟩ (.slice zka zkn zkc)).cell? ⟨w.heap.size, 3, none⟩ = some (.slice xka xkn xkc)) ∧ ((((w4.setCell ⟨w.heap.size + 1 + 1, 0, none⟩ (.int .i64 zk)).setCell ⟨w.heap.size + 1 + 1, 1, none⟩ (.slice zna znn znc)).setCell ⟨w.heap.size + 1 + 1, 2, none⟩ (.slice zra zrn zrc)).setCell ⟨w.heap.size + 1 + 1, 3, none⟩ (.slice zka zkn zkc)).cell? ⟨w.heap.size + 1, 0, none⟩ = some (.int .i64 l) ∧ ((((w4.setCell ⟨w.heap.size + 1 + 1, 0, none⟩ (.int .i64 zk)).setCell ⟨w.heap.size + 1 + 1, 1, none⟩ (.slice zna znn znc)).setCell ⟨w.heap.size + 1 + 1, 2, none⟩ (.slice zra zrn zrc)).setCell ⟨w.heap.size + 1 + 1, 3, none⟩ (.slice zka zkn zkc)).cell? ⟨w.heap.size + 1, 1, none⟩ = some (.slice yna ynn ync) ∧ ((((w4.setCell ⟨w.heap.size + 1 + 1, 0, none⟩ (.int .i64 zk)).setCell ⟨w.heap.size + 1 + 1, 1, none⟩ (.slice zna znn znc)).setCell ⟨w.heap.size + 1 + 1, 2, none⟩ (.slice zra zrn zrc)).setCell ⟨w.heap.size + 1 + 1, 3, none⟩ (.slice zka zkn zkc)).cell? ⟨w.heap.size + 1, 2, none⟩ = some (.slice yra yrn yrc) ∧ ((((w4.setCell ⟨w.heap.size + 1 + 1, 0, none⟩ (.int .i64 zk)).setCell ⟨w.heap.size + 1 + 1, 1, none⟩ (.slice zna znn znc)).setCell ⟨w.heap.size + 1 + 1, 2, none⟩ (.slice zra zrn zrc)).setCell ⟨w.heap.size + 1 + 1, 3, none⟩ (.slice zka zkn zkc)).cell? ⟨w.heap.size + 1, 3, none⟩ = some (.slice yka ykn ykc)) := ⟨BoxC.cells ((heap_set4 _ _ _ _ _ (by omega)).trans (HBx.out.below H4.out (by omega))), BoxC.cells ((heap_set4 _ _ _ _ _ (by omega)).trans (HBy.out.below H4.out (by omega)))⟩; clear hO4 hb4 hzk hbr4)) | fail
  all_goals
    go_wp2_with fail
    refine bodyPost_ret (v := .agg #[.int .i64 zk, .slice zna znn znc, .slice zra zrn zrc, .slice zka zkn zkc]) (by simp [results, Try.results75, go_sem, s0, s1, s2, s3]) rfl ?_
    refine ⟨_, L4, rfl, (HO4.out.keepL (fun x hx => heap_set4 _ _ _ _ _ ?_) (by simp)).mono HB0.out.size, below_set4 (HB0.out.trans (H4.out.mono HB0.out.size)) (by omega) _ _ _ _⟩
    have := (HO4.out.bl x hx).1
    omega
end

section
open Go.RowKit Go.Deep

theorem OwnC.letters {B : Nat} {w : World} {d : Nat} {v : Value} {c : CN} {L : List (Addr × IntKind)} (h : OwnC B w d v c L) : ∃ zk zna znn znc zra zrn zrc zka zkn zkc, v = .agg #[.int .i64 zk, .slice zna znn znc, .slice zra zrn zrc, .slice zka zkn zkc] := by
  obtain ⟨zna, znn, znc, zra, zrn, zrc, zka, zkn, zkc, rfl⟩ := h.ow.agg
  exact ⟨_, _, _, _, _, _, _, _, _, _, rfl⟩

theorem SepK.mono {B B' : Nat} {w : World} {Ls : List (List (Addr × IntKind))} (h : SepK B w Ls) (hb : B' ≤ B) : SepK B' w Ls := ⟨h.nd, h.fr, fun x hx => Nat.le_trans hb (h.ge x hx)⟩

theorem AnsL.nil (B : Nat) (w : World) (d : Nat) : AnsL B w d (.slice none 0 0) [] [] [] := ⟨RowK.nil _ _ _, SepK.nil _ _⟩

theorem AnsL.one {B : Nat} {W : World} {d : Nat} {c : CN} {L : List (Addr × IntKind)} {v0 v1 v2 v3 : Value} (h : OwnC B W d (.agg #[v0, v1, v2, v3]) c L) (hb : B ≤ W.heap.size) : AnsL B (W.alloc (.cells #[v0, v1, v2, v3] 53)) d (.slice (some ⟨W.heap.size, 0, none⟩) 1 1) [c] [L] [v0, v1, v2, v3] :=
  ⟨RowK.one h B hb, SepK.one (h.below ((Below.refl _ _).alloc (Nat.le_refl _) _))⟩

theorem AnsL.two {B : Nat} {W : World} {d : Nat} {c e : CN} {L M : List (Addr × IntKind)} {v0 v1 v2 v3 u0 u1 u2 u3 : Value} (h : OwnC B W d (.agg #[v0, v1, v2, v3]) c L) (g : OwnC B W d (.agg #[u0, u1, u2, u3]) e M) (hd : ∀ x ∈ L, ∀ y ∈ M, x.1.block ≠ y.1.block) (hb : B ≤ W.heap.size) :
    AnsL B (W.alloc (.cells #[v0, v1, v2, v3, u0, u1, u2, u3] 53)) d (.slice (some ⟨W.heap.size, 0, none⟩) 2 2) [c, e] [L, M] [v0, v1, v2, v3, u0, u1, u2, u3] :=
  ⟨RowK.two (MemK.two h.ow g.ow (fun x hx => (h.bl x hx).2) (fun x hx => (g.bl x hx).2)) B hb, (SepK.two h g hd).below ((Below.refl _ _).alloc (Nat.le_refl _) _) (fun x hx => by
    simp only [List.flatten_cons, List.flatten_nil, List.append_nil, List.mem_append] at hx
    rcases hx with hx | hx
    · exact (h.bl x hx).2
    · exact (g.bl x hx).2)⟩

theorem AnsL.mono {B B' : Nat} {w : World} {d : Nat} {v : Value} {cs : List CN} {Ls : List (List (Addr × IntKind))} {xs : List Value} (h : AnsL B w d v cs Ls xs) (hb : B' ≤ B) : AnsL B' w d v cs Ls xs := by
  obtain ⟨⟨h1, ⟨r1, r2⟩, h3, h4, h5⟩, h6⟩ := h
  refine ⟨⟨h1, ⟨r1, ?_⟩, h3, h4, h5⟩, h6.mono hb⟩
  rcases r2 with r2 | ⟨g, cap, cur, hv, hg, r⟩
  · exact .inl r2
  · exact .inr ⟨g, cap, cur, hv, Nat.le_trans hb hg, r⟩

theorem MemK.cell1 {w : World} {d : Nat} {cs : List CN} {Ls : List (List (Addr × IntKind))} {ys : List Value} (h : MemK w d cs Ls ys) : ∀ u ∈ ys, u.oneCell' = true := by
  intro u hu
  obtain ⟨i, hi, rfl⟩ := List.mem_iff_getElem.1 hu
  have hl := h.cel
  obtain ⟨v0, v1, v2, v3, c0, c1, c2, c3, hr⟩ := h.kid (i / 4) (by omega)
  obtain ⟨rfl, ⟨_, _, _, rfl⟩, ⟨_, _, _, rfl⟩, ⟨_, _, _, rfl⟩⟩ := hr.form
  have e : ys[i]? = some ys[i] := List.getElem?_eq_getElem hi
  rcases (show i = i / 4 * 4 ∨ i = i / 4 * 4 + 1 ∨ i = i / 4 * 4 + 2 ∨ i = i / 4 * 4 + 3 by omega) with q | q | q | q
  · rw [← q, e] at c0; rw [Option.some.inj c0]; rfl
  · rw [← q, e] at c1; rw [Option.some.inj c1]; rfl
  · rw [← q, e] at c2; rw [Option.some.inj c2]; rfl
  · rw [← q, e] at c3; rw [Option.some.inj c3]; rfl

theorem AnsL.app {B B' : Nat} {wr W w6 : World} {d : Nat} {u v' v'' : Value} {cs cs' : List CN} {Ls Ls' : List (List (Addr × IntKind))} {xs ys : List Value} (h : AnsL B wr d u cs Ls xs) (hW : Below wr.heap.size wr W) (g : AnsL B' W d v' cs' Ls' ys) (hB' : wr.heap.size ≤ B') (hB : B ≤ wr.heap.size)
    (hown : w6.ownsRow B 53 4 v'' (cs.length + cs'.length) (xs ++ ys)) (hgrow : W.grownBy w6 u.ownBlock) (hat : v''.ownBlock = u.ownBlock ∨ v''.ownBlock = some W.heap.size) : AnsL B w6 d v'' (cs ++ cs') (Ls ++ Ls') (xs ++ ys) := by
  have hlt := h.row.row.lt
  have hs := hW.size
  have hoff : ∀ x ∈ Ls'.flatten, u.ownBlock ≠ some x.1.block := fun x hx e => by have := g.sep.ge x hx; have := (hlt _ e).2; omega
  refine ⟨(h.row.below hW).app g.row.mem hoff hown hgrow hat, SepK.app (h.sep.below hW h.row.lt) g.sep (by omega) (fun x hx => by have := h.row.lt x hx; omega) (fun x hx => ?_) hgrow (fun x hx => ?_)⟩
  · simp only [List.flatten_append, List.mem_append] at hx
    rcases hx with hx | hx
    · have := h.row.lt x hx; omega
    · exact g.row.lt x hx
  · simp only [List.flatten_append, List.mem_append] at hx
    rcases hx with hx | hx
    · exact h.row.off x hx
    · exact hoff x hx

set_option maxRecDepth 100000 in
set_option maxHeartbeats 8000000 in
theorem axRules_any {x : AX} {dp : Nat} {k l : Int} {xna xra xka yna yra yka ra sa aa ba : Option Addr} {xnn xnc xrn xrc xkn xkc ynn ync yrn yrc ykn ykc rn rc sn sc an ac bn bc : Nat} {w : World} {lo hi : Nat} (h : RdA lo hi w dp (.int .i64 k) (.slice xna xnn xnc) (.slice xra xrn xrc) (.slice xka xkn xkc) (.int .i64 l) (.slice yna ynn ync) (.slice yra yrn yrc) (.slice yka ykn ykc) ra rn rc sa sn sc aa an ac ba bn bc x) (hhi : hi ≤ w.heap.size) (hok : axOk x = true) (kk : Int) (hkk : kk = x.kind) :
    Calls Try.prog 36 #[.agg #[.int .i64 kk, .int .i64 k, .slice xna xnn xnc, .slice xra xrn xrc, .slice xka xkn xkc, .int .i64 l, .slice yna ynn ync, .slice yra yrn yrc, .slice yka ykn ykc, .slice ra rn rc, .slice sa sn sc, .slice aa an ac, .slice ba bn bc]] w fun e w' => ∃ v Ls ys, e = .returned v ∧ AnsL w.heap.size w' (dp + 2) v (rulesX x) Ls ys ∧ Below w.heap.size w w' := by
  obtain ⟨W0, hW0⟩ : ∃ W, W = w.alloc (.cells #[.int .i64 kk, .int .i64 k, .slice xna xnn xnc, .slice xra xrn xrc, .slice xka xkn xkc, .int .i64 l, .slice yna ynn ync, .slice yra yrn yrc, .slice yka ykn ykc, .slice ra rn rc, .slice sa sn sc, .slice aa an ac, .slice ba bn bc] 70) := ⟨_, rfl⟩
  have HW0 : Hid (W0 = w.alloc (.cells #[.int .i64 kk, .int .i64 k, .slice xna xnn xnc, .slice xra xrn xrc, .slice xka xkn xkc, .int .i64 l, .slice yna ynn ync, .slice yra yrn yrc, .slice yka ykn ykc, .slice ra rn rc, .slice sa sn sc, .slice aa an ac, .slice ba bn bc] 70)) := hW0
  have hs0 : w.heap.size < W0.heap.size := by rw [hW0]; simp
  have hb0 : Below w.heap.size w W0 := by rw [hW0]; exact (Below.refl _ _).alloc (Nat.le_refl _) _
  have hbA : BoxA 70 W0 w.heap.size kk (.int .i64 k) (.slice xna xnn xnc) (.slice xra xrn xrc) (.slice xka xkn xkc) (.int .i64 l) (.slice yna ynn ync) (.slice yra yrn yrc) (.slice yka ykn ykc) (.slice ra rn rc) (.slice sa sn sc) (.slice aa an ac) (.slice ba bn bc) := by rw [hW0]; exact BoxA.new _ _ _ _ _ _ _ _ _ _ _ _ _ _ _
  have HBA : Hid (BoxA 70 W0 w.heap.size kk (.int .i64 k) (.slice xna xnn xnc) (.slice xra xrn xrc) (.slice xka xkn xkc) (.int .i64 l) (.slice yna ynn ync) (.slice yra yrn yrc) (.slice yka ykn ykc) (.slice ra rn rc) (.slice sa sn sc) (.slice aa an ac) (.slice ba bn bc)) := hbA
  have HB0 : Hid (Below w.heap.size w W0) := hb0
  have HFin : Hid (∀ {W : World} {v : Value} {cs : List CN} {Ls : List (List (Addr × IntKind))} {ys : List Value}, AnsL W0.heap.size W (dp + 2) v cs Ls ys → Below W0.heap.size W0 W → rulesX x = cs → ∃ v' Ls ys, Ending.returned v = .returned v' ∧ AnsL w.heap.size W (dp + 2) v' (rulesX x) Ls ys ∧ Below w.heap.size w W) := fun {W v cs Ls ys} hA hb e => ⟨v, Ls, ys, rfl, by rw [e]; exact hA.mono (by omega), hb0.trans (hb.mono (by omega))⟩
  have H0d : Hid (Below W0.heap.size W0 W0.drew) := (Below.refl _ _).drew
  have HSat : Hid (∀ V, Below W0.heap.size W0 V → V.cell? ⟨w.heap.size, 0, none⟩ = some (.int .i64 kk) ∧ V.cell? ⟨w.heap.size, 1, none⟩ = some (.int .i64 k) ∧ V.cell? ⟨w.heap.size, 2, none⟩ = some (.slice xna xnn xnc) ∧ V.cell? ⟨w.heap.size, 3, none⟩ = some (.slice xra xrn xrc) ∧ V.cell? ⟨w.heap.size, 4, none⟩ = some (.slice xka xkn xkc) ∧ V.cell? ⟨w.heap.size, 5, none⟩ = some (.int .i64 l) ∧ V.cell? ⟨w.heap.size, 6, none⟩ = some (.slice yna ynn ync) ∧ V.cell? ⟨w.heap.size, 7, none⟩ = some (.slice yra yrn yrc) ∧ V.cell? ⟨w.heap.size, 8, none⟩ = some (.slice yka ykn ykc) ∧ V.cell? ⟨w.heap.size, 9, none⟩ = some (.slice ra rn rc) ∧ V.cell? ⟨w.heap.size, 10, none⟩ = some (.slice sa sn sc) ∧ V.cell? ⟨w.heap.size, 11, none⟩ = some (.slice aa an ac) ∧ V.cell? ⟨w.heap.size, 12, none⟩ = some (.slice ba bn bc)) := fun V hV => (hbA.below hV hs0).cells
  by_cases hcd : kk = 0 ∨ kk = 1 ∨ kk = 2
  · obtain ⟨okc, okd⟩ := ok_cd hok (by rw [← hkk]; exact hcd)
    have bc' := bulk_of_ok okc
    have bd' := bulk_of_ok okd
    have wc' := wfC_of_ok okc
    have wd' := wfC_of_ok okd
    have HRd : Hid (∀ V, Below W0.heap.size W0 V → RdC lo hi V dp (.agg #[.int .i64 k, .slice xna xnn xnc, .slice xra xrn xrc, .slice xka xkn xkc]) x.c ∧ RdC lo hi V dp (.agg #[.int .i64 l, .slice yna ynn ync, .slice yra yrn yrc, .slice yka ykn ykc]) x.d ∧ hi ≤ V.heap.size) := fun V hV => ⟨(h.c.below hb0 hhi).below hV (by omega), (h.d.below hb0 hhi).below hV (by omega), by have := hV.size; omega⟩
    have HUx : Hid (∀ V, Below W0.heap.size W0 V → Calls Try.prog 75 #[.agg #[.int .i64 k, .slice xna xnn xnc, .slice xra xrn xrc, .slice xka xkn xkc], .agg #[.int .i64 l, .slice yna ynn ync, .slice yra yrn yrc, .slice yka ykn ykc]] V fun e w' => ∃ zk zna znn znc zra zrn zrc zka zkn zkc L, e = .returned (.agg #[.int .i64 zk, .slice zna znn znc, .slice zra zrn zrc, .slice zka zkn zkc]) ∧ OwnC V.heap.size w' (dp + 2) (.agg #[.int .i64 zk, .slice zna znn znc, .slice zra zrn zrc, .slice zka zkn zkc]) (orC (nnfC true x.c) (nnfC false x.d)) L ∧ Below V.heap.size V w') := fun V hV => (underRule_any (HRd.out V hV).1 (HRd.out V hV).2.1 (HRd.out V hV).2.2 (by omega) (by omega) wc' wd').mono fun e w' ⟨v, L, he, hO, hb⟩ => by
      obtain ⟨zk, zna, znn, znc, zra, zrn, zrc, zka, zkn, zkc, rfl⟩ := hO.letters
      exact ⟨_, _, _, _, _, _, _, _, _, _, L, he, hO, hb⟩
    have HUy : Hid (∀ V, Below W0.heap.size W0 V → Calls Try.prog 75 #[.agg #[.int .i64 l, .slice yna ynn ync, .slice yra yrn yrc, .slice yka ykn ykc], .agg #[.int .i64 k, .slice xna xnn xnc, .slice xra xrn xrc, .slice xka xkn xkc]] V fun e w' => ∃ zk zna znn znc zra zrn zrc zka zkn zkc L, e = .returned (.agg #[.int .i64 zk, .slice zna znn znc, .slice zra zrn zrc, .slice zka zkn zkc]) ∧ OwnC V.heap.size w' (dp + 2) (.agg #[.int .i64 zk, .slice zna znn znc, .slice zra zrn zrc, .slice zka zkn zkc]) (orC (nnfC true x.d) (nnfC false x.c)) L ∧ Below V.heap.size V w') := fun V hV => (underRule_any (HRd.out V hV).2.1 (HRd.out V hV).1 (HRd.out V hV).2.2 (by omega) (by omega) wd' wc').mono fun e w' ⟨v, L, he, hO, hb⟩ => by
      obtain ⟨zk, zna, znn, znc, zra, zrn, zrc, zka, zkn, zkc, rfl⟩ := hO.letters
      exact ⟨_, _, _, _, _, _, _, _, _, _, L, he, hO, hb⟩
    have HNx : Hid (∀ V, Below W0.heap.size W0 V → Calls Try.prog 77 #[.agg #[.int .i64 k, .slice xna xnn xnc, .slice xra xrn xrc, .slice xka xkn xkc], .bool true] V fun e w' => ∃ zk zna znn znc zra zrn zrc zka zkn zkc L, e = .returned (.agg #[.int .i64 zk, .slice zna znn znc, .slice zra zrn zrc, .slice zka zkn zkc]) ∧ OwnC V.heap.size w' (dp + 1) (.agg #[.int .i64 zk, .slice zna znn znc, .slice zra zrn zrc, .slice zka zkn zkc]) (nnfC true x.c) L ∧ Below V.heap.size V w') := fun V hV => (pnP_any dp _ x.c true V lo hi (HRd.out V hV).1 (HRd.out V hV).2.2 (by omega) wc').mono fun e w' ⟨v, L, he, hO, hb⟩ => by
      obtain ⟨zk, zna, znn, znc, zra, zrn, zrc, zka, zkn, zkc, rfl⟩ := hO.letters
      exact ⟨_, _, _, _, _, _, _, _, _, _, L, he, hO, hb⟩
    have HNy : Hid (∀ V, Below W0.heap.size W0 V → Calls Try.prog 77 #[.agg #[.int .i64 l, .slice yna ynn ync, .slice yra yrn yrc, .slice yka ykn ykc], .bool true] V fun e w' => ∃ zk zna znn znc zra zrn zrc zka zkn zkc L, e = .returned (.agg #[.int .i64 zk, .slice zna znn znc, .slice zra zrn zrc, .slice zka zkn zkc]) ∧ OwnC V.heap.size w' (dp + 1) (.agg #[.int .i64 zk, .slice zna znn znc, .slice zra zrn zrc, .slice zka zkn zkc]) (nnfC true x.d) L ∧ Below V.heap.size V w') := fun V hV => (pnP_any dp _ x.d true V lo hi (HRd.out V hV).2.1 (HRd.out V hV).2.2 (by omega) wd').mono fun e w' ⟨v, L, he, hO, hb⟩ => by
      obtain ⟨zk, zna, znn, znc, zra, zrn, zrc, zka, zkn, zkc, rfl⟩ := hO.letters
      exact ⟨_, _, _, _, _, _, _, _, _, _, L, he, hO, hb⟩
    obtain ⟨m0, m1, m2, m3, m4, m5, m6, m7, m8, m9, m10, m11, m12⟩ := hbA.cells
    clear h hok okc okd bc' bd' wc' wd' hb0 hbA hW0
    rcases hcd with e0 | e1 | e2
    · have HE : Hid (rulesX x = [orC (nnfC true x.c) (nnfC false x.d)]) := by unfold Hid rulesX; rw [if_pos (by rw [← hkk]; exact e0)]
      subst e0
      clear hkk HUy HNx HNy
      go_enter Try.func36, Try.ntmps36
      go_upto_region 1 with fail
      rw [← HW0.out]
      go_wp2_with fail
      refine (HUx.out W0 (Below.refl _ _)).mono ?_
      rintro e w2 ⟨pk, pna, pnn, pnc, pra, prn, prc, pka, pkn, pkc, L1, rfl, hO, hb⟩
      have HX2 : Hid (OwnC W0.heap.size w2 (dp + 2) (.agg #[.int .i64 pk, .slice pna pnn pnc, .slice pra prn prc, .slice pka pkn pkc]) (orC (nnfC true x.c) (nnfC false x.d)) L1) := hO
      have H2 : Hid (Below W0.heap.size W0 w2) := hb
      clear hO hb m0 m1 m2 m3 m4 m5 m6 m7 m8 m9 m10 m11 m12
      go_wp2_with fail
      go_ret
      exact HFin.out (AnsL.one HX2.out H2.out.size) (H2.out.alloc H2.out.size _) HE.out
    · have HE : Hid (rulesX x = [orC (nnfC true x.c) (nnfC false x.d), orC (nnfC true x.d) (nnfC false x.c)]) := by unfold Hid rulesX; rw [if_neg (by rw [← hkk, e1]; decide), if_pos (by rw [← hkk]; exact e1)]
      subst e1
      clear hkk HNx HNy
      go_enter Try.func36, Try.ntmps36
      go_upto_region 1 with fail
      rw [← HW0.out]
      go_upto_region 5 with fail
      first | go_region_held3 (fun V => V.cell? ⟨w.heap.size, 0, none⟩ = some (.int .i64 1) ∧ V.cell? ⟨w.heap.size, 1, none⟩ = some (.int .i64 k) ∧ V.cell? ⟨w.heap.size, 2, none⟩ = some (.slice xna xnn xnc) ∧ V.cell? ⟨w.heap.size, 3, none⟩ = some (.slice xra xrn xrc) ∧ V.cell? ⟨w.heap.size, 4, none⟩ = some (.slice xka xkn xkc) ∧ V.cell? ⟨w.heap.size, 5, none⟩ = some (.int .i64 l) ∧ V.cell? ⟨w.heap.size, 6, none⟩ = some (.slice yna ynn ync) ∧ V.cell? ⟨w.heap.size, 7, none⟩ = some (.slice yra yrn yrc) ∧ V.cell? ⟨w.heap.size, 8, none⟩ = some (.slice yka ykn ykc) ∧ V.cell? ⟨w.heap.size, 9, none⟩ = some (.slice ra rn rc) ∧ V.cell? ⟨w.heap.size, 10, none⟩ = some (.slice sa sn sc) ∧ V.cell? ⟨w.heap.size, 11, none⟩ = some (.slice aa an ac) ∧ V.cell? ⟨w.heap.size, 12, none⟩ = some (.slice ba bn bc)) (first | with_reducible exact HSat.out _ H5.out | with_reducible exact HSat.out _ H4.out | with_reducible exact HSat.out _ H2.out | with_reducible exact HSat.out _ H1.out | with_reducible exact HSat.out _ H3.out | with_reducible exact HSat.out _ H0d.out) (first | (go_at_call 75; first | ((with_reducible refine (HUx.out W0.drew H0d.out).mono ?_); rintro e w1 ⟨pk, pna, pnn, pnc, pra, prn, prc, pka, pkn, pkc, L1, rfl, hO, hb⟩; have HX1 : Hid (OwnC W0.heap.size w1 (dp + 2) (.agg #[.int .i64 pk, .slice pna pnn pnc, .slice pra prn prc, .slice pka pkn pkc]) (orC (nnfC true x.c) (nnfC false x.d)) L1) := hO; have H1 : Hid (Below W0.heap.size W0 w1) := H0d.out.trans hb; clear hO hb) | ((with_reducible refine (HUx.out w3 H3.out).mono ?_); rintro e w2 ⟨pk, pna, pnn, pnc, pra, prn, prc, pka, pkn, pkc, L1, rfl, hO, hb⟩; have HX2 : Hid (OwnC W0.heap.size w2 (dp + 2) (.agg #[.int .i64 pk, .slice pna pnn pnc, .slice pra prn prc, .slice pka pkn pkc]) (orC (nnfC true x.c) (nnfC false x.d)) L1) := hO.mono H3.out.size; have HY2 : Hid (OwnC W0.heap.size w2 (dp + 2) (.agg #[.int .i64 qk, .slice qna qnn qnc, .slice qra qrn qrc, .slice qka qkn qkc]) (orC (nnfC true x.d) (nnfC false x.c)) L2) := HY3.out.below hb; have HD2 : Hid (∀ x ∈ L1, ∀ y ∈ L2, x.1.block ≠ y.1.block) := (fun x hx y hy => by have h1 := (hO.bl x hx).1; have h2 := (HY3.out.bl y hy).2; omega); have H2 : Hid (Below W0.heap.size W0 w2) := H3.out.trans (hb.mono H3.out.size); have H5 : Hid (Below W0.heap.size W0 (w2.alloc (.cells #[.int .i64 pk, .slice pna pnn pnc, .slice pra prn prc, .slice pka pkn pkc, .int .i64 qk, .slice qna qnn qnc, .slice qra qrn qrc, .slice qka qkn qkc] 53))) := H2.out.alloc H2.out.size _; clear hO hb) | ((with_reducible refine (HUy.out w1 H1.out).mono ?_); rintro e w2 ⟨qk, qna, qnn, qnc, qra, qrn, qrc, qka, qkn, qkc, L2, rfl, hO, hb⟩; have HY2 : Hid (OwnC W0.heap.size w2 (dp + 2) (.agg #[.int .i64 qk, .slice qna qnn qnc, .slice qra qrn qrc, .slice qka qkn qkc]) (orC (nnfC true x.d) (nnfC false x.c)) L2) := hO.mono H1.out.size; have HX2 : Hid (OwnC W0.heap.size w2 (dp + 2) (.agg #[.int .i64 pk, .slice pna pnn pnc, .slice pra prn prc, .slice pka pkn pkc]) (orC (nnfC true x.c) (nnfC false x.d)) L1) := HX1.out.below hb; have HD2 : Hid (∀ x ∈ L1, ∀ y ∈ L2, x.1.block ≠ y.1.block) := (fun x hx y hy => by have h1 := (hO.bl y hy).1; have h2 := (HX1.out.bl x hx).2; omega); have H2 : Hid (Below W0.heap.size W0 w2) := H1.out.trans (hb.mono H1.out.size); have H5 : Hid (Below W0.heap.size W0 (w2.alloc (.cells #[.int .i64 pk, .slice pna pnn pnc, .slice pra prn prc, .slice pka pkn pkc, .int .i64 qk, .slice qna qnn qnc, .slice qra qrn qrc, .slice qka qkn qkc] 53))) := H2.out.alloc H2.out.size _; clear hO hb) | ((with_reducible refine (HUy.out W0.drew H0d.out).mono ?_); rintro e w3 ⟨qk, qna, qnn, qnc, qra, qrn, qrc, qka, qkn, qkc, L2, rfl, hO, hb⟩; have HY3 : Hid (OwnC W0.heap.size w3 (dp + 2) (.agg #[.int .i64 qk, .slice qna qnn qnc, .slice qra qrn qrc, .slice qka qkn qkc]) (orC (nnfC true x.d) (nnfC false x.c)) L2) := hO; have H3 : Hid (Below W0.heap.size W0 w3) := H0d.out.trans hb; clear hO hb))) | fail
      all_goals
        go_wp2_with fail
        go_ret
        exact HFin.out (AnsL.two HX2.out HY2.out HD2.out H2.out.size) (H2.out.alloc H2.out.size _) HE.out
    · have HE : Hid (rulesX x = [orC (nnfC true x.c) (nnfC true x.d)]) := by unfold Hid rulesX; rw [if_neg (by rw [← hkk, e2]; decide), if_neg (by rw [← hkk, e2]; decide), if_pos (by rw [← hkk]; exact e2)]
      subst e2
      clear hkk HUx HUy
      go_enter Try.func36, Try.ntmps36
      go_upto_region 1 with fail
      rw [← HW0.out]
      go_upto_region 7 with fail
      first | go_region_held3 (fun V => V.cell? ⟨w.heap.size, 0, none⟩ = some (.int .i64 2) ∧ V.cell? ⟨w.heap.size, 1, none⟩ = some (.int .i64 k) ∧ V.cell? ⟨w.heap.size, 2, none⟩ = some (.slice xna xnn xnc) ∧ V.cell? ⟨w.heap.size, 3, none⟩ = some (.slice xra xrn xrc) ∧ V.cell? ⟨w.heap.size, 4, none⟩ = some (.slice xka xkn xkc) ∧ V.cell? ⟨w.heap.size, 5, none⟩ = some (.int .i64 l) ∧ V.cell? ⟨w.heap.size, 6, none⟩ = some (.slice yna ynn ync) ∧ V.cell? ⟨w.heap.size, 7, none⟩ = some (.slice yra yrn yrc) ∧ V.cell? ⟨w.heap.size, 8, none⟩ = some (.slice yka ykn ykc) ∧ V.cell? ⟨w.heap.size, 9, none⟩ = some (.slice ra rn rc) ∧ V.cell? ⟨w.heap.size, 10, none⟩ = some (.slice sa sn sc) ∧ V.cell? ⟨w.heap.size, 11, none⟩ = some (.slice aa an ac) ∧ V.cell? ⟨w.heap.size, 12, none⟩ = some (.slice ba bn bc)) (first | with_reducible exact HSat.out _ H5.out | with_reducible exact HSat.out _ H4.out | with_reducible exact HSat.out _ H2.out | with_reducible exact HSat.out _ H1.out | with_reducible exact HSat.out _ H3.out | with_reducible exact HSat.out _ H0d.out) (first | (go_at_call 77; first | ((with_reducible refine (HNx.out W0.drew H0d.out).mono ?_); rintro e w1 ⟨pk, pna, pnn, pnc, pra, prn, prc, pka, pkn, pkc, L1, rfl, hO, hb⟩; have HX1 : Hid (OwnC W0.heap.size w1 (dp + 1) (.agg #[.int .i64 pk, .slice pna pnn pnc, .slice pra prn prc, .slice pka pkn pkc]) (nnfC true x.c) L1) := hO; have H1 : Hid (Below W0.heap.size W0 w1) := H0d.out.trans hb; clear hO hb) | ((with_reducible refine (HNx.out w3 H3.out).mono ?_); rintro e w2 ⟨pk, pna, pnn, pnc, pra, prn, prc, pka, pkn, pkc, L1, rfl, hO, hb⟩; have HX2 : Hid (OwnC W0.heap.size w2 (dp + 1) (.agg #[.int .i64 pk, .slice pna pnn pnc, .slice pra prn prc, .slice pka pkn pkc]) (nnfC true x.c) L1) := hO.mono H3.out.size; have HY2 : Hid (OwnC W0.heap.size w2 (dp + 1) (.agg #[.int .i64 qk, .slice qna qnn qnc, .slice qra qrn qrc, .slice qka qkn qkc]) (nnfC true x.d) L2) := HY3.out.below hb; have HD2 : Hid (∀ x ∈ L1, ∀ y ∈ L2, x.1.block ≠ y.1.block) := (fun x hx y hy => by have h1 := (hO.bl x hx).1; have h2 := (HY3.out.bl y hy).2; omega); have H2 : Hid (Below W0.heap.size W0 w2) := H3.out.trans (hb.mono H3.out.size); clear hO hb) | ((with_reducible refine (HNy.out w1 H1.out).mono ?_); rintro e w2 ⟨qk, qna, qnn, qnc, qra, qrn, qrc, qka, qkn, qkc, L2, rfl, hO, hb⟩; have HY2 : Hid (OwnC W0.heap.size w2 (dp + 1) (.agg #[.int .i64 qk, .slice qna qnn qnc, .slice qra qrn qrc, .slice qka qkn qkc]) (nnfC true x.d) L2) := hO.mono H1.out.size; have HX2 : Hid (OwnC W0.heap.size w2 (dp + 1) (.agg #[.int .i64 pk, .slice pna pnn pnc, .slice pra prn prc, .slice pka pkn pkc]) (nnfC true x.c) L1) := HX1.out.below hb; have HD2 : Hid (∀ x ∈ L1, ∀ y ∈ L2, x.1.block ≠ y.1.block) := (fun x hx y hy => by have h1 := (hO.bl y hy).1; have h2 := (HX1.out.bl x hx).2; omega); have H2 : Hid (Below W0.heap.size W0 w2) := H1.out.trans (hb.mono H1.out.size); clear hO hb) | ((with_reducible refine (HNy.out W0.drew H0d.out).mono ?_); rintro e w3 ⟨qk, qna, qnn, qnc, qra, qrn, qrc, qka, qkn, qkc, L2, rfl, hO, hb⟩; have HY3 : Hid (OwnC W0.heap.size w3 (dp + 1) (.agg #[.int .i64 qk, .slice qna qnn qnc, .slice qra qrn qrc, .slice qka qkn qkc]) (nnfC true x.d) L2) := hO; have H3 : Hid (Below W0.heap.size W0 w3) := H0d.out.trans hb; clear hO hb)) | (go_at_call 76; refine (either_any HX2.out HY2.out HD2.out H2.out.size).mono ?_; rintro e w4 ⟨u4, L4, rfl, hO4, hb4⟩; obtain ⟨zk, zna, znn, znc, zra, zrn, zrc, zka, zkn, zkc, rfl⟩ := hO4.letters; have HO4 : Hid (OwnC W0.heap.size w4 (dp + 2) (.agg #[.int .i64 zk, .slice zna znn znc, .slice zra zrn zrc, .slice zka zkn zkc]) (orC (nnfC true x.c) (nnfC true x.d)) L4) := hO4; have H4 : Hid (Below W0.heap.size W0 w4) := H2.out.trans (hb4.mono H2.out.size); have H5 : Hid (Below W0.heap.size W0 (w4.alloc (.cells #[.int .i64 zk, .slice zna znn znc, .slice zra zrn zrc, .slice zka zkn zkc] 53))) := H4.out.alloc H4.out.size _; clear hO4 hb4)) | fail
      all_goals
        go_wp2_with fail
        go_ret
        exact HFin.out (AnsL.one HO4.out H4.out.size) (H4.out.alloc H4.out.size _) HE.out
  · have HE : Hid (rulesX x = []) := by
      unfold Hid rulesX
      simp only [not_or] at hcd
      rw [← hkk, if_neg hcd.1, if_neg hcd.2.1, if_neg hcd.2.2]
    simp only [not_or] at hcd
    obtain ⟨n0, n1, n2⟩ := hcd
    have g0 : (kk == 0) = false := by simpa using n0
    have g1 : (kk == 1) = false := by simpa using n1
    have g2 : (kk == 2) = false := by simpa using n2
    obtain ⟨m0, m1, m2, m3, m4, m5, m6, m7, m8, m9, m10, m11, m12⟩ := hbA.cells
    clear h hok hb0 hbA hW0 hkk
    go_enter Try.func36, Try.ntmps36
    go_upto_region 1 with fail
    rw [← HW0.out]
    go_wp2_with fail
    go_ret
    exact HFin.out (AnsL.nil _ _ _) (Below.refl _ _) HE.out
end

section
open Go.RowKit Go.Deep

set_option maxRecDepth 100000 in
set_option maxHeartbeats 4000000 in
theorem implRules_any {a : Option Addr} {n cap : Nat} {xs : List AX} {dp : Nat} {w : World} {lo hi : Nat} (h : RdK lo hi w dp a n cap xs) (hhi : hi ≤ w.heap.size) (hbk : ∀ x ∈ xs, x.c.bulk ≤ 1048576 ∧ x.d.bulk ≤ 1048576) :
    Calls Try.prog 9 #[.agg #[.slice a n cap]] w fun e w' => ∃ v Ls ys, e = .returned (.tuple #[v, .bool (kbB xs)]) ∧ AnsL w.heap.size w' (dp + 2) v (rulesN xs) Ls ys ∧ Below w.heap.size w w' := by
  obtain ⟨W0, hW0⟩ : ∃ W0, W0 = w.alloc (.cells #[.slice a n cap] 31) := ⟨_, rfl⟩
  have HW0 : Hid (W0 = w.alloc (.cells #[.slice a n cap] 31)) := hW0
  have hs0 : w.heap.size < W0.heap.size := by rw [hW0]; simp
  have hb0 : Below w.heap.size w W0 := by rw [hW0]; exact (Below.refl _ _).alloc (Nat.le_refl _) _
  have HB0 : Hid (Below w.heap.size w W0) := hb0
  have HBx0 : Hid (Boxed W0 w.heap.size 31 (.slice a n cap)) := by unfold Hid; rw [hW0]; exact Boxed.new w _ _
  have HK : Hid (RdK lo hi W0 dp a n cap xs) := h.below hb0 hhi
  have HL : Hid (xs.length = n) := h.len
  have hf := h.fits
  have HBk : Hid (∀ x ∈ xs, x.c.bulk ≤ 1048576 ∧ x.d.bulk ≤ 1048576) := hbk
  obtain ⟨i0, hi0, hz0, hz1, hz2⟩ := info_parts Try.infoCon4
  have z0 := HBx0.out.cell
  obtain ⟨ok, hok0⟩ : ∃ ok, ok = kbB xs := ⟨_, rfl⟩
  have HOK : Hid (ok = kbB xs) := hok0
  clear h hb0 hW0 hbk hok0
  go_enter Try.func9, Try.ntmps9
  go_wp2_with fail
  rw [← HW0.out]
  refine (implKbOk_any HK.out (by omega) HBk.out).mono ?_
  rintro e w1 ⟨rfl, hb1⟩
  rw [← HOK.out]
  have H1 : Hid (Below W0.heap.size W0 w1) := hb1
  have HB1 : Hid (Below w.heap.size w w1) := HB0.out.trans (hb1.mono (Nat.le_of_lt hs0))
  have hbx1 : Boxed w1 w.heap.size 31 (.slice a n cap) := (hb1.block _ hs0).trans HBx0.out
  have hs1 := hb1.size
  clear hb1 z0
  have z0 := hbx1.cell
  clear hbx1
  cases ok with
  | false =>
    have HE : Hid (rulesN xs = []) := by unfold Hid rulesN; rw [← HOK.out]; rfl
    go_wp2_with fail
    go_ret2
    exact ⟨.slice none 0 0, [], [], by rw [← HOK.out]; rfl, by rw [HE.out]; exact AnsL.nil _ _ _, HB1.out⟩
  | true =>
    have HE : Hid (rulesN xs = rulesK xs) := by unfold Hid rulesN; rw [← HOK.out]; rfl
    have HOk : Hid (∀ x ∈ xs, axOk x = true) := (kbB_ok' HOK.out.symm).2
    have hn8 : n ≤ 8 := by rw [← HL.out]; exact (kbB_ok' HOK.out.symm).1
    go_wp2_with fail
    go_loopw [4, 13] (fun l i wr => ∃ (j : Nat) (ov : Value) (Ls : List (List (Addr × IntKind))) (ys : List Value), j ≤ n ∧ i = .int .i64 j ∧ ov = l ∧ AnsL w1.heap.size wr (dp + 2) ov (rulesK (xs.take j)) Ls ys ∧ Below w1.heap.size w1 wr) (fun _ i _ => n - (intOf i).toNat)
    case atStart => exact ⟨0, _, [], [], Nat.zero_le _, rfl, rfl, AnsL.nil _ _ _, Below.refl _ _⟩
    case round =>
      obtain ⟨j, ov, Ls, ys, hj, rfl, rfl, hO, hbel⟩ := hrel
      obtain ⟨m, hm⟩ : ∃ m, m = (rulesK (xs.take j)).length := ⟨_, rfl⟩
      have hm16 : m ≤ 16 := by rw [hm]; have := rulesK_len (xs.take j); rw [List.length_take] at this; omega
      obtain ⟨ua, ucap, ub, hu, hol, _⟩ := hO.row.owL
      have hfit := hol.fits
      rw [← hm] at hu hfit
      have HM : Hid (m = (rulesK (xs.take j)).length) := hm
      subst hu
      have HO : Hid (AnsL w1.heap.size wr (dp + 2) (.slice ua m ucap) (rulesK (xs.take j)) Ls ys) := hO
      have HB : Hid (Below w1.heap.size w1 wr) := hbel
      have hsr := hbel.size
      by_cases hlt : j < n
      · have hjl : j < xs.length := by rw [HL.out]; exact hlt
        have hK := (HK.out.below H1.out (by omega)).below hbel (by omega)
        rcases hK.cells with hz | ⟨b, off, e1, hblo, hbhi, hc⟩
        · omega
        · subst e1
          obtain ⟨c0, c1, c2, c3, d0, d1, d2, d3, ra, rn, rc, sa, sn, sc, aa, an, ac, ba, bn, bc, q0, q1, q2, q3, q4, q5, q6, q7, q8, q9, q10, q11, q12, hrd⟩ := hc j hlt
          obtain ⟨k, xna, xnn, xnc, xra, xrn, xrc, xka, xkn, xkc, rfl, rfl, rfl, rfl⟩ := hrd.c.sh.form
          obtain ⟨l, yna, ynn, ync, yra, yrn, yrc, yka, ykn, ykc, rfl, rfl, rfl, rfl⟩ := hrd.d.sh.form
          have HSt : Hid (rulesK (xs.take (j + 1)) = rulesK (xs.take j) ++ rulesX (xs.getD j AX.zero)) := rulesK_take xs j hjl
          have hokx : axOk (xs.getD j AX.zero) = true := HOk.out _ (by rw [List.getD_eq_getElem?_getD, List.getElem?_eq_getElem hjl]; exact List.getElem_mem hjl)
          have hji : (j : Int) < (n : Int) := by omega
          obtain ⟨x, hx⟩ : ∃ x, x = xs.getD j AX.zero := ⟨_, rfl⟩
          rw [← hx] at hrd hokx HSt q0
          have HOx : Hid (axOk x = true) := hokx
          obtain ⟨kk, hkk⟩ : ∃ kk, kk = x.kind := ⟨_, rfl⟩
          rw [← hkk] at q0
          have HKk : Hid (kk = x.kind) := hkk
          obtain ⟨v0, hv0⟩ : ∃ v0, v0 = wr.alloc (.cells #[.int .i64 kk, .int .i64 k, .slice xna xnn xnc, .slice xra xrn xrc, .slice xka xkn xkc, .int .i64 l, .slice yna ynn ync, .slice yra yrn yrc, .slice yka ykn ykc, .slice ra rn rc, .slice sa sn sc, .slice aa an ac, .slice ba bn bc] 70) := ⟨_, rfl⟩
          have HV0 : Hid (v0 = wr.alloc (.cells #[.int .i64 kk, .int .i64 k, .slice xna xnn xnc, .slice xra xrn xrc, .slice xka xkn xkc, .int .i64 l, .slice yna ynn ync, .slice yra yrn yrc, .slice yka ykn ykc, .slice ra rn rc, .slice sa sn sc, .slice aa an ac, .slice ba bn bc] 70)) := hv0
          have hbv : Below wr.heap.size wr v0 := by rw [hv0]; exact (Below.refl _ _).alloc (Nat.le_refl _) _
          have sv0 : wr.heap.size < v0.heap.size := by rw [hv0]; simp
          have HBv : Hid (Below wr.heap.size wr v0) := hbv
          have hBA : BoxA 70 v0 wr.heap.size kk (.int .i64 k) (.slice xna xnn xnc) (.slice xra xrn xrc) (.slice xka xkn xkc) (.int .i64 l) (.slice yna ynn ync) (.slice yra yrn yrc) (.slice yka ykn ykc) (.slice ra rn rc) (.slice sa sn sc) (.slice aa an ac) (.slice ba bn bc) := by rw [hv0]; exact BoxA.new _ wr _ _ _ _ _ _ _ _ _ _ _ _ _
          have HRd : Hid (RdA lo hi v0 dp (.int .i64 k) (.slice xna xnn xnc) (.slice xra xrn xrc) (.slice xka xkn xkc) (.int .i64 l) (.slice yna ynn ync) (.slice yra yrn yrc) (.slice yka ykn ykc) ra rn rc sa sn sc aa an ac ba bn bc x) := hrd.below hbv (by omega)
          obtain ⟨m0, m1, m2, m3, m4, m5, m6, m7, m8, m9, m10, m11, m12⟩ := hBA.cells
          clear hK hc hrd hO hbel hx hkk hokx hv0 hbv hBA hm hol
          go_wp2_with fail
          rw [← HV0.out]
          refine (axRules_any HRd.out (by omega) HOx.out kk HKk.out).mono ?_
          rintro e w2 ⟨v1, Lx, yx, rfl, hA, hb2⟩
          have HA : Hid (AnsL v0.heap.size w2 (dp + 2) v1 (rulesX x) Lx yx) := hA
          have HB2 : Hid (Below wr.heap.size wr w2) := HBv.out.trans (hb2.mono HBv.out.size)
          have hs2 := HB2.out.size
          have hrl := rulesX_len x
          obtain ⟨r, hr⟩ : ∃ r, r = (rulesX x).length := ⟨_, rfl⟩
          rw [← hr] at hrl
          have HR : Hid (r = (rulesX x).length) := hr
          have HOwn : Hid (w2.ownsRow w1.heap.size 53 4 (.slice ua m ucap) m ys) := by have := (HO.out.row.below HB2.out).row; rw [← HM.out] at this; exact this
          have HFin : Hid (∀ {w6 : World} {v' : Value}, w6.ownsRow w1.heap.size 53 4 v' (m + r) (ys ++ yx) → w2.grownBy w6 (Value.slice ua m ucap).ownBlock → (v'.ownBlock = (Value.slice ua m ucap).ownBlock ∨ v'.ownBlock = some w2.heap.size) → AnsL w1.heap.size w6 (dp + 2) v' (rulesK (xs.take (j + 1))) (Ls ++ Lx) (ys ++ yx) ∧ Below w1.heap.size w1 w6) := by
            intro w6 v' hown hgrow hat
            refine ⟨?_, ?_⟩
            · rw [HSt.out]
              exact AnsL.app HO.out HB2.out HA.out (by omega) hsr (by rw [← HM.out, ← HR.out]; exact hown) hgrow hat
            · exact (HB.out.trans (HB2.out.mono hsr)).grown hgrow (by omega) (fun g hg => (HOwn.out.lt g hg).1)
          rcases hA.row.row.2 with ⟨hv, h0⟩ | ⟨g, gcap, cur, hv, hg⟩
          · subst hv
            have hx0 : rulesX x = [] := List.eq_nil_of_length_eq_zero h0
            have HNil : Hid (AnsL w1.heap.size w2 (dp + 2) (.slice ua m ucap) (rulesK (xs.take (j + 1))) Ls ys ∧ Below w1.heap.size w1 w2) := by
              refine ⟨?_, HB.out.trans (HB2.out.mono hsr)⟩
              rw [HSt.out, hx0, List.append_nil]
              exact HO.out.below HB2.out
            clear hA hb2 hr h0 hx0 q0 q1 q2 q3 q4 q5 q6 q7 q8 q9 q10 q11 q12 m0 m1 m2 m3 m4 m5 m6 m7 m8 m9 m10 m11 m12
            go_wp2_with (at_builtin; refine wpList_append_none rfl (.tmp 17) (.tmp 19) 26 53 i0 rfl Try.underlying26 hi0 ua m ucap 0 hfit.1 rfl rfl ?_)
            go_roundw
            case rel => exact ⟨j + 1, _, Ls, ys, by omega, by go_num, rfl, HNil.out⟩
            case measure => simp [intOf]; omega
          · rw [← hr] at hv
            subst hv
            have HNews : Hid (∀ i u, yx[i]? = some u → w2.cell? ((⟨g, 0, none⟩ : Addr).add i) = some u) := hA.row.row.cells (g := g) rfl
            have HLen : Hid (yx.length = r * 4) := by unfold Hid; rw [hr]; exact hA.row.row.1
            have HOne : Hid (∀ u ∈ yx, u.oneCell' = true) := hA.row.mem.cell1
            clear hA hb2 hr hg q0 q1 q2 q3 q4 q5 q6 q7 q8 q9 q10 q11 q12 m0 m1 m2 m3 m4 m5 m6 m7 m8 m9 m10 m11 m12
            go_wp2_with (at_builtin; refine wpList_append_own_at _ rfl (.tmp 17) (.tmp 19) 26 rfl w1.heap.size 53 i0 (.agg #[.int .i64 0, .slice none 0 0, .slice none 0 0, .slice none 0 0]) 4 80 Try.underlying26 hi0 hz0 hz1 hz2 rfl (by decide) (.slice ua m ucap) m ys rfl HOwn.out ⟨g, 0, none⟩ r gcap yx rfl HLen.out HNews.out HOne.out (by unfold maxLen; omega) (by omega) (by omega) ?_; intro v' w6 hown hgrow hnil hat; have HN : Hid (AnsL w1.heap.size w6 (dp + 2) v' (rulesK (xs.take (j + 1))) (Ls ++ Lx) (ys ++ yx) ∧ Below w1.heap.size w1 w6) := HFin.out hown hgrow hat; clear hown hgrow hnil hat)
            go_roundw
            case rel => exact ⟨j + 1, _, Ls ++ Lx, ys ++ yx, by omega, by go_num, rfl, HN.out⟩
            case measure => simp [intOf]; omega
      · have HE2 : Hid (rulesK xs = rulesK (xs.take j)) := by unfold Hid; rw [List.take_of_length_le (by rw [HL.out]; omega)]
        clear hbel hO hm hol
        go_wp2_with fail
        go_ret2
        exact ⟨.slice ua m ucap, Ls, ys, by rw [← HOK.out]; rfl, by rw [HE.out, HE2.out]; exact HO.out.mono HB1.out.size, HB1.out.trans (HB.out.mono HB1.out.size)⟩
end

section
open Go.RowKit Go.Deep

set_option maxRecDepth 100000 in
set_option maxHeartbeats 4000000 in
theorem l3rule_any {d : Nat} {vx vy : Value} {cx cy : CN} {w : World} {lo hi : Nat} (hx : RdC lo hi w d vx cx) (hy : RdC lo hi w d vy cy) (hhi : hi ≤ w.heap.size) (bx : cx.bulk ≤ 1048576) (by' : cy.bulk ≤ 1048576) (wx : wfC cx = true) (wy : wfC cy = true) :
    Calls Try.prog 70 #[vx, vy] w fun e w' => ∃ zk zna znn znc zra zrn zrc zka zkn zkc L, e = .returned (.agg #[.int .i64 zk, .slice zna znn znc, .slice zra zrn zrc, .slice zka zkn zkc]) ∧ OwC w' (d + 2) (.agg #[.int .i64 zk, .slice zna znn znc, .slice zra zrn zrc, .slice zka zkn zkc]) (orC (nnfC true cx) (nnfC false cy)) L ∧ (∀ x ∈ L, x.1.block < w'.heap.size ∧ (x.1.block < hi ∨ w.heap.size ≤ x.1.block)) ∧ Below w.heap.size w w' := by
  obtain ⟨k, xna, xnn, xnc, xra, xrn, xrc, xka, xkn, xkc, rfl⟩ := hx.shape
  obtain ⟨l, yna, ynn, ync, yra, yrn, yrc, yka, ykn, ykc, rfl⟩ := hy.shape
  obtain ⟨W0, hW0⟩ : ∃ W, W = ((w.alloc (.cells #[.int .i64 k, .slice xna xnn xnc, .slice xra xrn xrc, .slice xka xkn xkc] 53)).alloc (.cells #[.int .i64 l, .slice yna ynn ync, .slice yra yrn yrc, .slice yka ykn ykc] 53)).alloc (.cells #[.int .i64 0, .slice none 0 0, .slice none 0 0, .slice none 0 0] 53) := ⟨_, rfl⟩
  have HW0 : Hid (W0 = ((w.alloc (.cells #[.int .i64 k, .slice xna xnn xnc, .slice xra xrn xrc, .slice xka xkn xkc] 53)).alloc (.cells #[.int .i64 l, .slice yna ynn ync, .slice yra yrn yrc, .slice yka ykn ykc] 53)).alloc (.cells #[.int .i64 0, .slice none 0 0, .slice none 0 0, .slice none 0 0] 53)) := hW0
  have hs0 : W0.heap.size = w.heap.size + 3 := by rw [hW0]; simp
  have hb0 : Below w.heap.size w W0 := by rw [hW0]; exact alloc3_below _ _ _ _
  obtain ⟨hbx, hby, hbr⟩ : BoxC W0 w.heap.size (.int .i64 k) (.slice xna xnn xnc) (.slice xra xrn xrc) (.slice xka xkn xkc) ∧ BoxC W0 (w.heap.size + 1) (.int .i64 l) (.slice yna ynn ync) (.slice yra yrn yrc) (.slice yka ykn ykc) ∧ BoxC W0 (w.heap.size + 2) (.int .i64 0) (.slice none 0 0) (.slice none 0 0) (.slice none 0 0) := by rw [hW0]; exact BoxC.zero3 _ _ _ _ _ _ _ _ _
  have HBx : Hid (BoxC W0 w.heap.size (.int .i64 k) (.slice xna xnn xnc) (.slice xra xrn xrc) (.slice xka xkn xkc)) := hbx
  have HBy : Hid (BoxC W0 (w.heap.size + 1) (.int .i64 l) (.slice yna ynn ync) (.slice yra yrn yrc) (.slice yka ykn ykc)) := hby
  have HBr : Hid (BoxC W0 (w.heap.size + 2) (.int .i64 0) (.slice none 0 0) (.slice none 0 0) (.slice none 0 0)) := hbr
  have HB0 : Hid (Below w.heap.size w W0) := hb0
  have HS0 : Hid (W0.heap.size = w.heap.size + 3) := hs0

  have hw0 : w.heap.size + 3 ≤ W0.heap.size := by omega
  have HCx : Hid (∀ V, Below W0.heap.size W0 V → Calls Try.prog 71 #[.agg #[.int .i64 k, .slice xna xnn xnc, .slice xra xrn xrc, .slice xka xkn xkc], .bool true] V fun e w' => ∃ zk zna znn znc zra zrn zrc zka zkn zkc L, e = .returned (.agg #[.int .i64 zk, .slice zna znn znc, .slice zra zrn zrc, .slice zka zkn zkc]) ∧ OwC w' (d + 1) (.agg #[.int .i64 zk, .slice zna znn znc, .slice zra zrn zrc, .slice zka zkn zkc]) (nnfC true cx) L ∧ (∀ x ∈ L, x.1.block < w'.heap.size ∧ ((x.1.block < hi ∨ w.heap.size ≤ x.1.block) ∧ x.1.block ≠ w.heap.size + 1 + 1)) ∧ Below V.heap.size V w') := fun V hV => (nfP_any d _ cx true V lo hi ((hx.below hb0 hhi).below hV (by omega)) (by have := hV.size; omega) bx wx).mono fun e w' ⟨v, L, he, hO, hl, hb⟩ => by
    obtain ⟨zna, znn, znc, zra, zrn, zrc, zka, zkn, zkc, rfl⟩ := hO.agg
    exact ⟨_, _, _, _, _, _, _, _, _, _, L, he, hO, fun x hx => ⟨(hl x hx).2, by have := hV.size; have := (hl x hx).1; omega, by have := hV.size; have := (hl x hx).1; omega⟩, hb⟩
  have HCy : Hid (∀ V, Below W0.heap.size W0 V → Calls Try.prog 71 #[.agg #[.int .i64 l, .slice yna ynn ync, .slice yra yrn yrc, .slice yka ykn ykc], .bool false] V fun e w' => ∃ zk zna znn znc zra zrn zrc zka zkn zkc L, e = .returned (.agg #[.int .i64 zk, .slice zna znn znc, .slice zra zrn zrc, .slice zka zkn zkc]) ∧ OwC w' (d + 1) (.agg #[.int .i64 zk, .slice zna znn znc, .slice zra zrn zrc, .slice zka zkn zkc]) (nnfC false cy) L ∧ (∀ x ∈ L, x.1.block < w'.heap.size ∧ ((x.1.block < hi ∨ w.heap.size ≤ x.1.block) ∧ x.1.block ≠ w.heap.size + 1 + 1)) ∧ Below V.heap.size V w') := fun V hV => (nfP_any d _ cy false V lo hi ((hy.below hb0 hhi).below hV (by omega)) (by have := hV.size; omega) by' wy).mono fun e w' ⟨v, L, he, hO, hl, hb⟩ => by
    obtain ⟨zna, znn, znc, zra, zrn, zrc, zka, zkn, zkc, rfl⟩ := hO.agg
    exact ⟨_, _, _, _, _, _, _, _, _, _, L, he, hO, fun x hx => ⟨(hl x hx).2, by have := hV.size; have := (hl x hx).1; omega, by have := hV.size; have := (hl x hx).1; omega⟩, hb⟩
  have HSat : Hid (∀ V, Below W0.heap.size W0 V → (V.cell? ⟨w.heap.size, 0, none⟩ = some (.int .i64 k) ∧ V.cell? ⟨w.heap.size, 1, none⟩ = some (.slice xna xnn xnc) ∧ V.cell? ⟨w.heap.size, 2, none⟩ = some (.slice xra xrn xrc) ∧ V.cell? ⟨w.heap.size, 3, none⟩ = some (.slice xka xkn xkc)) ∧ V.cell? ⟨w.heap.size + 1, 0, none⟩ = some (.int .i64 l) ∧ V.cell? ⟨w.heap.size + 1, 1, none⟩ = some (.slice yna ynn ync) ∧ V.cell? ⟨w.heap.size + 1, 2, none⟩ = some (.slice yra yrn yrc) ∧ V.cell? ⟨w.heap.size + 1, 3, none⟩ = some (.slice yka ykn ykc)) := fun V hV => ⟨(hbx.below hV (by omega)).cells, (hby.below hV (by omega)).cells⟩
  have H0d : Hid (Below W0.heap.size W0 W0.drew) := (Below.refl _ _).drew
  clear hx hy hhi bx by' wx wy hb0 hbx hby hbr hW0 hs0
  go_enter Try.func70, Try.ntmps70
  go_upto_region 1 with fail
  rw [← HW0.out]
  first | go_region_held3 (fun V => (V.cell? ⟨w.heap.size, 0, none⟩ = some (.int .i64 k) ∧ V.cell? ⟨w.heap.size, 1, none⟩ = some (.slice xna xnn xnc) ∧ V.cell? ⟨w.heap.size, 2, none⟩ = some (.slice xra xrn xrc) ∧ V.cell? ⟨w.heap.size, 3, none⟩ = some (.slice xka xkn xkc)) ∧ V.cell? ⟨w.heap.size + 1, 0, none⟩ = some (.int .i64 l) ∧ V.cell? ⟨w.heap.size + 1, 1, none⟩ = some (.slice yna ynn ync) ∧ V.cell? ⟨w.heap.size + 1, 2, none⟩ = some (.slice yra yrn yrc) ∧ V.cell? ⟨w.heap.size + 1, 3, none⟩ = some (.slice yka ykn ykc)) (first | with_reducible exact HS6.out | with_reducible exact HSat.out _ H6.out | with_reducible exact HSat.out _ H5.out | with_reducible exact HSat.out _ H2.out | with_reducible exact HSat.out _ H1.out | with_reducible exact HSat.out _ H3.out | with_reducible exact HSat.out _ H0d.out) (first | (go_at_call 71; first | ((with_reducible refine (HCx.out W0.drew H0d.out).mono ?_); rintro e w1 ⟨pk, pna, pnn, pnc, pra, prn, prc, pka, pkn, pkc, L1, rfl, hO, hl, hb⟩; have HX1 : Hid (OwC w1 (d + 1) (.agg #[.int .i64 pk, .slice pna pnn pnc, .slice pra prn prc, .slice pka pkn pkc]) (nnfC true cx) L1) := hO; have HL1 : Hid (∀ x ∈ L1, x.1.block < w1.heap.size ∧ ((x.1.block < hi ∨ w.heap.size ≤ x.1.block) ∧ x.1.block ≠ w.heap.size + 1 + 1)) := hl; have H1 : Hid (Below W0.heap.size W0 w1) := H0d.out.trans hb; clear hO hb hl) | ((with_reducible refine (HCx.out w3 H3.out).mono ?_); rintro e w2 ⟨pk, pna, pnn, pnc, pra, prn, prc, pka, pkn, pkc, L1, rfl, hO, hl, hb⟩; have HX2 : Hid (OwC w2 (d + 1) (.agg #[.int .i64 pk, .slice pna pnn pnc, .slice pra prn prc, .slice pka pkn pkc]) (nnfC true cx) L1) := hO; have HL1 : Hid (∀ x ∈ L1, x.1.block < w2.heap.size ∧ ((x.1.block < hi ∨ w.heap.size ≤ x.1.block) ∧ x.1.block ≠ w.heap.size + 1 + 1)) := hl; have HY2 : Hid (OwC w2 (d + 1) (.agg #[.int .i64 qk, .slice qna qnn qnc, .slice qra qrn qrc, .slice qka qkn qkc]) (nnfC false cy) L2) := HY3.out.below hb (fun x hx => (HL3.out x hx).1); have HL2 : Hid (∀ x ∈ L2, x.1.block < w2.heap.size ∧ ((x.1.block < hi ∨ w.heap.size ≤ x.1.block) ∧ x.1.block ≠ w.heap.size + 1 + 1)) := (fun x hx => ⟨Nat.lt_of_lt_of_le (HL3.out x hx).1 hb.size, (HL3.out x hx).2⟩); have H2 : Hid (Below W0.heap.size W0 w2) := H3.out.trans (hb.mono H3.out.size); clear hO hb hl; obtain ⟨L5, hO5, hl5⟩ := orOfS (fun b => (b < hi ∨ w.heap.size ≤ b) ∧ b ≠ w.heap.size + 1 + 1) HX2.out HY2.out HL1.out HL2.out ⟨.inr (by have := H2.out.size; omega), by have := H2.out.size; omega⟩; have hlr : w.heap.size + 1 + 1 < w2.heap.size := (by have := H2.out.size; omega); have H5 : Hid (Below W0.heap.size W0 (w2.alloc (.cells #[.int .i64 pk, .slice pna pnn pnc, .slice pra prn prc, .slice pka pkn pkc, .int .i64 qk, .slice qna qnn qnc, .slice qra qrn qrc, .slice qka qkn qkc] 53))) := H2.out.alloc H2.out.size _; have HO6 : Hid (OwC (((((w2.setCell ⟨w.heap.size + 1 + 1, 0, none⟩ (.int .i64 5)).setCell ⟨w.heap.size + 1 + 1, 1, none⟩ (.slice none 0 0)).setCell ⟨w.heap.size + 1 + 1, 2, none⟩ (.slice none 0 0)).setCell ⟨w.heap.size + 1 + 1, 3, none⟩ (.slice (some ⟨w2.heap.size, 0, none⟩) 2 2)).alloc (.cells #[.int .i64 pk, .slice pna pnn pnc, .slice pra prn prc, .slice pka pkn pkc, .int .i64 qk, .slice qna qnn qnc, .slice qra qrn qrc, .slice qka qkn qkc] 53)) (d + 2) (.agg #[.int .i64 5, .slice none 0 0, .slice none 0 0, .slice (some ⟨w2.heap.size, 0, none⟩) 2 2]) (orC (nnfC true cx) (nnfC false cy)) L5) := (by unfold Hid; rw [← set4_alloc hlr]; exact hO5.sameF (fun x hx => (hl5 x hx).2.2) rfl); have HL6 : Hid (∀ x ∈ L5, x.1.block < (((((w2.setCell ⟨w.heap.size + 1 + 1, 0, none⟩ (.int .i64 5)).setCell ⟨w.heap.size + 1 + 1, 1, none⟩ (.slice none 0 0)).setCell ⟨w.heap.size + 1 + 1, 2, none⟩ (.slice none 0 0)).setCell ⟨w.heap.size + 1 + 1, 3, none⟩ (.slice (some ⟨w2.heap.size, 0, none⟩) 2 2)).alloc (.cells #[.int .i64 pk, .slice pna pnn pnc, .slice pra prn prc, .slice pka pkn pkc, .int .i64 qk, .slice qna qnn qnc, .slice qra qrn qrc, .slice qka qkn qkc] 53)).heap.size ∧ (x.1.block < hi ∨ w.heap.size ≤ x.1.block)) := (fun x hx => ⟨by have := (hl5 x hx).1; simpa using this, (hl5 x hx).2.1⟩); have HB6 : Hid (Below w.heap.size w (((((w2.setCell ⟨w.heap.size + 1 + 1, 0, none⟩ (.int .i64 5)).setCell ⟨w.heap.size + 1 + 1, 1, none⟩ (.slice none 0 0)).setCell ⟨w.heap.size + 1 + 1, 2, none⟩ (.slice none 0 0)).setCell ⟨w.heap.size + 1 + 1, 3, none⟩ (.slice (some ⟨w2.heap.size, 0, none⟩) 2 2)).alloc (.cells #[.int .i64 pk, .slice pna pnn pnc, .slice pra prn prc, .slice pka pkn pkc, .int .i64 qk, .slice qna qnn qnc, .slice qra qrn qrc, .slice qka qkn qkc] 53))) := (by unfold Hid; rw [← set4_alloc hlr]; exact below_set4 (HB0.out.trans (H5.out.mono HB0.out.size)) (by omega) _ _ _ _); have HS6 : Hid (((((((w2.setCell ⟨w.heap.size + 1 + 1, 0, none⟩ (.int .i64 5)).setCell ⟨w.heap.size + 1 + 1, 1, none⟩ (.slice none 0 0)).setCell ⟨w.heap.size + 1 + 1, 2, none⟩ (.slice none 0 0)).setCell ⟨w.heap.size + 1 + 1, 3, none⟩ (.slice (some ⟨w2.heap.size, 0, none⟩) 2 2)).alloc (.cells #[.int .i64 pk, .slice pna pnn pnc, .slice pra prn prc, .slice pka pkn pkc, .int .i64 qk, .slice qna qnn qnc, .slice qra qrn qrc, .slice qka qkn qkc] 53)).cell? ⟨w.heap.size, 0, none⟩ = some (.int .i64 k) ∧ (((((w2.setCell ⟨w.heap.size + 1 + 1, 0, none⟩ (.int .i64 5)).setCell ⟨w.heap.size + 1 + 1, 1, none⟩ (.slice none 0 0)).setCell ⟨w.heap.size + 1 + 1, 2, none⟩ (.slice none 0 0)).setCell ⟨w.heap.size + 1 + 1, 3, none⟩ (.slice (some ⟨w2.heap.size, 0, none⟩) 2 2)).alloc (.cells #[.int .i64 pk, .slice pna pnn pnc, .slice pra prn prc, .slice pka pkn pkc, .int .i64 qk, .slice qna qnn qnc, .slice qra qrn qrc, .slice qka qkn qkc] 53)).cell? ⟨w.heap.size, 1, none⟩ = some (.slice xna xnn xnc) ∧ (((((w2.setCell ⟨w.heap.size + 1 + 1, 0, none⟩ (.int .i64 5)).setCell ⟨w.heap.size + 1 + 1, 1, none⟩ (.slice none 0 0)).setCell ⟨w.heap.size + 1 + 1, 2, none⟩ (.slice none 0 0)).setCell ⟨w.heap.size + 1 + 1, 3, none⟩ (.slice (some ⟨w2.heap.size, 0, none⟩) 2 2)).alloc (.cells #[.int .i64 pk, .slice pna pnn pnc, .slice pra prn prc, .slice pka pkn pkc, .int .i64 qk, .slice qna qnn qnc, .slice qra qrn qrc, .slice qka qkn qkc] 53)).cell? ⟨w.heap.size, 2, none⟩ = some (.slice xra xrn xrc) ∧ (((((w2.setCell ⟨w.heap.size + 1 + 1, 0, none⟩ (.int .i64 5)).setCell ⟨w.heap.size + 1 + 1, 1, none⟩ (.slice none 0 0)).setCell ⟨w.heap.size + 1 + 1, 2, none⟩ (.slice none 0 0)).setCell ⟨w.heap.size + 1 + 1, 3, none⟩ (.slice (some ⟨w2.heap.size, 0, none⟩) 2 2)).alloc (.cells #[.int .i64 pk, .slice pna pnn pnc, .slice pra prn prc, .slice pka pkn pkc, .int .i64 qk, .slice qna qnn qnc, .slice qra qrn qrc, .slice qka qkn qkc] 53)).cell? ⟨w.heap.size, 3, none⟩ = some (.slice xka xkn xkc)) ∧ (((((w2.setCell ⟨w.heap.size + 1 + 1, 0, none⟩ (.int .i64 5)).setCell ⟨w.heap.size + 1 + 1, 1, none⟩ (.slice none 0 0)).setCell ⟨w.heap.size + 1 + 1, 2, none⟩ (.slice none 0 0)).setCell ⟨w.heap.size + 1 + 1, 3, none⟩ (.slice (some ⟨w2.heap.size, 0, none⟩) 2 2)).alloc (.cells #[.int .i64 pk, .slice pna pnn pnc, .slice pra prn prc, .slice pka pkn pkc, .int .i64 qk, .slice qna qnn qnc, .slice qra qrn qrc, .slice qka qkn qkc] 53)).cell? ⟨w.heap.size + 1, 0, none⟩ = some (.int .i64 l) ∧ (((((w2.setCell ⟨w.heap.size + 1 + 1, 0, none⟩ (.int .i64 5)).setCell ⟨w.heap.size + 1 + 1, 1, none⟩ (.slice none 0 0)).setCell ⟨w.heap.size + 1 + 1, 2, none⟩ (.slice none 0 0)).setCell ⟨w.heap.size + 1 + 1, 3, none⟩ (.slice (some ⟨w2.heap.size, 0, none⟩) 2 2)).alloc (.cells #[.int .i64 pk, .slice pna pnn pnc, .slice pra prn prc, .slice pka pkn pkc, .int .i64 qk, .slice qna qnn qnc, .slice qra qrn qrc, .slice qka qkn qkc] 53)).cell? ⟨w.heap.size + 1, 1, none⟩ = some (.slice yna ynn ync) ∧ (((((w2.setCell ⟨w.heap.size + 1 + 1, 0, none⟩ (.int .i64 5)).setCell ⟨w.heap.size + 1 + 1, 1, none⟩ (.slice none 0 0)).setCell ⟨w.heap.size + 1 + 1, 2, none⟩ (.slice none 0 0)).setCell ⟨w.heap.size + 1 + 1, 3, none⟩ (.slice (some ⟨w2.heap.size, 0, none⟩) 2 2)).alloc (.cells #[.int .i64 pk, .slice pna pnn pnc, .slice pra prn prc, .slice pka pkn pkc, .int .i64 qk, .slice qna qnn qnc, .slice qra qrn qrc, .slice qka qkn qkc] 53)).cell? ⟨w.heap.size + 1, 2, none⟩ = some (.slice yra yrn yrc) ∧ (((((w2.setCell ⟨w.heap.size + 1 + 1, 0, none⟩ (.int .i64 5)).setCell ⟨w.heap.size + 1 + 1, 1, none⟩ (.slice none 0 0)).setCell ⟨w.heap.size + 1 + 1, 2, none⟩ (.slice none 0 0)).setCell ⟨w.heap.size + 1 + 1, 3, none⟩ (.slice (some ⟨w2.heap.size, 0, none⟩) 2 2)).alloc (.cells #[.int .i64 pk, .slice pna pnn pnc, .slice pra prn prc, .slice pka pkn pkc, .int .i64 qk, .slice qna qnn qnc, .slice qra qrn qrc, .slice qka qkn qkc] 53)).cell? ⟨w.heap.size + 1, 3, none⟩ = some (.slice yka ykn ykc)) := (by unfold Hid; rw [← set4_alloc hlr]; exact ⟨BoxC.cells ((heap_set4 _ _ _ _ _ (by omega)).trans (HBx.out.below H5.out (by omega))), BoxC.cells ((heap_set4 _ _ _ _ _ (by omega)).trans (HBy.out.below H5.out (by omega)))⟩); have hbr2 : BoxC w2 (w.heap.size + 1 + 1) (.int .i64 0) (.slice none 0 0) (.slice none 0 0) (.slice none 0 0) := HBr.out.below H2.out (by omega); obtain ⟨t0, t1, t2, t3⟩ := hbr2.cells; have g0 := hbr2.frz 0; have g1 := hbr2.frz 1; have g2 := hbr2.frz 2; have g3 := hbr2.frz 3; have hbr5 : BoxC (w2.alloc (.cells #[.int .i64 pk, .slice pna pnn pnc, .slice pra prn prc, .slice pka pkn pkc, .int .i64 qk, .slice qna qnn qnc, .slice qra qrn qrc, .slice qka qkn qkc] 53)) (w.heap.size + 1 + 1) (.int .i64 0) (.slice none 0 0) (.slice none 0 0) (.slice none 0 0) := HBr.out.below H5.out (by omega); obtain ⟨r0, r1, r2, r3⟩ := hbr5.cells; have f0 := hbr5.frz 0; have f1 := hbr5.frz 1; have f2 := hbr5.frz 2; have f3 := hbr5.frz 3; obtain ⟨s0, s1, s2, s3⟩ := (hbr5.set4 (.int .i64 5) (.slice none 0 0) (.slice none 0 0) (.slice (some ⟨w2.heap.size, 0, none⟩) 2 2)).cells; rw [set4_alloc hlr] at s0 s1 s2 s3; clear hO5 hl5 hbr2 hbr5) | ((with_reducible refine (HCy.out w1 H1.out).mono ?_); rintro e w2 ⟨qk, qna, qnn, qnc, qra, qrn, qrc, qka, qkn, qkc, L2, rfl, hO, hl, hb⟩; have HY2 : Hid (OwC w2 (d + 1) (.agg #[.int .i64 qk, .slice qna qnn qnc, .slice qra qrn qrc, .slice qka qkn qkc]) (nnfC false cy) L2) := hO; have HL2 : Hid (∀ x ∈ L2, x.1.block < w2.heap.size ∧ ((x.1.block < hi ∨ w.heap.size ≤ x.1.block) ∧ x.1.block ≠ w.heap.size + 1 + 1)) := hl; have HX2 : Hid (OwC w2 (d + 1) (.agg #[.int .i64 pk, .slice pna pnn pnc, .slice pra prn prc, .slice pka pkn pkc]) (nnfC true cx) L1) := HX1.out.below hb (fun x hx => (HL1.out x hx).1); have HL1b : Hid (∀ x ∈ L1, x.1.block < w2.heap.size ∧ ((x.1.block < hi ∨ w.heap.size ≤ x.1.block) ∧ x.1.block ≠ w.heap.size + 1 + 1)) := (fun x hx => ⟨Nat.lt_of_lt_of_le (HL1.out x hx).1 hb.size, (HL1.out x hx).2⟩); clear HL1; have HL1 : Hid (∀ x ∈ L1, x.1.block < w2.heap.size ∧ ((x.1.block < hi ∨ w.heap.size ≤ x.1.block) ∧ x.1.block ≠ w.heap.size + 1 + 1)) := HL1b.out; have H2 : Hid (Below W0.heap.size W0 w2) := H1.out.trans (hb.mono H1.out.size); clear hO hb hl HL1b; obtain ⟨L5, hO5, hl5⟩ := orOfS (fun b => (b < hi ∨ w.heap.size ≤ b) ∧ b ≠ w.heap.size + 1 + 1) HX2.out HY2.out HL1.out HL2.out ⟨.inr (by have := H2.out.size; omega), by have := H2.out.size; omega⟩; have hlr : w.heap.size + 1 + 1 < w2.heap.size := (by have := H2.out.size; omega); have H5 : Hid (Below W0.heap.size W0 (w2.alloc (.cells #[.int .i64 pk, .slice pna pnn pnc, .slice pra prn prc, .slice pka pkn pkc, .int .i64 qk, .slice qna qnn qnc, .slice qra qrn qrc, .slice qka qkn qkc] 53))) := H2.out.alloc H2.out.size _; have HO6 : Hid (OwC (((((w2.setCell ⟨w.heap.size + 1 + 1, 0, none⟩ (.int .i64 5)).setCell ⟨w.heap.size + 1 + 1, 1, none⟩ (.slice none 0 0)).setCell ⟨w.heap.size + 1 + 1, 2, none⟩ (.slice none 0 0)).setCell ⟨w.heap.size + 1 + 1, 3, none⟩ (.slice (some ⟨w2.heap.size, 0, none⟩) 2 2)).alloc (.cells #[.int .i64 pk, .slice pna pnn pnc, .slice pra prn prc, .slice pka pkn pkc, .int .i64 qk, .slice qna qnn qnc, .slice qra qrn qrc, .slice qka qkn qkc] 53)) (d + 2) (.agg #[.int .i64 5, .slice none 0 0, .slice none 0 0, .slice (some ⟨w2.heap.size, 0, none⟩) 2 2]) (orC (nnfC true cx) (nnfC false cy)) L5) := (by unfold Hid; rw [← set4_alloc hlr]; exact hO5.sameF (fun x hx => (hl5 x hx).2.2) rfl); have HL6 : Hid (∀ x ∈ L5, x.1.block < (((((w2.setCell ⟨w.heap.size + 1 + 1, 0, none⟩ (.int .i64 5)).setCell ⟨w.heap.size + 1 + 1, 1, none⟩ (.slice none 0 0)).setCell ⟨w.heap.size + 1 + 1, 2, none⟩ (.slice none 0 0)).setCell ⟨w.heap.size + 1 + 1, 3, none⟩ (.slice (some ⟨w2.heap.size, 0, none⟩) 2 2)).alloc (.cells #[.int .i64 pk, .slice pna pnn pnc, .slice pra prn prc, .slice pka pkn pkc, .int .i64 qk, .slice qna qnn qnc, .slice qra qrn qrc, .slice qka qkn qkc] 53)).heap.size ∧ (x.1.block < hi ∨ w.heap.size ≤ x.1.block)) := (fun x hx => ⟨by have := (hl5 x hx).1; simpa using this, (hl5 x hx).2.1⟩); have HB6 : Hid (Below w.heap.size w (((((w2.setCell ⟨w.heap.size + 1 + 1, 0, none⟩ (.int .i64 5)).setCell ⟨w.heap.size + 1 + 1, 1, none⟩ (.slice none 0 0)).setCell ⟨w.heap.size + 1 + 1, 2, none⟩ (.slice none 0 0)).setCell ⟨w.heap.size + 1 + 1, 3, none⟩ (.slice (some ⟨w2.heap.size, 0, none⟩) 2 2)).alloc (.cells #[.int .i64 pk, .slice pna pnn pnc, .slice pra prn prc, .slice pka pkn pkc, .int .i64 qk, .slice qna qnn qnc, .slice qra qrn qrc, .slice qka qkn qkc] 53))) := (by unfold Hid; rw [← set4_alloc hlr]; exact below_set4 (HB0.out.trans (H5.out.mono HB0.out.size)) (by omega) _ _ _ _); have HS6 : Hid (((((((w2.setCell ⟨w.heap.size + 1 + 1, 0, none⟩ (.int .i64 5)).setCell ⟨w.heap.size + 1 + 1, 1, none⟩ (.slice none 0 0)).setCell ⟨w.heap.size + 1 + 1, 2, none⟩ (.slice none 0 0)).setCell ⟨w.heap.size + 1 + 1, 3, none⟩ (.slice (some ⟨w2.heap.size, 0, none⟩) 2 2)).alloc (.cells #[.int .i64 pk, .slice pna pnn pnc, .slice pra prn prc, .slice pka pkn pkc, .int .i64 qk, .slice qna qnn qnc, .slice qra qrn qrc, .slice qka qkn qkc] 53)).cell? ⟨w.heap.size, 0, none⟩ = some (.int .i64 k) ∧ (((((w2.setCell ⟨w.heap.size + 1 + 1, 0, none⟩ (.int .i64 5)).setCell ⟨w.heap.size + 1 + 1, 1, none⟩ (.slice none 0 0)).setCell ⟨w.heap.size + 1 + 1, 2, none⟩ (.slice none 0 0)).setCell ⟨w.heap.size + 1 + 1, 3, none⟩ (.slice (some ⟨w2.heap.size, 0, none⟩) 2 2)).alloc (.cells #[.int .i64 pk, .slice pna pnn pnc, .slice pra prn prc, .slice pka pkn pkc, .int .i64 qk, .slice qna qnn qnc, .slice qra qrn qrc, .slice qka qkn qkc] 53)).cell? ⟨w.heap.size, 1, none⟩ = some (.slice xna xnn xnc) ∧ (((((w2.setCell ⟨w.heap.size + 1 + 1, 0, none⟩ (.int .i64 5)).setCell ⟨w.heap.size + 1 + 1, 1, none⟩ (.slice none 0 0)).setCell ⟨w.heap.size + 1 + 1, 2, none⟩ (.slice none 0 0)).setCell ⟨w.heap.size + 1 + 1, 3, none⟩ (.slice (some ⟨w2.heap.size, 0, none⟩) 2 2)).alloc (.cells #[.int .i64 pk, .slice pna pnn pnc, .slice pra prn prc, .slice pka pkn pkc, .int .i64 qk, .slice qna qnn qnc, .slice qra qrn qrc, .slice qka qkn qkc] 53)).cell? ⟨w.heap.size, 2, none⟩ = some (.slice xra xrn xrc) ∧ (((((w2.setCell ⟨w.heap.size + 1 + 1, 0, none⟩ (.int .i64 5)).setCell ⟨w.heap.size + 1 + 1, 1, none⟩ (.slice none 0 0)).setCell ⟨w.heap.size + 1 + 1, 2, none⟩ (.slice none 0 0)).setCell ⟨w.heap.size + 1 + 1, 3, none⟩ (.slice (some ⟨w2.heap.size, 0, none⟩) 2 2)).alloc (.cells #[.int .i64 pk, .slice pna pnn pnc, .slice pra prn prc, .slice pka pkn pkc, .int .i64 qk, .slice qna qnn qnc, .slice qra qrn qrc, .slice qka qkn qkc] 53)).cell? ⟨w.heap.size, 3, none⟩ = some (.slice xka xkn xkc)) ∧ (((((w2.setCell ⟨w.heap.size + 1 + 1, 0, none⟩ (.int .i64 5)).setCell ⟨w.heap.size + 1 + 1, 1, none⟩ (.slice none 0 0)).setCell ⟨w.heap.size + 1 + 1, 2, none⟩ (.slice none 0 0)).setCell ⟨w.heap.size + 1 + 1, 3, none⟩ (.slice (some ⟨w2.heap.size, 0, none⟩) 2 2)).alloc (.cells #[.int .i64 pk, .slice pna pnn pnc, .slice pra prn prc, .slice pka pkn pkc, .int .i64 qk, .slice qna qnn qnc, .slice qra qrn qrc, .slice qka qkn qkc] 53)).cell? ⟨w.heap.size + 1, 0, none⟩ = some (.int .i64 l) ∧ (((((w2.setCell ⟨w.heap.size + 1 + 1, 0, none⟩ (.int .i64 5)).setCell ⟨w.heap.size + 1 + 1, 1, none⟩ (.slice none 0 0)).setCell ⟨w.heap.size + 1 + 1, 2, none⟩ (.slice none 0 0)).setCell ⟨w.heap.size + 1 + 1, 3, none⟩ (.slice (some ⟨w2.heap.size, 0, none⟩) 2 2)).alloc (.cells #[.int .i64 pk, .slice pna pnn pnc, .slice pra prn prc, .slice pka pkn pkc, .int .i64 qk, .slice qna qnn qnc, .slice qra qrn qrc, .slice qka qkn qkc] 53)).cell? ⟨w.heap.size + 1, 1, none⟩ = some (.slice yna ynn ync) ∧ (((((w2.setCell ⟨w.heap.size + 1 + 1, 0, none⟩ (.int .i64 5)).setCell ⟨w.heap.size + 1 + 1, 1, none⟩ (.slice none 0 0)).setCell ⟨w.heap.size + 1 + 1, 2, none⟩ (.slice none 0 0)).setCell ⟨w.heap.size + 1 + 1, 3, none⟩ (.slice (some ⟨w2.heap.size, 0, none⟩) 2 2)).alloc (.cells #[.int .i64 pk, .slice pna pnn pnc, .slice pra prn prc, .slice pka pkn pkc, .int .i64 qk, .slice qna qnn qnc, .slice qra qrn qrc, .slice qka qkn qkc] 53)).cell? ⟨w.heap.size + 1, 2, none⟩ = some (.slice yra yrn yrc) ∧ (((((w2.setCell ⟨w.heap.size + 1 + 1, 0, none⟩ (.int .i64 5)).setCell ⟨w.heap.size + 1 + 1, 1, none⟩ (.slice none 0 0)).setCell ⟨w.heap.size + 1 + 1, 2, none⟩ (.slice none 0 0)).setCell ⟨w.heap.size + 1 + 1, 3, none⟩ (.slice (some ⟨w2.heap.size, 0, none⟩) 2 2)).alloc (.cells #[.int .i64 pk, .slice pna pnn pnc, .slice pra prn prc, .slice pka pkn pkc, .int .i64 qk, .slice qna qnn qnc, .slice qra qrn qrc, .slice qka qkn qkc] 53)).cell? ⟨w.heap.size + 1, 3, none⟩ = some (.slice yka ykn ykc)) := (by unfold Hid; rw [← set4_alloc hlr]; exact ⟨BoxC.cells ((heap_set4 _ _ _ _ _ (by omega)).trans (HBx.out.below H5.out (by omega))), BoxC.cells ((heap_set4 _ _ _ _ _ (by omega)).trans (HBy.out.below H5.out (by omega)))⟩); have hbr2 : BoxC w2 (w.heap.size + 1 + 1) (.int .i64 0) (.slice none 0 0) (.slice none 0 0) (.slice none 0 0) := HBr.out.below H2.out (by omega); obtain ⟨t0, t1, t2, t3⟩ := hbr2.cells; have g0 := hbr2.frz 0; have g1 := hbr2.frz 1; have g2 := hbr2.frz 2; have g3 := hbr2.frz 3; have hbr5 : BoxC (w2.alloc (.cells #[.int .i64 pk, .slice pna pnn pnc, .slice pra prn prc, .slice pka pkn pkc, .int .i64 qk, .slice qna qnn qnc, .slice qra qrn qrc, .slice qka qkn qkc] 53)) (w.heap.size + 1 + 1) (.int .i64 0) (.slice none 0 0) (.slice none 0 0) (.slice none 0 0) := HBr.out.below H5.out (by omega); obtain ⟨r0, r1, r2, r3⟩ := hbr5.cells; have f0 := hbr5.frz 0; have f1 := hbr5.frz 1; have f2 := hbr5.frz 2; have f3 := hbr5.frz 3; obtain ⟨s0, s1, s2, s3⟩ := (hbr5.set4 (.int .i64 5) (.slice none 0 0) (.slice none 0 0) (.slice (some ⟨w2.heap.size, 0, none⟩) 2 2)).cells; rw [set4_alloc hlr] at s0 s1 s2 s3; clear hO5 hl5 hbr2 hbr5) | ((with_reducible refine (HCy.out W0.drew H0d.out).mono ?_); rintro e w3 ⟨qk, qna, qnn, qnc, qra, qrn, qrc, qka, qkn, qkc, L2, rfl, hO, hl, hb⟩; have HY3 : Hid (OwC w3 (d + 1) (.agg #[.int .i64 qk, .slice qna qnn qnc, .slice qra qrn qrc, .slice qka qkn qkc]) (nnfC false cy) L2) := hO; have HL3 : Hid (∀ x ∈ L2, x.1.block < w3.heap.size ∧ ((x.1.block < hi ∨ w.heap.size ≤ x.1.block) ∧ x.1.block ≠ w.heap.size + 1 + 1)) := hl; have H3 : Hid (Below W0.heap.size W0 w3) := H0d.out.trans hb; clear hO hb hl))) | fail
  all_goals
    go_wp2_with fail
    refine bodyPost_ret (v := .agg #[.int .i64 5, .slice none 0 0, .slice none 0 0, .slice (some ⟨w2.heap.size, 0, none⟩) 2 2]) (by simp [results, Try.results70, go_sem, s0, s1, s2, s3]) rfl ?_
    exact ⟨_, _, _, _, _, _, _, _, _, _, L5, rfl, HO6.out, HL6.out, HB6.out⟩
end

section
open Go.RowKit Go.Deep

theorem RowK.appS {B hi : Nat} {wr W w6 : World} {d : Nat} {u v'' : Value} {cs cs' : List CN} {Ls Ls' : List (List (Addr × IntKind))} {xs ys : List Value} (h : RowK B wr d u cs Ls xs) (hW : Below wr.heap.size wr W) (g : MemK W d cs' Ls' ys) (hx : ∀ x ∈ Ls'.flatten, x.1.block < hi ∨ wr.heap.size ≤ x.1.block) (hhi : hi ≤ B)
    (hown : w6.ownsRow B 53 4 v'' (cs.length + cs'.length) (xs ++ ys)) (hgrow : W.grownBy w6 u.ownBlock) (hat : v''.ownBlock = u.ownBlock ∨ v''.ownBlock = some W.heap.size) : RowK B w6 d v'' (cs ++ cs') (Ls ++ Ls') (xs ++ ys) := by
  have hlt := h.row.lt
  exact (h.below hW).app g (fun x hx' e => by have := hx x hx'; have := hlt _ e; omega) hown hgrow hat

set_option maxRecDepth 100000 in
set_option maxHeartbeats 8000000 in
theorem l3rules_any {a : Option Addr} {n cap : Nat} {xs : List AX} {dp : Nat} {w : World} {lo hi : Nat} (h : RdK lo hi w dp a n cap xs) (hhi : hi ≤ w.heap.size) (hOk : ∀ x ∈ xs, axOk x = true) (hn8 : n ≤ 8) :
    Calls Try.prog 32 #[.agg #[.slice a n cap]] w fun e w' => ∃ v Ls ys, e = .returned v ∧ RowK (w.heap.size + 1) w' (dp + 2) v (rulesK xs) Ls ys ∧ Below w.heap.size w w' := by
  obtain ⟨Wb, hWb⟩ : ∃ W0, W0 = w.alloc (.cells #[.slice a n cap] 31) := ⟨_, rfl⟩
  have HWb : Hid (Wb = w.alloc (.cells #[.slice a n cap] 31)) := hWb
  have hsb : w.heap.size < Wb.heap.size := by rw [hWb]; simp
  have HEb : Hid (Wb.heap.size = w.heap.size + 1) := by unfold Hid; rw [hWb]; simp
  have hb0 : Below w.heap.size w Wb := by rw [hWb]; exact (Below.refl _ _).alloc (Nat.le_refl _) _
  have HBb : Hid (Below w.heap.size w Wb) := hb0
  have HBx0 : Hid (Boxed Wb w.heap.size 31 (.slice a n cap)) := by unfold Hid; rw [hWb]; exact Boxed.new w _ _
  have HK : Hid (RdK lo hi Wb dp a n cap xs) := h.below hb0 hhi
  have HL : Hid (xs.length = n) := h.len
  have hf := h.fits
  have HOk : Hid (∀ x ∈ xs, axOk x = true) := hOk
  obtain ⟨i0, hi0, hz0, hz1, hz2⟩ := info_parts Try.infoCon4
  have z0 := HBx0.out.cell
  clear h hb0 hWb hOk
  go_enter Try.func32, Try.ntmps32
  go_wp2_with fail
  rw [← HWb.out]
  go_loopw [3, 4] (fun l i wr => ∃ (j : Nat) (ov : Value) (Ls : List (List (Addr × IntKind))) (ys : List Value), j ≤ n ∧ i = .int .i64 j ∧ ov = l ∧ RowK Wb.heap.size wr (dp + 2) ov (rulesK (xs.take j)) Ls ys ∧ Below Wb.heap.size Wb wr) (fun _ i _ => n - (intOf i).toNat)
  case atStart => exact ⟨0, _, [], [], Nat.zero_le _, rfl, rfl, RowK.nil _ _ _, Below.refl _ _⟩
  case round =>
    obtain ⟨j, ov, Ls, ys, hj, rfl, rfl, hO, hbel⟩ := hrel
    obtain ⟨m, hm⟩ : ∃ m, m = (rulesK (xs.take j)).length := ⟨_, rfl⟩
    have hm16 : m ≤ 16 := by rw [hm]; have := rulesK_len (xs.take j); rw [List.length_take] at this; omega
    obtain ⟨ua, ucap, ub, hu, _, _⟩ := hO.owL
    rw [← hm] at hu
    have HM : Hid (m = (rulesK (xs.take j)).length) := hm
    subst hu
    have HO : Hid (RowK Wb.heap.size wr (dp + 2) (.slice ua m ucap) (rulesK (xs.take j)) Ls ys) := hO
    have HUl : Hid (∀ g, (Value.slice ua m ucap).ownBlock = some g → g < wr.heap.size) := fun g hg => (hO.row.lt g hg).2
    have HB : Hid (Below Wb.heap.size Wb wr) := hbel
    have hsr := hbel.size
    have zr : wr.cell? ⟨w.heap.size, 0, none⟩ = some (.slice a n cap) := (hbel.cell (p := ⟨w.heap.size, 0, none⟩) hsb).trans z0
    by_cases hlt : j < n
    · have hjl : j < xs.length := by rw [HL.out]; exact hlt
      have hK := HK.out.below hbel (by omega)
      rcases hK.cells with hz | ⟨b, off, e1, hblo, hbhi, hc⟩
      · omega
      · subst e1
        obtain ⟨c0, c1, c2, c3, d0, d1, d2, d3, ra, rn, rc, sa, sn, sc, aa, an, ac, ba, bn, bc, q0, q1, q2, q3, q4, q5, q6, q7, q8, q9, q10, q11, q12, hrd⟩ := hc j hlt
        obtain ⟨k, xna, xnn, xnc, xra, xrn, xrc, xka, xkn, xkc, rfl, rfl, rfl, rfl⟩ := hrd.c.sh.form
        obtain ⟨l, yna, ynn, ync, yra, yrn, yrc, yka, ykn, ykc, rfl, rfl, rfl, rfl⟩ := hrd.d.sh.form
        have HSt : Hid (rulesK (xs.take (j + 1)) = rulesK (xs.take j) ++ rulesX (xs.getD j AX.zero)) := rulesK_take xs j hjl
        have hokx : axOk (xs.getD j AX.zero) = true := HOk.out _ (by rw [List.getD_eq_getElem?_getD, List.getElem?_eq_getElem hjl]; exact List.getElem_mem hjl)
        have hji : (j : Int) < (n : Int) := by omega
        obtain ⟨x, hx⟩ : ∃ x, x = xs.getD j AX.zero := ⟨_, rfl⟩
        rw [← hx] at hrd hokx HSt q0
        obtain ⟨kk, hkk⟩ : ∃ kk, kk = x.kind := ⟨_, rfl⟩
        rw [← hkk] at q0
        obtain ⟨W0, hW0⟩ : ∃ v0, v0 = wr.alloc (.cells #[.int .i64 kk, .int .i64 k, .slice xna xnn xnc, .slice xra xrn xrc, .slice xka xkn xkc, .int .i64 l, .slice yna ynn ync, .slice yra yrn yrc, .slice yka ykn ykc, .slice ra rn rc, .slice sa sn sc, .slice aa an ac, .slice ba bn bc] 70) := ⟨_, rfl⟩
        have HW0 : Hid (W0 = wr.alloc (.cells #[.int .i64 kk, .int .i64 k, .slice xna xnn xnc, .slice xra xrn xrc, .slice xka xkn xkc, .int .i64 l, .slice yna ynn ync, .slice yra yrn yrc, .slice yka ykn ykc, .slice ra rn rc, .slice sa sn sc, .slice aa an ac, .slice ba bn bc] 70)) := hW0
        have hb0 : Below wr.heap.size wr W0 := by rw [hW0]; exact (Below.refl _ _).alloc (Nat.le_refl _) _
        have HB0 : Hid (Below wr.heap.size wr W0) := hb0
        have hs0 : wr.heap.size < W0.heap.size := by rw [hW0]; simp
        have hbA : BoxA 70 W0 wr.heap.size kk (.int .i64 k) (.slice xna xnn xnc) (.slice xra xrn xrc) (.slice xka xkn xkc) (.int .i64 l) (.slice yna ynn ync) (.slice yra yrn yrc) (.slice yka ykn ykc) (.slice ra rn rc) (.slice sa sn sc) (.slice aa an ac) (.slice ba bn bc) := by rw [hW0]; exact BoxA.new _ wr _ _ _ _ _ _ _ _ _ _ _ _ _
        have H0d : Hid (Below W0.heap.size W0 W0.drew) := (Below.refl _ _).drew
        have hrd0 := hrd.below hb0 (by omega)
        have HOwn : Hid (∀ W, Below W0.heap.size W0 W → W.ownsRow Wb.heap.size 53 4 (.slice ua m ucap) m ys) := fun W hW => by
          have := (HO.out.below (hb0.trans (hW.mono hb0.size))).row
          rw [← HM.out] at this
          exact this
        have HFin : Hid (∀ {W w6 : World} {v' : Value} {cs' : List CN} {Lx : List (List (Addr × IntKind))} {yx : List Value}, Below W0.heap.size W0 W → MemK W (dp + 2) cs' Lx yx → (∀ x ∈ Lx.flatten, x.1.block < hi ∨ W0.heap.size ≤ x.1.block) → rulesX x = cs' → w6.ownsRow Wb.heap.size 53 4 v' (m + cs'.length) (ys ++ yx) → W.grownBy w6 (Value.slice ua m ucap).ownBlock → (v'.ownBlock = (Value.slice ua m ucap).ownBlock ∨ v'.ownBlock = some W.heap.size) → RowK Wb.heap.size w6 (dp + 2) v' (rulesK (xs.take (j + 1))) (Ls ++ Lx) (ys ++ yx) ∧ Below Wb.heap.size Wb w6) := by
          intro W w6 v' cs' Lx yx hW hmem hpr he hown hgrow hat
          have hW' := hb0.trans (hW.mono hb0.size)
          refine ⟨?_, (hbel.trans (hW'.mono hsr)).grown hgrow (by have := hW'.size; omega) (fun g hg => (hO.row.lt g hg).1)⟩
          rw [HSt.out, he]
          exact RowK.appS (hi := hi) HO.out hW' hmem (fun x hx => by have := hpr x hx; omega) (by omega) (by rw [← HM.out]; exact hown) hgrow hat
        by_cases hcd : kk = 0 ∨ kk = 1 ∨ kk = 2
        · obtain ⟨okc, okd⟩ := ok_cd hokx (by rw [← hkk]; exact hcd)
          have bc' := bulk_of_ok okc
          have bd' := bulk_of_ok okd
          have wc' := wfC_of_ok okc
          have wd' := wfC_of_ok okd
          have HRd : Hid (∀ V, Below W0.heap.size W0 V → RdC lo hi V dp (.agg #[.int .i64 k, .slice xna xnn xnc, .slice xra xrn xrc, .slice xka xkn xkc]) x.c ∧ RdC lo hi V dp (.agg #[.int .i64 l, .slice yna ynn ync, .slice yra yrn yrc, .slice yka ykn ykc]) x.d ∧ hi ≤ V.heap.size) := fun V hV => ⟨hrd0.c.below hV (by omega), hrd0.d.below hV (by omega), by have := hV.size; omega⟩
          have HUx : Hid (∀ V, Below W0.heap.size W0 V → Calls Try.prog 70 #[.agg #[.int .i64 k, .slice xna xnn xnc, .slice xra xrn xrc, .slice xka xkn xkc], .agg #[.int .i64 l, .slice yna ynn ync, .slice yra yrn yrc, .slice yka ykn ykc]] V fun e w' => ∃ zk zna znn znc zra zrn zrc zka zkn zkc L, e = .returned (.agg #[.int .i64 zk, .slice zna znn znc, .slice zra zrn zrc, .slice zka zkn zkc]) ∧ OwC w' (dp + 2) (.agg #[.int .i64 zk, .slice zna znn znc, .slice zra zrn zrc, .slice zka zkn zkc]) (orC (nnfC true x.c) (nnfC false x.d)) L ∧ (∀ x ∈ L, x.1.block < w'.heap.size ∧ (x.1.block < hi ∨ W0.heap.size ≤ x.1.block)) ∧ Below V.heap.size V w') := fun V hV => (l3rule_any (HRd.out V hV).1 (HRd.out V hV).2.1 (HRd.out V hV).2.2 (by omega) (by omega) wc' wd').mono fun e w' ⟨zk, zna, znn, znc, zra, zrn, zrc, zka, zkn, zkc, L, he, hO, hl, hb⟩ => ⟨_, _, _, _, _, _, _, _, _, _, L, he, hO, fun x hx => ⟨(hl x hx).1, by have := hV.size; have := (hl x hx).2; omega⟩, hb⟩
          have HUy : Hid (∀ V, Below W0.heap.size W0 V → Calls Try.prog 70 #[.agg #[.int .i64 l, .slice yna ynn ync, .slice yra yrn yrc, .slice yka ykn ykc], .agg #[.int .i64 k, .slice xna xnn xnc, .slice xra xrn xrc, .slice xka xkn xkc]] V fun e w' => ∃ zk zna znn znc zra zrn zrc zka zkn zkc L, e = .returned (.agg #[.int .i64 zk, .slice zna znn znc, .slice zra zrn zrc, .slice zka zkn zkc]) ∧ OwC w' (dp + 2) (.agg #[.int .i64 zk, .slice zna znn znc, .slice zra zrn zrc, .slice zka zkn zkc]) (orC (nnfC true x.d) (nnfC false x.c)) L ∧ (∀ x ∈ L, x.1.block < w'.heap.size ∧ (x.1.block < hi ∨ W0.heap.size ≤ x.1.block)) ∧ Below V.heap.size V w') := fun V hV => (l3rule_any (HRd.out V hV).2.1 (HRd.out V hV).1 (HRd.out V hV).2.2 (by omega) (by omega) wd' wc').mono fun e w' ⟨zk, zna, znn, znc, zra, zrn, zrc, zka, zkn, zkc, L, he, hO, hl, hb⟩ => ⟨_, _, _, _, _, _, _, _, _, _, L, he, hO, fun x hx => ⟨(hl x hx).1, by have := hV.size; have := (hl x hx).2; omega⟩, hb⟩
          have HNx : Hid (∀ V, Below W0.heap.size W0 V → Calls Try.prog 71 #[.agg #[.int .i64 k, .slice xna xnn xnc, .slice xra xrn xrc, .slice xka xkn xkc], .bool true] V fun e w' => ∃ zk zna znn znc zra zrn zrc zka zkn zkc L, e = .returned (.agg #[.int .i64 zk, .slice zna znn znc, .slice zra zrn zrc, .slice zka zkn zkc]) ∧ OwC w' (dp + 1) (.agg #[.int .i64 zk, .slice zna znn znc, .slice zra zrn zrc, .slice zka zkn zkc]) (nnfC true x.c) L ∧ (∀ x ∈ L, x.1.block < w'.heap.size ∧ (x.1.block < hi ∨ W0.heap.size ≤ x.1.block)) ∧ Below V.heap.size V w') := fun V hV => (nfP_any dp _ x.c true V lo hi (HRd.out V hV).1 (HRd.out V hV).2.2 (by omega) wc').mono fun e w' ⟨v, L, he, hO, hl, hb⟩ => by
            obtain ⟨zna, znn, znc, zra, zrn, zrc, zka, zkn, zkc, rfl⟩ := hO.agg
            exact ⟨_, _, _, _, _, _, _, _, _, _, L, he, hO, fun x hx => ⟨(hl x hx).2, by have := hV.size; have := (hl x hx).1; omega⟩, hb⟩
          have HNy : Hid (∀ V, Below W0.heap.size W0 V → Calls Try.prog 71 #[.agg #[.int .i64 l, .slice yna ynn ync, .slice yra yrn yrc, .slice yka ykn ykc], .bool true] V fun e w' => ∃ zk zna znn znc zra zrn zrc zka zkn zkc L, e = .returned (.agg #[.int .i64 zk, .slice zna znn znc, .slice zra zrn zrc, .slice zka zkn zkc]) ∧ OwC w' (dp + 1) (.agg #[.int .i64 zk, .slice zna znn znc, .slice zra zrn zrc, .slice zka zkn zkc]) (nnfC true x.d) L ∧ (∀ x ∈ L, x.1.block < w'.heap.size ∧ (x.1.block < hi ∨ W0.heap.size ≤ x.1.block)) ∧ Below V.heap.size V w') := fun V hV => (nfP_any dp _ x.d true V lo hi (HRd.out V hV).2.1 (HRd.out V hV).2.2 (by omega) wd').mono fun e w' ⟨v, L, he, hO, hl, hb⟩ => by
            obtain ⟨zna, znn, znc, zra, zrn, zrc, zka, zkn, zkc, rfl⟩ := hO.agg
            exact ⟨_, _, _, _, _, _, _, _, _, _, L, he, hO, fun x hx => ⟨(hl x hx).2, by have := hV.size; have := (hl x hx).1; omega⟩, hb⟩
          rcases hcd with e0 | e1 | e2
          · have HE : Hid (rulesX x = [orC (nnfC true x.c) (nnfC false x.d)]) := by unfold Hid rulesX; rw [if_pos (by rw [← hkk]; exact e0)]
            subst e0
            obtain ⟨m0, m1, m2, m3, m4, m5, m6, m7, m8, m9, m10, m11, m12⟩ := hbA.cells
            clear hK hc hrd hrd0 hO hbel hx hkk hokx hW0 hb0 hbA hm HUy HNx HNy okc okd bc' bd' wc' wd' HRd
            go_wp2_with fail
            rw [← HW0.out]
            refine (HUx.out W0 (Below.refl _ _)).mono ?_
            rintro e w2 ⟨pk, pna, pnn, pnc, pra, prn, prc, pka, pkn, pkc, L1, rfl, hO, hl, hb⟩
            have HMp : Hid (MemK (w2.alloc (.cells #[.int .i64 pk, .slice pna pnn pnc, .slice pra prn prc, .slice pka pkn pkc] 53)) (dp + 2) [orC (nnfC true x.c) (nnfC false x.d)] [L1] [.int .i64 pk, .slice pna pnn pnc, .slice pra prn prc, .slice pka pkn pkc]) := MemK.below (MemK.one hO (fun x hx => (hl x hx).1)) ((Below.refl _ _).alloc (Nat.le_refl _) _)
            have HPr : Hid (∀ x ∈ [L1].flatten, x.1.block < hi ∨ W0.heap.size ≤ x.1.block) := fun x hx => (hl x (by simpa using hx)).2
            have H5 : Hid (Below W0.heap.size W0 (w2.alloc (.cells #[.int .i64 pk, .slice pna pnn pnc, .slice pra prn prc, .slice pka pkn pkc] 53))) := Below.alloc hb hb.size _
            have hs5 : Wb.heap.size ≤ (w2.alloc (.cells #[.int .i64 pk, .slice pna pnn pnc, .slice pra prn prc, .slice pka pkn pkc] 53)).heap.size := by have := H5.out.size; omega
            clear hO hl hb q0 q1 q2 q3 q4 q5 q6 q7 q8 q9 q10 q11 q12 m0 m1 m2 m3 m4 m5 m6 m7 m8 m9 m10 m11 m12
            go_wp2_with (at_builtin; refine wpList_append_own_at _ rfl (.tmp 22) (.tmp 28) 26 rfl Wb.heap.size 53 i0 (.agg #[.int .i64 0, .slice none 0 0, .slice none 0 0, .slice none 0 0]) 4 80 Try.underlying26 hi0 hz0 hz1 hz2 rfl (by decide) (.slice ua m ucap) m ys rfl (HOwn.out _ H5.out) ⟨w2.heap.size, 0, none⟩ 1 1 [.int .i64 pk, .slice pna pnn pnc, .slice pra prn prc, .slice pka pkn pkc] rfl rfl (new4 _ _ _ _ _ _ _ rfl) (one4 _ _ _ _ _ _ _ _ _ _) (by unfold maxLen; omega) (by omega) hs5 ?_; intro v' w6 hown hgrow hnil hat; have HN : Hid (RowK Wb.heap.size w6 (dp + 2) v' (rulesK (xs.take (j + 1))) (Ls ++ [L1]) (ys ++ [.int .i64 pk, .slice pna pnn pnc, .slice pra prn prc, .slice pka pkn pkc]) ∧ Below Wb.heap.size Wb w6) := HFin.out H5.out HMp.out HPr.out HE.out hown hgrow hat; clear hown hgrow hnil hat)
            go_roundw
            case rel => exact ⟨j + 1, _, _, _, by omega, by go_num, rfl, HN.out⟩
            case measure => simp [intOf]; omega
          · have HE : Hid (rulesX x = [orC (nnfC true x.c) (nnfC false x.d), orC (nnfC true x.d) (nnfC false x.c)]) := by unfold Hid rulesX; rw [if_neg (by rw [← hkk, e1]; decide), if_pos (by rw [← hkk]; exact e1)]
            subst e1
            have HSat : Hid (∀ V, Below W0.heap.size W0 V → V.cell? ⟨wr.heap.size, 0, none⟩ = some (.int .i64 1) ∧ V.cell? ⟨wr.heap.size, 1, none⟩ = some (.int .i64 k) ∧ V.cell? ⟨wr.heap.size, 2, none⟩ = some (.slice xna xnn xnc) ∧ V.cell? ⟨wr.heap.size, 3, none⟩ = some (.slice xra xrn xrc) ∧ V.cell? ⟨wr.heap.size, 4, none⟩ = some (.slice xka xkn xkc) ∧ V.cell? ⟨wr.heap.size, 5, none⟩ = some (.int .i64 l) ∧ V.cell? ⟨wr.heap.size, 6, none⟩ = some (.slice yna ynn ync) ∧ V.cell? ⟨wr.heap.size, 7, none⟩ = some (.slice yra yrn yrc) ∧ V.cell? ⟨wr.heap.size, 8, none⟩ = some (.slice yka ykn ykc) ∧ V.cell? ⟨wr.heap.size, 9, none⟩ = some (.slice ra rn rc) ∧ V.cell? ⟨wr.heap.size, 10, none⟩ = some (.slice sa sn sc) ∧ V.cell? ⟨wr.heap.size, 11, none⟩ = some (.slice aa an ac) ∧ V.cell? ⟨wr.heap.size, 12, none⟩ = some (.slice ba bn bc)) := fun V hV => (hbA.below hV hs0).cells
            have HBA : Hid (BoxA 70 W0 wr.heap.size 1 (.int .i64 k) (.slice xna xnn xnc) (.slice xra xrn xrc) (.slice xka xkn xkc) (.int .i64 l) (.slice yna ynn ync) (.slice yra yrn yrc) (.slice yka ykn ykc) (.slice ra rn rc) (.slice sa sn sc) (.slice aa an ac) (.slice ba bn bc)) := hbA
            obtain ⟨m0, m1, m2, m3, m4, m5, m6, m7, m8, m9, m10, m11, m12⟩ := hbA.cells
            clear hK hc hrd hrd0 hO hbel hx hkk hokx hW0 hb0 hbA hm HNx HNy okc okd bc' bd' wc' wd' HRd
            go_upto_region 6 with fail
            rw [← HW0.out]
            clear q0 q1 q2 q3 q4 q5 q6 q7 q8 q9 q10 q11 q12 zr
            go_upto_region 10 with fail
            first | go_region_held3 (fun V => V.cell? ⟨wr.heap.size, 0, none⟩ = some (.int .i64 1) ∧ V.cell? ⟨wr.heap.size, 1, none⟩ = some (.int .i64 k) ∧ V.cell? ⟨wr.heap.size, 2, none⟩ = some (.slice xna xnn xnc) ∧ V.cell? ⟨wr.heap.size, 3, none⟩ = some (.slice xra xrn xrc) ∧ V.cell? ⟨wr.heap.size, 4, none⟩ = some (.slice xka xkn xkc) ∧ V.cell? ⟨wr.heap.size, 5, none⟩ = some (.int .i64 l) ∧ V.cell? ⟨wr.heap.size, 6, none⟩ = some (.slice yna ynn ync) ∧ V.cell? ⟨wr.heap.size, 7, none⟩ = some (.slice yra yrn yrc) ∧ V.cell? ⟨wr.heap.size, 8, none⟩ = some (.slice yka ykn ykc) ∧ V.cell? ⟨wr.heap.size, 9, none⟩ = some (.slice ra rn rc) ∧ V.cell? ⟨wr.heap.size, 10, none⟩ = some (.slice sa sn sc) ∧ V.cell? ⟨wr.heap.size, 11, none⟩ = some (.slice aa an ac) ∧ V.cell? ⟨wr.heap.size, 12, none⟩ = some (.slice ba bn bc)) (first | with_reducible exact HS6.out | with_reducible exact HSat.out _ H6.out | with_reducible exact HSat.out _ H5.out | with_reducible exact HSat.out _ H2.out | with_reducible exact HSat.out _ H1.out | with_reducible exact HSat.out _ H3.out | with_reducible exact HSat.out _ H0d.out) (first | (go_at_call 70; first | ((with_reducible refine (HUx.out W0.drew H0d.out).mono ?_); rintro e w1 ⟨pk, pna, pnn, pnc, pra, prn, prc, pka, pkn, pkc, L1, rfl, hO, hl, hb⟩; have HX1 : Hid (OwC w1 (dp + 2) (.agg #[.int .i64 pk, .slice pna pnn pnc, .slice pra prn prc, .slice pka pkn pkc]) (orC (nnfC true x.c) (nnfC false x.d)) L1) := hO; have HL1 : Hid (∀ x ∈ L1, x.1.block < w1.heap.size ∧ (x.1.block < hi ∨ W0.heap.size ≤ x.1.block)) := hl; have H1 : Hid (Below W0.heap.size W0 w1) := H0d.out.trans hb; clear hO hb hl) | ((with_reducible refine (HUx.out w3 H3.out).mono ?_); rintro e w2 ⟨pk, pna, pnn, pnc, pra, prn, prc, pka, pkn, pkc, L1, rfl, hO, hl, hb⟩; have HX2 : Hid (OwC w2 (dp + 2) (.agg #[.int .i64 pk, .slice pna pnn pnc, .slice pra prn prc, .slice pka pkn pkc]) (orC (nnfC true x.c) (nnfC false x.d)) L1) := hO; have HL1 : Hid (∀ x ∈ L1, x.1.block < w2.heap.size ∧ (x.1.block < hi ∨ W0.heap.size ≤ x.1.block)) := hl; have HY2 : Hid (OwC w2 (dp + 2) (.agg #[.int .i64 qk, .slice qna qnn qnc, .slice qra qrn qrc, .slice qka qkn qkc]) (orC (nnfC true x.d) (nnfC false x.c)) L2) := HY3.out.below hb (fun x hx => (HL3.out x hx).1); have HL2 : Hid (∀ x ∈ L2, x.1.block < w2.heap.size ∧ (x.1.block < hi ∨ W0.heap.size ≤ x.1.block)) := (fun x hx => ⟨Nat.lt_of_lt_of_le (HL3.out x hx).1 hb.size, (HL3.out x hx).2⟩); have H2 : Hid (Below W0.heap.size W0 w2) := H3.out.trans (hb.mono H3.out.size); clear hO hb hl; have H5 : Hid (Below W0.heap.size W0 (w2.alloc (.cells #[.int .i64 pk, .slice pna pnn pnc, .slice pra prn prc, .slice pka pkn pkc, .int .i64 qk, .slice qna qnn qnc, .slice qra qrn qrc, .slice qka qkn qkc] 53))) := H2.out.alloc H2.out.size _; have HM5 : Hid (RowK 0 (w2.alloc (.cells #[.int .i64 pk, .slice pna pnn pnc, .slice pra prn prc, .slice pka pkn pkc, .int .i64 qk, .slice qna qnn qnc, .slice qra qrn qrc, .slice qka qkn qkc] 53)) (dp + 2) (.slice (some ⟨w2.heap.size, 0, none⟩) 2 2) [orC (nnfC true x.c) (nnfC false x.d), orC (nnfC true x.d) (nnfC false x.c)] [L1, L2] [.int .i64 pk, .slice pna pnn pnc, .slice pra prn prc, .slice pka pkn pkc, .int .i64 qk, .slice qna qnn qnc, .slice qra qrn qrc, .slice qka qkn qkc]) := RowK.two (MemK.two HX2.out HY2.out (fun x hx => (HL1.out x hx).1) (fun x hx => (HL2.out x hx).1)) 0 (Nat.zero_le _); have HPr : Hid (∀ x ∈ [L1, L2].flatten, x.1.block < hi ∨ W0.heap.size ≤ x.1.block) := (fun x hx => by simp only [List.flatten_cons, List.flatten_nil, List.append_nil, List.mem_append] at hx; rcases hx with hx | hx; exact (HL1.out x hx).2; exact (HL2.out x hx).2); have HSz : Hid (Wb.heap.size ≤ (w2.alloc (.cells #[.int .i64 pk, .slice pna pnn pnc, .slice pra prn prc, .slice pka pkn pkc, .int .i64 qk, .slice qna qnn qnc, .slice qra qrn qrc, .slice qka qkn qkc] 53)).heap.size) := (by have := H5.out.size; unfold Hid; omega)) | ((with_reducible refine (HUy.out w1 H1.out).mono ?_); rintro e w2 ⟨qk, qna, qnn, qnc, qra, qrn, qrc, qka, qkn, qkc, L2, rfl, hO, hl, hb⟩; have HY2 : Hid (OwC w2 (dp + 2) (.agg #[.int .i64 qk, .slice qna qnn qnc, .slice qra qrn qrc, .slice qka qkn qkc]) (orC (nnfC true x.d) (nnfC false x.c)) L2) := hO; have HL2 : Hid (∀ x ∈ L2, x.1.block < w2.heap.size ∧ (x.1.block < hi ∨ W0.heap.size ≤ x.1.block)) := hl; have HX2 : Hid (OwC w2 (dp + 2) (.agg #[.int .i64 pk, .slice pna pnn pnc, .slice pra prn prc, .slice pka pkn pkc]) (orC (nnfC true x.c) (nnfC false x.d)) L1) := HX1.out.below hb (fun x hx => (HL1.out x hx).1); have HL1b : Hid (∀ x ∈ L1, x.1.block < w2.heap.size ∧ (x.1.block < hi ∨ W0.heap.size ≤ x.1.block)) := (fun x hx => ⟨Nat.lt_of_lt_of_le (HL1.out x hx).1 hb.size, (HL1.out x hx).2⟩); clear HL1; have HL1 : Hid (∀ x ∈ L1, x.1.block < w2.heap.size ∧ (x.1.block < hi ∨ W0.heap.size ≤ x.1.block)) := HL1b.out; have H2 : Hid (Below W0.heap.size W0 w2) := H1.out.trans (hb.mono H1.out.size); clear hO hb hl HL1b; have H5 : Hid (Below W0.heap.size W0 (w2.alloc (.cells #[.int .i64 pk, .slice pna pnn pnc, .slice pra prn prc, .slice pka pkn pkc, .int .i64 qk, .slice qna qnn qnc, .slice qra qrn qrc, .slice qka qkn qkc] 53))) := H2.out.alloc H2.out.size _; have HM5 : Hid (RowK 0 (w2.alloc (.cells #[.int .i64 pk, .slice pna pnn pnc, .slice pra prn prc, .slice pka pkn pkc, .int .i64 qk, .slice qna qnn qnc, .slice qra qrn qrc, .slice qka qkn qkc] 53)) (dp + 2) (.slice (some ⟨w2.heap.size, 0, none⟩) 2 2) [orC (nnfC true x.c) (nnfC false x.d), orC (nnfC true x.d) (nnfC false x.c)] [L1, L2] [.int .i64 pk, .slice pna pnn pnc, .slice pra prn prc, .slice pka pkn pkc, .int .i64 qk, .slice qna qnn qnc, .slice qra qrn qrc, .slice qka qkn qkc]) := RowK.two (MemK.two HX2.out HY2.out (fun x hx => (HL1.out x hx).1) (fun x hx => (HL2.out x hx).1)) 0 (Nat.zero_le _); have HPr : Hid (∀ x ∈ [L1, L2].flatten, x.1.block < hi ∨ W0.heap.size ≤ x.1.block) := (fun x hx => by simp only [List.flatten_cons, List.flatten_nil, List.append_nil, List.mem_append] at hx; rcases hx with hx | hx; exact (HL1.out x hx).2; exact (HL2.out x hx).2); have HSz : Hid (Wb.heap.size ≤ (w2.alloc (.cells #[.int .i64 pk, .slice pna pnn pnc, .slice pra prn prc, .slice pka pkn pkc, .int .i64 qk, .slice qna qnn qnc, .slice qra qrn qrc, .slice qka qkn qkc] 53)).heap.size) := (by have := H5.out.size; unfold Hid; omega)) | ((with_reducible refine (HUy.out W0.drew H0d.out).mono ?_); rintro e w3 ⟨qk, qna, qnn, qnc, qra, qrn, qrc, qka, qkn, qkc, L2, rfl, hO, hl, hb⟩; have HY3 : Hid (OwC w3 (dp + 2) (.agg #[.int .i64 qk, .slice qna qnn qnc, .slice qra qrn qrc, .slice qka qkn qkc]) (orC (nnfC true x.d) (nnfC false x.c)) L2) := hO; have HL3 : Hid (∀ x ∈ L2, x.1.block < w3.heap.size ∧ (x.1.block < hi ∨ W0.heap.size ≤ x.1.block)) := hl; have H3 : Hid (Below W0.heap.size W0 w3) := H0d.out.trans hb; clear hO hb hl)) | (refine step_append_lies _ rfl (.tmp 32) (.tmp 43) 26 rfl Wb.heap.size 53 i0 (.agg #[.int .i64 0, .slice none 0 0, .slice none 0 0, .slice none 0 0]) 4 80 Try.underlying26 hi0 hz0 hz1 hz2 rfl (by decide) (.slice ua m ucap) m ys (by simp [Act.eval]) (HOwn.out _ H5.out) ⟨w2.heap.size, 0, none⟩ 2 2 [.int .i64 pk, .slice pna pnn pnc, .slice pra prn prc, .slice pka pkn pkc, .int .i64 qk, .slice qna qnn qnc, .slice qra qrn qrc, .slice qka qkn qkc] (by simp [Act.eval]) rfl (HM5.out.row.cells (g := w2.heap.size) rfl) HM5.out.mem.cell1 (by decide) (by unfold maxLen; omega) (by omega) HSz.out _ rfl ?_; intro g cap' w6 hown hgrow hat hlt6; have HN : Hid (RowK Wb.heap.size w6 (dp + 2) (.slice (some ⟨g, 0, none⟩) (m + 2) cap') (rulesK (xs.take (j + 1))) (Ls ++ [L1, L2]) (ys ++ [.int .i64 pk, .slice pna pnn pnc, .slice pra prn prc, .slice pka pkn pkc, .int .i64 qk, .slice qna qnn qnc, .slice qra qrn qrc, .slice qka qkn qkc]) ∧ Below Wb.heap.size Wb w6) := HFin.out H5.out HM5.out.mem HPr.out HE.out hown hgrow (hat.elim (fun e => .inl e.symm) (fun e => .inr (by rw [e]; rfl))); have HS6 : Hid (w6.cell? ⟨wr.heap.size, 0, none⟩ = some (.int .i64 1) ∧ w6.cell? ⟨wr.heap.size, 1, none⟩ = some (.int .i64 k) ∧ w6.cell? ⟨wr.heap.size, 2, none⟩ = some (.slice xna xnn xnc) ∧ w6.cell? ⟨wr.heap.size, 3, none⟩ = some (.slice xra xrn xrc) ∧ w6.cell? ⟨wr.heap.size, 4, none⟩ = some (.slice xka xkn xkc) ∧ w6.cell? ⟨wr.heap.size, 5, none⟩ = some (.int .i64 l) ∧ w6.cell? ⟨wr.heap.size, 6, none⟩ = some (.slice yna ynn ync) ∧ w6.cell? ⟨wr.heap.size, 7, none⟩ = some (.slice yra yrn yrc) ∧ w6.cell? ⟨wr.heap.size, 8, none⟩ = some (.slice yka ykn ykc) ∧ w6.cell? ⟨wr.heap.size, 9, none⟩ = some (.slice ra rn rc) ∧ w6.cell? ⟨wr.heap.size, 10, none⟩ = some (.slice sa sn sc) ∧ w6.cell? ⟨wr.heap.size, 11, none⟩ = some (.slice aa an ac) ∧ w6.cell? ⟨wr.heap.size, 12, none⟩ = some (.slice ba bn bc)) := BoxA.cells ((hgrow.block _ (Nat.lt_of_lt_of_le hs0 (Below.size H5.out)) (fun e => by have := HUl.out _ e.symm; omega)).trans (HBA.out.below H5.out hs0)); clear hown hgrow hat hlt6)) | fail
            all_goals
              go_wp2_with fail
              go_roundw
              case rel => exact ⟨j + 1, _, _, _, by omega, by go_num, rfl, HN.out⟩
              case measure => simp [intOf]; omega
          · have HE : Hid (rulesX x = [orC (nnfC true x.c) (nnfC true x.d)]) := by unfold Hid rulesX; rw [if_neg (by rw [← hkk, e2]; decide), if_neg (by rw [← hkk, e2]; decide), if_pos (by rw [← hkk]; exact e2)]
            subst e2
            have HSat : Hid (∀ V, Below W0.heap.size W0 V → V.cell? ⟨wr.heap.size, 0, none⟩ = some (.int .i64 2) ∧ V.cell? ⟨wr.heap.size, 1, none⟩ = some (.int .i64 k) ∧ V.cell? ⟨wr.heap.size, 2, none⟩ = some (.slice xna xnn xnc) ∧ V.cell? ⟨wr.heap.size, 3, none⟩ = some (.slice xra xrn xrc) ∧ V.cell? ⟨wr.heap.size, 4, none⟩ = some (.slice xka xkn xkc) ∧ V.cell? ⟨wr.heap.size, 5, none⟩ = some (.int .i64 l) ∧ V.cell? ⟨wr.heap.size, 6, none⟩ = some (.slice yna ynn ync) ∧ V.cell? ⟨wr.heap.size, 7, none⟩ = some (.slice yra yrn yrc) ∧ V.cell? ⟨wr.heap.size, 8, none⟩ = some (.slice yka ykn ykc) ∧ V.cell? ⟨wr.heap.size, 9, none⟩ = some (.slice ra rn rc) ∧ V.cell? ⟨wr.heap.size, 10, none⟩ = some (.slice sa sn sc) ∧ V.cell? ⟨wr.heap.size, 11, none⟩ = some (.slice aa an ac) ∧ V.cell? ⟨wr.heap.size, 12, none⟩ = some (.slice ba bn bc)) := fun V hV => (hbA.below hV hs0).cells
            have HBA : Hid (BoxA 70 W0 wr.heap.size 2 (.int .i64 k) (.slice xna xnn xnc) (.slice xra xrn xrc) (.slice xka xkn xkc) (.int .i64 l) (.slice yna ynn ync) (.slice yra yrn yrc) (.slice yka ykn ykc) (.slice ra rn rc) (.slice sa sn sc) (.slice aa an ac) (.slice ba bn bc)) := hbA
            obtain ⟨m0, m1, m2, m3, m4, m5, m6, m7, m8, m9, m10, m11, m12⟩ := hbA.cells
            clear hK hc hrd hrd0 hO hbel hx hkk hokx hW0 hb0 hbA hm HUx HUy okc okd bc' bd' wc' wd' HRd
            go_upto_region 6 with fail
            rw [← HW0.out]
            clear q0 q1 q2 q3 q4 q5 q6 q7 q8 q9 q10 q11 q12 zr
            go_upto_region 12 with fail
            first | go_region_held3 (fun V => V.cell? ⟨wr.heap.size, 0, none⟩ = some (.int .i64 2) ∧ V.cell? ⟨wr.heap.size, 1, none⟩ = some (.int .i64 k) ∧ V.cell? ⟨wr.heap.size, 2, none⟩ = some (.slice xna xnn xnc) ∧ V.cell? ⟨wr.heap.size, 3, none⟩ = some (.slice xra xrn xrc) ∧ V.cell? ⟨wr.heap.size, 4, none⟩ = some (.slice xka xkn xkc) ∧ V.cell? ⟨wr.heap.size, 5, none⟩ = some (.int .i64 l) ∧ V.cell? ⟨wr.heap.size, 6, none⟩ = some (.slice yna ynn ync) ∧ V.cell? ⟨wr.heap.size, 7, none⟩ = some (.slice yra yrn yrc) ∧ V.cell? ⟨wr.heap.size, 8, none⟩ = some (.slice yka ykn ykc) ∧ V.cell? ⟨wr.heap.size, 9, none⟩ = some (.slice ra rn rc) ∧ V.cell? ⟨wr.heap.size, 10, none⟩ = some (.slice sa sn sc) ∧ V.cell? ⟨wr.heap.size, 11, none⟩ = some (.slice aa an ac) ∧ V.cell? ⟨wr.heap.size, 12, none⟩ = some (.slice ba bn bc)) (first | with_reducible exact HS6.out | with_reducible exact HSat.out _ H6.out | with_reducible exact HSat.out _ H5.out | with_reducible exact HSat.out _ H2.out | with_reducible exact HSat.out _ H1.out | with_reducible exact HSat.out _ H3.out | with_reducible exact HSat.out _ H0d.out) (first | (go_at_call 71; first | ((with_reducible refine (HNx.out W0.drew H0d.out).mono ?_); rintro e w1 ⟨pk, pna, pnn, pnc, pra, prn, prc, pka, pkn, pkc, L1, rfl, hO, hl, hb⟩; have HX1 : Hid (OwC w1 (dp + 1) (.agg #[.int .i64 pk, .slice pna pnn pnc, .slice pra prn prc, .slice pka pkn pkc]) (nnfC true x.c) L1) := hO; have HL1 : Hid (∀ x ∈ L1, x.1.block < w1.heap.size ∧ (x.1.block < hi ∨ W0.heap.size ≤ x.1.block)) := hl; have H1 : Hid (Below W0.heap.size W0 w1) := H0d.out.trans hb; clear hO hb hl) | ((with_reducible refine (HNx.out w3 H3.out).mono ?_); rintro e w2 ⟨pk, pna, pnn, pnc, pra, prn, prc, pka, pkn, pkc, L1, rfl, hO, hl, hb⟩; have HX2 : Hid (OwC w2 (dp + 1) (.agg #[.int .i64 pk, .slice pna pnn pnc, .slice pra prn prc, .slice pka pkn pkc]) (nnfC true x.c) L1) := hO; have HL1 : Hid (∀ x ∈ L1, x.1.block < w2.heap.size ∧ (x.1.block < hi ∨ W0.heap.size ≤ x.1.block)) := hl; have HY2 : Hid (OwC w2 (dp + 1) (.agg #[.int .i64 qk, .slice qna qnn qnc, .slice qra qrn qrc, .slice qka qkn qkc]) (nnfC true x.d) L2) := HY3.out.below hb (fun x hx => (HL3.out x hx).1); have HL2 : Hid (∀ x ∈ L2, x.1.block < w2.heap.size ∧ (x.1.block < hi ∨ W0.heap.size ≤ x.1.block)) := (fun x hx => ⟨Nat.lt_of_lt_of_le (HL3.out x hx).1 hb.size, (HL3.out x hx).2⟩); have H2 : Hid (Below W0.heap.size W0 w2) := H3.out.trans (hb.mono H3.out.size); clear hO hb hl; obtain ⟨L5, hO5, hl5⟩ := orOfS (fun b => b < hi ∨ W0.heap.size ≤ b) HX2.out HY2.out HL1.out HL2.out (.inr H2.out.size); have H5 : Hid (Below W0.heap.size W0 (w2.alloc (.cells #[.int .i64 pk, .slice pna pnn pnc, .slice pra prn prc, .slice pka pkn pkc, .int .i64 qk, .slice qna qnn qnc, .slice qra qrn qrc, .slice qka qkn qkc] 53))) := H2.out.alloc H2.out.size _; have H6 : Hid (Below W0.heap.size W0 ((w2.alloc (.cells #[.int .i64 pk, .slice pna pnn pnc, .slice pra prn prc, .slice pka pkn pkc, .int .i64 qk, .slice qna qnn qnc, .slice qra qrn qrc, .slice qka qkn qkc] 53)).alloc (.cells #[.int .i64 5, .slice none 0 0, .slice none 0 0, .slice (some ⟨w2.heap.size, 0, none⟩) 2 2] 53))) := H5.out.alloc H5.out.size _; have HM6 : Hid (MemK ((w2.alloc (.cells #[.int .i64 pk, .slice pna pnn pnc, .slice pra prn prc, .slice pka pkn pkc, .int .i64 qk, .slice qna qnn qnc, .slice qra qrn qrc, .slice qka qkn qkc] 53)).alloc (.cells #[.int .i64 5, .slice none 0 0, .slice none 0 0, .slice (some ⟨w2.heap.size, 0, none⟩) 2 2] 53)) (dp + 2) [orC (nnfC true x.c) (nnfC true x.d)] [L5] [.int .i64 5, .slice none 0 0, .slice none 0 0, .slice (some ⟨w2.heap.size, 0, none⟩) 2 2]) := MemK.below (MemK.one hO5 (fun x hx => (hl5 x hx).1)) ((Below.refl _ _).alloc (Nat.le_refl _) _); have HPr : Hid (∀ x ∈ [L5].flatten, x.1.block < hi ∨ W0.heap.size ≤ x.1.block) := (fun x hx => (hl5 x (by simpa using hx)).2); have HSz : Hid (Wb.heap.size ≤ ((w2.alloc (.cells #[.int .i64 pk, .slice pna pnn pnc, .slice pra prn prc, .slice pka pkn pkc, .int .i64 qk, .slice qna qnn qnc, .slice qra qrn qrc, .slice qka qkn qkc] 53)).alloc (.cells #[.int .i64 5, .slice none 0 0, .slice none 0 0, .slice (some ⟨w2.heap.size, 0, none⟩) 2 2] 53)).heap.size) := (by have := H6.out.size; unfold Hid; omega); clear hO5 hl5) | ((with_reducible refine (HNy.out w1 H1.out).mono ?_); rintro e w2 ⟨qk, qna, qnn, qnc, qra, qrn, qrc, qka, qkn, qkc, L2, rfl, hO, hl, hb⟩; have HY2 : Hid (OwC w2 (dp + 1) (.agg #[.int .i64 qk, .slice qna qnn qnc, .slice qra qrn qrc, .slice qka qkn qkc]) (nnfC true x.d) L2) := hO; have HL2 : Hid (∀ x ∈ L2, x.1.block < w2.heap.size ∧ (x.1.block < hi ∨ W0.heap.size ≤ x.1.block)) := hl; have HX2 : Hid (OwC w2 (dp + 1) (.agg #[.int .i64 pk, .slice pna pnn pnc, .slice pra prn prc, .slice pka pkn pkc]) (nnfC true x.c) L1) := HX1.out.below hb (fun x hx => (HL1.out x hx).1); have HL1b : Hid (∀ x ∈ L1, x.1.block < w2.heap.size ∧ (x.1.block < hi ∨ W0.heap.size ≤ x.1.block)) := (fun x hx => ⟨Nat.lt_of_lt_of_le (HL1.out x hx).1 hb.size, (HL1.out x hx).2⟩); clear HL1; have HL1 : Hid (∀ x ∈ L1, x.1.block < w2.heap.size ∧ (x.1.block < hi ∨ W0.heap.size ≤ x.1.block)) := HL1b.out; have H2 : Hid (Below W0.heap.size W0 w2) := H1.out.trans (hb.mono H1.out.size); clear hO hb hl HL1b; obtain ⟨L5, hO5, hl5⟩ := orOfS (fun b => b < hi ∨ W0.heap.size ≤ b) HX2.out HY2.out HL1.out HL2.out (.inr H2.out.size); have H5 : Hid (Below W0.heap.size W0 (w2.alloc (.cells #[.int .i64 pk, .slice pna pnn pnc, .slice pra prn prc, .slice pka pkn pkc, .int .i64 qk, .slice qna qnn qnc, .slice qra qrn qrc, .slice qka qkn qkc] 53))) := H2.out.alloc H2.out.size _; have H6 : Hid (Below W0.heap.size W0 ((w2.alloc (.cells #[.int .i64 pk, .slice pna pnn pnc, .slice pra prn prc, .slice pka pkn pkc, .int .i64 qk, .slice qna qnn qnc, .slice qra qrn qrc, .slice qka qkn qkc] 53)).alloc (.cells #[.int .i64 5, .slice none 0 0, .slice none 0 0, .slice (some ⟨w2.heap.size, 0, none⟩) 2 2] 53))) := H5.out.alloc H5.out.size _; have HM6 : Hid (MemK ((w2.alloc (.cells #[.int .i64 pk, .slice pna pnn pnc, .slice pra prn prc, .slice pka pkn pkc, .int .i64 qk, .slice qna qnn qnc, .slice qra qrn qrc, .slice qka qkn qkc] 53)).alloc (.cells #[.int .i64 5, .slice none 0 0, .slice none 0 0, .slice (some ⟨w2.heap.size, 0, none⟩) 2 2] 53)) (dp + 2) [orC (nnfC true x.c) (nnfC true x.d)] [L5] [.int .i64 5, .slice none 0 0, .slice none 0 0, .slice (some ⟨w2.heap.size, 0, none⟩) 2 2]) := MemK.below (MemK.one hO5 (fun x hx => (hl5 x hx).1)) ((Below.refl _ _).alloc (Nat.le_refl _) _); have HPr : Hid (∀ x ∈ [L5].flatten, x.1.block < hi ∨ W0.heap.size ≤ x.1.block) := (fun x hx => (hl5 x (by simpa using hx)).2); have HSz : Hid (Wb.heap.size ≤ ((w2.alloc (.cells #[.int .i64 pk, .slice pna pnn pnc, .slice pra prn prc, .slice pka pkn pkc, .int .i64 qk, .slice qna qnn qnc, .slice qra qrn qrc, .slice qka qkn qkc] 53)).alloc (.cells #[.int .i64 5, .slice none 0 0, .slice none 0 0, .slice (some ⟨w2.heap.size, 0, none⟩) 2 2] 53)).heap.size) := (by have := H6.out.size; unfold Hid; omega); clear hO5 hl5) | ((with_reducible refine (HNy.out W0.drew H0d.out).mono ?_); rintro e w3 ⟨qk, qna, qnn, qnc, qra, qrn, qrc, qka, qkn, qkc, L2, rfl, hO, hl, hb⟩; have HY3 : Hid (OwC w3 (dp + 1) (.agg #[.int .i64 qk, .slice qna qnn qnc, .slice qra qrn qrc, .slice qka qkn qkc]) (nnfC true x.d) L2) := hO; have HL3 : Hid (∀ x ∈ L2, x.1.block < w3.heap.size ∧ (x.1.block < hi ∨ W0.heap.size ≤ x.1.block)) := hl; have H3 : Hid (Below W0.heap.size W0 w3) := H0d.out.trans hb; clear hO hb hl)) | (refine step_append_lies _ rfl (.tmp 47) (.tmp 56) 26 rfl Wb.heap.size 53 i0 (.agg #[.int .i64 0, .slice none 0 0, .slice none 0 0, .slice none 0 0]) 4 80 Try.underlying26 hi0 hz0 hz1 hz2 rfl (by decide) (.slice ua m ucap) m ys (by simp [Act.eval]) (HOwn.out _ H6.out) ⟨(w2.alloc (.cells #[.int .i64 pk, .slice pna pnn pnc, .slice pra prn prc, .slice pka pkn pkc, .int .i64 qk, .slice qna qnn qnc, .slice qra qrn qrc, .slice qka qkn qkc] 53)).heap.size, 0, none⟩ 1 1 [.int .i64 5, .slice none 0 0, .slice none 0 0, .slice (some ⟨w2.heap.size, 0, none⟩) 2 2] (by simp [Act.eval]) rfl (new4 _ _ _ _ _ _ _ rfl) (one4 _ _ _ _ _ _ _ _ _ _) (by decide) (by unfold maxLen; omega) (by omega) HSz.out _ rfl ?_; intro g cap' w6 hown hgrow hat hlt6; have HN : Hid (RowK Wb.heap.size w6 (dp + 2) (.slice (some ⟨g, 0, none⟩) (m + 1) cap') (rulesK (xs.take (j + 1))) (Ls ++ [L5]) (ys ++ [.int .i64 5, .slice none 0 0, .slice none 0 0, .slice (some ⟨w2.heap.size, 0, none⟩) 2 2]) ∧ Below Wb.heap.size Wb w6) := HFin.out H6.out HM6.out HPr.out HE.out hown hgrow (hat.elim (fun e => .inl e.symm) (fun e => .inr (by rw [e]; rfl))); have HS6 : Hid (w6.cell? ⟨wr.heap.size, 0, none⟩ = some (.int .i64 2) ∧ w6.cell? ⟨wr.heap.size, 1, none⟩ = some (.int .i64 k) ∧ w6.cell? ⟨wr.heap.size, 2, none⟩ = some (.slice xna xnn xnc) ∧ w6.cell? ⟨wr.heap.size, 3, none⟩ = some (.slice xra xrn xrc) ∧ w6.cell? ⟨wr.heap.size, 4, none⟩ = some (.slice xka xkn xkc) ∧ w6.cell? ⟨wr.heap.size, 5, none⟩ = some (.int .i64 l) ∧ w6.cell? ⟨wr.heap.size, 6, none⟩ = some (.slice yna ynn ync) ∧ w6.cell? ⟨wr.heap.size, 7, none⟩ = some (.slice yra yrn yrc) ∧ w6.cell? ⟨wr.heap.size, 8, none⟩ = some (.slice yka ykn ykc) ∧ w6.cell? ⟨wr.heap.size, 9, none⟩ = some (.slice ra rn rc) ∧ w6.cell? ⟨wr.heap.size, 10, none⟩ = some (.slice sa sn sc) ∧ w6.cell? ⟨wr.heap.size, 11, none⟩ = some (.slice aa an ac) ∧ w6.cell? ⟨wr.heap.size, 12, none⟩ = some (.slice ba bn bc)) := BoxA.cells ((hgrow.block _ (Nat.lt_of_lt_of_le hs0 (Below.size H6.out)) (fun e => by have := HUl.out _ e.symm; omega)).trans (HBA.out.below H6.out hs0)); clear hown hgrow hat hlt6)) | fail
            all_goals
              go_wp2_with fail
              go_roundw
              case rel => exact ⟨j + 1, _, _, _, by omega, by go_num, rfl, HN.out⟩
              case measure => simp [intOf]; omega
        · have HE : Hid (rulesX x = []) := by
            unfold Hid rulesX
            simp only [not_or] at hcd
            rw [← hkk, if_neg hcd.1, if_neg hcd.2.1, if_neg hcd.2.2]
          simp only [not_or] at hcd
          obtain ⟨n0, n1, n2⟩ := hcd
          have g0 : (kk == 0) = false := by simpa using n0
          have g1 : (kk == 1) = false := by simpa using n1
          have g2 : (kk == 2) = false := by simpa using n2
          have HN : Hid (RowK Wb.heap.size W0 (dp + 2) (.slice ua m ucap) (rulesK (xs.take (j + 1))) Ls ys ∧ Below Wb.heap.size Wb W0) := by
            refine ⟨?_, hbel.trans (hb0.mono hsr)⟩
            rw [HSt.out, HE.out, List.append_nil]
            exact HO.out.below hb0
          obtain ⟨m0, m1, m2, m3, m4, m5, m6, m7, m8, m9, m10, m11, m12⟩ := hbA.cells
          clear hK hc hrd hrd0 hO hbel hx hkk hokx hW0 hb0 hbA hm
          go_upto_region 6 with fail
          rw [← HW0.out]
          go_wp2_with fail
          go_roundw
          case rel => exact ⟨j + 1, _, _, _, by omega, by go_num, rfl, HN.out⟩
          case measure => simp [intOf]; omega
    · have HE2 : Hid (rulesK xs = rulesK (xs.take j)) := by unfold Hid; rw [List.take_of_length_le (by rw [HL.out]; omega)]
      clear hbel hO hm
      go_wp2_with fail
      go_ret
      exact ⟨(.slice ua m ucap), Ls, ys, rfl, by rw [HE2.out, ← HEb.out]; exact HO.out, HBb.out.trans (HB.out.mono HBb.out.size)⟩
end

section
open Go.RowKit Go.Deep

theorem rowK_rd0 {base : Nat} {w : World} {d : Nat} {v : Value} {cs : List CN} {Ls : List (List (Addr × IntKind))} {xs : List Value} (h : RowK base w d v cs Ls xs) :
    ∃ a cap, v = .slice a cs.length cap ∧ RdL (RdC 0 w.heap.size w d) 0 w.heap.size w a cs.length cap cs := by
  obtain ⟨a, cap, b, hv, ho, hb⟩ := h.owL
  refine ⟨a, cap, hv, ho.len, ho.fits, ?_⟩
  rcases ho.cells with e | ⟨e, hc⟩
  · exact .inl e
  · rcases hb with hb | ⟨_, hb1, hb2, _⟩
    · exact .inl hb
    · refine .inr ⟨b, 0, e, Nat.zero_le _, hb2, fun i hi => ?_⟩
      obtain ⟨v0, v1, v2, v3, c0, c1, c2, c3, hr⟩ := hc i hi
      exact ⟨v0, v1, v2, v3, c0, c1, c2, c3, hr.rd (fun x hx => ⟨Nat.zero_le _, h.lt x (getD_mem_flatten hx)⟩)⟩

set_option maxRecDepth 100000 in
set_option maxHeartbeats 4000000 in
theorem specRules_any {a : Option Addr} {n cap : Nat} {xs : List AX} {dp : Nat} {w : World} {lo hi : Nat} (h : RdK lo hi w dp a n cap xs) (hhi : hi ≤ w.heap.size) (hlo : lo ≤ w.heap.size) :
    Calls Try.prog 7 #[.agg #[.slice a n cap]] w fun e w' => ∃ B v Ls ys, e = .returned (.tuple #[v, .bool (kbB xs)]) ∧ w.heap.size ≤ B ∧ RowK B w' (dp + 2) v (rulesN xs) Ls ys ∧ (∀ x ∈ Ls.flatten, B ≤ x.1.block) ∧ Below w.heap.size w w' := by
  obtain ⟨W0, hW0⟩ : ∃ W0, W0 = w.alloc (.cells #[.slice a n cap] 31) := ⟨_, rfl⟩
  have HW0 : Hid (W0 = w.alloc (.cells #[.slice a n cap] 31)) := hW0
  have hs0 : w.heap.size < W0.heap.size := by rw [hW0]; simp
  have hb0 : Below w.heap.size w W0 := by rw [hW0]; exact (Below.refl _ _).alloc (Nat.le_refl _) _
  have HB0 : Hid (Below w.heap.size w W0) := hb0
  have HBx0 : Hid (Boxed W0 w.heap.size 31 (.slice a n cap)) := by unfold Hid; rw [hW0]; exact Boxed.new w _ _
  have HK : Hid (RdK lo hi W0 dp a n cap xs) := h.below hb0 hhi
  have HL : Hid (xs.length = n) := h.len
  have hf := h.fits
  obtain ⟨i0, hi0, hz0, hz1, hz2⟩ := info_parts Try.infoCon4
  have z0 := HBx0.out.cell
  obtain ⟨ok, hok0⟩ : ∃ ok, ok = kbB xs := ⟨_, rfl⟩
  have HOK : Hid (ok = kbB xs) := hok0
  clear h hb0 hW0 hok0
  go_enter Try.func7, Try.ntmps7
  go_wp2_with fail
  rw [← HW0.out]
  refine (specKbOk_any HK.out (by omega) (by omega)).mono ?_
  rintro e w1 ⟨rfl, hb1⟩
  rw [← HOK.out]
  have H1 : Hid (Below W0.heap.size W0 w1) := hb1
  have HB1 : Hid (Below w.heap.size w w1) := HB0.out.trans (hb1.mono (Nat.le_of_lt hs0))
  have hbx1 : Boxed w1 w.heap.size 31 (.slice a n cap) := (hb1.block _ hs0).trans HBx0.out
  have hs1 := hb1.size
  clear hb1 z0
  have z0 := hbx1.cell
  clear hbx1
  cases ok with
  | false =>
    have HE : Hid (rulesN xs = []) := by unfold Hid rulesN; rw [← HOK.out]; rfl
    go_wp2_with fail
    go_ret2
    exact ⟨w.heap.size, .slice none 0 0, [], [], by rw [← HOK.out]; rfl, Nat.le_refl _, by rw [HE.out]; exact RowK.nil _ _ _, fun x hx => by simp at hx, HB1.out⟩
  | true =>
    have HE : Hid (rulesN xs = rulesK xs) := by unfold Hid rulesN; rw [← HOK.out]; rfl
    have HOk : Hid (∀ x ∈ xs, axOk x = true) := (kbB_ok' HOK.out.symm).2
    have hn8 : n ≤ 8 := by rw [← HL.out]; exact (kbB_ok' HOK.out.symm).1
    obtain ⟨S, hS⟩ : ∃ S, S = rulesK xs := ⟨_, rfl⟩
    have HS : Hid (S = rulesK xs) := hS
    have HSl : Hid (S.length ≤ 16) := by unfold Hid; rw [hS]; have := rulesK_len xs; have := HL.out; omega
    have HSf : Hid (∀ c ∈ S, c.bulk ≤ 1000) := by unfold Hid; rw [hS]; exact rulesK_bulk HOk.out
    clear hS
    go_wp2_with fail
    refine (l3rules_any (HK.out.below H1.out (by omega)) (by omega) HOk.out hn8).mono ?_
    rintro e w2 ⟨u2, L2, x2, rfl, hr2, hb2⟩
    rw [← HS.out] at hr2
    have HB2 : Hid (Below w.heap.size w w2) := HB1.out.trans (hb2.mono HB1.out.size)
    obtain ⟨a2, cap2, hu2, hrd2⟩ := rowK_rd0 hr2
    obtain ⟨ns, hns⟩ : ∃ n, n = S.length := ⟨_, rfl⟩
    rw [← hns] at hu2 hrd2
    subst hu2
    have HN : Hid (ns = S.length) := hns
    have hn16 : ns ≤ 16 := by have := HSl.out; omega
    have HR2 : Hid (RdL (RdC 0 w2.heap.size w2 (dp + 2)) 0 w2.heap.size w2 a2 ns cap2 S) := hrd2
    clear hr2 hb2 hns hrd2 z0
    go_wp2_with fail
    go_loopw [4, 6] (fun l i wr => ∃ (j : Nat) (Lr : List (List (Addr × IntKind))) (xr : List Value), j ≤ ns ∧ i = .int .i64 j ∧ RowK w2.heap.size wr (dp + 2) l (S.take j) Lr xr ∧ (∀ x ∈ Lr.flatten, w2.heap.size ≤ x.1.block) ∧ Below w2.heap.size w2 wr ∧ w2.heap.size ≤ wr.heap.size) (fun _ i _ => ns - (intOf i).toNat)
    case atStart => exact ⟨0, [], [], Nat.zero_le _, rfl, RowK.nil _ _ _, fun x hx => by simp at hx, Below.refl _ _, Nat.le_refl _⟩
    case round =>
      obtain ⟨j, Lr, xr, hj, rfl, hrw, hge, hbel, hsr⟩ := hrel
      obtain ⟨a3, n3, cap3, hu3⟩ := hrw.isSlice
      subst hu3
      have HRw : Hid (RowK w2.heap.size wr (dp + 2) (.slice a3 n3 cap3) (S.take j) Lr xr) := hrw
      have HGe : Hid (∀ x ∈ Lr.flatten, w2.heap.size ≤ x.1.block) := hge
      have HBe : Hid (Below w2.heap.size w2 wr) := hbel
      by_cases hlt : j < ns
      · have hjl : j < S.length := by rw [← HN.out]; exact hlt
        have hji : (j : Int) < (ns : Int) := by omega
        have HTs : Hid (S.take (j + 1) = S.take j ++ [S.getD j CN.zero]) := take_succ_getD _ _ _ hjl
        have HTl : Hid ((S.take j).length = j) := by unfold Hid; rw [List.length_take]; omega
        rcases (HR2.out.below hbel (Nat.le_refl _)).cells with e | ⟨b, off, rfl, _, hblt, hc⟩
        · omega
        · obtain ⟨v0, v1, v2, v3, q0, q1, q2, q3, hrd⟩ := hc j hlt
          have HEl : Hid (RdC 0 w2.heap.size wr (dp + 2) (.agg #[v0, v1, v2, v3]) (S.getD j CN.zero)) := hrd
          have HEb : Hid ((S.getD j CN.zero).bulk ≤ 1048576) := by unfold Hid; have := HSf.out (S.getD j CN.zero) (by rw [List.getD_eq_getElem?_getD, List.getElem?_eq_getElem hjl]; exact List.getElem_mem hjl); omega
          clear hc hrd hrw hge hbel
          go_wp2_with fail
          refine (owP_any (dp + 2) _ (S.getD j CN.zero) wr 0 w2.heap.size HEl.out hsr HEb.out).mono ?_
          rintro e w5 ⟨v5, L5, rfl, hO5, hl5, hb5⟩
          obtain ⟨zna, znn, znc, zra, zrn, zrc, zka, zkn, zkc, rfl⟩ := hO5.agg
          obtain ⟨zk, hzk⟩ : ∃ zk, zk = (S.getD j CN.zero).kind := ⟨_, rfl⟩
          rw [← hzk] at hO5 ⊢
          have HBn : Hid (Below wr.heap.size wr (w5.alloc (.cells #[.int .i64 zk, .slice zna znn znc, .slice zra zrn zrc, .slice zka zkn zkc] 53))) := Below.alloc hb5 hb5.size _
          have HMn : Hid (MemK (w5.alloc (.cells #[.int .i64 zk, .slice zna znn znc, .slice zra zrn zrc, .slice zka zkn zkc] 53)) (dp + 2) [S.getD j CN.zero] [L5] [.int .i64 zk, .slice zna znn znc, .slice zra zrn zrc, .slice zka zkn zkc]) := MemK.below (MemK.one hO5 (fun x hx => (hl5 x hx).2)) ((Below.refl _ _).alloc (Nat.le_refl _) _)
          have HL5 : Hid (∀ x ∈ L5, wr.heap.size ≤ x.1.block) := fun x hx => by have := (hl5 x hx).1; omega
          have HRown : Hid ((w5.alloc (.cells #[.int .i64 zk, .slice zna znn znc, .slice zra zrn zrc, .slice zka zkn zkc] 53)).ownsRow w2.heap.size 53 4 (.slice a3 n3 cap3) j xr) := by have := (HRw.out.below HBn.out).row; rw [HTl.out] at this; exact this
          have hsn : w2.heap.size ≤ (w5.alloc (.cells #[.int .i64 zk, .slice zna znn znc, .slice zra zrn zrc, .slice zka zkn zkc] 53)).heap.size := Nat.le_trans hsr HBn.out.size
          have HFin : Hid (∀ {w6 : World} {v' : Value}, w6.ownsRow w2.heap.size 53 4 v' (j + 1) (xr ++ [.int .i64 zk, .slice zna znn znc, .slice zra zrn zrc, .slice zka zkn zkc]) → (w5.alloc (.cells #[.int .i64 zk, .slice zna znn znc, .slice zra zrn zrc, .slice zka zkn zkc] 53)).grownBy w6 (Value.slice a3 n3 cap3).ownBlock → (v'.ownBlock = (Value.slice a3 n3 cap3).ownBlock ∨ v'.ownBlock = some (w5.alloc (.cells #[.int .i64 zk, .slice zna znn znc, .slice zra zrn zrc, .slice zka zkn zkc] 53)).heap.size) → RowK w2.heap.size w6 (dp + 2) v' (S.take (j + 1)) (Lr ++ [L5]) (xr ++ [.int .i64 zk, .slice zna znn znc, .slice zra zrn zrc, .slice zka zkn zkc]) ∧ (∀ x ∈ (Lr ++ [L5]).flatten, w2.heap.size ≤ x.1.block) ∧ Below w2.heap.size w2 w6 ∧ w2.heap.size ≤ w6.heap.size) := by
            intro w6 v' hown hgrow hat
            have hb6 : Below w2.heap.size w2 w6 := (HBe.out.trans (HBn.out.mono hsr)).grown hgrow hsn (fun g hg => (HRown.out.lt g hg).1)
            refine ⟨?_, fun x hx => ?_, hb6, hb6.size⟩
            · rw [HTs.out]
              exact RowK.appS (hi := 0) HRw.out HBn.out HMn.out (fun x hx => .inr (HL5.out x (by simpa using hx))) (Nat.zero_le _) (by rw [HTl.out]; exact hown) hgrow hat
            · simp only [List.flatten_append, List.mem_append, List.flatten_cons, List.flatten_nil, List.append_nil] at hx
              rcases hx with hx | hx
              · exact HGe.out x hx
              · have := HL5.out x hx; omega
          clear hO5 hl5 hb5 hzk q0 q1 q2 q3
          go_wp2_with (at_builtin; refine wpList_append_own_at _ rfl (.tmp 18) (.tmp 24) 26 rfl w2.heap.size 53 i0 (.agg #[.int .i64 0, .slice none 0 0, .slice none 0 0, .slice none 0 0]) 4 80 Try.underlying26 hi0 hz0 hz1 hz2 rfl (by decide) (.slice a3 n3 cap3) j xr rfl HRown.out ⟨w5.heap.size, 0, none⟩ 1 1 [.int .i64 zk, .slice zna znn znc, .slice zra zrn zrc, .slice zka zkn zkc] rfl rfl (new4 _ _ _ _ _ _ _ rfl) (one4 _ _ _ _ _ _ _ _ _ _) (by unfold maxLen; omega) (by omega) hsn ?_; intro v' w6 hown hgrow hnil hat; have HA : Hid _ := HFin.out hown hgrow hat; clear hown hgrow hnil hat)
          go_roundw
          case rel => exact ⟨j + 1, _, _, by omega, by go_num, HA.out⟩
          case measure => simp [intOf]; omega
      · have HTk : Hid (S.take j = S) := List.take_of_length_le (by rw [← HN.out]; omega)
        have hws : w.heap.size ≤ w2.heap.size := HB2.out.size
        have HBf : Hid (Below w.heap.size w wr) := HB2.out.trans (hbel.mono hws)
        clear hrw hge hbel
        go_wp2_with fail
        go_ret2
        exact ⟨w2.heap.size, .slice a3 n3 cap3, Lr, xr, by rw [← HOK.out]; rfl, hws, by rw [HE.out, ← HS.out, ← HTk.out]; exact HRw.out, HGe.out, HBf.out⟩
end

end Go.Proofs.Ytoeoddfhofcpcaa
