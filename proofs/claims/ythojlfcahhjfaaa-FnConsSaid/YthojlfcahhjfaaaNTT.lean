/- Several texts in one: SpecToks, SzB, TTSz, TTTo, TTMath. -/
import Derived.Test.YthojlfcahhjfaaaOwnT
import Derived.Test.YthojlfcahhjfaaaNBase
import Derived.Test.YthojlfcahhjfaaaNCl
import Derived.Test.YthojlfcahhjfaaaNW
import Derived.Test.YthojlfcahhjfaaaNSp
namespace Go.Proofs.Ythojlfcahhjfaaa

section
open Go.RowKit

theorem toksFrom_stop (zs : List Int) (f i : Nat) (acc : List Tok) (h : zs.length ≤ i) : toksFrom zs f i acc = (acc, -1) := by
  cases f with
  | zero => rfl
  | succ f => rw [toksFrom, if_neg (by omega)]

theorem toksFrom_blank (zs : List Int) (f i : Nat) (acc : List Tok) (h : i < zs.length) (hb : blankB (zs.getD i 0) = true) : toksFrom zs (f + 1) i acc = toksFrom zs f (i + 1) acc := by
  rw [toksFrom, if_pos h, if_pos hb]

theorem toksFrom_bad (zs : List Int) (f i : Nat) (acc : List Tok) (h : i < zs.length) (hb : blankB (zs.getD i 0) = false) (hk : kindOf (piece zs i) = 0) : toksFrom zs (f + 1) i acc = ([], (i : Int)) := by
  rw [toksFrom, if_pos h, if_neg (by rw [hb]; exact Bool.false_ne_true), if_pos hk]

theorem toksFrom_tok (zs : List Int) (f i : Nat) (acc : List Tok) (h : i < zs.length) (hb : blankB (zs.getD i 0) = false) (hk : kindOf (piece zs i) ≠ 0) : toksFrom zs (f + 1) i acc = toksFrom zs f (pend zs i) (acc ++ [tokAt zs i]) := by
  rw [toksFrom, if_pos h, if_neg (by rw [hb]; exact Bool.false_ne_true), if_neg hk]

theorem Try.infoTok3 : (Try.prog.info? 30).map (fun i => (i.zero, i.size, i.bytes)) = some (some (.agg #[.int .i64 0, .int .i64 0, .slice none 0 0]), 3, 40) := by kernel_rfl

theorem new3 (w : World) (g : Nat) (x y z : Value) (t : Nat) (hg : g = w.heap.size) : ∀ j u, [x, y, z][j]? = some u → (w.alloc (.cells #[x, y, z] t)).cell? ((⟨g, 0, none⟩ : Addr).add j) = some u := by
  intro j u hu
  subst hg
  rw [Addr.add_lit]
  match j, hu with
  | 0, hu => simp at hu; subst hu; simp
  | 1, hu => simp at hu; subst hu; simp
  | 2, hu => simp at hu; subst hu; simp

theorem one3 (kd k : Int) (ta : Option Addr) (tn tc : Nat) : ∀ u ∈ [Value.int .i64 kd, .int .i64 k, .slice ta tn tc], u.oneCell' = true := by
  intro u hu
  simp at hu
  rcases hu with rfl | rfl | rfl <;> rfl

theorem piece_byte {zs : List Int} (h : ∀ i, 0 ≤ zs.getD i 0 ∧ zs.getD i 0 ≤ 255) (k : Nat) : ∀ j, 0 ≤ (piece zs k).getD j 0 ∧ (piece zs k).getD j 0 ≤ 255 := by
  intro j
  have := h (k + j)
  simp only [piece, List.getD, List.getElem?_take, List.getElem?_drop] at this ⊢
  split
  · exact this
  · simp

theorem step_tok {w0 wr W w2 : World} {u v' : Value} {ts : List Tok} {gs : List (Nat × Nat)} {zs : List Int} {k : Nat} {kd : Int} {tv : Value} {g : Nat × Nat}
    (hO : OwnT w0.heap.size W u ts gs) (hB : Below w0.heap.size w0 W) (hG : kd = (tokAt zs k).kind ∧ tv = txv (tokAt zs k) g)
    (hM : (tokAt zs k).text ≠ [] → w0.heap.size ≤ g.1 ∧ wr.heap.size ≤ g.1 ∧ Row W g.1 g.2 (tokAt zs k).text ∧ g.2 ≤ 9223372036854775807)
    (hS : ∀ i, i < ts.length → (ts.getD i Tok.zero).text ≠ [] → (gs.getD i (0, 0)).1 < wr.heap.size) (hby : ∀ i, 0 ≤ zs.getD i 0 ∧ zs.getD i 0 ≤ 255)
    (hown : w2.ownsRow w0.heap.size 30 3 v' (ts.length + 1) (flatT ts gs ++ [.int .i64 kd, .int .i64 k, tv])) (hgrow : W.grownBy w2 u.ownBlock) :
    ∃ g' cap', v' = .slice (some ⟨g', 0, none⟩) (ts.length + 1) cap' ∧ OwnT w0.heap.size w2 v' (ts ++ [tokAt zs k]) (gs ++ [g]) ∧ Below w0.heap.size w0 w2 := by
  obtain ⟨rfl, rfl⟩ := hG
  have hO2 := hO.snoc (tokAt zs k) g (fun ht => ⟨(hM ht).1, (hM ht).2.2.1, (hM ht).2.2.2⟩) (by
      simp only [tokAt]; split
      · exact piece_byte hby k
      · simp) (fun ht i hi hti => by have := hS i hi hti; have := (hM ht).2.1; omega) hown hgrow
  have hb2 : Below w0.heap.size w0 w2 := hB.grown hgrow hB.size (fun x hx => by
      rcases hO.row.2 with ⟨rfl, _⟩ | ⟨g1, cap1, cur, rfl, hg1, _⟩
      · simp [Value.ownBlock] at hx
      · simp [Value.ownBlock] at hx; omega)
  rcases hown.2 with ⟨_, h0⟩ | ⟨g', cap', _, rfl, _⟩
  · omega
  · exact ⟨g', cap', rfl, hO2, hb2⟩
end

section
open Go.RowKit
end

section
open Go.RowKit

/-- The lengths of the first k texts, in all. -/
def sumT (ts : List Tok) : Nat → Nat
  | 0 => 0
  | k + 1 => sumT ts k + (ts.getD k Tok.zero).text.length

theorem sumT_mono (ts : List Tok) : ∀ {k n : Nat}, k ≤ n → sumT ts k ≤ sumT ts n := by
  intro k n h
  induction h with
  | refl => exact Nat.le_refl _
  | step _ ih => simp only [sumT]; omega

theorem sumT_ge (ts : List Tok) {i n : Nat} (h : i < n) : (ts.getD i Tok.zero).text.length ≤ sumT ts n := by
  have := sumT_mono ts (show i + 1 ≤ n from h)
  simp only [sumT] at this
  omega
end

section
open Go.RowKit

/-- The cell j of a row of tokens of which the first k are laid: the texts in the blocks that f says. -/
def cellT (ts : List Tok) (f : Nat → Nat) (k j : Nat) : Value :=
  if j / 3 < k then (if j % 3 = 0 then .int .i64 (ts.getD (j / 3) Tok.zero).kind else if j % 3 = 1 then .int .i64 (ts.getD (j / 3) Tok.zero).place else .slice (some ⟨f (j / 3), 0, none⟩) (ts.getD (j / 3) Tok.zero).text.length (ts.getD (j / 3) Tok.zero).text.length)
  else (if j % 3 = 0 then .int .i64 0 else if j % 3 = 1 then .int .i64 0 else .slice none 0 0)

theorem cellT_new (ts : List Tok) (f : Nat → Nat) {k i : Nat} (h : i < k) : cellT ts f k (i * 3) = .int .i64 (ts.getD i Tok.zero).kind ∧ cellT ts f k (i * 3 + 1) = .int .i64 (ts.getD i Tok.zero).place ∧ cellT ts f k (i * 3 + 2) = .slice (some ⟨f i, 0, none⟩) (ts.getD i Tok.zero).text.length (ts.getD i Tok.zero).text.length := by
  have e0 : i * 3 / 3 = i := by omega
  have e1 : (i * 3 + 1) / 3 = i := by omega
  have e2 : (i * 3 + 2) / 3 = i := by omega
  have m0 : i * 3 % 3 = 0 := by omega
  have m1 : (i * 3 + 1) % 3 = 1 := by omega
  have m2 : (i * 3 + 2) % 3 = 2 := by omega
  refine ⟨?_, ?_, ?_⟩
  · simp [cellT, e0, h]
  · simp [cellT, e1, m1, h]
  · simp [cellT, e2, m2, h]

/-- A row of tokens that the laws' copy has made: its own block, and a block for each text. -/
structure MadeT (lo : Nat) (w : World) (g n : Nat) (ts : List Tok) (f : Nat → Nat) : Prop where
  len : ts.length = n
  base : lo ≤ g
  row : w.rowIs g 30 (n * 3) (cellT ts f n)
  txt : ∀ i, i < n → lo ≤ f i ∧ Row w (f i) (ts.getD i Tok.zero).text.length (ts.getD i Tok.zero).text
  byte : ∀ i j, 0 ≤ (ts.getD i Tok.zero).text.getD j 0 ∧ (ts.getD i Tok.zero).text.getD j 0 ≤ 255
  small : n + sumT ts n ≤ 1048576

def txM (ts : List Tok) (f : Nat → Nat) (i : Nat) : Nat × Nat × Nat := (f i, 0, (ts.getD i Tok.zero).text.length)

theorem MadeT.rd {lo : Nat} {w : World} {g n : Nat} {ts : List Tok} {f : Nat → Nat} (h : MadeT lo w g n ts f) : RdT lo w.heap.size w (some ⟨g, 0, none⟩) n n ts := by
  obtain ⟨h1, h2, h3, h4, h5, h6⟩ := h
  refine ⟨h1, ⟨Nat.le_refl _, by omega⟩, .inr ⟨g, 0, rfl, h2, h3.lt, fun i hi => ?_⟩⟩
  obtain ⟨c0, c1, c2⟩ := cellT_new ts f hi
  simp only [Nat.zero_add]
  rw [h3.cell (show i * 3 < n * 3 by omega), h3.cell (show i * 3 + 1 < n * 3 by omega), h3.cell (show i * 3 + 2 < n * 3 by omega), c0, c1, c2]
  exact ⟨_, _, _, rfl, rfl, rfl, (h4 i hi).2.rd rfl (h5 i) (by have := sumT_ge ts hi; omega) (h4 i hi).1 (h4 i hi).2.lt⟩

theorem MadeT.below {lo B : Nat} {w w' : World} {g n : Nat} {ts : List Tok} {f : Nat → Nat} (h : MadeT lo w g n ts f) (hb : Below B w w') (hB : w.heap.size ≤ B) : MadeT lo w' g n ts f := by
  obtain ⟨h1, h2, h3, h4, h5, h6⟩ := h
  exact ⟨h1, h2, h3.of_block (hb.block g (Nat.lt_of_lt_of_le h3.lt hB)), fun i hi => ⟨(h4 i hi).1, (h4 i hi).2.below hb (Nat.lt_of_lt_of_le (h4 i hi).2.lt hB)⟩, h5, h6⟩

theorem mem_leafM {b off : Nat} {tx : Nat → Nat × Nat × Nat} {n : Nat} {x : Addr × IntKind} (h : x ∈ leafT b off tx n) :
    ∃ i, i < n ∧ (x = (⟨b, off + i * 3, none⟩, .i64) ∨ x = (⟨b, off + i * 3 + 1, none⟩, .i64) ∨ ∃ j, j < (tx i).2.2 ∧ x = (⟨(tx i).1, (tx i).2.1 + j, none⟩, .u8)) := by
  simp only [leafT, List.mem_flatMap, List.mem_range, List.mem_cons, leafB, List.mem_map] at h
  obtain ⟨i, hi, h⟩ := h
  refine ⟨i, hi, ?_⟩
  rcases h with h | h | ⟨j, hj, h⟩
  · exact .inl h
  · exact .inr (.inl h)
  · exact .inr (.inr ⟨j, hj, h.symm⟩)

theorem MadeT.leaf {lo : Nat} {w : World} {g n : Nat} {ts : List Tok} {f : Nat → Nat} (h : MadeT lo w g n ts f) :
    HeadT w g 0 (txM ts f) n ∧ LeafOk w (leafT g 0 (txM ts f) n) ∧ ∀ x ∈ leafT g 0 (txM ts f) n, lo ≤ x.1.block ∧ x.1.block < w.heap.size := by
  obtain ⟨h1, h2, h3, h4, h5, h6⟩ := h
  refine ⟨fun i hi => ?_, fun x hx => ?_, fun x hx => ?_⟩
  · obtain ⟨c0, c1, c2⟩ := cellT_new ts f hi
    refine ⟨some ⟨f i, 0, none⟩, (ts.getD i Tok.zero).text.length, ?_, .inr rfl, by have := sumT_ge ts hi; show (ts.getD i Tok.zero).text.length ≤ _; omega⟩
    rw [Nat.zero_add, h3.cell (show i * 3 + 2 < n * 3 by omega), c2]; rfl
  · obtain ⟨i, hi, e | e | ⟨j, hj, e⟩⟩ := mem_leafM hx
    · subst e
      obtain ⟨c0, c1, c2⟩ := cellT_new ts f hi
      simp only [Nat.zero_add]
      exact ⟨⟨_, by rw [h3.cell (show i * 3 < n * 3 by omega), c0]⟩, h3.frozen _⟩
    · subst e
      obtain ⟨c0, c1, c2⟩ := cellT_new ts f hi
      simp only [Nat.zero_add]
      exact ⟨⟨_, by rw [h3.cell (show i * 3 + 1 < n * 3 by omega), c1]⟩, h3.frozen _⟩
    · subst e
      simp only [txM, Nat.zero_add] at hj ⊢
      exact ⟨⟨_, (h4 i hi).2.cell hj⟩, (h4 i hi).2.frozen _⟩
  · obtain ⟨i, hi, e | e | ⟨j, hj, e⟩⟩ := mem_leafM hx
    · subst e; exact ⟨h2, h3.lt⟩
    · subst e; exact ⟨h2, h3.lt⟩
    · subst e; exact ⟨(h4 i hi).1, (h4 i hi).2.lt⟩

theorem RdT.byte {lo hi : Nat} {w : World} {a : Option Addr} {n cap : Nat} {ts : List Tok} (h : RdT lo hi w a n cap ts) : ∀ i j, 0 ≤ (ts.getD i Tok.zero).text.getD j 0 ∧ (ts.getD i Tok.zero).text.getD j 0 ≤ 255 := by
  intro i j
  by_cases hi' : i < n
  · rcases h.cells with h0 | ⟨b, off, _, _, _, hc⟩
    · omega
    · obtain ⟨_, _, _, _, _, _, c4⟩ := hc i hi'
      exact c4.byte j
  · have e : ts.getD i Tok.zero = Tok.zero := by rw [List.getD, List.getElem?_eq_none (by rw [h.len]; omega)]; rfl
    rw [e]; simp [Tok.zero]
end

section
open Go.RowKit
end

end Go.Proofs.Ythojlfcahhjfaaa
