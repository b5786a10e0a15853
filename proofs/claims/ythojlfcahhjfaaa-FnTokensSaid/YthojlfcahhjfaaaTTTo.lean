/- The laws' own copy of a token and of a slice of tokens: a contract each. -/
import Derived.Test.YthojlfcahhjfaaaTTSz
namespace Go.Proofs.Ythojlfcahhjfaaa
open Go.RowKit

theorem Try.infoTokT : (Try.prog.info? 30).map (fun i => (i.zero, i.size, i.bytes)) = some (some (.agg #[.int .i64 0, .int .i64 0, .slice none 0 0]), 3, 40) := by kernel_rfl

/-- The cell j of a row of tokens of which the first k are laid: the texts in the blocks that f says. -/
def cellT (ts : List Tok) (f : Nat → Nat) (k j : Nat) : Value :=
  if j / 3 < k then (if j % 3 = 0 then .int .i64 (ts.getD (j / 3) Tok.zero).kind else if j % 3 = 1 then .int .i64 (ts.getD (j / 3) Tok.zero).place else .slice (some ⟨f (j / 3), 0, none⟩) (ts.getD (j / 3) Tok.zero).text.length (ts.getD (j / 3) Tok.zero).text.length)
  else (if j % 3 = 0 then .int .i64 0 else if j % 3 = 1 then .int .i64 0 else .slice none 0 0)

theorem cellT_new (ts : List Tok) (f : Nat → Nat) {k i : Nat} (h : i < k) : cellT ts f k (i * 3) = .int .i64 (ts.getD i Tok.zero).kind ∧ cellT ts f k (i * 3 + 1) = .int .i64 (ts.getD i Tok.zero).place ∧ cellT ts f k (i * 3 + 2) = .slice (some ⟨f i, 0, none⟩) (ts.getD i Tok.zero).text.length (ts.getD i Tok.zero).text.length := by
  have e0 : i * 3 / 3 = i := by omega
  have e1 : (i * 3 + 1) / 3 = i := by omega
  have e2 : (i * 3 + 2) / 3 = i := by omega
  have m0 : i * 3 % 3 = 0 := by omega
  have m1 : (i * 3 + 1) % 3 = 1 := by omega
  have m2 : (i * 3 + 2) % 3 = 2 := by omega
  refine ⟨?_, ?_, ?_⟩
  · simp [cellT, e0, h]
  · simp [cellT, e1, m1, h]
  · simp [cellT, e2, m2, h]

theorem cellT_old (ts : List Tok) (f : Nat → Nat) {k i : Nat} (h : k ≤ i) : cellT ts f k (i * 3) = .int .i64 0 ∧ cellT ts f k (i * 3 + 1) = .int .i64 0 ∧ cellT ts f k (i * 3 + 2) = .slice none 0 0 := by
  have e0 : i * 3 / 3 = i := by omega
  have e1 : (i * 3 + 1) / 3 = i := by omega
  have e2 : (i * 3 + 2) / 3 = i := by omega
  have m0 : i * 3 % 3 = 0 := by omega
  have m1 : (i * 3 + 1) % 3 = 1 := by omega
  have m2 : (i * 3 + 2) % 3 = 2 := by omega
  have hn : ¬ i < k := by omega
  refine ⟨?_, ?_, ?_⟩
  · simp [cellT, e0, hn]
  · simp [cellT, e1, m1, hn]
  · simp [cellT, e2, m2, hn]

theorem rowT_made (w : World) (ts : List Tok) (f : Nat → Nat) (n : Nat) : (w.alloc (.cells (madeCells #[.int .i64 0, .int .i64 0, .slice none 0 0] (n * 3)) 30)).rowIs w.heap.size 30 (n * 3) (cellT ts f 0) := by
  have key := World.rowIs_alloc w (madeCells #[.int .i64 0, .int .i64 0, .slice none 0 0] (n * 3)) 30 (cellT ts f 0) (fun i hi => ?_)
  · rw [size_madeCells] at key; exact key
  rw [size_madeCells] at hi
  have : i % 3 = 0 ∨ i % 3 = 1 ∨ i % 3 = 2 := by omega
  rcases this with h | h | h <;> simp [madeCells, hi, cellT, h]

theorem rowT_step {w : World} {g n k gk : Nat} {ts : List Tok} {f : Nat → Nat} (h : w.rowIs g 30 (n * 3) (cellT ts f k)) :
    (((w.setCell ⟨g, k * 3, none⟩ (.int .i64 (ts.getD k Tok.zero).kind)).setCell ⟨g, k * 3 + 1, none⟩ (.int .i64 (ts.getD k Tok.zero).place)).setCell ⟨g, k * 3 + 2, none⟩ (.slice (some ⟨gk, 0, none⟩) (ts.getD k Tok.zero).text.length (ts.getD k Tok.zero).text.length)).rowIs g 30 (n * 3) (cellT ts (fun i => if i = k then gk else f i) (k + 1)) := by
  refine (((h.set (k * 3) _).set (k * 3 + 1) _).set (k * 3 + 2) _).congr fun j hj => ?_
  have hd : ∃ i, j = i * 3 ∨ j = i * 3 + 1 ∨ j = i * 3 + 2 := ⟨j / 3, by omega⟩
  obtain ⟨i, hd⟩ := hd
  by_cases hik : i = k
  · subst hik
    obtain ⟨c0, c1, c2⟩ := cellT_new ts (fun x => if x = i then gk else f x) (Nat.lt_succ_self i)
    rcases hd with rfl | rfl | rfl
    · rw [c0]; simp
    · rw [c1]; simp
    · rw [c2]; simp
  · have n0 : j ≠ k * 3 := by omega
    have n1 : j ≠ k * 3 + 1 := by omega
    have n2 : j ≠ k * 3 + 2 := by omega
    simp only [if_neg n0, if_neg n1, if_neg n2]
    by_cases hlt : i < k
    · obtain ⟨c0, c1, c2⟩ := cellT_new ts (fun x => if x = k then gk else f x) (show i < k + 1 by omega)
      obtain ⟨d0, d1, d2⟩ := cellT_new ts f hlt
      simp only [if_neg hik] at c2
      rcases hd with rfl | rfl | rfl
      · rw [c0, d0]
      · rw [c1, d1]
      · rw [c2, d2]
    · obtain ⟨c0, c1, c2⟩ := cellT_old ts (fun x => if x = k then gk else f x) (show k + 1 ≤ i by omega)
      obtain ⟨d0, d1, d2⟩ := cellT_old ts f (show k ≤ i by omega)
      rcases hd with rfl | rfl | rfl
      · rw [c0, d0]
      · rw [c1, d1]
      · rw [c2, d2]

/-- A row of tokens that the laws' copy has made: its own block, and a block for each text. -/
structure MadeT (lo : Nat) (w : World) (g n : Nat) (ts : List Tok) (f : Nat → Nat) : Prop where
  len : ts.length = n
  base : lo ≤ g
  row : w.rowIs g 30 (n * 3) (cellT ts f n)
  txt : ∀ i, i < n → lo ≤ f i ∧ Row w (f i) (ts.getD i Tok.zero).text.length (ts.getD i Tok.zero).text
  byte : ∀ i j, 0 ≤ (ts.getD i Tok.zero).text.getD j 0 ∧ (ts.getD i Tok.zero).text.getD j 0 ≤ 255
  small : n + sumT ts n ≤ 1048576

def txM (ts : List Tok) (f : Nat → Nat) (i : Nat) : Nat × Nat × Nat := (f i, 0, (ts.getD i Tok.zero).text.length)

theorem MadeT.rd {lo : Nat} {w : World} {g n : Nat} {ts : List Tok} {f : Nat → Nat} (h : MadeT lo w g n ts f) : RdT lo w.heap.size w (some ⟨g, 0, none⟩) n n ts := by
  obtain ⟨h1, h2, h3, h4, h5, h6⟩ := h
  refine ⟨h1, ⟨Nat.le_refl _, by omega⟩, .inr ⟨g, 0, rfl, h2, h3.lt, fun i hi => ?_⟩⟩
  obtain ⟨c0, c1, c2⟩ := cellT_new ts f hi
  simp only [Nat.zero_add]
  rw [h3.cell (show i * 3 < n * 3 by omega), h3.cell (show i * 3 + 1 < n * 3 by omega), h3.cell (show i * 3 + 2 < n * 3 by omega), c0, c1, c2]
  exact ⟨_, _, _, rfl, rfl, rfl, (h4 i hi).2.rd rfl (h5 i) (by have := sumT_ge ts hi; omega) (h4 i hi).1 (h4 i hi).2.lt⟩

theorem MadeT.below {lo B : Nat} {w w' : World} {g n : Nat} {ts : List Tok} {f : Nat → Nat} (h : MadeT lo w g n ts f) (hb : Below B w w') (hB : w.heap.size ≤ B) : MadeT lo w' g n ts f := by
  obtain ⟨h1, h2, h3, h4, h5, h6⟩ := h
  exact ⟨h1, h2, h3.of_block (hb.block g (Nat.lt_of_lt_of_le h3.lt hB)), fun i hi => ⟨(h4 i hi).1, (h4 i hi).2.below hb (Nat.lt_of_lt_of_le (h4 i hi).2.lt hB)⟩, h5, h6⟩

theorem leafT_sum (b off : Nat) (ts : List Tok) (f : Nat → Nat) : ∀ n, (leafT b off (txM ts f) n).length = n * 2 + sumT ts n
  | 0 => by simp [leafT, sumT]
  | n + 1 => by
    rw [leafT_succ]
    simp only [List.length_append, List.length_cons, leafB_length, sumT, leafT_sum b off ts f n, txM]
    omega

theorem mem_leafM {b off : Nat} {tx : Nat → Nat × Nat × Nat} {n : Nat} {x : Addr × IntKind} (h : x ∈ leafT b off tx n) :
    ∃ i, i < n ∧ (x = (⟨b, off + i * 3, none⟩, .i64) ∨ x = (⟨b, off + i * 3 + 1, none⟩, .i64) ∨ ∃ j, j < (tx i).2.2 ∧ x = (⟨(tx i).1, (tx i).2.1 + j, none⟩, .u8)) := by
  simp only [leafT, List.mem_flatMap, List.mem_range, List.mem_cons, leafB, List.mem_map] at h
  obtain ⟨i, hi, h⟩ := h
  refine ⟨i, hi, ?_⟩
  rcases h with h | h | ⟨j, hj, h⟩
  · exact .inl h
  · exact .inr (.inl h)
  · exact .inr (.inr ⟨j, hj, h.symm⟩)

theorem MadeT.leaf {lo : Nat} {w : World} {g n : Nat} {ts : List Tok} {f : Nat → Nat} (h : MadeT lo w g n ts f) :
    HeadT w g 0 (txM ts f) n ∧ LeafOk w (leafT g 0 (txM ts f) n) ∧ ∀ x ∈ leafT g 0 (txM ts f) n, lo ≤ x.1.block ∧ x.1.block < w.heap.size := by
  obtain ⟨h1, h2, h3, h4, h5, h6⟩ := h
  refine ⟨fun i hi => ?_, fun x hx => ?_, fun x hx => ?_⟩
  · obtain ⟨c0, c1, c2⟩ := cellT_new ts f hi
    refine ⟨some ⟨f i, 0, none⟩, (ts.getD i Tok.zero).text.length, ?_, .inr rfl, by have := sumT_ge ts hi; show (ts.getD i Tok.zero).text.length ≤ _; omega⟩
    rw [Nat.zero_add, h3.cell (show i * 3 + 2 < n * 3 by omega), c2]; rfl
  · obtain ⟨i, hi, e | e | ⟨j, hj, e⟩⟩ := mem_leafM hx
    · subst e
      obtain ⟨c0, c1, c2⟩ := cellT_new ts f hi
      simp only [Nat.zero_add]
      exact ⟨⟨_, by rw [h3.cell (show i * 3 < n * 3 by omega), c0]⟩, h3.frozen _⟩
    · subst e
      obtain ⟨c0, c1, c2⟩ := cellT_new ts f hi
      simp only [Nat.zero_add]
      exact ⟨⟨_, by rw [h3.cell (show i * 3 + 1 < n * 3 by omega), c1]⟩, h3.frozen _⟩
    · subst e
      simp only [txM, Nat.zero_add] at hj ⊢
      exact ⟨⟨_, (h4 i hi).2.cell hj⟩, (h4 i hi).2.frozen _⟩
  · obtain ⟨i, hi, e | e | ⟨j, hj, e⟩⟩ := mem_leafM hx
    · subst e; exact ⟨h2, h3.lt⟩
    · subst e; exact ⟨h2, h3.lt⟩
    · subst e; exact ⟨(h4 i hi).1, (h4 i hi).2.lt⟩

theorem RdT.byte {lo hi : Nat} {w : World} {a : Option Addr} {n cap : Nat} {ts : List Tok} (h : RdT lo hi w a n cap ts) : ∀ i j, 0 ≤ (ts.getD i Tok.zero).text.getD j 0 ∧ (ts.getD i Tok.zero).text.getD j 0 ≤ 255 := by
  intro i j
  by_cases hi' : i < n
  · rcases h.cells with h0 | ⟨b, off, _, _, _, hc⟩
    · omega
    · obtain ⟨_, _, _, _, _, _, c4⟩ := hc i hi'
      exact c4.byte j
  · have e : ts.getD i Tok.zero = Tok.zero := by rw [List.getD, List.getElem?_eq_none (by rw [h.len]; omega)]; rfl
    rw [e]; simp [Tok.zero]

end Go.Proofs.Ythojlfcahhjfaaa
