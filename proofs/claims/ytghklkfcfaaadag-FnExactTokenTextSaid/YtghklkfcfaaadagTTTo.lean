/- The laws' own copy of a token and of a slice of tokens: a contract each. -/
import Derived.Test.YtghklkfcfaaadagTTSz
namespace Go.Proofs.Ytghklkfcfaaadag
open Go.RowKit

theorem after_to {w w1 : World} {k p : Int} {v : Value} (hB : Below (w.heap.size + 3) (((w.alloc (Obj.cells #[Value.int IntKind.i64 k, Value.int IntKind.i64 p, v] 58)).alloc (Obj.cells #[Value.int IntKind.i64 0, Value.int IntKind.i64 0, Value.slice none 0 0] 49)).alloc (Obj.cells #[Value.int IntKind.i64 k, Value.int IntKind.i64 p, Value.slice none 0 0] 49)) w1) :
    w1.cell? ⟨w.heap.size + 1, 0, none⟩ = some (.int .i64 0) ∧ w1.cell? ⟨w.heap.size + 1, 1, none⟩ = some (.int .i64 0) ∧ w1.cell? ⟨w.heap.size + 1, 2, none⟩ = some (.slice none 0 0) ∧
    w1.cell? ⟨w.heap.size + 1 + 1, 0, none⟩ = some (.int .i64 k) ∧ w1.cell? ⟨w.heap.size + 1 + 1, 1, none⟩ = some (.int .i64 p) ∧ w1.cell? ⟨w.heap.size + 1 + 1, 2, none⟩ = some (.slice none 0 0) ∧
    (∀ o, w1.frozen? ⟨w.heap.size + 1, o, none⟩ = false) ∧ (∀ o, w1.frozen? ⟨w.heap.size + 1 + 1, o, none⟩ = false) ∧ Below w.heap.size w w1 := by
  refine ⟨(hB.cell (p := ⟨w.heap.size + 1, 0, none⟩) (by simp)).trans (by go_simp), (hB.cell (p := ⟨w.heap.size + 1, 1, none⟩) (by simp)).trans (by go_simp), (hB.cell (p := ⟨w.heap.size + 1, 2, none⟩) (by simp)).trans (by go_simp),
    (hB.cell (p := ⟨w.heap.size + 1 + 1, 0, none⟩) (by simp)).trans (by go_simp), (hB.cell (p := ⟨w.heap.size + 1 + 1, 1, none⟩) (by simp)).trans (by go_simp), (hB.cell (p := ⟨w.heap.size + 1 + 1, 2, none⟩) (by simp)).trans (by go_simp),
    fun o => (hB.frozen (p := ⟨w.heap.size + 1, o, none⟩) (by simp)).trans (by go_simp), fun o => (hB.frozen (p := ⟨w.heap.size + 1 + 1, o, none⟩) (by simp)).trans (by go_simp), ?_⟩
  exact ((((Below.refl _ _).alloc (Nat.le_refl _) _).alloc (by simp) _).alloc (by simp; omega) _).trans (hB.mono (by omega))

set_option maxHeartbeats 400000 in
theorem toToken_any (k p : Int) (a : Option Addr) (n cap : Nat) (xs : List Int) (w : World) {lo hi : Nat} (h : Rd lo hi w a n cap xs) (hhi : hi ≤ w.heap.size) (hn : n ≤ 1048576) :
    Calls Try.prog 32 #[.agg #[.int .i64 k, .int .i64 p, .slice a n cap]] w fun e w' => ∃ g, e = .returned (.agg #[.int .i64 k, .int .i64 p, .slice (some ⟨g, 0, none⟩) n n]) ∧ w.heap.size ≤ g ∧ Row w' g n xs ∧ Below w.heap.size w w' := by
  have H : Hid (Rd lo hi w a n cap xs) := h
  clear h
  go_enter Try.func32, Try.ntmps32
  go_wp2_with fail
  refine (toByteS_any a n cap xs _ (lo := lo) (hi := hi) (H.out.below ((((Below.refl _ _).alloc (Nat.le_refl _) _).alloc (by simp) _).alloc (by simp; omega) _) hhi) (by simp; omega) hn).mono ?_
  rintro e w1 ⟨rfl, hrow, hb⟩
  simp only [World.size_alloc] at hrow hb
  obtain ⟨q0, q1, q2, r0, r1, r2, fq, fr, hW⟩ := after_to hb
  have HRow : Hid (Row w1 (w.heap.size + 1 + 1 + 1) n xs) := hrow
  have HW : Hid (Below w.heap.size w w1) := hW
  clear hrow hb hW
  go_wp2
  refine bodyPost_ret (v := .agg #[.int .i64 k, .int .i64 p, .slice (some ⟨w.heap.size + 1 + 1 + 1, 0, none⟩) n n]) (by simp [results, Try.results32, go_sem, q0, q1, q2]) rfl ⟨w.heap.size + 1 + 1 + 1, rfl, by omega, ?_, ?_⟩
  · have e1 : w.heap.size + 1 + 1 + 1 ≠ w.heap.size + 1 := by omega
    have e2 : w.heap.size + 1 + 1 + 1 ≠ w.heap.size + 1 + 1 := by omega
    simp only [row_set _ _ _ _ _ _ _ e1, row_set _ _ _ _ _ _ _ e2]; exact HRow.out
  · simp only [below_set _ _ _ _ _ _ (Nat.le_succ w.heap.size), below_set _ _ _ _ _ _ (show w.heap.size ≤ w.heap.size + 1 + 1 by omega)]; exact HW.out

theorem Try.infoTokT : (Try.prog.info? 49).map (fun i => (i.zero, i.size, i.bytes)) = some (some (.agg #[.int .i64 0, .int .i64 0, .slice none 0 0]), 3, 40) := by kernel_rfl

/-- The cell j of a row of tokens of which the first k are laid: the texts in the blocks that f says. -/
def cellT (ts : List Tok) (f : Nat → Nat) (k j : Nat) : Value :=
  if j / 3 < k then (if j % 3 = 0 then .int .i64 (ts.getD (j / 3) Tok.zero).kind else if j % 3 = 1 then .int .i64 (ts.getD (j / 3) Tok.zero).place else .slice (some ⟨f (j / 3), 0, none⟩) (ts.getD (j / 3) Tok.zero).text.length (ts.getD (j / 3) Tok.zero).text.length)
  else (if j % 3 = 0 then .int .i64 0 else if j % 3 = 1 then .int .i64 0 else .slice none 0 0)

theorem cellT_new (ts : List Tok) (f : Nat → Nat) {k i : Nat} (h : i < k) : cellT ts f k (i * 3) = .int .i64 (ts.getD i Tok.zero).kind ∧ cellT ts f k (i * 3 + 1) = .int .i64 (ts.getD i Tok.zero).place ∧ cellT ts f k (i * 3 + 2) = .slice (some ⟨f i, 0, none⟩) (ts.getD i Tok.zero).text.length (ts.getD i Tok.zero).text.length := by
  have e0 : i * 3 / 3 = i := by omega
  have e1 : (i * 3 + 1) / 3 = i := by omega
  have e2 : (i * 3 + 2) / 3 = i := by omega
  have m0 : i * 3 % 3 = 0 := by omega
  have m1 : (i * 3 + 1) % 3 = 1 := by omega
  have m2 : (i * 3 + 2) % 3 = 2 := by omega
  refine ⟨?_, ?_, ?_⟩
  · simp [cellT, e0, h]
  · simp [cellT, e1, m1, h]
  · simp [cellT, e2, m2, h]

theorem cellT_old (ts : List Tok) (f : Nat → Nat) {k i : Nat} (h : k ≤ i) : cellT ts f k (i * 3) = .int .i64 0 ∧ cellT ts f k (i * 3 + 1) = .int .i64 0 ∧ cellT ts f k (i * 3 + 2) = .slice none 0 0 := by
  have e0 : i * 3 / 3 = i := by omega
  have e1 : (i * 3 + 1) / 3 = i := by omega
  have e2 : (i * 3 + 2) / 3 = i := by omega
  have m0 : i * 3 % 3 = 0 := by omega
  have m1 : (i * 3 + 1) % 3 = 1 := by omega
  have m2 : (i * 3 + 2) % 3 = 2 := by omega
  have hn : ¬ i < k := by omega
  refine ⟨?_, ?_, ?_⟩
  · simp [cellT, e0, hn]
  · simp [cellT, e1, m1, hn]
  · simp [cellT, e2, m2, hn]

theorem rowT_made (w : World) (ts : List Tok) (f : Nat → Nat) (n : Nat) : (w.alloc (.cells (madeCells #[.int .i64 0, .int .i64 0, .slice none 0 0] (n * 3)) 49)).rowIs w.heap.size 49 (n * 3) (cellT ts f 0) := by
  have key := World.rowIs_alloc w (madeCells #[.int .i64 0, .int .i64 0, .slice none 0 0] (n * 3)) 49 (cellT ts f 0) (fun i hi => ?_)
  · rw [size_madeCells] at key; exact key
  rw [size_madeCells] at hi
  have : i % 3 = 0 ∨ i % 3 = 1 ∨ i % 3 = 2 := by omega
  rcases this with h | h | h <;> simp [madeCells, hi, cellT, h]

theorem rowT_step {w : World} {g n k gk : Nat} {ts : List Tok} {f : Nat → Nat} (h : w.rowIs g 49 (n * 3) (cellT ts f k)) :
    (((w.setCell ⟨g, k * 3, none⟩ (.int .i64 (ts.getD k Tok.zero).kind)).setCell ⟨g, k * 3 + 1, none⟩ (.int .i64 (ts.getD k Tok.zero).place)).setCell ⟨g, k * 3 + 2, none⟩ (.slice (some ⟨gk, 0, none⟩) (ts.getD k Tok.zero).text.length (ts.getD k Tok.zero).text.length)).rowIs g 49 (n * 3) (cellT ts (fun i => if i = k then gk else f i) (k + 1)) := by
  refine (((h.set (k * 3) _).set (k * 3 + 1) _).set (k * 3 + 2) _).congr fun j hj => ?_
  have hd : ∃ i, j = i * 3 ∨ j = i * 3 + 1 ∨ j = i * 3 + 2 := ⟨j / 3, by omega⟩
  obtain ⟨i, hd⟩ := hd
  by_cases hik : i = k
  · subst hik
    obtain ⟨c0, c1, c2⟩ := cellT_new ts (fun x => if x = i then gk else f x) (Nat.lt_succ_self i)
    rcases hd with rfl | rfl | rfl
    · rw [c0]; simp
    · rw [c1]; simp
    · rw [c2]; simp
  · have n0 : j ≠ k * 3 := by omega
    have n1 : j ≠ k * 3 + 1 := by omega
    have n2 : j ≠ k * 3 + 2 := by omega
    simp only [if_neg n0, if_neg n1, if_neg n2]
    by_cases hlt : i < k
    · obtain ⟨c0, c1, c2⟩ := cellT_new ts (fun x => if x = k then gk else f x) (show i < k + 1 by omega)
      obtain ⟨d0, d1, d2⟩ := cellT_new ts f hlt
      simp only [if_neg hik] at c2
      rcases hd with rfl | rfl | rfl
      · rw [c0, d0]
      · rw [c1, d1]
      · rw [c2, d2]
    · obtain ⟨c0, c1, c2⟩ := cellT_old ts (fun x => if x = k then gk else f x) (show k + 1 ≤ i by omega)
      obtain ⟨d0, d1, d2⟩ := cellT_old ts f (show k ≤ i by omega)
      rcases hd with rfl | rfl | rfl
      · rw [c0, d0]
      · rw [c1, d1]
      · rw [c2, d2]

/-- A row of tokens that the laws' copy has made: its own block, and a block for each text. -/
structure MadeT (lo : Nat) (w : World) (g n : Nat) (ts : List Tok) (f : Nat → Nat) : Prop where
  len : ts.length = n
  base : lo ≤ g
  row : w.rowIs g 49 (n * 3) (cellT ts f n)
  txt : ∀ i, i < n → lo ≤ f i ∧ Row w (f i) (ts.getD i Tok.zero).text.length (ts.getD i Tok.zero).text
  byte : ∀ i j, 0 ≤ (ts.getD i Tok.zero).text.getD j 0 ∧ (ts.getD i Tok.zero).text.getD j 0 ≤ 255
  small : n + sumT ts n ≤ 1048576

def txM (ts : List Tok) (f : Nat → Nat) (i : Nat) : Nat × Nat × Nat := (f i, 0, (ts.getD i Tok.zero).text.length)

theorem MadeT.rd {lo : Nat} {w : World} {g n : Nat} {ts : List Tok} {f : Nat → Nat} (h : MadeT lo w g n ts f) : RdT lo w.heap.size w (some ⟨g, 0, none⟩) n n ts := by
  obtain ⟨h1, h2, h3, h4, h5, h6⟩ := h
  refine ⟨h1, ⟨Nat.le_refl _, by omega⟩, .inr ⟨g, 0, rfl, h2, h3.lt, fun i hi => ?_⟩⟩
  obtain ⟨c0, c1, c2⟩ := cellT_new ts f hi
  simp only [Nat.zero_add]
  rw [h3.cell (show i * 3 < n * 3 by omega), h3.cell (show i * 3 + 1 < n * 3 by omega), h3.cell (show i * 3 + 2 < n * 3 by omega), c0, c1, c2]
  exact ⟨_, _, _, rfl, rfl, rfl, (h4 i hi).2.rd rfl (h5 i) (by have := sumT_ge ts hi; omega) (h4 i hi).1 (h4 i hi).2.lt⟩

theorem MadeT.below {lo B : Nat} {w w' : World} {g n : Nat} {ts : List Tok} {f : Nat → Nat} (h : MadeT lo w g n ts f) (hb : Below B w w') (hB : w.heap.size ≤ B) : MadeT lo w' g n ts f := by
  obtain ⟨h1, h2, h3, h4, h5, h6⟩ := h
  exact ⟨h1, h2, h3.of_block (hb.block g (Nat.lt_of_lt_of_le h3.lt hB)), fun i hi => ⟨(h4 i hi).1, (h4 i hi).2.below hb (Nat.lt_of_lt_of_le (h4 i hi).2.lt hB)⟩, h5, h6⟩

theorem leafT_sum (b off : Nat) (ts : List Tok) (f : Nat → Nat) : ∀ n, (leafT b off (txM ts f) n).length = n * 2 + sumT ts n
  | 0 => by simp [leafT, sumT]
  | n + 1 => by
    rw [leafT_succ]
    simp only [List.length_append, List.length_cons, leafB_length, sumT, leafT_sum b off ts f n, txM]
    omega

theorem mem_leafM {b off : Nat} {tx : Nat → Nat × Nat × Nat} {n : Nat} {x : Addr × IntKind} (h : x ∈ leafT b off tx n) :
    ∃ i, i < n ∧ (x = (⟨b, off + i * 3, none⟩, .i64) ∨ x = (⟨b, off + i * 3 + 1, none⟩, .i64) ∨ ∃ j, j < (tx i).2.2 ∧ x = (⟨(tx i).1, (tx i).2.1 + j, none⟩, .u8)) := by
  simp only [leafT, List.mem_flatMap, List.mem_range, List.mem_cons, leafB, List.mem_map] at h
  obtain ⟨i, hi, h⟩ := h
  refine ⟨i, hi, ?_⟩
  rcases h with h | h | ⟨j, hj, h⟩
  · exact .inl h
  · exact .inr (.inl h)
  · exact .inr (.inr ⟨j, hj, h.symm⟩)

theorem MadeT.leaf {lo : Nat} {w : World} {g n : Nat} {ts : List Tok} {f : Nat → Nat} (h : MadeT lo w g n ts f) :
    HeadT w g 0 (txM ts f) n ∧ LeafOk w (leafT g 0 (txM ts f) n) ∧ ∀ x ∈ leafT g 0 (txM ts f) n, lo ≤ x.1.block ∧ x.1.block < w.heap.size := by
  obtain ⟨h1, h2, h3, h4, h5, h6⟩ := h
  refine ⟨fun i hi => ?_, fun x hx => ?_, fun x hx => ?_⟩
  · obtain ⟨c0, c1, c2⟩ := cellT_new ts f hi
    refine ⟨some ⟨f i, 0, none⟩, (ts.getD i Tok.zero).text.length, ?_, .inr rfl, by have := sumT_ge ts hi; show (ts.getD i Tok.zero).text.length ≤ _; omega⟩
    rw [Nat.zero_add, h3.cell (show i * 3 + 2 < n * 3 by omega), c2]; rfl
  · obtain ⟨i, hi, e | e | ⟨j, hj, e⟩⟩ := mem_leafM hx
    · subst e
      obtain ⟨c0, c1, c2⟩ := cellT_new ts f hi
      simp only [Nat.zero_add]
      exact ⟨⟨_, by rw [h3.cell (show i * 3 < n * 3 by omega), c0]⟩, h3.frozen _⟩
    · subst e
      obtain ⟨c0, c1, c2⟩ := cellT_new ts f hi
      simp only [Nat.zero_add]
      exact ⟨⟨_, by rw [h3.cell (show i * 3 + 1 < n * 3 by omega), c1]⟩, h3.frozen _⟩
    · subst e
      simp only [txM, Nat.zero_add] at hj ⊢
      exact ⟨⟨_, (h4 i hi).2.cell hj⟩, (h4 i hi).2.frozen _⟩
  · obtain ⟨i, hi, e | e | ⟨j, hj, e⟩⟩ := mem_leafM hx
    · subst e; exact ⟨h2, h3.lt⟩
    · subst e; exact ⟨h2, h3.lt⟩
    · subst e; exact ⟨(h4 i hi).1, (h4 i hi).2.lt⟩

theorem RdT.byte {lo hi : Nat} {w : World} {a : Option Addr} {n cap : Nat} {ts : List Tok} (h : RdT lo hi w a n cap ts) : ∀ i j, 0 ≤ (ts.getD i Tok.zero).text.getD j 0 ∧ (ts.getD i Tok.zero).text.getD j 0 ≤ 255 := by
  intro i j
  by_cases hi' : i < n
  · rcases h.cells with h0 | ⟨b, off, _, _, _, hc⟩
    · omega
    · obtain ⟨_, _, _, _, _, _, c4⟩ := hc i hi'
      exact c4.byte j
  · have e : ts.getD i Tok.zero = Tok.zero := by rw [List.getD, List.getElem?_eq_none (by rw [h.len]; omega)]; rfl
    rw [e]; simp [Tok.zero]

set_option maxHeartbeats 800000 in
theorem toTokenS_any (a : Option Addr) (n cap : Nat) (ts : List Tok) (w : World) {lo hi : Nat} (h : RdT lo hi w a n cap ts) (hhi : hi ≤ w.heap.size) (hsm : n + sumT ts n ≤ 1048576) :
    Calls Try.prog 16 #[.slice a n cap] w fun e w' => ∃ f, e = .returned (.slice (some ⟨w.heap.size, 0, none⟩) n n) ∧ MadeT w.heap.size w' w.heap.size n ts f ∧ Below w.heap.size w w' := by
  have H : Hid (RdT lo hi w a n cap ts) := h
  obtain ⟨hl, ⟨hm, hM⟩, hcs⟩ := h
  clear hcs
  have hmk : ∀ w : World, (Instr.makeSlice 23 (.int .i64 (n : Int)) (.int .i64 (n : Int))).run Try.prog w = .ok (.slice (some ⟨w.heap.size, 0, none⟩) n n) (w.alloc (.cells (madeCells #[.int .i64 0, .int .i64 0, .slice none 0 0] (n * 3)) 49)) := by
    intro w
    obtain ⟨i0, hi0, hz0, hz1, hz2⟩ := info_parts Try.infoTokT
    have hr := run_make (P := Try.prog) w 23 49 i0 _ Try.underlying23 hi0 hz0 .i64 .i64 n n (by omega) (Int.le_refl _) (by rw [hz2]; omega) (by omega)
    simp only [Int.toNat_natCast, hz1] at hr
    exact hr
  have HL : Hid (ts.length = n) := hl
  have hn1 : n ≤ 1048576 := by omega
  have HSm : Hid (n + sumT ts n ≤ 1048576) := hsm
  have h0 : Hid ((w.alloc (.cells (madeCells #[.int .i64 0, .int .i64 0, .slice none 0 0] (n * 3)) 49)).rowIs w.heap.size 49 (n * 3) (cellT ts (fun _ => 0) 0)) := rowT_made w ts _ n
  clear hl hsm
  go_enter Try.func16, Try.ntmps16
  go_wp2
  go_loopw [4] (fun i wr => ∃ (k : Nat) (f : Nat → Nat), k ≤ n ∧ i = .int .i64 k ∧ wr.rowIs w.heap.size 49 (n * 3) (cellT ts f k) ∧ (∀ i, i < k → w.heap.size ≤ f i ∧ Row wr (f i) (ts.getD i Tok.zero).text.length (ts.getD i Tok.zero).text) ∧ Below w.heap.size w wr) (fun i _ => n - (intOf i).toNat)
  case atStart => exact ⟨0, fun _ => 0, Nat.zero_le _, rfl, h0.out, fun i hi => absurd hi (by omega), (Below.refl _ _).alloc (Nat.le_refl _) _⟩
  case round =>
    obtain ⟨k, f, hk, rfl, hrow, htx, hbel⟩ := hrel
    by_cases hlt : k < n
    · have hR := H.out.same (Same.of_below hbel hhi)
      rcases hR.cells with h0 | ⟨b, off, e1, _, hbh, hc⟩
      · omega
      · subst e1
        obtain ⟨ta, tn, tc, c1, c2, c3, c4⟩ := hc k hlt
        have htn : tn ≤ 1048576 := by have := sumT_ge ts hlt; have := HSm.out; have := c4.len; omega
        have htl := c4.len
        have HTx : Hid (∀ i, i < k → w.heap.size ≤ f i ∧ Row wr (f i) (ts.getD i Tok.zero).text.length (ts.getD i Tok.zero).text) := htx
        have HB : Hid (Below w.heap.size w wr) := hbel
        have HRow : Hid (wr.rowIs w.heap.size 49 (n * 3) (cellT ts f k)) := hrow
        obtain ⟨t, ht⟩ : ∃ t, t = ts.getD k Tok.zero := ⟨_, rfl⟩
        have HT : Hid (t = ts.getD k Tok.zero) := ht
        rw [← ht] at c1 c2 c4 htl
        obtain ⟨tk, tp, tx⟩ := t
        have C4 : Hid (Rd lo hi wr ta tn tc tx) := c4
        have hki : (k : Int) < (n : Int) := by omega
        have hlw := hrow.lt
        clear hR hc ht c4 hbel hrow htx htl
        go_wp2_with fail
        refine (toToken_any tk tp ta tn tc tx _ C4.out (Nat.le_trans hhi HB.out.size) htn).mono ?_
        rintro e w1 ⟨gk, rfl, hgk, hrk, hb1⟩
        have hrow1 : w1.rowIs w.heap.size 49 (n * 3) (cellT ts f k) := HRow.out.of_block (hb1.block _ hlw)
        obtain ⟨o0, o1, o2⟩ := cellT_old ts f (Nat.le_refl k)
        have d0 : w1.cell? ⟨w.heap.size, k * 3, none⟩ = some (.int .i64 0) := by rw [hrow1.cell (show k * 3 < n * 3 by omega), o0]
        have d1 : w1.cell? ⟨w.heap.size, k * 3 + 1, none⟩ = some (.int .i64 0) := by rw [hrow1.cell (show k * 3 + 1 < n * 3 by omega), o1]
        have d2 : w1.cell? ⟨w.heap.size, k * 3 + 2, none⟩ = some (.slice none 0 0) := by rw [hrow1.cell (show k * 3 + 2 < n * 3 by omega), o2]
        have df : ∀ o, w1.frozen? ⟨w.heap.size, o, none⟩ = false := fun o => hrow1.frozen o
        have HStep : Hid ((((w1.setCell ⟨w.heap.size, k * 3, none⟩ (.int .i64 tk)).setCell ⟨w.heap.size, k * 3 + 1, none⟩ (.int .i64 tp)).setCell ⟨w.heap.size, k * 3 + 2, none⟩ (.slice (some ⟨gk, 0, none⟩) tn tn)).rowIs w.heap.size 49 (n * 3) (cellT ts (fun i => if i = k then gk else f i) (k + 1))) := by
          have e := rowT_step (gk := gk) hrow1
          rw [← HT.out, C4.out.len] at e
          exact e
        have hgne : gk ≠ w.heap.size := by omega
        have HTx1 : Hid (∀ i, i < k + 1 → w.heap.size ≤ (if i = k then gk else f i) ∧ Row (((w1.setCell ⟨w.heap.size, k * 3, none⟩ (.int .i64 tk)).setCell ⟨w.heap.size, k * 3 + 1, none⟩ (.int .i64 tp)).setCell ⟨w.heap.size, k * 3 + 2, none⟩ (.slice (some ⟨gk, 0, none⟩) tn tn)) (if i = k then gk else f i) (ts.getD i Tok.zero).text.length (ts.getD i Tok.zero).text) := by
          intro i hi
          by_cases hik : i = k
          · subst hik
            simp only [if_true]
            refine ⟨by omega, ?_⟩
            simp only [row_set _ _ _ _ _ _ _ hgne]
            rw [← HT.out, C4.out.len]; exact hrk
          · simp only [if_neg hik]
            obtain ⟨h1, h2⟩ := HTx.out i (by omega)
            refine ⟨h1, ?_⟩
            have hne : f i ≠ w.heap.size := by
              intro e
              obtain ⟨c, hc, _⟩ := h2
              obtain ⟨c', hc', _⟩ := HRow.out
              rw [e, hc'] at hc
              simp at hc
            simp only [row_set _ _ _ _ _ _ _ hne]
            exact h2.below hb1 h2.lt
        have HB1 : Hid (Below w.heap.size w (((w1.setCell ⟨w.heap.size, k * 3, none⟩ (.int .i64 tk)).setCell ⟨w.heap.size, k * 3 + 1, none⟩ (.int .i64 tp)).setCell ⟨w.heap.size, k * 3 + 2, none⟩ (.slice (some ⟨gk, 0, none⟩) tn tn))) := by
          unfold Hid
          simp only [below_set _ _ _ _ _ _ (Nat.le_refl w.heap.size)]
          exact HB.out.trans (hb1.mono HB.out.size)
        clear hrow1 o0 o1 o2 hrk hb1
        go_wp2
        go_roundw
        case rel => exact ⟨k + 1, fun i => if i = k then gk else f i, by omega, by go_num, HStep.out, HTx1.out, HB1.out⟩
        case measure => simp [intOf]; omega
    · have hkn : k = n := by omega
      subst hkn
      have HF : Hid (MadeT w.heap.size wr w.heap.size k ts f) := ⟨HL.out, Nat.le_refl _, hrow, htx, H.out.byte, HSm.out⟩
      have HB : Hid (Below w.heap.size w wr) := hbel
      clear hrow htx hbel
      go_wp2
      go_ret
      exact ⟨f, rfl, HF.out, HB.out⟩

end Go.Proofs.Ytghklkfcfaaadag
