/- Several texts in one: ReadMem, ReadI1. -/
import Derived.Test.YtnmljalcndfjmaaGreatNG6
import Derived.Test.YtnmljalcndfjmaaGreatNG11
import Derived.Test.YtnmljalcndfjmaaGreatNG7
import Derived.Test.YtnmljalcndfjmaaGreatConAdd
namespace Go.Proofs.YtnmljalcndfjmaaGreat

section
open Go.RowKit

/-- Below B all blocks but pb are as they were. -/
structure Bt (pb B : Nat) (w w' : World) : Prop where
  os : w'.os = w.os
  tape : w'.tape = w.tape
  output : w'.output = w.output
  size : w.heap.size ≤ w'.heap.size
  block : ∀ k, k < B → k ≠ pb → w'.heap[k]? = w.heap[k]?

theorem Bt.refl (pb B : Nat) (w : World) : Bt pb B w w := ⟨rfl, rfl, rfl, Nat.le_refl _, fun _ _ _ => rfl⟩
theorem Bt.trans {pb B : Nat} {a b c : World} (h : Bt pb B a b) (k : Bt pb B b c) : Bt pb B a c :=
  ⟨k.os.trans h.os, k.tape.trans h.tape, k.output.trans h.output, Nat.le_trans h.size k.size, fun i hi hn => (k.block i hi hn).trans (h.block i hi hn)⟩
theorem Bt.mono {pb B B' : Nat} {w w' : World} (h : Bt pb B w w') (hB : B' ≤ B) : Bt pb B' w w' := ⟨h.os, h.tape, h.output, h.size, fun k hk hn => h.block k (Nat.lt_of_lt_of_le hk hB) hn⟩
theorem Bt.drew {pb B : Nat} {a w : World} (h : Bt pb B a w) : Bt pb B a w.drew := ⟨h.os, h.tape, h.output, h.size, h.block⟩
theorem Bt.of_below {pb B : Nat} {w w' : World} (h : Below B w w') : Bt pb B w w' := ⟨h.os, h.tape, h.output, h.size, fun k hk _ => h.block k hk⟩
theorem Bt.alloc {pb B : Nat} {a w : World} (h : Bt pb B a w) (hB : B ≤ w.heap.size) (o : Obj) : Bt pb B a (w.alloc o) := h.trans (Bt.of_below ((Below.refl _ _).alloc hB o))
theorem Bt.set {pb B : Nat} {a w : World} (h : Bt pb B a w) {p : Addr} (hp : B ≤ p.block ∨ p.block = pb) (u : Value) : Bt pb B a (w.setCell p u) :=
  h.trans ⟨rfl, rfl, rfl, by simp [World.setCell], fun k hk hn => Below.heap_setCell _ _ _ _ (by omega)⟩
theorem Bt.grown {pb B : Nat} {a w w' : World} {row : Option Nat} (h : Bt pb B a w) (hg : w.grownBy w' row) (hB : B ≤ w.heap.size) (hr : ∀ k, row = some k → B ≤ k) : Bt pb B a w' :=
  h.trans (Bt.of_below ((Below.refl _ _).grown hg hB hr))
theorem Bt.below {pb B B' : Nat} {w w' : World} (h : Bt pb B w w') (h1 : B' ≤ B) (h2 : B' ≤ pb) : Below B' w w' := ⟨h.os, h.tape, h.output, h.size, fun k hk => h.block k (by omega) (by omega)⟩

/-- Tokens in the block g; their texts in blocks of their own; all below pb. -/
structure TkM (base pb : Nat) (w : World) (g : Nat) (ts : List Tok) (gs : List (Nat × Nat)) : Prop where
  glt : ts.length = 0 ∨ (base ≤ g ∧ g < pb)
  cell : ∀ i, i < ts.length → w.cell? ⟨g, i * 3, none⟩ = some (.int .i64 (ts.getD i Tok.zero).kind) ∧ w.cell? ⟨g, i * 3 + 1, none⟩ = some (.int .i64 (ts.getD i Tok.zero).place) ∧ w.cell? ⟨g, i * 3 + 2, none⟩ = some (txv (ts.getD i Tok.zero) (gs.getD i (0, 0)))
  txt : ∀ i, i < ts.length → (ts.getD i Tok.zero).text ≠ [] → (base ≤ (gs.getD i (0, 0)).1 ∧ (gs.getD i (0, 0)).1 < pb) ∧ Row w (gs.getD i (0, 0)).1 (gs.getD i (0, 0)).2 (ts.getD i Tok.zero).text ∧ (gs.getD i (0, 0)).2 ≤ 9223372036854775807
  byte : ∀ i, i < ts.length → ∀ j, 0 ≤ (ts.getD i Tok.zero).text.getD j 0 ∧ (ts.getD i Tok.zero).text.getD j 0 ≤ 255
  dist : ∀ i j, i < j → j < ts.length → (ts.getD i Tok.zero).text ≠ [] → (ts.getD j Tok.zero).text ≠ [] → (gs.getD i (0, 0)).1 ≠ (gs.getD j (0, 0)).1

theorem TkM.keep {base pb : Nat} {w w' : World} {g : Nat} {ts : List Tok} {gs : List (Nat × Nat)} (h : TkM base pb w g ts gs) (hb : ∀ q, base ≤ q → q < pb → w'.heap[q]? = w.heap[q]?) : TkM base pb w' g ts gs := by
  obtain ⟨h1, h2, h3, h4, h5⟩ := h
  refine ⟨h1, fun i hi => ?_, fun i hi ht => ⟨(h3 i hi ht).1, (h3 i hi ht).2.1.of_block (hb _ (h3 i hi ht).1.1 (h3 i hi ht).1.2), (h3 i hi ht).2.2⟩, h4, h5⟩
  have hg := hb g (by omega) (by omega)
  obtain ⟨c0, c1, c2⟩ := h2 i hi
  exact ⟨(World.cell?_of_block (w := w) hg).trans c0, (World.cell?_of_block (w := w) hg).trans c1, (World.cell?_of_block (w := w) hg).trans c2⟩

theorem TkM.below {base pb : Nat} {w w' : World} {g : Nat} {ts : List Tok} {gs : List (Nat × Nat)} (h : TkM base pb w g ts gs) (hb : Below pb w w') : TkM base pb w' g ts gs := h.keep (fun q _ hq => hb.block q hq)

theorem TkM.bt {base pb B : Nat} {w w' : World} {g : Nat} {ts : List Tok} {gs : List (Nat × Nat)} (h : TkM base pb w g ts gs) (hb : Bt pb B w w') (hB : pb ≤ B) : TkM base pb w' g ts gs := h.below (hb.below hB (Nat.le_refl _))

theorem OwnT.tkm {base pb : Nat} {w : World} {v : Value} {ts : List Tok} {gs : List (Nat × Nat)} (h : OwnT base w v ts gs) (hpb : w.heap.size ≤ pb) :
    ∃ a cap g, v = .slice a ts.length cap ∧ (ts.length = 0 ∨ a = some ⟨g, 0, none⟩) ∧ ts.length ≤ cap ∧ cap ≤ 9223372036854775807 ∧ TkM base pb w g ts gs := by
  obtain ⟨h1, h2, h3, h4, h5⟩ := h
  have ht : ∀ i, i < ts.length → (ts.getD i Tok.zero).text ≠ [] → (base ≤ (gs.getD i (0, 0)).1 ∧ (gs.getD i (0, 0)).1 < pb) ∧ Row w (gs.getD i (0, 0)).1 (gs.getD i (0, 0)).2 (ts.getD i Tok.zero).text ∧ (gs.getD i (0, 0)).2 ≤ 9223372036854775807 := fun i hi hne =>
    ⟨⟨(h3 i hi hne).1, Nat.lt_of_lt_of_le (h3 i hi hne).2.1.lt hpb⟩, (h3 i hi hne).2⟩
  rcases h2.2 with ⟨hv, h0⟩ | ⟨g, cap, cur, hv, hg, hh, hc1, hc2, hc3, hc4⟩
  · exact ⟨none, 0, 0, by rw [hv, h0], .inl h0, by omega, by omega, .inl h0, fun i hi => by omega, ht, h4, h5⟩
  · subst hv
    unfold maxLen at hc2
    refine ⟨_, cap, g, rfl, .inr rfl, hc1, hc2, .inr ⟨hg, Nat.lt_of_lt_of_le (Array.getElem?_eq_some_iff.1 hh).1 hpb⟩, fun i hi => ?_, ht, h4, h5⟩
    obtain ⟨f0, f1, f2⟩ := flatT_get ts gs i h1 hi
    rw [h2.cellAt (i * 3) (by omega), h2.cellAt (i * 3 + 1) (by omega), h2.cellAt (i * 3 + 2) (by omega), f0, f1, f2]
    exact ⟨rfl, rfl, rfl⟩

/-- A token's word. -/
theorem TkM.word {base pb : Nat} {w : World} {g : Nat} {ts : List Tok} {gs : List (Nat × Nat)} (h : TkM base pb w g ts gs) {i : Nat} (hi : i < ts.length) :
    ∃ a c, txv (ts.getD i Tok.zero) (gs.getD i (0, 0)) = .slice a (wordI ts i).length c ∧ OwB w a (wordI ts i).length c (wordI ts i) (gs.getD i (0, 0)).1 0 ∧ Rd 0 pb w a (wordI ts i).length c (wordI ts i) ∧
      (wordI ts i ≠ [] → ∀ o, w.frozen? ⟨(gs.getD i (0, 0)).1, o, none⟩ = false) := by
  by_cases ht : (ts.getD i Tok.zero).text = []
  · have hw : wordI ts i = [] := ht
    refine ⟨none, 0, by rw [txv_nil _ ht, hw]; rfl, ?_, ?_, fun hn => absurd hw hn⟩
    · rw [hw]; exact ⟨rfl, ⟨by simp, by omega⟩, by simp, .inl rfl⟩
    · rw [hw]; exact Rd.none_of (by omega)
  · obtain ⟨t1, t2, t3⟩ := h.txt i hi ht
    have hle : (wordI ts i).length ≤ (gs.getD i (0, 0)).2 := by obtain ⟨c, _, _, h, _⟩ := t2; exact h
    refine ⟨_, _, txv_cons _ ht, ⟨rfl, ⟨hle, t3⟩, h.byte i hi, .inr ⟨rfl, fun j hj => ?_⟩⟩, t2.rd rfl (h.byte i hi) t3 (Nat.zero_le _) t1.2, fun _ o => t2.frozen o⟩
    rw [Nat.zero_add]; exact t2.cell hj

/-- The reader's box. -/
def BoxR (W : World) (b : Nat) (lv : Value) (en : Int) : Prop := W.heap[b]? = some (.cells #[lv, .int .i64 en] 173 (0, 0))

theorem BoxR.cells {W : World} {b : Nat} {lv : Value} {en : Int} (h : BoxR W b lv en) : W.cell? ⟨b, 0, none⟩ = some lv ∧ W.cell? ⟨b, 1, none⟩ = some (.int .i64 en) := by
  unfold BoxR at h
  constructor <;> simp [World.cell?, h]
theorem BoxR.frz {W : World} {b : Nat} {lv : Value} {en : Int} (h : BoxR W b lv en) (o : Nat) : W.frozen? ⟨b, o, none⟩ = false := by
  unfold BoxR at h
  simp [World.frozen?, h]
theorem BoxR.lt {W : World} {b : Nat} {lv : Value} {en : Int} (h : BoxR W b lv en) : b < W.heap.size := (Array.getElem?_eq_some_iff.1 h).1
theorem BoxR.set0 {W : World} {b : Nat} {lv : Value} {en : Int} (h : BoxR W b lv en) (v : Value) : BoxR (W.setCell ⟨b, 0, none⟩ v) b v en := by
  unfold BoxR
  rw [heap_setCell_same W b 0 _ _ v h]
  rfl
theorem BoxR.of {W W' : World} {b : Nat} {lv : Value} {en : Int} (h : BoxR W b lv en) (e : W'.heap[b]? = W.heap[b]?) : BoxR W' b lv en := e.trans h
theorem BoxR.new (W : World) (lv : Value) (en : Int) : BoxR (W.alloc (.cells #[lv, .int .i64 en] 173)) W.heap.size lv en := by
  show (W.heap.push _)[W.heap.size]? = _
  simp

/-- The reader stands at the token i. -/
def RdrAt (W : World) (pb g i : Nat) (ts : List Tok) (en : Int) : Prop := ∃ a c, BoxR W pb (.slice a (ts.length - i) c) en ∧ (ts.length = i ∨ a = some ⟨g, i * 3, none⟩) ∧ ts.length - i ≤ c ∧ c ≤ 9223372036854775807

theorem RdrAt.of {W W' : World} {pb g i : Nat} {ts : List Tok} {en : Int} (h : RdrAt W pb g i ts en) (e : W'.heap[pb]? = W.heap[pb]?) : RdrAt W' pb g i ts en := by
  obtain ⟨a, c, h1, h2⟩ := h
  exact ⟨a, c, h1.of e, h2⟩
theorem RdrAt.lt {W : World} {pb g i : Nat} {ts : List Tok} {en : Int} (h : RdrAt W pb g i ts en) : pb < W.heap.size := by
  obtain ⟨a, c, h1, h2⟩ := h
  exact h1.lt
theorem RdrAt.below {W W' : World} {pb g i : Nat} {ts : List Tok} {en : Int} (h : RdrAt W pb g i ts en) (hb : Below W.heap.size W W') : RdrAt W' pb g i ts en := h.of (hb.block _ h.lt)
end

section
open Go.RowKit

/-- What a reader gives up with. -/
def gaveUp (p : Int) : Ending := .panicked [{ v := .iface 170 (.int .i64 p), recovered := false }]

theorem hereI_lt {ts : List Tok} {en : Int} {i : Nat} (h : i < ts.length) : hereI ts en i = (ts.getD i Tok.zero).place := if_pos h
theorem hereI_end {ts : List Tok} {en : Int} {i : Nat} (h : ts.length ≤ i) : hereI ts en i = en := if_neg (by omega)

set_option maxHeartbeats 400000 in
theorem here_any (base pb g i : Nat) (ts : List Tok) (gs : List (Nat × Nat)) (en : Int) (w : World) (hR : RdrAt w pb g i ts en) (hT : TkM base pb w g ts gs) (hi : i ≤ ts.length) :
    Calls Tryz.prog 139 #[.pointer (some ⟨pb, 0, none⟩)] w fun e w' => e = .returned (.int .i64 (hereI ts en i)) ∧ w' = w := by
  obtain ⟨a, c, hB, ha, hc1, hc2⟩ := hR
  obtain ⟨b0, b1⟩ := hB.cells
  by_cases hlt : i < ts.length
  · obtain ⟨c0, c1, c2⟩ := hT.cell i hlt
    have HE := hereI_lt (en := en) hlt
    rcases ha with ha | rfl
    · omega
    · obtain ⟨m, hm⟩ : ∃ m, ts.length - i = m + 1 := ⟨ts.length - i - 1, by omega⟩
      rw [hm] at b0 hc1
      rw [HE]
      obtain ⟨pl, hpl⟩ : ∃ pl, pl = (ts.getD i Tok.zero).place := ⟨_, rfl⟩
      rw [← hpl] at c1 ⊢
      obtain ⟨o, ho⟩ : ∃ o, o = i * 3 := ⟨_, rfl⟩
      rw [← ho] at c1 b0
      clear HE hpl ho hm hT hB hi hlt c0 c2
      go_enter Tryz.func139, Tryz.ntmps139
      go_wp2
      go_ret
      exact ⟨rfl, rfl⟩
  · have HE := hereI_end (en := en) (ts := ts) (i := i) (by omega)
    rw [show ts.length - i = 0 by omega] at b0
    rw [HE]
    clear HE hT hB hi hlt ha hc1
    go_enter Tryz.func139, Tryz.ntmps139
    go_wp2
    go_ret
    exact ⟨rfl, rfl⟩

set_option maxHeartbeats 400000 in
theorem take_bad (base pb g i : Nat) (ts : List Tok) (gs : List (Nat × Nat)) (en k : Int) (w : World) (hR : RdrAt w pb g i ts en) (hT : TkM base pb w g ts gs) (hi : i ≤ ts.length) (hk : isI ts k i = false) :
    Calls Tryz.prog 140 #[.pointer (some ⟨pb, 0, none⟩), .int .i64 k] w fun e w' => e = gaveUp (hereI ts en i) ∧ Below w.heap.size w w' := by
  have HR : Hid (RdrAt w pb g i ts en) := hR
  have HT : Hid (TkM base pb w g ts gs) := hT
  obtain ⟨a, c, hB, ha, hc1, hc2⟩ := hR
  have hl := hB.lt
  obtain ⟨b0, b1⟩ := hB.cells
  have hb0 : Below w.heap.size w (w.alloc (.cells #[.int .i64 0, .int .i64 0, .slice none 0 0] 176)) := (Below.refl _ _).alloc (Nat.le_refl _) _
  have HB0 : Hid (Below w.heap.size w (w.alloc (.cells #[.int .i64 0, .int .i64 0, .slice none 0 0] 176))) := hb0
  by_cases hlt : i < ts.length
  · obtain ⟨c0, c1, c2⟩ := hT.cell i hlt
    rcases ha with ha | rfl
    · omega
    · obtain ⟨m, hm⟩ : ∃ m, ts.length - i = m + 1 := ⟨ts.length - i - 1, by omega⟩
      rw [hm] at b0 hc1
      have hne : ((ts.getD i Tok.zero).kind != k) = true := by
        simp only [isI, hlt, decide_true, Bool.true_and, decide_eq_false_iff_not] at hk
        simpa using hk
      have hgl : g < w.heap.size := by rcases hT.glt with h | h <;> omega
      obtain ⟨kd, hkd⟩ : ∃ kd, kd = (ts.getD i Tok.zero).kind := ⟨_, rfl⟩
      rw [← hkd] at c0 hne
      obtain ⟨o, ho⟩ : ∃ o, o = i * 3 := ⟨_, rfl⟩
      rw [← ho] at c0 b0
      clear hkd ho hm hT hB hlt c1 c2 hk hb0
      go_enter Tryz.func140, Tryz.ntmps140
      go_wp2_with fail
      refine (here_any base pb g i ts gs en _ (HR.out.below HB0.out) (HT.out.below (HB0.out.mono (Nat.le_of_lt hl))) hi).mono ?_
      rintro e w' ⟨rfl, hw⟩
      rw [hw]; clear hw
      go_wp2
      exact ⟨rfl, rfl, HB0.out⟩
  · rw [show ts.length - i = 0 by omega] at b0
    clear hT hB hlt ha hc1 hk hb0
    go_enter Tryz.func140, Tryz.ntmps140
    go_wp2_with fail
    refine (here_any base pb g i ts gs en _ (HR.out.below HB0.out) (HT.out.below (HB0.out.mono (Nat.le_of_lt hl))) hi).mono ?_
    rintro e w' ⟨rfl, hw⟩
    rw [hw]; clear hw
    go_wp2
    exact ⟨rfl, rfl, HB0.out⟩

/-- A token's box. -/
def BoxK3 (W : World) (b : Nat) (v0 v1 v2 : Value) : Prop := W.heap[b]? = some (.cells #[v0, v1, v2] 176 (0, 0))

theorem BoxK3.cells {W : World} {b : Nat} {v0 v1 v2 : Value} (h : BoxK3 W b v0 v1 v2) : W.cell? ⟨b, 0, none⟩ = some v0 ∧ W.cell? ⟨b, 1, none⟩ = some v1 ∧ W.cell? ⟨b, 2, none⟩ = some v2 := by
  unfold BoxK3 at h
  refine ⟨?_, ?_, ?_⟩ <;> simp [World.cell?, h]
theorem BoxK3.frz {W : World} {b : Nat} {v0 v1 v2 : Value} (h : BoxK3 W b v0 v1 v2) (o : Nat) : W.frozen? ⟨b, o, none⟩ = false := by
  unfold BoxK3 at h
  simp [World.frozen?, h]
theorem BoxK3.new (W : World) (v0 v1 v2 : Value) : BoxK3 (W.alloc (.cells #[v0, v1, v2] 176)) W.heap.size v0 v1 v2 := by
  show (W.heap.push _)[W.heap.size]? = _
  simp
theorem BoxK3.of {W W' : World} {b : Nat} {v0 v1 v2 : Value} (h : BoxK3 W b v0 v1 v2) (e : W'.heap[b]? = W.heap[b]?) : BoxK3 W' b v0 v1 v2 := e.trans h
theorem BoxK3.set3 {W : World} {b : Nat} {v0 v1 v2 : Value} (h : BoxK3 W b v0 v1 v2) (x0 x1 x2 : Value) : BoxK3 (((W.setCell ⟨b, 0, none⟩ x0).setCell ⟨b, 1, none⟩ x1).setCell ⟨b, 2, none⟩ x2) b x0 x1 x2 := by
  unfold BoxK3 at h ⊢
  have e0 := heap_setCell_same W b 0 _ _ x0 h
  have e1 := heap_setCell_same _ b 1 _ _ x1 e0
  have e2 := heap_setCell_same _ b 2 _ _ x2 e1
  rw [e2]
  rfl

theorem box_step {w : World} {pb : Nat} {lv : Value} {en : Int} (h : BoxR w pb lv en) (v : Value) (o1 o2 : Obj) : BoxR (((w.setCell ⟨pb, 0, none⟩ v).alloc o1).alloc o2) pb v en := by
  have h1 := h.set0 v
  have h2 : BoxR ((w.setCell ⟨pb, 0, none⟩ v).alloc o1) pb v en := h1.of (Below.heap_alloc _ _ _ h1.lt)
  exact h2.of (Below.heap_alloc _ _ _ h2.lt)

theorem RdrAt.step {w : World} {pb g i' : Nat} {lv : Value} {en : Int} {ts : List Tok} (h : BoxR w pb lv en) (a' : Option Addr) (m' c' : Nat) (o1 o2 : Obj) (hm : m' = ts.length - i') (ha : ts.length = i' ∨ a' = some ⟨g, i' * 3, none⟩) (hc : m' ≤ c') (hc2 : c' ≤ 9223372036854775807) :
    RdrAt (((w.setCell ⟨pb, 0, none⟩ (.slice a' m' c')).alloc o1).alloc o2) pb g i' ts en := ⟨a', c', by rw [← hm]; exact box_step h _ _ _, ha, by omega, hc2⟩

theorem bt_step (w : World) (pb : Nat) (v : Value) (o1 o2 : Obj) : Bt pb w.heap.size w (((w.setCell ⟨pb, 0, none⟩ v).alloc o1).alloc o2) :=
  (((Bt.refl pb w.heap.size w).set (p := ⟨pb, 0, none⟩) (.inr rfl) v).alloc (by simp) o1).alloc (by simp) o2

set_option maxHeartbeats 800000 in
theorem take_ok (base pb g i : Nat) (ts : List Tok) (gs : List (Nat × Nat)) (en k : Int) (w : World) (hR : RdrAt w pb g i ts en) (hT : TkM base pb w g ts gs) (hk : isI ts k i = true) :
    Calls Tryz.prog 140 #[.pointer (some ⟨pb, 0, none⟩), .int .i64 k] w fun e w' => e = .returned (.agg #[.int .i64 k, .int .i64 (hereI ts en i), txv (ts.getD i Tok.zero) (gs.getD i (0, 0))]) ∧ RdrAt w' pb g (i + 1) ts en ∧ Bt pb w.heap.size w w' := by
  obtain ⟨a, c, hB, ha, hc1, hc2⟩ := hR
  have hl := hB.lt
  have hlt := isI_lt hk
  obtain ⟨c0, c1, c2⟩ := hT.cell i hlt
  rw [isI_kind hk] at c0
  rw [← hereI_lt (en := en) hlt] at c1
  obtain ⟨p, hp⟩ : ∃ p, p = hereI ts en i := ⟨_, rfl⟩
  obtain ⟨ta, tn, tc, htx⟩ : ∃ ta tn tc, txv (ts.getD i Tok.zero) (gs.getD i (0, 0)) = .slice ta tn tc := by
    obtain ⟨a, c, h⟩ := txv_form (ts.getD i Tok.zero) (gs.getD i (0, 0)); exact ⟨_, _, _, h⟩
  rw [htx] at c2 ⊢
  rw [← hp] at c1 ⊢
  have hgl : g < w.heap.size := by rcases hT.glt with h | h <;> omega
  have hgp : g ≠ pb := by rcases hT.glt with h | h <;> omega
  rcases ha with ha | rfl
  · omega
  · obtain ⟨m, hm⟩ : ∃ m, ts.length - i = m + 1 := ⟨ts.length - i - 1, by omega⟩
    rw [hm] at hB hc1
    obtain ⟨o, ho⟩ : ∃ o, o = i * 3 := ⟨_, rfl⟩
    rw [← ho] at c0 c1 c2 hB
    obtain ⟨b0, b1⟩ := hB.cells
    have bf := hB.frz 0
    have HB : Hid (BoxR w pb (.slice (some ⟨g, o, none⟩) (m + 1) c) en) := hB
    have HO : Hid (o = i * 3) := ho
    have HM : Hid (ts.length - i = m + 1) := hm
    have HLt : Hid (i < ts.length) := hlt
    clear ho hm hT hB hlt hk hp htx
    by_cases hc : c = 1
    · subst hc
      have HM0 : Hid (m = 0) := by unfold Hid; omega
      go_enter Tryz.func140, Tryz.ntmps140
      go_wp2
      refine bodyPost_ret (v := .agg #[.int .i64 k, .int .i64 p, .slice ta tn tc]) (by simp [results, Tryz.results140, go_sem]) rfl ?_
      exact ⟨rfl, RdrAt.step HB.out _ _ _ _ _ (by have := HM0.out; have := HM.out; omega) (.inl (by have := HM0.out; have := HM.out; omega)) (by have := HM0.out; omega) (by omega), bt_step _ _ _ _ _⟩
    · have HO3 : Hid (o + 3 = (i + 1) * 3) := by have := HO.out; unfold Hid; omega
      have HM1 : Hid (m = ts.length - (i + 1)) := by have := HM.out; unfold Hid; omega
      go_enter Tryz.func140, Tryz.ntmps140
      go_wp2
      refine bodyPost_ret (v := .agg #[.int .i64 k, .int .i64 p, .slice ta tn tc]) (by simp [results, Tryz.results140, go_sem]) rfl ?_
      exact ⟨rfl, RdrAt.step HB.out _ _ _ _ _ HM1.out (.inr (by rw [HO3.out])) (by omega) (by omega), bt_step _ _ _ _ _⟩

/-- The words of the kinds, one behind the other, as the program looks them up. -/
theorem kindW_no (l : List UInt8) (h : ∀ k : Nat, k ≤ 7 → ((wordB k).toList == l) = false) : kindW l = 2 := by
  have h0 := h 0 (by omega)
  have h1 := h 1 (by omega)
  have h3 := h 3 (by omega)
  have h4 := h 4 (by omega)
  have h5 := h 5 (by omega)
  have h6 := h 6 (by omega)
  have h7 := h 7 (by omega)
  simp [wordB, ByteArray.toList_eq] at h0 h1 h3 h4 h5 h6 h7
  unfold kindW
  rw [if_neg (fun e => h0 e.symm), if_neg (fun e => h1 e.symm), if_neg (fun e => h3 e.symm), if_neg (fun e => h4 e.symm), if_neg (fun e => h5 e.symm), if_neg (fun e => h6 e.symm), if_neg (fun e => h7 e.symm)]

theorem kindW_at (l : List UInt8) (k : Nat) (hk : k ≤ 7) (h : ((wordB k).toList == l) = true) : kindW l = k := by
  have hl : l = (wordB k).toList := (eq_of_beq h).symm
  subst hl
  rw [ByteArray.toList_eq]
  match k, hk with
  | 0, _ | 1, _ | 2, _ | 3, _ | 4, _ | 5, _ | 6, _ | 7, _ => rfl

set_option maxRecDepth 100000 in
set_option maxHeartbeats 1000000 in
theorem conKind_any (a : Option Addr) (n cap : Nat) (zs : List Int) (w : World) {lo hi : Nat} (h : Rd lo hi w a n cap zs) :
    Calls Tryz.prog 141 #[.slice a n cap] w fun e w' => e = .returned (.int .i64 (kindW (strOfNums zs).toList)) ∧ ∃ nd, w' = w.drewN nd := by
  have H : Hid (Rd lo hi w a n cap zs) := h
  clear h
  obtain ⟨s, HS⟩ : ∃ s, Hid (s = strOfNums zs) := ⟨_, rfl⟩
  rw [← HS.out]
  go_enter Tryz.func141, Tryz.ntmps141
  go_wp2_with fail
  go_loopw [3] (fun i wr => ∃ k nd : Nat, k ≤ 8 ∧ i = .int .i64 k ∧ wr = w.drewN nd ∧ ∀ j : Nat, j < k → ((wordB j).toList == s.toList) = false) (fun i _ => 8 - (intOf i).toNat)
  case atStart => exact ⟨0, 0, Nat.zero_le _, rfl, rfl, fun j hj => by omega⟩
  case round =>
    obtain ⟨k, nd, hk, rfl, hwr, hno⟩ := hrel
    have HNo : Hid (∀ j : Nat, j < k → ((wordB j).toList == s.toList) = false) := hno
    have HWr : Hid (wr = w.drewN nd) := hwr
    clear hno hwr
    by_cases hlt : k ≤ 7
    · have hki : (k : Int) ≤ 7 := by omega
      have hcv : ∀ m, (convert 22 9 (.slice a n cap)).run Tryz.prog (wr.drewN m) = .ok (.string s) (wr.drewN m) := by
        intro m; rw [HS.out, HWr.out]; exact conv_any (H.out.same (fun _ _ _ => rfl))
      have hcv1 : (convert 22 9 (.slice a n cap)).run Tryz.prog wr.drew = .ok (.string s) wr.drew := hcv 1
      clear hcv
      obtain ⟨t, HT⟩ : ∃ t, Hid (t = wordB k) := ⟨_, rfl⟩
      cases hb : (t.toList == s.toList)
      · have HF : Hid (∀ j : Nat, j < k + 1 → ((wordB j).toList == s.toList) = false) := by
          intro j hj
          by_cases e : j = k
          · subst e; rw [← HT.out]; exact hb
          · exact HNo.out j (by omega)
        go_wp2_with fail
        go_region_with (go_at_call 144; refine (conWord_any _ _).mono ?_; rintro e w' ⟨rfl, hw⟩; rw [hw, ← HT.out]; clear hw)
        all_goals
          go_wp2
          go_roundw
          case rel => exact ⟨k + 1, nd + 1, by omega, by go_num, by rw [HWr.out]; rfl, HF.out⟩
          case measure => simp [intOf]; omega
      · have HF : Hid (kindW s.toList = k) := kindW_at _ k hlt (by rw [← HT.out]; exact hb)
        go_wp2_with fail
        go_region_with (go_at_call 144; refine (conWord_any _ _).mono ?_; rintro e w' ⟨rfl, hw⟩; rw [hw, ← HT.out]; clear hw)
        all_goals
          go_wp2
          go_ret
          exact ⟨ri HF.out.symm, nd + 1, by rw [HWr.out]; rfl⟩
    · have HF : Hid (kindW s.toList = 2) := kindW_no _ (fun j hj => HNo.out j (by omega))
      go_wp2
      go_ret
      exact ⟨ri HF.out.symm, nd, HWr.out⟩
end

end Go.Proofs.YtnmljalcndfjmaaGreat
