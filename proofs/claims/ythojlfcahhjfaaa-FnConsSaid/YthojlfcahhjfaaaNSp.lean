/- Several texts in one: ConSpec, ConMark, OwnB. -/
import Derived.Test.YthojlfcahhjfaaaNW
import Derived.BigQuiet
import Derived.RangeFuncRecord
import Derived.Test.YthojlfcahhjfaaaNBase
import Derived.Laws.AppendOwn
namespace Go.Proofs.Ythojlfcahhjfaaa

section
open Go.RowKit

def kidS (k : Int) : Int := if k = 0 ∨ k = 1 ∨ k = 2 then 0 else if k = 4 ∨ k = 5 then 2 else 1

set_option maxHeartbeats 400000 in
theorem l2kids_any (k : Int) (w : World) : Calls Try.prog 93 #[.int .i64 k] w fun e w' => e = .returned (.int .i64 (kidS k)) ∧ w' = w := by
  go_enter Try.func93, Try.ntmps93
  go_wp2
  all_goals
    go_ret
    refine ⟨ri ?_, rfl⟩
    first | (simp_all [kidS]; done) | (unfold kidS; simp_all; omega)

theorem kidS_kidN {k : Int} (h0 : 0 ≤ k) (h7 : k ≤ 7) : kidS k = kidN k := by
  unfold kidS kidN
  by_cases h1 : k = 0 ∨ k = 1 ∨ k = 2
  · rw [if_pos h1, if_pos h1]
  · rw [if_neg h1, if_neg h1]
    by_cases h2 : k = 4 ∨ k = 5
    · rw [if_pos h2, if_neg (by omega), if_pos h2]
    · rw [if_neg h2, if_pos (by omega)]

theorem kidN_out {k : Int} (h : k < 0 ∨ 7 < k) : kidN k = -1 := by
  unfold kidN
  rw [if_neg (by omega), if_neg (by omega), if_neg (by omega)]

/-- A box of four cells. -/
def BoxC (W : World) (b : Nat) (v0 v1 v2 v3 : Value) : Prop := W.heap[b]? = some (.cells #[v0, v1, v2, v3] 35 (0, 0))

theorem BoxC.new (W : World) (v0 v1 v2 v3 : Value) : BoxC (W.alloc (.cells #[v0, v1, v2, v3] 35)) W.heap.size v0 v1 v2 v3 := World.alloc_heap_new W _
theorem BoxC.below {W W' : World} {b B : Nat} {v0 v1 v2 v3 : Value} (h : BoxC W b v0 v1 v2 v3) (hb : Below B W W') (hB : b < B) : BoxC W' b v0 v1 v2 v3 := (hb.block b hB).trans h
theorem BoxC.lt {W : World} {b : Nat} {v0 v1 v2 v3 : Value} (h : BoxC W b v0 v1 v2 v3) : b < W.heap.size := (Array.getElem?_eq_some_iff.1 h).1
theorem BoxC.cells {W : World} {b : Nat} {v0 v1 v2 v3 : Value} (h : BoxC W b v0 v1 v2 v3) : W.cell? ⟨b, 0, none⟩ = some v0 ∧ W.cell? ⟨b, 1, none⟩ = some v1 ∧ W.cell? ⟨b, 2, none⟩ = some v2 ∧ W.cell? ⟨b, 3, none⟩ = some v3 := by
  unfold BoxC at h
  refine ⟨?_, ?_, ?_, ?_⟩ <;> simp [World.cell?, h]

def OkC (d : Nat) : Prop := ∀ (v : Value) (c : CN) (deep : Nat) (left : Int) (w : World) (lo hi : Nat), RdC lo hi w d v c → hi ≤ w.heap.size → deep ≤ 7 → 0 ≤ left → left ≤ 16 →
  Calls Try.prog 56 #[v, .int .i64 deep, .int .i64 left] w fun e w' => e = .returned (.int .i64 (leftOf left (parts c deep))) ∧ Below w.heap.size w w'

set_option maxRecDepth 100000 in
set_option maxHeartbeats 1000000 in
theorem l2ok_bad {v : Value} {c : CN} {d deep : Nat} {left : Int} {w : World} {lo hi : Nat} (h : RdC lo hi w (d + 1) v c) (hdp : deep ≤ 7) (h0 : 0 ≤ left) (h16 : left ≤ 16)
    (hbad : left = 0 ∨ deep = 7 ∨ c.kind < 0 ∨ 7 < c.kind ∨ ((c.kids.length : Nat) : Int) ≠ kidS c.kind) :
    Calls Try.prog 56 #[v, .int .i64 deep, .int .i64 left] w fun e w' => e = .returned (.int .i64 (leftOf left (parts c deep))) ∧ Below w.heap.size w w' := by
  obtain ⟨na, nn, nc, ra, rn, rc, ka, kn, kc, rfl, hn, hr, hk⟩ := h
  have hkl := hk.len
  have hE : leftOf left (parts c deep) = -1 := by
    refine leftOf_bad c deep left ?_
    rcases hbad with h | h | h | h | h
    · exact .inl (by omega)
    · exact .inr (.inl (by omega))
    · exact .inr (.inr (by simp [shapeB, kidN_out (.inl h)]; done))
    · exact .inr (.inr (by simp [shapeB, kidN_out (.inr h)]; done))
    · by_cases ho : c.kind < 0 ∨ 7 < c.kind
      · exact .inr (.inr (by simp [shapeB, kidN_out ho]; done))
      · rw [kidS_kidN (by omega) (by omega)] at h
        exact .inr (.inr (by simp [shapeB, h]))
  have HE : Hid (leftOf left (parts c deep) = -1) := hE
  have HB : Hid (∀ n, Below w.heap.size w ((w.alloc (.cells #[.int .i64 c.kind, .slice na nn nc, .slice ra rn rc, .slice ka kn kc] 35)).drewN n)) := fun n => below_drewN ((Below.refl _ _).alloc (Nat.le_refl _) _) n
  obtain ⟨k, hkd⟩ : ∃ k, k = c.kind := ⟨_, rfl⟩
  rw [← hkd] at hbad HB ⊢
  rw [hkl] at hbad
  have hdi : (deep : Int) ≤ 7 := by omega
  clear hn hr hk hE hkd hkl
  go_enter Try.func56, Try.ntmps56
  go_wp2_with fail
  by_cases b1 : left = 0
  · subst b1
    go_quiet (fail)
    go_wp2_with fail
    go_ret
    exact ⟨ri HE.out.symm, HB.out _⟩
  · have d1 : decide (left - 1 < 0) = false := by simp; omega
    by_cases b2 : deep = 7
    · subst b2
      go_quiet (fail)
      go_wp2_with fail
      go_ret
      exact ⟨ri HE.out.symm, HB.out _⟩
    · have d2 : decide ((6 : Int) < (deep : Int)) = false := by simp; omega
      by_cases b3 : k < 0
      · go_quiet (fail)
        go_wp2_with fail
        go_ret
        exact ⟨ri HE.out.symm, HB.out _⟩
      · have d3 : decide (k < 0) = false := by simp; omega
        by_cases b4 : 7 < k
        · go_quiet (fail)
          go_wp2_with fail
          go_ret
          exact ⟨ri HE.out.symm, HB.out _⟩
        · have d4 : decide (7 < k) = false := by simp; omega
          have b5 : ((kn : Int) != kidS k) = true := by simp; omega
          clear hbad
          go_quiet (first | (go_at_call 93; exact Calls.quiet_of_same (l2kids_any _ _)))
          go_wp2_with fail
          go_ret
          exact ⟨ri HE.out.symm, HB.out _⟩
end

section
open Go.RowKit

/-- Only numbers were turned, and only in the blocks from lo on, below hi. -/
structure MarkRel (lo hi : Nat) (w w' : World) : Prop where
  os : w'.os = w.os
  tape : w'.tape = w.tape
  output : w'.output = w.output
  size : w.heap.size ≤ w'.heap.size
  out : ∀ b, b < w.heap.size → (b < lo ∨ hi ≤ b) → w'.heap[b]? = w.heap[b]?
  cell : ∀ (p : Addr) (v : Value), w.cell? p = some v → w'.cell? p = some v ∨ ∃ kd m m', v = .int kd m ∧ w'.cell? p = some (.int kd m')
  frz : ∀ p : Addr, p.block < w.heap.size → w'.frozen? p = w.frozen? p

theorem MarkRel.refl (lo hi : Nat) (w : World) : MarkRel lo hi w w := ⟨rfl, rfl, rfl, Nat.le_refl _, fun _ _ _ => rfl, fun _ _ h => .inl h, fun _ _ => rfl⟩

theorem MarkRel.trans {lo hi : Nat} {a b c : World} (h : MarkRel lo hi a b) (k : MarkRel lo hi b c) : MarkRel lo hi a c := by
  refine ⟨k.os.trans h.os, k.tape.trans h.tape, k.output.trans h.output, Nat.le_trans h.size k.size, fun x h1 h2 => (k.out x (Nat.lt_of_lt_of_le h1 h.size) h2).trans (h.out x h1 h2), fun p v hp => ?_, fun p hp => (k.frz p (Nat.lt_of_lt_of_le hp h.size)).trans (h.frz p hp)⟩
  rcases h.cell p v hp with h1 | ⟨kd, m, m', e, h1⟩
  · exact k.cell p v h1
  · rcases k.cell p _ h1 with h2 | ⟨kd2, m2, m2', e2, h2⟩
    · exact .inr ⟨kd, m, m', e, h2⟩
    · simp only [Value.int.injEq] at e2
      obtain ⟨rfl, _⟩ := e2
      exact .inr ⟨kd, m, m2', e, h2⟩

theorem MarkRel.of_below {lo hi : Nat} {w w' : World} (h : Below w.heap.size w w') : MarkRel lo hi w w' :=
  ⟨h.os, h.tape, h.output, h.size, fun b h1 _ => h.block b h1, fun p _ hp => .inl ((h.cell (p := p) (block_lt_of_cell hp)).trans hp), fun p hp => World.frozen?_of_block (w := w) (h.block p.block hp)⟩

theorem MarkRel.set {lo hi : Nat} {w : World} {a : Addr} {kd : IntKind} {m : Int} (h : w.cell? a = some (.int kd m)) (h1 : lo ≤ a.block) (h2 : a.block < hi) (m' : Int) : MarkRel lo hi w (w.setCell a (.int kd m')) := by
  have hb := (Below.refl a.block w).setCell (p := a) (Nat.le_refl _) (.int kd m')
  refine ⟨hb.os, hb.tape, hb.output, hb.size, fun b _ hb' => Below.heap_setCell w a _ b (by omega), fun p v hp => ?_, fun p _ => by simp⟩
  by_cases e : a = p
  · subst e
    rw [h] at hp
    cases hp
    exact .inr ⟨kd, m, m', rfl, World.cell?_setCell_same _ _ _ h⟩
  · exact .inl (by rw [World.cell?_setCell_other _ _ _ _ e]; exact hp)

theorem MarkRel.keep {lo hi : Nat} {w w' : World} (h : MarkRel lo hi w w') {p : Addr} {v : Value} (hp : w.cell? p = some v) (hv : ∀ kd m, v ≠ .int kd m) : w'.cell? p = some v := by
  rcases h.cell p v hp with h1 | ⟨kd, m, _, e, _⟩
  · exact h1
  · exact absurd e (hv kd m)

theorem MarkRel.int {lo hi : Nat} {w w' : World} (h : MarkRel lo hi w w') {p : Addr} {kd : IntKind} {m : Int} (hp : w.cell? p = some (.int kd m)) : ∃ m', w'.cell? p = some (.int kd m') := by
  rcases h.cell p _ hp with h1 | ⟨kd', m1, m', e, h1⟩
  · exact ⟨m, h1⟩
  · simp only [Value.int.injEq] at e
    obtain ⟨rfl, _⟩ := e
    exact ⟨m', h1⟩

/-- A slice of bytes, whatever they are. -/
structure ShB (lo hi : Nat) (w : World) (a : Option Addr) (n cap : Nat) : Prop where
  fits : n ≤ cap ∧ cap ≤ 9223372036854775807
  cells : n = 0 ∨ ∃ b off, a = some ⟨b, off, none⟩ ∧ lo ≤ b ∧ b < hi ∧ ∀ i, i < n → ∃ z, w.cell? ⟨b, off + i, none⟩ = some (.int .u8 z)

/-- A concept, whatever its numbers are: c says how long its lists are. -/
def ShC (lo hi : Nat) (w : World) : Nat → Value → CN → Prop
  | 0, _, _ => False
  | d + 1, v, c => ∃ k na nn nc ra rn rc ka kn kc, v = .agg #[.int .i64 k, .slice na nn nc, .slice ra rn rc, .slice ka kn kc] ∧
      c.name.length = nn ∧ ShB lo hi w na nn nc ∧ c.role.length = rn ∧ ShB lo hi w ra rn rc ∧ RdL (ShC lo hi w d) lo hi w ka kn kc c.kids

theorem ShC.form {lo hi : Nat} {w : World} {d : Nat} {v0 v1 v2 v3 : Value} {c : CN} (h : ShC lo hi w d (.agg #[v0, v1, v2, v3]) c) : ∃ k na nn nc ra rn rc ka kn kc, v0 = .int .i64 k ∧ v1 = .slice na nn nc ∧ v2 = .slice ra rn rc ∧ v3 = .slice ka kn kc := by
  cases d with
  | zero => exact h.elim
  | succ d =>
    obtain ⟨k, na, nn, nc, ra, rn, rc, ka, kn, kc, hv, _⟩ := h
    simp only [Value.agg.injEq, Array.mk.injEq, List.cons.injEq, and_true] at hv
    exact ⟨k, na, nn, nc, ra, rn, rc, ka, kn, kc, hv.1, hv.2.1, hv.2.2.1, hv.2.2.2⟩
end

section
open Go.RowKit

theorem longB_of_up {zs : List Int} (h : upOk zs = true) : 1 ≤ zs.length ∧ zs.length ≤ 6 := by
  unfold upOk longB at h
  simp only [Bool.and_eq_true, decide_eq_true_eq] at h
  exact h.1

theorem longB_of_low {zs : List Int} (h : lowOk zs = true) : 1 ≤ zs.length ∧ zs.length ≤ 6 := by
  unfold lowOk longB at h
  simp only [Bool.and_eq_true, decide_eq_true_eq] at h
  exact h.1

/-- The blank ahead of all but the first. -/
def gapT (k : Nat) : List Int := if 0 < k then [32] else []

theorem gapT_pos {k : Nat} (h : 0 < k) : gapT k = [32] := if_pos h
theorem gapT_zero : gapT 0 = [] := rfl

/-! ### A slice of bytes of the call's own -/

def OwnB (base : Nat) (w : World) (v : Value) (zs : List Int) : Prop := w.ownsRow base 5 1 v zs.length (zs.map (Value.int .u8))

theorem OwnB.nil (base : Nat) (w : World) : OwnB base w (.slice none 0 0) [] := World.ownsRow_nil _ _ _ _

theorem OwnB.below {base B : Nat} {w w' : World} {v : Value} {zs : List Int} (h : OwnB base w v zs) (hb : Below B w w') (hB : w.heap.size ≤ B) : OwnB base w' v zs := by
  obtain ⟨h1, h2⟩ := h
  refine ⟨h1, ?_⟩
  rcases h2 with h2 | ⟨g, cap, cur, hv, hg, hh, r⟩
  · exact .inl h2
  · exact .inr ⟨g, cap, cur, hv, hg, by rw [hb.block g (Nat.lt_of_lt_of_le (Array.getElem?_eq_some_iff.1 hh).1 hB)]; exact hh, r⟩

/-- What it is: nil, with nothing in it; or a row of its own. -/
theorem OwnB.form {base : Nat} {w : World} {v : Value} {zs : List Int} (h : OwnB base w v zs) (hby : ∀ i, 0 ≤ zs.getD i 0 ∧ zs.getD i 0 ≤ 255) :
    ∃ a c b, v = .slice a zs.length c ∧ Rd base w.heap.size w a zs.length c zs ∧ (zs.length = 0 ∨ a = some ⟨b, 0, none⟩) ∧ LeafOk w (leafB b 0 zs.length) ∧ (zs.length = 0 ∨ (base ≤ b ∧ b < w.heap.size)) := by
  by_cases hz : zs.length = 0
  · rcases h.2 with ⟨hv, _⟩ | ⟨g, cap, cur, hv, _, _, _, hc2, _⟩
    · refine ⟨none, 0, 0, by rw [hv, hz], ?_, .inl hz, ?_, .inl hz⟩
      · rw [List.eq_nil_of_length_eq_zero hz]; exact Rd.none_of (by omega)
      · rw [hz]; intro x hx; simp [leafB] at hx
    · unfold maxLen at hc2
      refine ⟨_, cap, 0, hv, ?_, .inl hz, ?_, .inl hz⟩
      · rw [List.eq_nil_of_length_eq_zero hz]; exact Rd.none_of hc2
      · rw [hz]; intro x hx; simp [leafB] at hx
  · obtain ⟨h1, h2⟩ := h
    rcases h2 with ⟨_, h0⟩ | ⟨g, cap, cur, hv, hg, hh, hc1, hc2, hc3, hc4⟩
    · exact absurd h0 hz
    · simp only [Nat.mul_one] at hc3 hc4
      unfold maxLen at hc2
      have hrow : Row w g cap zs := by
        refine ⟨cur, hh, hc3, hc1, fun i hi => ?_⟩
        have e : (cur.toList.take zs.length)[i]? = (zs.map (Value.int .u8))[i]? := by rw [hc4]
        rw [List.getElem?_take, if_pos hi] at e
        simp only [Array.getElem?_toList] at e
        rw [e]
        simp [List.getD, hi]
      refine ⟨_, cap, g, hv, hrow.rd rfl hby hc2 hg hrow.lt, .inr rfl, ?_, .inr ⟨hg, hrow.lt⟩⟩
      intro x hx
      simp only [leafB, List.mem_map, List.mem_range] at hx
      obtain ⟨j, hj, rfl⟩ := hx
      simp only [Nat.zero_add]
      exact ⟨⟨_, hrow.cell hj⟩, hrow.frozen _⟩

theorem leafB_nodup (b off n : Nat) : ((leafB b off n).map (·.1)).Nodup := by
  rw [List.nodup_iff_pairwise_ne, List.pairwise_iff_getElem]
  intro i j hi hj hij
  simp [leafB] <;> omega

theorem new1 (w : World) (g : Nat) (c : Int) (hg : g = w.heap.size) : ∀ j u, ([c].map (Value.int .u8))[j]? = some u → (w.alloc (.cells #[.int .u8 c] 5)).cell? ((⟨g, 0, none⟩ : Addr).add j) = some u := by
  intro j u hu
  subst hg
  rw [Addr.add_lit]
  match j, hu with
  | 0, hu => simp at hu; subst hu; simp

theorem oneCB (zs : List Int) : ∀ u ∈ zs.map (Value.int .u8), u.oneCell' = true := by
  intro u hu; simp only [List.mem_map] at hu; obtain ⟨x, _, rfl⟩ := hu; rfl

theorem rd_news {lo hi : Nat} {w : World} {b off n cap : Nat} {zs : List Int} (h : Rd lo hi w (some ⟨b, off, none⟩) n cap zs) : ∀ j u, (zs.map (Value.int .u8))[j]? = some u → w.cell? ((⟨b, off, none⟩ : Addr).add j) = some u := by
  intro j u hu
  have hj : j < zs.length := by simpa using (List.getElem?_eq_some_iff.1 hu).1
  rcases h.cells with h0 | ⟨b', off', e, _, _, hc⟩
  · have := h.len; omega
  · simp only [Option.some.injEq, Addr.mk.injEq, and_true] at e
    obtain ⟨rfl, rfl⟩ := e
    rw [Addr.add_lit, hc j (by have := h.len; omega), ← hu]
    simp [List.getD, hj]

/-- All that lay below base is as it was, and all blocks that are no bytes. -/
def Keep5 (base : Nat) (w w' : World) : Prop := Below base w w' ∧ ∀ (b : Nat) (c : Array Value) (t : TypeId) (f : Nat × Nat), t ≠ 5 → w.heap[b]? = some (.cells c t f) → w'.heap[b]? = some (.cells c t f)

theorem Keep5.refl (base : Nat) (w : World) : Keep5 base w w := ⟨Below.refl _ _, fun _ _ _ _ _ h => h⟩
theorem Keep5.trans {base : Nat} {a b c : World} (h : Keep5 base a b) (k : Keep5 base b c) : Keep5 base a c := ⟨h.1.trans k.1, fun x c t f h1 h2 => k.2 x c t f h1 (h.2 x c t f h1 h2)⟩
theorem Keep5.of_below {base : Nat} {w w' : World} (h : Below w.heap.size w w') (hb : base ≤ w.heap.size) : Keep5 base w w' := ⟨h.mono hb, fun b _ _ _ _ h2 => (h.block b (Array.getElem?_eq_some_iff.1 h2).1).trans h2⟩
theorem Keep5.drew {base : Nat} {w w' : World} (h : Keep5 base w w') : Keep5 base w w'.drew := ⟨h.1.drew, h.2⟩

theorem ownB_app {base : Nat} {W w2 : World} {v v' : Value} {xs ys : List Int} (hO : OwnB base W v xs) (hb : base ≤ W.heap.size)
    (hown : w2.ownsRow base 5 1 v' (xs.length + ys.length) (xs.map (Value.int .u8) ++ ys.map (Value.int .u8))) (hgrow : W.grownBy w2 v.ownBlock) :
    OwnB base w2 v' (xs ++ ys) ∧ Keep5 base W w2 := by
  refine ⟨by unfold OwnB; simpa using hown, (Below.refl base W).grown hgrow hb (fun x hx => ?_), fun b c t f ht hh => ?_⟩
  · rcases hO.2 with ⟨rfl, _⟩ | ⟨g1, cap1, cur, rfl, hg1, _⟩
    · simp [Value.ownBlock] at hx
    · simp [Value.ownBlock] at hx; omega
  · refine (hgrow.block b (Array.getElem?_eq_some_iff.1 hh).1 (fun e => ?_)).trans hh
    rcases hO.2 with ⟨rfl, _⟩ | ⟨g1, cap1, cur, rfl, hg1, hgb, _⟩
    · simp [Value.ownBlock] at e
    · simp [Value.ownBlock] at e
      subst e
      rw [hh] at hgb
      simp at hgb
      exact ht hgb.2.1
end

end Go.Proofs.Ythojlfcahhjfaaa
