/- Several texts in one: Words, OwnB, AppAt. -/
import Derived.Test.YtlhfecfpkelkdaaDoorNBase
import Derived.WalkKit
import Derived.WalkSpells
import Derived.WalkLawsBesides
import Derived.Laws.AppendOwn
import Derived.Test.YtlhfecfpkelkdaaDoorOwnZ
import Derived.Lib.AppendStr
import Derived.Maps.AppendAt
import Derived.Deep.AppendLies
import Derived.Deep.RegionLaw
import Derived.Deep.DeepCutAuto
namespace Go.Proofs.YtlhfecfpkelkdaaDoor

section
open Go.RowKit
end

section
open Go.RowKit

/-! ### A slice of bytes of the call's own -/

def OwnB (base : Nat) (w : World) (v : Value) (zs : List Int) : Prop := ownsZ w base 5 1 v zs.length (zs.map (Value.int .u8))

theorem OwnB.nil (base : Nat) (w : World) : OwnB base w (.slice none 0 0) [] := ownsZ_nil _ _ _ _

theorem OwnB.below {base B : Nat} {w w' : World} {v : Value} {zs : List Int} (h : OwnB base w v zs) (hb : Below B w w') (hB : w.heap.size ≤ B) : OwnB base w' v zs := by
  obtain ⟨h1, h2⟩ := h
  refine ⟨h1, ?_⟩
  rcases h2 with h2 | ⟨g, cap, cur, fz, hv, hg, hh, r⟩
  · exact .inl h2
  · exact .inr ⟨g, cap, cur, fz, hv, hg, by rw [hb.block g (Nat.lt_of_lt_of_le (Array.getElem?_eq_some_iff.1 hh).1 hB)]; exact hh, r⟩

/-- What it is: nil, with nothing in it; or a row of its own. -/
theorem OwnB.form {base : Nat} {w : World} {v : Value} {zs : List Int} (h : OwnB base w v zs) (hby : ∀ i, 0 ≤ zs.getD i 0 ∧ zs.getD i 0 ≤ 255) :
    ∃ a c b, v = .slice a zs.length c ∧ Rd base w.heap.size w a zs.length c zs ∧ (zs.length = 0 ∨ a = some ⟨b, 0, none⟩) ∧ LeafOk w (leafB b 0 zs.length) ∧ (zs.length = 0 ∨ (base ≤ b ∧ b < w.heap.size)) := by
  by_cases hz : zs.length = 0
  · rcases h.2 with ⟨hv, _⟩ | ⟨g, cap, cur, fz, hv, _, _, _, _, hc2, _⟩
    · refine ⟨none, 0, 0, by rw [hv, hz], ?_, .inl hz, ?_, .inl hz⟩
      · rw [List.eq_nil_of_length_eq_zero hz]; exact Rd.none_of (by omega)
      · rw [hz]; intro x hx; simp [leafB] at hx
    · unfold maxLen at hc2
      refine ⟨_, cap, 0, hv, ?_, .inl hz, ?_, .inl hz⟩
      · rw [List.eq_nil_of_length_eq_zero hz]; exact Rd.none_of hc2
      · rw [hz]; intro x hx; simp [leafB] at hx
  · obtain ⟨h1, h2⟩ := h
    rcases h2 with ⟨_, h0⟩ | ⟨g, cap, cur, fz, hv, hg, hh, hfz, hc1, hc2, hc3, hc4⟩
    · exact absurd h0 hz
    · simp only [Nat.mul_one] at hc3 hc4
      unfold maxLen at hc2
      have hcell : ∀ i, i < zs.length → w.cell? ⟨g, i, none⟩ = some (.int .u8 (zs.getD i 0)) := fun i hi => by
        have e : (cur.toList.take zs.length)[i]? = (zs.map (Value.int .u8))[i]? := by rw [hc4]
        rw [List.getElem?_take, if_pos hi] at e
        simp only [Array.getElem?_toList] at e
        rw [cell_of_row w g i cur 5 fz hh, e]
        simp [List.getD, hi]
      have hglt : g < w.heap.size := (Array.getElem?_eq_some_iff.1 hh).1
      refine ⟨_, cap, g, hv, ⟨rfl, ⟨hc1, hc2⟩, hby, .inr ⟨g, 0, rfl, hg, hglt, fun i hi => by rw [Nat.zero_add]; exact hcell i hi⟩⟩, .inr rfl, ?_, .inr ⟨hg, hglt⟩⟩
      intro x hx
      simp only [leafB, List.mem_map, List.mem_range] at hx
      obtain ⟨j, hj, rfl⟩ := hx
      simp only [Nat.zero_add]
      refine ⟨⟨_, hcell j hj⟩, ?_⟩
      have := hfz j (by omega)
      simp only [World.frozen?, hh, Bool.and_eq_false_iff, decide_eq_false_iff_not]
      omega

theorem leafB_nodup (b off n : Nat) : ((leafB b off n).map (·.1)).Nodup := by
  rw [List.nodup_iff_pairwise_ne, List.pairwise_iff_getElem]
  intro i j hi hj hij
  simp [leafB] <;> omega

theorem oneCB (zs : List Int) : ∀ u ∈ zs.map (Value.int .u8), u.oneCell' = true := by
  intro u hu; simp only [List.mem_map] at hu; obtain ⟨x, _, rfl⟩ := hu; rfl

theorem rd_news {lo hi : Nat} {w : World} {b off n cap : Nat} {zs : List Int} (h : Rd lo hi w (some ⟨b, off, none⟩) n cap zs) : ∀ j u, (zs.map (Value.int .u8))[j]? = some u → w.cell? ((⟨b, off, none⟩ : Addr).add j) = some u := by
  intro j u hu
  have hj : j < zs.length := by simpa using (List.getElem?_eq_some_iff.1 hu).1
  rcases h.cells with h0 | ⟨b', off', e, _, _, hc⟩
  · have := h.len; omega
  · simp only [Option.some.injEq, Addr.mk.injEq, and_true] at e
    obtain ⟨rfl, rfl⟩ := e
    rw [Addr.add_lit, hc j (by have := h.len; omega), ← hu]
    simp [List.getD, hj]

/-- All that lay below base is as it was, and all blocks that are no bytes. -/
def Keep5 (base : Nat) (w w' : World) : Prop := Below base w w' ∧ ∀ (b : Nat) (c : Array Value) (t : TypeId) (f : Nat × Nat), t ≠ 5 → w.heap[b]? = some (.cells c t f) → w'.heap[b]? = some (.cells c t f)

theorem Keep5.refl (base : Nat) (w : World) : Keep5 base w w := ⟨Below.refl _ _, fun _ _ _ _ _ h => h⟩
theorem Keep5.trans {base : Nat} {a b c : World} (h : Keep5 base a b) (k : Keep5 base b c) : Keep5 base a c := ⟨h.1.trans k.1, fun x c t f h1 h2 => k.2 x c t f h1 (h.2 x c t f h1 h2)⟩
theorem Keep5.of_below {base : Nat} {w w' : World} (h : Below w.heap.size w w') (hb : base ≤ w.heap.size) : Keep5 base w w' := ⟨h.mono hb, fun b _ _ _ _ h2 => (h.block b (Array.getElem?_eq_some_iff.1 h2).1).trans h2⟩
theorem Keep5.drew {base : Nat} {w w' : World} (h : Keep5 base w w') : Keep5 base w w'.drew := ⟨h.1.drew, h.2⟩

theorem ownB_app {base : Nat} {W w2 : World} {v v' : Value} {xs ys : List Int} (hO : OwnB base W v xs) (hb : base ≤ W.heap.size)
    (hown : ownsZ w2 base 5 1 v' (xs.length + ys.length) (xs.map (Value.int .u8) ++ ys.map (Value.int .u8))) (hgrow : W.grownBy w2 v.ownBlock) :
    OwnB base w2 v' (xs ++ ys) ∧ Keep5 base W w2 := by
  refine ⟨by unfold OwnB; simpa using hown, (Below.refl base W).grown hgrow hb (fun x hx => ?_), fun b c t f ht hh => ?_⟩
  · rcases hO.2 with ⟨rfl, _⟩ | ⟨g1, cap1, cur, fz, rfl, hg1, _⟩
    · simp [Value.ownBlock] at hx
    · simp [Value.ownBlock] at hx; omega
  · refine (hgrow.block b (Array.getElem?_eq_some_iff.1 hh).1 (fun e => ?_)).trans hh
    rcases hO.2 with ⟨rfl, _⟩ | ⟨g1, cap1, cur, fz, rfl, hg1, hgb, _⟩
    · simp [Value.ownBlock] at e
    · simp [Value.ownBlock] at e
      subst e
      rw [hh] at hgb
      simp at hgb
      exact ht hgb.2.1
end

section
open Go.RowKit

structure Keep6 (base : Nat) (w : World) (v : Value) (w' : World) (v' : Value) : Prop where
  k5 : Keep5 base w w'
  gr : ∀ b, b < w.heap.size → v.ownBlock ≠ some b → w'.heap[b]? = w.heap[b]?
  at' : v'.ownBlock = v.ownBlock ∨ ∃ g, v'.ownBlock = some g ∧ w.heap.size ≤ g

theorem Keep6.trans {base : Nat} {a b c : World} {u v z : Value} (h : Keep6 base a u b v) (k : Keep6 base b v c z) : Keep6 base a u c z := by
  have hs := h.k5.1.size
  refine ⟨h.k5.trans k.k5, fun x hx hne => (k.gr x (by omega) (fun e => ?_)).trans (h.gr x hx hne), ?_⟩
  · rcases h.at' with q | ⟨g, q, hg⟩
    · rw [q] at e; exact hne e
    · rw [q] at e; cases e; omega
  · rcases k.at' with q | ⟨g, q, hg⟩
    · rcases h.at' with r | ⟨g, r, hg⟩
      · exact .inl (q.trans r)
      · exact .inr ⟨g, q.trans r, hg⟩
    · exact .inr ⟨g, q, by omega⟩
theorem Keep6.of_below {base : Nat} {w w' : World} {v : Value} (h : Below w.heap.size w w') (hb : base ≤ w.heap.size) : Keep6 base w v w' v := ⟨Keep5.of_below h hb, fun b hb' _ => h.block b hb', .inl rfl⟩
theorem Keep6.refl (base : Nat) (w : World) (v : Value) : Keep6 base w v w v := ⟨Keep5.refl _ _, fun _ _ _ => rfl, .inl rfl⟩
theorem Keep6.drew {base : Nat} {w w' : World} {v v' : Value} (h : Keep6 base w v w' v') : Keep6 base w v w'.drew v' := ⟨h.k5.drew, h.gr, h.at'⟩

theorem ownB_app6 {base : Nat} {W w2 : World} {v v' : Value} {xs ys : List Int} (hO : OwnB base W v xs) (hb : base ≤ W.heap.size)
    (hown : ownsZ w2 base 5 1 v' (xs.length + ys.length) (xs.map (Value.int .u8) ++ ys.map (Value.int .u8))) (hgrow : W.grownBy w2 v.ownBlock) (hat : v'.ownBlock = v.ownBlock ∨ v'.ownBlock = some W.heap.size) :
    OwnB base w2 v' (xs ++ ys) ∧ Keep6 base W v w2 v' := by
  refine ⟨(ownB_app hO hb hown hgrow).1, (ownB_app hO hb hown hgrow).2, fun b hb' hne => hgrow.block b hb' (fun e => hne e.symm), ?_⟩
  rcases hat with e | e
  · exact .inl e
  · exact .inr ⟨_, e, Nat.le_refl _⟩

theorem step_append_strAt {P : Program} {ops : Array Oper} {o : Oper} {a : Act} {w : World} {K : Act → World → Prop} {Q : Exit → Act → World → Prop} {E : Prop}
    (hgd : o.guard = none) (sl x : Operand) (t u : TypeId) (ho : o.op = .call { callee := .builtin .append, args := #[sl, x], argTypes := #[t, u] })
    (base : Nat) (e : TypeId) (i : TypeInfo) (ht : P.underlying t = some (.slice e)) (hu : P.underlying u = some .string) (hi : P.info? e = some i) (hz : i.zero = some (.int .u8 0))
    (hsize : i.size = 1) (hby : i.bytes = 1) (v : Value) (n : Nat) (xs : List Value) (hs : a.eval sl = v) (hown : ownsZ w base e 1 v n xs) (s : ByteArray) (hx : a.eval x = .string s)
    (h63 : n + s.size ≤ maxLen) (hbytes : n + s.size ≤ 140737488355328) (hbase : base ≤ w.heap.size)
    (h : ∀ v' w', ownsZ w' base e 1 v' (n + s.size) (xs ++ Lib.strCells s) → w.grownBy w' v.ownBlock → (v'.ownBlock = v.ownBlock ∨ v'.ownBlock = some w.heap.size) → K (a.put o.dst v') w') :
    if Region.wanted o (yielded ops a.tmps) = true then Oper.wp P o a w K Q else E :=
  stepZ_str w hgd sl x t u ho base e i ht hu hi hz hsize hby v n xs hs hown s hx h63 hbytes hbase h

theorem list_append_strAt {P : Program} {ops : Array Oper} {rest : List Oper} {o : Oper} {a : Act} {w : World} {Q : Exit → Act → World → Prop}
    (hgd : o.guard = none) (sl x : Operand) (t u : TypeId) (ho : o.op = .call { callee := .builtin .append, args := #[sl, x], argTypes := #[t, u] })
    (base : Nat) (e : TypeId) (i : TypeInfo) (ht : P.underlying t = some (.slice e)) (hu : P.underlying u = some .string) (hi : P.info? e = some i) (hz : i.zero = some (.int .u8 0))
    (hsize : i.size = 1) (hby : i.bytes = 1) (v : Value) (n : Nat) (xs : List Value) (hs : a.eval sl = v) (hown : ownsZ w base e 1 v n xs) (s : ByteArray) (hx : a.eval x = .string s)
    (h63 : n + s.size ≤ maxLen) (hbytes : n + s.size ≤ 140737488355328) (hbase : base ≤ w.heap.size)
    (h : ∀ v' w', ownsZ w' base e 1 v' (n + s.size) (xs ++ Lib.strCells s) → w.grownBy w' v.ownBlock → (v'.ownBlock = v.ownBlock ∨ v'.ownBlock = some w.heap.size) → wpList P ops Q rest (a.put o.dst v') w') : wpList P ops Q (o :: rest) a w :=
  wpList_plain hgd fun _ hK => wpZ_str w sl x t u ho base e i ht hu hi hz hsize hby v n xs hs hown s hx h63 hbytes hbase (fun v' w' h2 h3 _ h5 => hK _ _ (h v' w' h2 h3 h5))
end

end Go.Proofs.YtlhfecfpkelkdaaDoor
